/-
  THE LAW laws.FnExactTakePull: the walk over the contracts, and the row.
-/
import Derived.Test.YthjncmgjkejikaaRows
import Derived.WalkKit
import Derived.ProofKit
import Derived.OpenShut
import Derived.ShutString
import Derived.ChangeOld
import Derived.Below
import Derived.Test.YthjncmgjkejikaaPuI
import Derived.Test.YthjncmgjkejikaaLawP
import Derived.Test.YthjncmgjkejikaaLawT
import Derived.Test.YthjncmgjkejikaaOpens
namespace Go.Proofs.Ythjncmgjkejikaa.fnExactTakePull
open Go.ChangeShapes Go.WideShapes Go.ChangeAt Go.RowKit
open Go.ChangeMaps (open_string shut_string)
open mk
set_option linter.unusedVariables false

theorem own : ownKnob Try.prog.godebug = none := by kernel_rfl

theorem laidOut : laidOutB Try.prog = true := by kernel_rfl
theorem tin_len (xs : List Hd) : ∀ (nx : Nat) (o : ByteArray) (rs : List ByteArray), (tin xs nx o rs).2.1.length ≤ xs.length ∧ (tin xs nx o rs).2.2.2.length ≤ rs.length + xs.length := by
  induction xs with
  | nil => intro nx o rs; simp [tin]
  | cons x xs ih =>
    intro nx o rs
    unfold tin
    split
    · split
      · have := ih (nx + 1) ⟨#[]⟩ (rs ++ [o ++ x.text])
        simp at this ⊢
        omega
      · have := ih (nx + 1) (o ++ x.text) rs
        simp at this ⊢
        omega
    · simp
theorem pull_len {nx : Int} {xs : List Hd} {o : ByteArray} {rs : List ByteArray} {m : Nat} {zs : List Hd} {p : ByteArray} {ts : List ByteArray} (hT : pullOf nx xs o rs = (m, zs, p, ts)) : zs.length ≤ 8 ∧ ts.length ≤ 12 := by
  unfold pullOf at hT
  split at hT
  · rename_i hv
    have h1 := (tkOk_of hv).len
    have h2 := (tkOk_of hv).1
    unfold TkHd at h2
    unfold pullT at hT
    split at hT
    · cases hT
      omega
    · have h4 := tin_len xs nx.toNat o (rs.drop 1)
      rw [hT, List.length_drop] at h4
      simp at h4
      omega
  · cases hT
    simp
/-- an answer with this data -/
def PAns (w : World) (m : Nat) (zs : List Hd) (p : ByteArray) (ts : List ByteArray) (s : ByteArray) (b : Bool) (e : Ending) (w' : World) : Prop :=
  (∃ aw cw bw ew, e = .returned (.tuple #[.agg #[.int .i64 ((m : Nat) : Int), .slice aw zs.length cw, .string p, .slice bw ts.length ew], .string s, .bool b]) ∧ w'.ownsRow w.heap.size 107 3 (.slice aw zs.length cw) zs.length (hs zs) ∧ Orw w.heap.size (.slice bw ts.length ew) ts.length (ss ts) w') ∧ Below w.heap.size w w'
theorem PAns.of {w : World} {T : Nat × List Hd × ByteArray × List ByteArray} {m : Nat} {zs : List Hd} {p : ByteArray} {ts : List ByteArray} {s s' : ByteArray} {b b' : Bool} (hT : T = (m, zs, p, ts)) (hs : s' = s) (hb : b' = b) {e : Ending} {w' : World} (h : PullPost w T s' b' e w') : PAns w m zs p ts s b e w' := by
  subst hT hs hb
  obtain ⟨⟨hv, v, he, h1, h2⟩, hb⟩ := h
  obtain ⟨aw, cw, rfl, -, -, -⟩ := rs_of_owns h1
  obtain ⟨bw, ew, rfl, -, -, -⟩ := h2.slice
  exact ⟨⟨aw, cw, bw, ew, he, h1, h2⟩, hb⟩
set_option maxRecDepth 100000 in
set_option maxHeartbeats 8000000 in
theorem walk (nx : Int) (ao so : Option Addr) (ca cs : Nat) (xs : List Hd) (o : ByteArray) (rs : List ByteArray) (w : World) (ha : At w ao so xs rs) (hm : Sm maxLen xs o rs) :
    Calls Try.prog 3 #[.agg #[.int .i64 nx, .slice ao xs.length ca, .string o, .slice so rs.length cs]] w fun e w' => e = .returned (.bool true) ∧ Below w.heap.size w w' := by
  have b0 : Hid (Below w.heap.size w (w.alloc (.cells #[.int .i64 nx, .slice ao xs.length ca, .string o, .slice so rs.length cs] 25))) := (Below.refl _ _).alloc (Nat.le_refl _) _
  have X0 : Hid (Bx (w.alloc (.cells #[.int .i64 nx, .slice ao xs.length ca, .string o, .slice so rs.length cs] 25)) w.heap.size 25 #[.int .i64 nx, .slice ao xs.length ca, .string o, .slice so rs.length cs]) := Bx.new w _ _
  have HA : Hid (At w ao so xs rs) := ha
  have HM : Hid (Sm maxLen xs o rs) := hm
  clear ha hm
  go_enter Try.func3, Try.ntmps3
  go_wp2_with (go_at_call 7; refine (szTake_any nx ao so ca cs xs o rs _ _ (by omega) HM.out (HA.out.keep b0.out)).mono ?_; rintro e w1 ⟨⟨z, rfl, hz1, hz2, hz3⟩, hb1⟩; (have HZ : Hid (0 ≤ z → Sm 1048576 xs o rs) := hz3); clear hz3; (have A1 := X0.out.keep hb1); (obtain ⟨d0, d1, d2, d3⟩ := A1.cells4))
  · go_ret
    exact ⟨rfl, kb b0.out hb1 (Nat.le_refl _)⟩
  have HS : Hid (Sm 1048576 xs o rs) := HZ.out (by omega)
  have B1 := kb b0.out hb1 (Nat.le_refl _)
  clear HZ b0 X0 hb1 HM
  obtain ⟨m, zs, p, ts, hT⟩ : ∃ m zs p ts, pullOf nx xs o rs = (m, zs, p, ts) := ⟨_, _, _, _, rfl⟩
  obtain ⟨s, hs⟩ : ∃ s, pulledS nx xs o rs = s := ⟨_, rfl⟩
  obtain ⟨b, hb⟩ : ∃ b, pulledB nx xs o rs = b := ⟨_, rfl⟩
  obtain ⟨hlz, hlt⟩ := pull_len hT
  have S1 : Hid (∀ (u : World) (g k : Nat), mk.Rt u (some ⟨g, 0, none⟩) (some ⟨k, 0, none⟩) xs rs → Calls Try.prog 8 #[.agg #[.int .i64 nx, .slice (some ⟨g, 0, none⟩) xs.length xs.length, .string o, .slice (some ⟨k, 0, none⟩) rs.length rs.length]] u fun e w' => PAns u m zs p ts s b e w') := fun u g k h => ((specPull_any nx (some ⟨g, 0, none⟩) (some ⟨k, 0, none⟩) xs.length rs.length xs o rs u HS.out.n HS.out.t HS.out.o HS.out.k HS.out.r h (fun e => by cases e) (fun e => by cases e)).mono fun e w' hp => PAns.of hT hs hb hp)
  have S2 : Hid (∀ (u : World) (g k : Nat), mk.Rt u (some ⟨g, 0, none⟩) (some ⟨k, 0, none⟩) xs rs → Calls Try.prog 10 #[.agg #[.int .i64 nx, .slice (some ⟨g, 0, none⟩) xs.length xs.length, .string o, .slice (some ⟨k, 0, none⟩) rs.length rs.length]] u fun e w' => PAns u m zs p ts s b e w') := fun u g k h => ((mp.implPull_any nx (some ⟨g, 0, none⟩) (some ⟨k, 0, none⟩) xs.length rs.length xs o rs u HS.out.n HS.out.t HS.out.o HS.out.k HS.out.r h).mono fun e w' hp => PAns.of hT hs hb hp)
  have HE : Hid (zs.length ≤ 1000000000 ∧ ts.length ≤ 1000000000) := (by omega : zs.length ≤ 1000000000 ∧ ts.length ≤ 1000000000)
  have HE2 : Hid (zs.length ≤ 2000000 ∧ ts.length ≤ 2000000) := (by omega : zs.length ≤ 2000000 ∧ ts.length ≤ 2000000)
  clear hT hs hb hlz hlt
  go_wp2_with (first
    | (go_at_call 9; refine (mk.toTake_any nx ao so ca cs xs o rs _ HS.out.n HS.out.k (HA.out.keep B1)).mono ?_; rintro e w2 ⟨⟨g2, k2, rfl, ho2, hp2, -⟩, hb2⟩)
    | (go_at_call 8; refine (S1.out _ _ _ ⟨owns_rs ho2, owns_rs hp2⟩).mono ?_; rintro e w3 ⟨⟨wa, xa, wb, xb, rfl, pw1, pw2⟩, hb3⟩; (have A3 := ((A1.keep hb2).keep hb3).alloc (.cells #[.int .i64 (m : Int), .slice wa zs.length xa, .string p, .slice wb ts.length xb] 29)); (have W3 := Bx.new w3 29 #[.int .i64 (m : Int), .slice wa zs.length xa, .string p, .slice wb ts.length xb]); (have A3' := (A1.keep hb2).keep hb3); (have lt3 := A3'.lt); clear d0 d1 d2 d3; (obtain ⟨d0, d1, d2, d3⟩ := A3'.cells4))
    | fail)
  have B2 := kb (kb B1 hb2 (Nat.le_refl _)) hb3 (Nat.le_refl _)
  have B3 := B2.alloc B2.size (.cells #[.int .i64 (m : Int), .slice wa zs.length xa, .string p, .slice wb ts.length xb] 29)
  have RW := (mp.R2.of pw1 pw2).alloc (.cells #[.int .i64 (m : Int), .slice wa zs.length xa, .string p, .slice wb ts.length xb] 29)
  clear ho2 hp2 hb2 hb3 B1 B2 A1 S1 pw1 pw2
  go_wp2_with (first
    | (go_at_call 9; refine (mk.toTake_any nx ao so ca cs xs o rs _ HS.out.n HS.out.k (HA.out.keep B3)).mono ?_; rintro e w4 ⟨⟨g4, k4, rfl, ho4, hp4, -⟩, hb4⟩; (have X4 := Bx.new w4 29 #[.int .i64 nx, .slice (some ⟨g4, 0, none⟩) xs.length xs.length, .string o, .slice (some ⟨k4, 0, none⟩) rs.length rs.length]))
    | (go_at_call 10; refine (S2.out _ _ _ ⟨owns_rs (ho4.alloc _), owns_rs (hp4.alloc _)⟩).mono ?_; rintro e w5 ⟨⟨ga, ya, gb, yb, rfl, pg1, pg2⟩, hb5⟩; (have A5 := ((A3.keep hb4).alloc (.cells #[.int .i64 nx, .slice (some ⟨g4, 0, none⟩) xs.length xs.length, .string o, .slice (some ⟨k4, 0, none⟩) rs.length rs.length] 29)).keep hb5); (have W5 := ((W3.keep hb4).alloc (.cells #[.int .i64 nx, .slice (some ⟨g4, 0, none⟩) xs.length xs.length, .string o, .slice (some ⟨k4, 0, none⟩) rs.length rs.length] 29)).keep hb5); (have X5 := X4.keep hb5); (have RW5 := ((RW.keep hb4).alloc (.cells #[.int .i64 nx, .slice (some ⟨g4, 0, none⟩) xs.length xs.length, .string o, .slice (some ⟨k4, 0, none⟩) rs.length rs.length] 29)).keep hb5); (have RG5 := mp.R2.of pg1 pg2); clear pg1 pg2; (have ltA := A5.lt); (have ltW := W5.lt); (have ltX := X5.lt); clear d0 d1 d2 d3; (obtain ⟨d0, d1, d2, d3⟩ := A5.cells4); (obtain ⟨v0, v1, v2, v3⟩ := W5.cells4); (obtain ⟨x0, x1, x2, x3⟩ := X5.cells4))
    | (go_at_call 11; refine (mp.eqTake_same _ _ _ _ _ _ _ _ _ zs p ts _ HE.out.1 HE.out.2 (RG5.alloc _).rt (RW5.alloc _).rt).mono ?_; rintro e w6 ⟨rfl, hb6⟩; (have G6 := (Bx.new w5 29 #[.int .i64 (m : Int), .slice ga zs.length ya, .string p, .slice gb ts.length yb]).keep hb6); (have A6 := (A5.alloc (.cells #[.int .i64 (m : Int), .slice ga zs.length ya, .string p, .slice gb ts.length yb] 29)).keep hb6); (have W6 := (W5.alloc (.cells #[.int .i64 (m : Int), .slice ga zs.length ya, .string p, .slice gb ts.length yb] 29)).keep hb6); (have X6 := (X5.alloc (.cells #[.int .i64 (m : Int), .slice ga zs.length ya, .string p, .slice gb ts.length yb] 29)).keep hb6); clear d0 d1 d2 d3 v0 v1 v2 v3 x0 x1 x2 x3; (obtain ⟨d0, d1, d2, d3⟩ := A6.cells4); (obtain ⟨v0, v1, v2, v3⟩ := W6.cells4); (obtain ⟨x0, x1, x2, x3⟩ := X6.cells4); (obtain ⟨m0, m1, m2, m3⟩ := G6.cells4))
    | fail)
  have RW6 := (RW5.alloc (.cells #[.int .i64 (m : Int), .slice ga zs.length ya, .string p, .slice gb ts.length yb] 29)).keep hb6
  have RG6 := (RG5.alloc (.cells #[.int .i64 (m : Int), .slice ga zs.length ya, .string p, .slice gb ts.length yb] 29)).keep hb6
  have RX6 := (((mp.R2.of ho4 (Orw.of_owns hp4)).alloc (.cells #[.int .i64 nx, .slice (some ⟨g4, 0, none⟩) xs.length xs.length, .string o, .slice (some ⟨k4, 0, none⟩) rs.length rs.length] 29)).keep hb5).alloc (.cells #[.int .i64 (m : Int), .slice ga zs.length ya, .string p, .slice gb ts.length yb] 29) |>.keep hb6
  have TX6 := ((((((⟨owns_rs ho4, owns_rs hp4⟩ : mk.Rt w4 (some ⟨g4, 0, none⟩) (some ⟨k4, 0, none⟩) xs rs)).keep ((Below.refl _ _).alloc (Nat.le_refl _) (.cells #[.int .i64 nx, .slice (some ⟨g4, 0, none⟩) xs.length xs.length, .string o, .slice (some ⟨k4, 0, none⟩) rs.length rs.length] 29))).keep hb5).keep ((Below.refl _ _).alloc (Nat.le_refl _) (.cells #[.int .i64 (m : Int), .slice ga zs.length ya, .string p, .slice gb ts.length yb] 29))).keep hb6)
  have B5 := kb ((kb B3 hb4 (Nat.le_refl _)).alloc (kb B3 hb4 (Nat.le_refl _)).size (.cells #[.int .i64 nx, .slice (some ⟨g4, 0, none⟩) xs.length xs.length, .string o, .slice (some ⟨k4, 0, none⟩) rs.length rs.length] 29)) hb5 (Nat.le_refl _)
  have B6 : Hid (Below w.heap.size w w6) := kb (B5.alloc B5.size (.cells #[.int .i64 (m : Int), .slice ga zs.length ya, .string p, .slice gb ts.length yb] 29)) hb6 (Nat.le_refl _)
  have hs6 : w.heap.size < w6.heap.size := A6.lt
  have hx6 : w4.heap.size < w6.heap.size := X6.lt
  have s4 := hb4.size
  have s5 := hb5.size
  have s6 := hb6.size
  simp only [World.size_alloc] at s4 s5 s6 RW6 RX6 RG6
  have hl : w.heap.size < w3.heap.size := lt3
  clear ho4 hp4 hb4 hb5 hb6 B3 B5 A3 A3' A5 W3 W5 X4 X5 RW RW5 RG5
  have R6 : Hid (mk.Rt w6 (some ⟨g4, 0, none⟩) (some ⟨k4, 0, none⟩) xs rs) := TX6
  have HRW : Hid _ := RW6
  have HRG : Hid _ := RG6
  have HRX : Hid _ := RX6
  clear RW6 RG6 RX6 TX6
  go_wp2
  go_region_held3 (fun w' => w'.cell? ⟨w.heap.size, 0, none⟩ = some (.int .i64 nx) ∧ w'.cell? ⟨w.heap.size, 1, none⟩ = some (.slice ao xs.length ca) ∧ w'.cell? ⟨w.heap.size, 2, none⟩ = some (.string o) ∧ w'.cell? ⟨w.heap.size, 3, none⟩ = some (.slice so rs.length cs) ∧ w'.cell? ⟨w4.heap.size, 0, none⟩ = some (.int .i64 nx) ∧ w'.cell? ⟨w4.heap.size, 1, none⟩ = some (.slice (some ⟨g4, 0, none⟩) xs.length xs.length) ∧ w'.cell? ⟨w4.heap.size, 2, none⟩ = some (.string o) ∧ w'.cell? ⟨w4.heap.size, 3, none⟩ = some (.slice (some ⟨k4, 0, none⟩) rs.length rs.length) ∧ Below w6.heap.size w6 w')
    (first | assumption | exact ⟨d0, d1, d2, d3, x0, x1, x2, x3, (Below.refl _ _).drew⟩ | (go_split_ands; refine ⟨kp (by assumption) (by assumption) hb7 hs6, kp (by assumption) (by assumption) hb7 hs6, kp (by assumption) (by assumption) hb7 hs6, kp (by assumption) (by assumption) hb7 hs6, kp (by assumption) (by assumption) hb7 hx6, kp (by assumption) (by assumption) hb7 hx6, kp (by assumption) (by assumption) hb7 hx6, kp (by assumption) (by assumption) hb7 hx6, kb (by assumption) hb7 (Nat.le_refl _)⟩))
    (first
      | (go_at_call 9; refine (mk.toTake_any nx ao so ca cs xs o rs _ HS.out.n HS.out.k (HA.out.keep (kb B6.out (by go_split_ands; assumption) (Nat.le_refl _)))).mono ?_; rintro e w7 ⟨⟨g7, k7, rfl, ho7, hp7, -⟩, hb7⟩)
      | (go_at_call 11; refine (mp.eqTake_same _ _ _ _ _ _ _ _ _ xs o rs _ (by have := HS.out.n; omega) (by have := HS.out.k; omega) (mp.Rt.of (R6.out.keep (by go_split_ands; assumption))) (mp.Rt.of ⟨owns_rs ho7, owns_rs hp7⟩)).mono ?_; rintro e w7 ⟨rfl, hb7⟩))
  have hbl : Below w6.heap.size w6 w7 := by go_split_ands; assumption
  have A7 := A6.keep hbl
  have W7 := W6.keep hbl
  have X7 := X6.keep hbl
  have G7 := G6.keep hbl
  have B7 : Hid (Below w.heap.size w w7) := kb B6.out hbl (Nat.le_refl _)
  have RW7 : Hid _ := HRW.out.keep hbl
  have RG7 : Hid _ := HRG.out.keep hbl
  have RX7 : Hid _ := HRX.out.keep hbl
  have s7 := hbl.size
  clear d0 d1 d2 d3 x0 x1 x2 x3 v0 v1 v2 v3 m0 m1 m2 m3
  clear HRW HRG HRX A6 W6 X6 G6 R6 B6 hbl
  (obtain ⟨d0, d1, d2, d3⟩ := A7.cells4); (obtain ⟨v0, v1, v2, v3⟩ := W7.cells4); (obtain ⟨x0, x1, x2, x3⟩ := X7.cells4); (obtain ⟨m0, m1, m2, m3⟩ := G7.cells4)
  obtain ⟨K, hK⟩ : ∃ K : Nat, K = 1 + xs.length * 3 + rs.length := ⟨_, rfl⟩
  have HK1 : Hid (K = 1 + xs.length * 3 + rs.length) := hK
  have hK0 : (0 : Int) ≤ (K : Int) := Int.natCast_nonneg K
  clear hK
  go_wp2_with (first
    | (go_at_call 12; refine (mp.markTake_bet (w3.heap.size + 1) w4.heap.size nx o _ _ _ _ _ _ w7 (by have := HS.out.n; omega) (by have := HS.out.k; omega) RX7.out K HK1.out).mono ?_; rintro e w8 ⟨rfl, -, T8⟩; (have A8 := mp.bx_bet A7 T8 (by omega)); (have W8 := mp.bx_bet W7 T8 (by omega)); (have G8 := mp.bx_bet G7 T8 (by omega)); clear d0 d1 d2 d3 x0 x1 x2 x3 v0 v1 v2 v3 m0 m1 m2 m3; (obtain ⟨d0, d1, d2, d3⟩ := A8.cells4); (obtain ⟨v0, v1, v2, v3⟩ := W8.cells4); (obtain ⟨m0, m1, m2, m3⟩ := G8.cells4))
    | fail)
  have RW8 : Hid _ := RW7.out.bet T8 (by omega)
  have RG8 : Hid _ := RG7.out.bet T8 (by omega)
  have B8 : Hid (Below w.heap.size w w8) := B7.out.trans (T8.below (by omega) (by omega))
  have s8 := T8.size
  clear T8 A7 W7 X7 G7 B7 RW7 RG7 RX7
  obtain ⟨M, hM⟩ : ∃ M : Nat, M = 1 + zs.length * 3 + ts.length := ⟨_, rfl⟩
  have HM1 : Hid (M = 1 + zs.length * 3 + ts.length) := hM
  have hM0 : (0 : Int) ≤ (M : Int) := Int.natCast_nonneg M
  clear hM
  go_wp2_with (first
    | (go_at_call 11; refine (mp.eqTake_same _ _ _ _ _ _ _ _ _ zs p ts _ HE.out.1 HE.out.2 RG8.out.rt RW8.out.rt).mono ?_; rintro e w9 ⟨rfl, hb9⟩; (have A9 := A8.keep hb9); (have W9 := W8.keep hb9); (have G9 := G8.keep hb9); (have RW9 : Hid _ := RW8.out.keep hb9); (have RG9 : Hid _ := RG8.out.keep hb9); (have s9 := hb9.size); clear d0 d1 d2 d3 v0 v1 v2 v3 m0 m1 m2 m3; (obtain ⟨d0, d1, d2, d3⟩ := A9.cells4); (obtain ⟨v0, v1, v2, v3⟩ := W9.cells4); (obtain ⟨m0, m1, m2, m3⟩ := G9.cells4))
    | fail)
  go_wp2_with (first
    | (go_at_call 12; refine (mp.markTake_bet (w4.heap.size + 1) w5.heap.size _ p _ _ _ _ _ _ w9 HE2.out.1 HE2.out.2 RG9.out M HM1.out).mono ?_; rintro e w10 ⟨rfl, ⟨t1, t2, RGm, M1, M2⟩, T10⟩; (have A10 := mp.bx_bet A9 T10 (by omega)); (have W10 := mp.bx_bet W9 T10 (by omega)); (have G10 := mp.bx_bet G9 T10 (by omega)); clear d0 d1 d2 d3 v0 v1 v2 v3 m0 m1 m2 m3; (obtain ⟨d0, d1, d2, d3⟩ := A10.cells4); (obtain ⟨v0, v1, v2, v3⟩ := W10.cells4); (obtain ⟨m0, m1, m2, m3⟩ := G10.cells4))
    | fail)
  have RW10 : Hid _ := RW9.out.bet T10 (by omega)
  have RG10 : Hid _ := RGm
  have HM2 : Hid (Mh 1 zs.length t1 ∧ Ms (1 + zs.length * 3) ts.length t2) := ⟨M1, M2⟩
  have B9 := kb B8.out hb9 (Nat.le_refl _)
  have B10 : Hid (Below w.heap.size w w10) := B9.trans (T10.below (by omega) (by omega))
  have s10 := T10.size
  clear RGm M1 M2 T10 B8 B9 hb9 A8 A9 W8 W9 G8 G9 RW8 RW9 RG8 RG9
  go_wp2_with (first
    | (go_at_call 13; refine (mp.heldTake_bet (w4.heap.size + 1) w5.heap.size _ p _ _ _ _ _ _ w10 HE2.out.1 HE2.out.2 RG10.out HM2.out.1 HM2.out.2 M HM1.out).mono ?_; rintro e w11 ⟨rfl, hb11⟩; (have A11 := A10.keep hb11); (have W11 := W10.keep hb11); (have G11 := G10.keep hb11); clear d0 d1 d2 d3 v0 v1 v2 v3 m0 m1 m2 m3; (obtain ⟨d0, d1, d2, d3⟩ := A11.cells4); (obtain ⟨v0, v1, v2, v3⟩ := W11.cells4); (obtain ⟨m0, m1, m2, m3⟩ := G11.cells4))
    | fail)
  have B11 := kb B10.out hb11 (Nat.le_refl _)
  have RW11 : Hid _ := RW10.out.keep hb11
  have RG11 : Hid _ := RG10.out.keep hb11
  clear RW10 RG10 B10 hb11 A10 W10 G10
  go_wp2_with (first
    | (go_at_call 9; refine (mk.toTake_any nx ao so ca cs xs o rs _ HS.out.n HS.out.k (HA.out.keep B11)).mono ?_; rintro e w12 ⟨⟨g12, k12, rfl, ho12, hp12, -⟩, hb12⟩)
    | (go_at_call 10; refine (S2.out _ _ _ ⟨owns_rs ho12, owns_rs hp12⟩).mono ?_; rintro e w13 ⟨⟨ja, qa, jb, qb, rfl, ph1, ph2⟩, hb13⟩; (have W13 := (W11.keep hb12).keep hb13); (have G13 := (G11.keep hb12).keep hb13); (have lt13 := W13.lt); (have lu13 := G13.lt); (have RW13 : Hid _ := (RW11.out.keep hb12).keep hb13); (have RG13 : Hid _ := (RG11.out.keep hb12).keep hb13); (have RH13 : Hid _ := mp.R2.of ph1 ph2); clear ph1 ph2; clear d0 d1 d2 d3 v0 v1 v2 v3 m0 m1 m2 m3; (obtain ⟨v0, v1, v2, v3⟩ := W13.cells4); (obtain ⟨m0, m1, m2, m3⟩ := G13.cells4))
    | (go_at_call 11; refine (mp.eqTake_same _ _ _ _ _ _ _ _ _ zs p ts _ HE.out.1 HE.out.2 (RH13.out.alloc _).rt (RW13.out.alloc _).rt).mono ?_; rintro e w14 ⟨rfl, hb14⟩; (have G14 := (G13.alloc (.cells #[.int .i64 (m : Int), .slice ja zs.length qa, .string p, .slice jb ts.length qb] 29)).keep hb14); clear v0 v1 v2 v3 m0 m1 m2 m3; (obtain ⟨m0, m1, m2, m3⟩ := G14.cells4))
    | fail)
  have B13 := kb (kb B11 hb12 (Nat.le_refl _)) hb13 (Nat.le_refl _)
  have B14 := kb (B13.alloc B13.size (.cells #[.int .i64 (m : Int), .slice ja zs.length qa, .string p, .slice jb ts.length qb] 29)) hb14 (Nat.le_refl _)
  have RG14 : Hid _ := (RG13.out.alloc (.cells #[.int .i64 (m : Int), .slice ja zs.length qa, .string p, .slice jb ts.length qb] 29)).keep hb14
  clear B11 B13 hb12 hb13 hb14 ho12 hp12 RG13 RW13 RH13 RW11 RG11
  go_wp2_with (first
    | (go_at_call 13; refine (mp.heldTake_bet (w4.heap.size + 1) w5.heap.size _ p _ _ _ _ _ _ w14 HE2.out.1 HE2.out.2 RG14.out HM2.out.1 HM2.out.2 M HM1.out).mono ?_; rintro e w15 ⟨rfl, hb15⟩)
    | fail)
  go_ret
  exact ⟨rfl, kb B14 hb15 (Nat.le_refl _)⟩

set_option maxRecDepth 100000 in
theorem lifted (os : Os) (started : os.Started) (H : Type) (enc : TypeId × Value → H) :
    ReturnsInHanded {} Try.checked os 3 .any (Rows.fnExactTakePullSpec.pre6 enc Try.prog Try.f3 Rows.fnExactTakePullRow.domain false) (Rows.fnExactTakePullSpec.post enc Try.prog Try.f3 false true false false) := by
  refine returnsInHanded_of_change (C := Try.checked) own started (by kernel_rfl) Try.func3
    (ChangeSpec.witness6 (enc := enc) (C := Try.checked) false ⟨#[], #[.agg #[.int .i64 0, .slice none 0 0, .string ByteArray.empty, .slice none 0 0]], []⟩ 8 (by kernel_rfl) (by kernel_rfl) (by kernel_rfl) (by kernel_rfl)) ?_
  intro W base args ds gs before hval0 hW hcnd _
  have hval : ∀ (j : Nat) t v, Try.f3.params[j]? = some t → args[j]? = some v → Value.okWide Try.prog W .any base t v := hval0
  have hW' := hW
  obtain ⟨p, q, hA0, hV, rfl, hfz, hnd⟩ := hW
  have hA : DataW.TrodAll enc Try.prog W 0 (fun _ => true) true Try.f3.params.toList args.toList ds p := hA0
  rw [Try.params3] at hA hval
  obtain ⟨v0, vs0, d0, ds0, p0, q0, hargs, rfl, rfl, h0, r0⟩ := trodAll_cons hA
  obtain ⟨rfl, rfl, rfl⟩ := trodAll_nil r0
  obtain rfl : args = #[v0] := by cases args; simp_all
  obtain ⟨rfl, rfl⟩ := trodVars_none hV
  have k0 := h0
  have lt0 : ∀ x ∈ p0, x.block < W.heap.size := by obtain ⟨m, hm⟩ := k0; exact DataW.trod_lt m _ _ _ hm
  obtain ⟨nx, ao, so, ca, cs, xs, o, rs, rfl, hat, hsm⟩ := openedT.take (hval 0 25 v0 rfl rfl) h0
  clear hA0 hval0
  simp only [List.append_nil] at hW'
  refine (walk nx ao so ca cs xs o rs W hat hsm).mono fun e W' ⟨he, bel⟩ => ?_
  subst he
  exact ⟨_, rfl, _, _, _, [], _, [], hW', trodAll_mk1 (shut_bool Try.underlying4 _), (trodAll_cons_mk (Below.trod laidOut (by kernel_rfl) (of_decide_eq_true (by kernel_rfl)) k0 bel lt0) trodAll_mk0), rfl, bel.frame _, fun h => by cases h⟩

theorem over : Rows.fnExactTakePullRow.holds Try.pinned (OpenSpec.ofChange Rows.fnExactTakePullSpec) :=
  OpenClaim.holds_of_wide 3 Try.f3 rfl rfl rfl rfl rfl rfl rfl ⟨rfl, rfl, rfl, rfl, rfl⟩ rfl rfl rfl rfl rfl (by kernel_rfl) Try.func3 (by kernel_rfl)
    (of_decide_eq_true (by kernel_rfl)) (by unfold Func.isWrapper; first | (rw [if_pos (by decide +kernel)]; kernel_rfl) | (rw [if_neg (by decide +kernel)]; exact ⟨rfl, rfl⟩))
    (fun os started H enc _ => lifted os started H enc)

theorem proved : Rows.FnExactTakePullSaid :=
  over
#print axioms proved
end Go.Proofs.Ythjncmgjkejikaa.fnExactTakePull
