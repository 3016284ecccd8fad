/-
  PARTS TAKEN IN WHATEVER ORDER: laws.wTexts, wBegins, wTake of rows that are the same.
-/
import Derived.Test.YtldlpohkpmapcaaTsA
import Derived.Deep.QuietTactic
import Derived.BigQuiet
namespace Go.Proofs.Ytldlpohkpmapcaa.mk.f
open Go.RowKit
set_option linter.unusedVariables false

set_option maxRecDepth 100000 in
set_option maxHeartbeats 1000000 in
theorem wTexts_same (a b : Option Addr) (ca cb : Nat) (xs : List ByteArray) (w : World) (hl : xs.length ≤ 1000000) (ha : Rr w a xs.length (ss xs)) (hb : Rr w b xs.length (ss xs)) :
    Calls Try.prog 12 #[.slice a xs.length ca, .slice b xs.length cb] w fun e w' => e = .returned (.bool true) ∧ Below w.heap.size w w' := by
  have HA : Hid (Rr w a xs.length (ss xs)) := ha
  have HB : Hid (Rr w b xs.length (ss xs)) := hb
  clear ha hb
  go_enter Try.func12, Try.ntmps12
  go_wp2
  go_loopw [5] (fun i wr => ∃ k : Nat, k ≤ xs.length ∧ i = .int .i64 k ∧ Below w.heap.size w wr) (fun i _ => xs.length - (intOf i).toNat)
  case atStart => exact ⟨0, Nat.zero_le _, rfl, Below.refl _ _⟩
  case round =>
    obtain ⟨k, hk, rfl, hbel⟩ := hrel
    by_cases hlt : (k : Int) < (xs.length : Int)
    · have hk' : k < xs.length := by omega
      rcases HA.out.ex with h | ⟨g1, k1, rfl, hg1, hc1⟩
      · omega
      rcases HB.out.ex with h | ⟨g2, k2, rfl, hg2, hc2⟩
      · omega
      have d1 : wr.cell? ⟨g1, k1 + k, none⟩ = some (.string xs[k]) := (hbel.cell (p := ⟨g1, k1 + k, none⟩) hg1).trans ((hc1 k (by rw [ss_length]; exact hk')).trans (ss_at xs k hk'))
      have d2 : wr.cell? ⟨g2, k2 + k, none⟩ = some (.string xs[k]) := (hbel.cell (p := ⟨g2, k2 + k, none⟩) hg2).trans ((hc2 k (by rw [ss_length]; exact hk')).trans (ss_at xs k hk'))
      generalize xs[k] = s at *
      clear hc1 hc2
      go_wp2
      try go_quiet (fail)
      try go_wp2
      have hd : ∀ n, Below wr.heap.size wr (wr.drewN n) := fun n => ⟨rfl, rfl, rfl, Nat.le_refl _, fun _ _ => rfl⟩
      first
        | exact ⟨⟨k + 1, by omega, by go_num, kb hbel (hd _) (Nat.le_refl _)⟩, by simp [intOf]; omega⟩
        | exact ⟨⟨k + 1, by omega, by go_num, hbel⟩, by simp [intOf]; omega⟩
    · go_wp2
      go_ret
      exact ⟨rfl, hbel⟩
theorem wBegins_yes (a b : Option Addr) (ca cb : Nat) (xs ys : List ByteArray) (w : World) (hl : ys.length ≤ 1000000) (hcb : ys.length ≤ cb) (hcm : cb ≤ 9223372036854775807) (hp : xs <+: ys) (ha : Rr w a xs.length (ss xs)) (hb : Rr w b ys.length (ss ys)) :
    Calls Try.prog 11 #[.slice a xs.length ca, .slice b ys.length cb] w fun e w' => e = .returned (.bool true) ∧ Below w.heap.size w w' := by
  have hle : xs.length ≤ ys.length := hp.length_le
  have hb2 : Rr w b xs.length (ss xs) := by
    rcases hb.ex with h | ⟨g, k, e, hg, hc⟩
    · exact ⟨.inl (by omega)⟩
    · refine ⟨.inr ⟨g, k, e, hg, fun j hj => ?_⟩⟩
      rw [ss_length] at hj
      rw [hc j (by rw [ss_length]; omega)]
      obtain ⟨zs, rfl⟩ := hp
      rw [ss_append, List.getElem?_append_left (by rw [ss_length]; exact hj)]
  have HT : Hid (∀ (o : Option Addr) (c : Nat), Rr w o xs.length (ss xs) → Calls Try.prog 12 #[.slice a xs.length ca, .slice o xs.length c] w fun e w' => e = .returned (.bool true) ∧ Below w.heap.size w w') := fun o c h => wTexts_same a o ca c xs w (by omega) ha h
  have H2 : Hid (Rr w b xs.length (ss xs)) := hb2
  clear ha hb hb2 hp
  cases b with
  | none =>
    go_enter Try.func11, Try.ntmps11
    go_wp2_with (go_at_call 12; refine (HT.out _ _ H2.out).mono ?_; rintro e w1 ⟨rfl, hb1⟩)
    go_ret
    exact ⟨rfl, hb1⟩
  | some b =>
    go_enter Try.func11, Try.ntmps11
    go_wp2_with (go_at_call 12; refine (HT.out _ _ H2.out).mono ?_; rintro e w1 ⟨rfl, hb1⟩)
    go_ret
    exact ⟨rfl, hb1⟩
set_option maxRecDepth 100000 in
set_option maxHeartbeats 2000000 in
theorem wTake_same (nx : Int) (ho so bo to : Option Addr) (ch cs cb ct : Nat) (xs : List Hd) (o : ByteArray) (rs : List ByteArray) (w : World) (hn : xs.length ≤ 1000000) (hk : rs.length ≤ 1000000) (ha : Rq w ho so xs rs) (hb : Rq w bo to xs rs) :
    Calls Try.prog 10 #[.agg #[.int .i64 nx, .slice ho xs.length ch, .string o, .slice so rs.length cs], .agg #[.int .i64 nx, .slice bo xs.length cb, .string o, .slice to rs.length ct]] w fun e w' => e = .returned (.bool true) ∧ Below w.heap.size w w' := by
  have X1 : Hid (Bx ((w.alloc (.cells #[.int .i64 nx, .slice ho xs.length ch, .string o, .slice so rs.length cs] 30)).alloc (.cells #[.int .i64 nx, .slice bo xs.length cb, .string o, .slice to rs.length ct] 30)) w.heap.size 30 #[.int .i64 nx, .slice ho xs.length ch, .string o, .slice so rs.length cs]) := (Bx.new w 30 #[.int .i64 nx, .slice ho xs.length ch, .string o, .slice so rs.length cs]).alloc (.cells #[.int .i64 nx, .slice bo xs.length cb, .string o, .slice to rs.length ct] 30)
  have X2 : Hid (Bx ((w.alloc (.cells #[.int .i64 nx, .slice ho xs.length ch, .string o, .slice so rs.length cs] 30)).alloc (.cells #[.int .i64 nx, .slice bo xs.length cb, .string o, .slice to rs.length ct] 30)) (w.heap.size + 1) 30 #[.int .i64 nx, .slice bo xs.length cb, .string o, .slice to rs.length ct]) := (by have := Bx.new (w.alloc (.cells #[.int .i64 nx, .slice ho xs.length ch, .string o, .slice so rs.length cs] 30)) 30 #[.int .i64 nx, .slice bo xs.length cb, .string o, .slice to rs.length ct]; rw [World.size_alloc] at this; exact this)
  have B0 : Hid (Below w.heap.size w ((w.alloc (.cells #[.int .i64 nx, .slice ho xs.length ch, .string o, .slice so rs.length cs] 30)).alloc (.cells #[.int .i64 nx, .slice bo xs.length cb, .string o, .slice to rs.length ct] 30))) := ((Below.refl _ _).alloc (Nat.le_refl _) _).alloc (by simp) _
  have HT : Hid (∀ u : World, Rr u so rs.length (ss rs) → Rr u to rs.length (ss rs) → Calls Try.prog 12 #[.slice so rs.length cs, .slice to rs.length ct] u fun e w' => e = .returned (.bool true) ∧ Below u.heap.size u w') := fun u h1 h2 => wTexts_same so to cs ct rs u hk h1 h2
  have HA : Hid (Rq w ho so xs rs) := ha
  have HB : Hid (Rq w bo to xs rs) := hb
  clear ha hb
  go_enter Try.func10, Try.ntmps10
  go_wp2_with (go_at_call 12; refine (HT.out _ (HA.out.ready.keep B0.out) (HB.out.ready.keep B0.out)).mono ?_; rintro e w1 ⟨rfl, hb1⟩; (have c11 := (X1.out.keep hb1).cell 1); (have c21 := (X2.out.keep hb1).cell 1); simp at c11 c21)
  have Y1 := X1.out.keep hb1
  have Y2 := X2.out.keep hb1
  have B1 := kb B0.out hb1 (Nat.le_refl _)
  clear X1 X2 B0 HT c11 c21 hb1
  go_loopw [5] (fun i wr => ∃ k : Nat, k ≤ xs.length ∧ i = .int .i64 k ∧ Bx wr w.heap.size 30 #[.int .i64 nx, .slice ho xs.length ch, .string o, .slice so rs.length cs] ∧ Bx wr (w.heap.size + 1) 30 #[.int .i64 nx, .slice bo xs.length cb, .string o, .slice to rs.length ct] ∧ Below w.heap.size w wr) (fun i _ => xs.length - (intOf i).toNat)
  case atStart => exact ⟨0, Nat.zero_le _, rfl, Y1, Y2, B1⟩
  case round =>
    clear Y1 Y2 B1
    obtain ⟨k, hk', rfl, x1, x2, hb⟩ := hrel
    have l1 := x1.lt
    have l2 := x2.lt
    have p1 := x1.cell 1
    have p2 := x2.cell 1
    simp at p1 p2
    by_cases hlt : (k : Int) < (xs.length : Int)
    · have hkl : k < xs.length := by omega
      rcases HA.out.held.ex with h | ⟨g1, rfl, hg1, hc1⟩
      · omega
      rcases HB.out.held.ex with h | ⟨g2, rfl, hg2, hc2⟩
      · omega
      obtain ⟨d0, d1, d2⟩ := Rs.held (n := 0) hg1 hc1 hb k hkl
      obtain ⟨e0, e1, e2⟩ := Rs.held (n := 0) hg2 hc2 hb k hkl
      generalize xs[k].text = s at *
      generalize xs[k].last = l at *
      generalize xs[k].seq = n at *
      clear hc1 hc2
      go_wp2
      go_quiet (fail)
      go_wp2
      have hd : Below wr.heap.size wr (wr.drewN nq) := ⟨rfl, rfl, rfl, Nat.le_refl _, fun _ _ => rfl⟩
      exact ⟨⟨k + 1, by omega, by go_num, x1.keep hd, x2.keep hd, kb hb hd (Nat.le_refl _)⟩, by simp [intOf]; omega⟩
    · go_wp2
      go_ret
      exact ⟨rfl, hb⟩
end Go.Proofs.Ytldlpohkpmapcaa.mk.f
