/-
  AN ACTOR's BEAT.
-/
import Derived.Test.YtfjedpnagnnobaaGreatEtA
import Derived.Test.YtfjedpnagnnobaaGreatEtB
import Derived.Test.YtfjedpnagnnobaaGreatActC
namespace Go.Proofs.YtfjedpnagnnobaaGreat.mk
open Go.RowKit
set_option linter.unusedVariables false

theorem set_self (cr ds l : List Value) (j : Nat) (v : Value) (h1 : cr.length = 242) (h2 : ds.length = 20) : (cr ++ (ds ++ l)).set (262 + j) v = cr ++ (ds ++ l.set j v) := by
  rw [List.set_append_right _ _ (by omega), List.set_append_right _ _ (by omega)]
  congr 3
  omega
theorem self_at {cr ds l : List Value} {w : World} {base A n : Nat} {t : TypeId} (h : w.ownsRow base t n (.slice (some ⟨A, 0, none⟩) 1 1) 1 (cr ++ (ds ++ l))) (h1 : cr.length = 242) (h2 : ds.length = 20) (j k : Nat) (hk : k = 262 + j) (hj : j < l.length) : w.cell? ⟨A, k, none⟩ = l[j]? := by
  subst hk
  have hl := h.1
  simp only [List.length_append] at hl
  rw [h.cellAt (262 + j) (by omega), List.getElem?_append_right (by omega), List.getElem?_append_right (by omega)]
  congr 1
  omega
theorem mid_at {cr ds l : List Value} {w : World} {base A n : Nat} {t : TypeId} (h : w.ownsRow base t n (.slice (some ⟨A, 0, none⟩) 1 1) 1 (cr ++ (ds ++ l))) (h1 : cr.length = 242) (h2 : ds.length = 20) (j k : Nat) (hk : k = 242 + j) (hj : j < 20) : w.cell? ⟨A, k, none⟩ = ds[j]? := by
  subst hk
  have hl := h.1
  simp only [List.length_append] at hl
  rw [h.cellAt (242 + j) (by omega), List.getElem?_append_right (by omega), List.getElem?_append_left (by omega)]
  congr 1
  omega
theorem pk_news (W : World) (c0 c1 c2 c3 c4 c5 c6 c7 c8 : Value) : ∀ j u, ([c0, c1, c2, c3, c4, c5, c6, c7, c8] : List Value)[j]? = some u → (W.alloc (.cells #[c0, c1, c2, c3, c4, c5, c6, c7, c8] 54)).cell? ((⟨W.heap.size, 0, none⟩ : Addr).add j) = some u := by
  intro j u hj
  match j, hj with
  | 0, hj => simp at hj; subst hj; simp [Addr.add]
  | 1, hj => simp at hj; subst hj; simp [Addr.add]
  | 2, hj => simp at hj; subst hj; simp [Addr.add]
  | 3, hj => simp at hj; subst hj; simp [Addr.add]
  | 4, hj => simp at hj; subst hj; simp [Addr.add]
  | 5, hj => simp at hj; subst hj; simp [Addr.add]
  | 6, hj => simp at hj; subst hj; simp [Addr.add]
  | 7, hj => simp at hj; subst hj; simp [Addr.add]
  | 8, hj => simp at hj; subst hj; simp [Addr.add]
theorem pk_one (kind num life peer next mask seq : Int) (l : Bool) (s : ByteArray) : ∀ u ∈ ([.int .i64 kind, .int .i64 num, .int .i64 life, .int .i64 peer, .int .i64 next, .int .i64 mask, .int .i64 seq, .bool l, .string s] : List Value), u.oneCell' = true := by
  intro u hu; simp at hu; rcases hu with rfl | rfl | rfl | rfl | rfl | rfl | rfl | rfl | rfl <;> rfl
theorem info_pk : (Tryz.prog.info? 54).map (fun i => (i.zero, i.size, i.bytes)) = some (some (.agg #[.int .i64 0, .int .i64 0, .int .i64 0, .int .i64 0, .int .i64 0, .int .i64 0, .int .i64 0, .bool false, .string ⟨#[]⟩]), 9, 80) := by kernel_rfl
open Classical in
noncomputable def beatP (num life peer since : Int) (owes : Bool) (b : Nat) (xs : List It) (nx : Nat) (hs : List Hd) : List Pk :=
  if owes = true ∨ 6 ≤ sinceOf since then (snt b xs (min 8 xs.length)).map (datOf num life peer b xs) ++ [wordOf num life peer (nx : Int) (tells nx hs)] else (snt b xs (min 8 xs.length)).map (datOf num life peer b xs)
open Classical in
noncomputable def beatS (since : Int) (owes : Bool) : Int := if owes = true ∨ 6 ≤ sinceOf since then 0 else sinceOf since
open Classical in
noncomputable def beatO (since : Int) (owes : Bool) : Bool := if owes = true ∨ 6 ≤ sinceOf since then false else owes
set_option maxRecDepth 100000 in
set_option maxHeartbeats 2000000 in
theorem beat_up (base A : Nat) (num life peer since : Int) (owes : Bool) (sb tb : Int) (sao tho tso : Option Addr) (sn sci tn tch tm tcs : Nat) (to : ByteArray) (b : Nat) (xs : List It) (nx : Nat) (hs : List Hd) (o : ByteArray) (rs : List ByteArray) (cr ds : List Value) (v : Value) (w : World)
    (hA : w.ownsRow base 114 274 (.slice (some ⟨A, 0, none⟩) 1 1) 1 (cr ++ (ds ++ [.int .i64 num, .bool true, .int .i64 life, .int .i64 peer, .int .i64 since, .bool owes, .int .i64 sb, .slice sao sn sci, .int .i64 tb, .slice tho tn tch, .string to, .slice tso tm tcs]))) (hH : Holds b xs cr) (hT : HoldT (nx : Int) hs o v ds) (l1 : cr.length = 242) (l2 : ds.length = 20) (hsd : SdOk (b : Int) xs) (htk : TkOk (nx : Int) hs o rs) (hsi : 0 ≤ since ∧ since ≤ 1000000) (hbs : base ≤ w.heap.size) :
    Calls Tryz.prog 28 #[.pointer (some ⟨A, 0, none⟩)] w fun x w' => (∃ a4 c4 cr', x = .returned (.slice a4 (beatP num life peer since owes b xs nx hs).length c4) ∧ w'.ownsRow w.heap.size 54 9 (.slice a4 (beatP num life peer since owes b xs nx hs).length c4) (beatP num life peer since owes b xs nx hs).length (pks (beatP num life peer since owes b xs nx hs)) ∧ w'.ownsRow base 114 274 (.slice (some ⟨A, 0, none⟩) 1 1) 1 (cr' ++ (ds ++ [.int .i64 num, .bool true, .int .i64 life, .int .i64 peer, .int .i64 (beatS since owes), .bool (beatO since owes), .int .i64 sb, .slice sao sn sci, .int .i64 tb, .slice tho tn tch, .string to, .slice tso tm tcs])) ∧ Holds b (tkn (min 8 xs.length) xs) cr' ∧ cr'.length = 242) ∧ w.grownBy w' (some A) := by
  have hbb : b ≤ 1000000 ∧ xs.length ≤ 60 ∧ b + xs.length ≤ 1000000 := by have := hsd.1; unfold HdOk at this; omega
  have hsv : ∀ i (h : i < xs.length), -1 ≤ xs[i].since ∧ xs[i].since ≤ 3 := fun i h => ⟨(hsd.2 i h).2.1, (hsd.2 i h).2.2.1⟩
  have k1 : w.cell? ⟨A, 263, none⟩ = some (.bool true) := self_at hA l1 l2 1 263 rfl (by simp)
  have k4 : w.cell? ⟨A, 266, none⟩ = some (.int .i64 since) := self_at hA l1 l2 4 266 rfl (by simp)
  have f4 : w.frozen? ⟨A, 266, none⟩ = false := hA.frozenAt 266
  have hAl := hA.lt A rfl
  obtain ⟨Q, hQ⟩ : ∃ Q, Q = snt b xs (min 8 xs.length) := ⟨_, rfl⟩
  obtain ⟨σ, hσ⟩ : ∃ σ, σ = min (since + 1) 1000000 := ⟨_, rfl⟩
  have HF : Hid (∀ i (h : i < Q.length), ∃ k, k < xs.length ∧ Q[i] = ((b + k : Nat) : Int)) := (by subst hQ; intro i h; obtain ⟨k, h1, _, h3⟩ := snt_form b xs _ i h; exact ⟨k, h1, h3⟩ : ∀ i (h : i < Q.length), ∃ k, k < xs.length ∧ Q[i] = ((b + k : Nat) : Int))
  have HSZ : Hid (∀ i (h : i < xs.length), xs[i].text.size ≤ 1048576) := fun i h => by have := (hsd.2 i h).1; omega
  have HTN : Hid (ds[0]? = some (.int .i64 (nx : Int)) ∧ ds[17]? = some (.int .u8 ((bitsOf hs : Nat) : Int))) := ⟨hT.next, hT.bits⟩
  have hwin : Win nx hs := HsOk.win htk.2.2
  have HTE : Hid (rotB (bitsOf hs) (nx % 8) = tells nx hs ∧ tells nx hs < 256 ∧ nx ≤ 1000000) := ⟨rot_tells nx hs hwin, tells_lt hwin, by have := htk.1; unfold TkHd at this; omega⟩
  have HTK : Hid (∀ u : World, u.ownsRow base 114 274 (.slice (some ⟨A, 0, none⟩) 1 1) 1 (cr ++ (ds ++ [.int .i64 num, .bool true, .int .i64 life, .int .i64 peer, .int .i64 σ, .bool owes, .int .i64 sb, .slice sao sn sci, .int .i64 tb, .slice tho tn tch, .string to, .slice tso tm tcs])) → Calls Tryz.prog 63 #[.pointer (some ⟨A, 0, none⟩)] u fun x w' => (∃ ao c cr', x = .returned (.slice ao Q.length c) ∧ w'.ownsRow u.heap.size 3 1 (.slice ao Q.length c) Q.length (ns Q) ∧ w'.ownsRow base 114 274 (.slice (some ⟨A, 0, none⟩) 1 1) 1 (cr' ++ (ds ++ [.int .i64 num, .bool true, .int .i64 life, .int .i64 peer, .int .i64 σ, .bool owes, .int .i64 sb, .slice sao sn sci, .int .i64 tb, .slice tho tn tch, .string to, .slice tso tm tcs])) ∧ Holds b (tkn (min 8 xs.length) xs) cr' ∧ cr'.length = 242) ∧ u.grownBy w' (some A)) := fun u h => (tick_any base ⟨A, 114, 274, ds ++ [.int .i64 num, .bool true, .int .i64 life, .int .i64 peer, .int .i64 σ, .bool owes, .int .i64 sb, .slice sao sn sci, .int .i64 tb, .slice tho tn tch, .string to, .slice tso tm tcs]⟩ b cr xs u hbb.1 hbb.2.1 hsv ⟨l1, ⟨by show (114 : TypeId) ≠ 3; decide, by show (114 : TypeId) ≠ 9; decide⟩, h⟩ hH).mono fun x w' hp => by
    obtain ⟨⟨ao, c, cr', e1, e2, e3, e4⟩, e5⟩ := hp
    rw [← hQ] at e1 e2
    exact ⟨⟨ao, c, cr', e1, e2, e3.row, e4, e3.length⟩, e5⟩
  have HW1 : Hid (((w.setCell ⟨A, 266, none⟩ (.int .i64 σ)).ownsRow base 114 274 (.slice (some ⟨A, 0, none⟩) 1 1) 1 (cr ++ (ds ++ [.int .i64 num, .bool true, .int .i64 life, .int .i64 peer, .int .i64 σ, .bool owes, .int .i64 sb, .slice sao sn sci, .int .i64 tb, .slice tho tn tch, .string to, .slice tso tm tcs])))) := (by have := (hA.stored 266 (.int .i64 σ)).1; rw [show (266 : Nat) = 262 + 4 from rfl, set_self cr ds _ 4 _ l1 l2] at this; exact this : _)
  have hsg : 0 ≤ σ ∧ σ ≤ 1000000 := by omega
  have HS : Hid (σ = min (since + 1) 1000000) := hσ
  have HN : Hid (Q = snt b xs (min 8 xs.length)) := hQ
  clear hA hH hsv hQ hwin hT htk hsd
  go_enter Tryz.func28, Tryz.ntmps28
  go_wp2_with (first
    | (rw [← HS.out]; go_at_call 63; refine (HTK.out _ HW1.out).mono ?_; rintro x w2 ⟨⟨ao, c, cr2, rfl, oQ, oA, hH2, l3⟩, g2⟩)
    | fail)
  have s2 := g2.size
  simp only [World.size_setCell] at s2
  have hAl2 : A < w2.heap.size := by omega
  obtain ⟨P, hP⟩ : ∃ P, P = Q.map (datOf num life peer b xs) := ⟨_, rfl⟩
  have hPl : P.length = Q.length := by rw [hP, List.length_map]
  have HP : Hid (P = Q.map (datOf num life peer b xs)) := hP
  have HOA : Hid (w2.ownsRow base 114 274 (.slice (some ⟨A, 0, none⟩) 1 1) 1 (cr2 ++ (ds ++ [.int .i64 num, .bool true, .int .i64 life, .int .i64 peer, .int .i64 σ, .bool owes, .int .i64 sb, .slice sao sn sci, .int .i64 tb, .slice tho tn tch, .string to, .slice tso tm tcs]))) := oA
  have HH2 : Hid (Holds b (tkn (min 8 xs.length) xs) cr2) := hH2
  have HOQ : Hid (w2.ownsRow w.heap.size 3 1 (.slice ao Q.length c) Q.length (ns Q)) := owns_mono3 oQ (by simp)
  have hQl : Q.length ≤ 8 := by rw [HN.out]; have := snt_length b xs (min 8 xs.length); omega
  obtain ⟨i0, hi, hz0, hz1, hz2⟩ := info_parts info_pk
  clear hP oA hH2 oQ
  go_loopw [3, 28] (fun ov i wr => ∃ (k : Nat) (a4 : Option Addr) (c4 : Nat), k ≤ Q.length ∧ i = .int .i64 k ∧ ov = .slice a4 k c4 ∧ wr.ownsRow w2.heap.size 54 9 (.slice a4 k c4) k (pks (P.take k)) ∧ Below w2.heap.size w2 wr) (fun _ i _ => Q.length - (intOf i).toNat)
  case atStart => exact ⟨0, none, 0, Nat.zero_le _, rfl, rfl, World.ownsRow_nil _ _ _ _, Below.refl _ _⟩
  case round =>
    obtain ⟨k, a4, c4, hk, rfl, rfl, hown, hbel⟩ := hrel
    have hwr := hbel.size
    by_cases hlt : k < Q.length
    · obtain ⟨k', hk', hqk⟩ := HF.out k hlt
      rcases (owns_rs HOQ.out).ex with h | ⟨g, rfl, hg, hgc⟩
      · omega
      have a0 : wr.cell? ⟨g, k, none⟩ = some (.int .i64 ((b + k' : Nat) : Int)) := (hbel.cell (p := ⟨g, k, none⟩) hg).trans ((hgc k (by rw [ns_length]; exact hlt)).trans (by simp [ns, hlt, hqk]))
      have RG : Ring base ⟨A, 114, 274, ds ++ [.int .i64 num, .bool true, .int .i64 life, .int .i64 peer, .int .i64 σ, .bool owes, .int .i64 sb, .slice sao sn sci, .int .i64 tb, .slice tho tn tch, .string to, .slice tso tm tcs]⟩ cr2 w2 := ⟨l3, ⟨by show (114 : TypeId) ≠ 3; decide, by show (114 : TypeId) ≠ 9; decide⟩, HOA.out⟩
      obtain ⟨e0, e1, -, -⟩ := HH2.out.2.2.2 k' (by rw [tkn_length]; exact hk')
      rw [(tkn_text _ xs k' hk').1] at e0
      rw [(tkn_text _ xs k' hk').2] at e1
      have r0 := (hbel.cell (p := ⟨A, (b + k') % 60 * 4, none⟩) hAl2).trans ((RG.cell _ (by omega)).trans e0)
      have r1 := (hbel.cell (p := ⟨A, (b + k') % 60 * 4 + 1, none⟩) hAl2).trans ((RG.cell _ (by omega)).trans e1)
      have m0 := (hbel.cell (p := ⟨A, 262, none⟩) hAl2).trans (self_at HOA.out l3 l2 0 262 rfl (by simp))
      have m2 := (hbel.cell (p := ⟨A, 264, none⟩) hAl2).trans (self_at HOA.out l3 l2 2 264 rfl (by simp))
      have m3 := (hbel.cell (p := ⟨A, 265, none⟩) hAl2).trans (self_at HOA.out l3 l2 3 265 rfl (by simp))
      have HT : Hid (pks (P.take (k + 1)) = pks (P.take k) ++ [.int .i64 2, .int .i64 num, .int .i64 life, .int .i64 peer, .int .i64 0, .int .i64 0, .int .i64 ((b + k' : Nat) : Int), .bool xs[k'].last, .string xs[k'].text]) := (by
        have hkP : k < P.length := by omega
        have hPk : P[k] = ⟨2, num, life, peer, 0, 0, ((b + k' : Nat) : Int), xs[k'].last, xs[k'].text⟩ := by
          have := HP.out
          subst this
          rw [List.getElem_map, hqk]
          exact datOf_at num life peer b k' xs hk'
        rw [List.take_succ_eq_append_getElem hkP, pks_append, hPk]
        rfl : pks (P.take (k + 1)) = pks (P.take k) ++ [.int .i64 2, .int .i64 num, .int .i64 life, .int .i64 peer, .int .i64 0, .int .i64 0, .int .i64 ((b + k' : Nat) : Int), .bool xs[k'].last, .string xs[k'].text])
      have hsz := HSZ.out k' hk'
      clear hgc RG e0 e1 hqk
      obtain ⟨q, hq⟩ : ∃ q, q = b + k' := ⟨_, rfl⟩
      rw [← hq] at a0 r0 r1 HT
      have hqb : q ≤ 2000000 := by omega
      generalize xs[k'].text = s at *
      generalize xs[k'].last = l at *
      have HDP : Hid (Calls Tryz.prog 64 #[.pointer (some ⟨A, 0, none⟩), .int .i64 q] wr fun e w' => e = .returned (.agg #[.int .i64 2, .int .i64 num, .int .i64 life, .int .i64 peer, .int .i64 0, .int .i64 0, .int .i64 (q : Int), .bool l, .string s]) ∧ Below wr.heap.size wr w') := dataPacket_any A q s l num life peer wr hqb hsz (by omega) m0 m2 m3 r0 r1
      have HOWN : Hid (wr.ownsRow w2.heap.size 54 9 (.slice a4 k c4) k (pks (P.take k))) := hown
      clear r0 r1 m0 m2 m3 hq hown
      go_wp2_with (first
        | (go_at_call 64; refine HDP.out.mono ?_; rintro x w3 ⟨rfl, hb3⟩; (have s3 := hb3.size))
        | (at_builtin; refine wpList_append_own _ rfl _ _ 40 rfl w2.heap.size 54 i0 (.agg #[.int .i64 0, .int .i64 0, .int .i64 0, .int .i64 0, .int .i64 0, .int .i64 0, .int .i64 0, .bool false, .string ⟨#[]⟩]) 9 80 Tryz.underlying40 hi hz0 hz1 hz2 rfl (by decide) _ _ _ rfl ((owns_keep HOWN.out hb3).alloc _) ⟨w3.heap.size, 0, none⟩ 1 1 [.int .i64 2, .int .i64 num, .int .i64 life, .int .i64 peer, .int .i64 0, .int .i64 0, .int .i64 (q : Int), .bool l, .string s] rfl rfl (pk_news _ _ _ _ _ _ _ _ _ _) (pk_one _ _ _ _ _ _ _ _ _) (by unfold maxLen; omega) (by omega) (by simp; omega) ?_; intro v' w4 hown' hgrow _; obtain ⟨ao', c', rfl, _, _, _⟩ := rs_of_owns hown'))
      go_roundw
      case rel => exact ⟨k + 1, ao', c', by omega, by go_num, rfl, by rw [HT.out]; exact hown', ((kb hbel hb3 (Nat.le_refl _)).alloc (by omega) _).grown hgrow (by simp; omega) (fun j hj => (HOWN.out.lt j hj).1)⟩
      case measure => simp [intOf]; omega
    · obtain rfl : k = Q.length := by omega
      rw [← hPl, List.take_length] at hown
      have OA : wr.ownsRow base 114 274 (.slice (some ⟨A, 0, none⟩) 1 1) 1 (cr2 ++ (ds ++ [.int .i64 num, .bool true, .int .i64 life, .int .i64 peer, .int .i64 σ, .bool owes, .int .i64 sb, .slice sao sn sci, .int .i64 tb, .slice tho tn tch, .string to, .slice tso tm tcs])) := owns_keep HOA.out hbel
      have G2 : w.grownBy wr (some A) := ((grow_set w ⟨A, 266, none⟩ (.int .i64 σ)).trans g2).trans (grow_below _ hbel)
      have t4 := self_at OA l3 l2 4 266 rfl (by simp)
      have t5 := self_at OA l3 l2 5 267 rfl (by simp)
      have m0 := self_at OA l3 l2 0 262 rfl (by simp)
      have m2 := self_at OA l3 l2 2 264 rfl (by simp)
      have m3 := self_at OA l3 l2 3 265 rfl (by simp)
      have T0 := (mid_at OA l3 l2 0 242 rfl (by omega)).trans HTN.out.1
      have T17 := (mid_at OA l3 l2 17 259 rfl (by omega)).trans HTN.out.2
      simp only [List.getElem?_cons_succ, List.getElem?_cons_zero] at t4 t5 m0 m2 m3
      have HWP : Hid (Calls Tryz.prog 65 #[.pointer (some ⟨A, 0, none⟩)] wr fun e w' => e = .returned (.agg #[.int .i64 1, .int .i64 num, .int .i64 life, .int .i64 peer, .int .i64 (nx : Int), .int .i64 ((tells nx hs : Nat) : Int), .int .i64 0, .bool false, .string ⟨#[]⟩]) ∧ Below wr.heap.size wr w') := wordPacket_any A nx (bitsOf hs) (tells nx hs) num life peer wr (bitsOf_lt hs) HTE.out.2.2 HTE.out.1 HTE.out.2.1 (by omega) m0 m2 m3 T0 T17
      have HOWN : Hid (wr.ownsRow w2.heap.size 54 9 (.slice a4 Q.length c4) Q.length (pks P)) := (by rw [← hPl]; exact hown : wr.ownsRow w2.heap.size 54 9 (.slice a4 Q.length c4) Q.length (pks P))
      have HOA3 : Hid (wr.ownsRow base 114 274 (.slice (some ⟨A, 0, none⟩) 1 1) 1 (cr2 ++ (ds ++ [.int .i64 num, .bool true, .int .i64 life, .int .i64 peer, .int .i64 σ, .bool owes, .int .i64 sb, .slice sao sn sci, .int .i64 tb, .slice tho tn tch, .string to, .slice tso tm tcs]))) := OA
      have HG2 : Hid (w.grownBy wr (some A)) := G2
      clear m0 m2 m3 T0 T17 hown OA G2
      have hbW : owes = true ∨ 6 ≤ σ → beatP num life peer since owes b xs nx hs = P ++ [wordOf num life peer (nx : Int) (tells nx hs)] ∧ beatS since owes = 0 ∧ beatO since owes = false := fun h => by
        unfold beatP beatS beatO sinceOf
        rw [← HS.out, if_pos h, if_pos h, if_pos h, HP.out, HN.out]
        exact ⟨rfl, rfl, rfl⟩
      have hbN : ¬ (owes = true ∨ 6 ≤ σ) → beatP num life peer since owes b xs nx hs = P ∧ beatS since owes = σ ∧ beatO since owes = owes := fun h => by
        unfold beatP beatS beatO sinceOf
        rw [← HS.out, if_neg h, if_neg h, if_neg h, HP.out, HN.out]
        exact ⟨rfl, rfl, rfl⟩
      have HBW : Hid (owes = true ∨ 6 ≤ σ → beatP num life peer since owes b xs nx hs = P ++ [wordOf num life peer (nx : Int) (tells nx hs)] ∧ beatS since owes = 0 ∧ beatO since owes = false) := hbW
      have HBN : Hid (¬ (owes = true ∨ 6 ≤ σ) → beatP num life peer since owes b xs nx hs = P ∧ beatS since owes = σ ∧ beatO since owes = owes) := hbN
      clear hbW hbN HS HN HP HTE HTN HF HSZ HTK HW1 HOQ
      cases owes with
      | true =>
        have HZ := HBW.out (.inl rfl)
        have HZ2 : Hid _ := HZ
        clear HZ HBW HBN
        go_wp2_with (first
          | (go_at_call 65; refine HWP.out.mono ?_; rintro x w3 ⟨rfl, hb3⟩; (have s3 := hb3.size))
          | (at_builtin; refine wpList_append_own _ rfl _ _ 40 rfl w2.heap.size 54 i0 (.agg #[.int .i64 0, .int .i64 0, .int .i64 0, .int .i64 0, .int .i64 0, .int .i64 0, .int .i64 0, .bool false, .string ⟨#[]⟩]) 9 80 Tryz.underlying40 hi hz0 hz1 hz2 rfl (by decide) _ _ _ rfl ((owns_keep HOWN.out hb3).alloc _) ⟨w3.heap.size, 0, none⟩ 1 1 [.int .i64 1, .int .i64 num, .int .i64 life, .int .i64 peer, .int .i64 (nx : Int), .int .i64 ((tells nx hs : Nat) : Int), .int .i64 0, .bool false, .string ⟨#[]⟩] rfl rfl (pk_news _ _ _ _ _ _ _ _ _ _) (pk_one _ _ _ _ _ _ _ _ _) (by unfold maxLen; omega) (by omega) (by simp; omega) ?_; intro v' w4 hown' hgrow _; obtain ⟨ao', c', rfl, _, _, _⟩ := rs_of_owns hown'; (have oA4 := World.ownsRow.kept ((owns_keep HOA3.out hb3).alloc (.cells #[.int .i64 1, .int .i64 num, .int .i64 life, .int .i64 peer, .int .i64 (nx : Int), .int .i64 ((tells nx hs : Nat) : Int), .int .i64 0, .bool false, .string ⟨#[]⟩] 54)) hgrow (rows_ne6 ((owns_keep HOA3.out hb3).alloc (.cells #[.int .i64 1, .int .i64 num, .int .i64 life, .int .i64 peer, .int .i64 (nx : Int), .int .i64 ((tells nx hs : Nat) : Int), .int .i64 0, .bool false, .string ⟨#[]⟩] 54)) ((owns_keep HOWN.out hb3).alloc (.cells #[.int .i64 1, .int .i64 num, .int .i64 life, .int .i64 peer, .int .i64 (nx : Int), .int .i64 ((tells nx hs : Nat) : Int), .int .i64 0, .bool false, .string ⟨#[]⟩] 54)) (by decide))); (have v4 := self_at oA4 l3 l2 4 266 rfl (by simp)); (have v5 := self_at oA4 l3 l2 5 267 rfl (by simp)); (simp only [List.getElem?_cons_succ, List.getElem?_cons_zero] at v4 v5); (have y4 := oA4.frozenAt 266); (have y5 := oA4.frozenAt 267)))
        go_ret
        rw [HZ2.out.1, HZ2.out.2.1, HZ2.out.2.2]
        have oA5 := (oA4.stored 266 (.int .i64 0)).1
        rw [show (266 : Nat) = 262 + 4 from rfl, set_self cr2 ds _ 4 _ l3 l2] at oA5
        have oA6 := (oA5.stored 267 (.bool false)).1
        rw [show (267 : Nat) = 262 + 5 from rfl, set_self cr2 ds _ 5 _ l3 l2] at oA6
        have nA : (Value.slice ao' (Q.length + 1) c').ownBlock ≠ some A := by
          rcases rows_ne6 hown' oA4 (by decide) with h | h
          · rw [h]; simp
          · simpa [Value.ownBlock] using h
        have p5 := ownsRow_setCell_other (ownsRow_setCell_other hown' (a := ⟨A, 266, none⟩) nA (.int .i64 0)) (a := ⟨A, 267, none⟩) nA (.bool false)
        have hpk : pks (P ++ [wordOf num life peer (nx : Int) (tells nx hs)]) = pks P ++ [.int .i64 1, .int .i64 num, .int .i64 life, .int .i64 peer, .int .i64 (nx : Int), .int .i64 ((tells nx hs : Nat) : Int), .int .i64 0, .bool false, .string ⟨#[]⟩] := by rw [pks_append]; rfl
        have hln : (P ++ [wordOf num life peer (nx : Int) (tells nx hs)]).length = Q.length + 1 := by simp [hPl]
        refine ⟨⟨ao', c', cr2, by rw [hln]; rfl, by rw [hln, hpk]; exact owns_mono3 p5 (by omega), oA6, HH2.out, l3⟩, ?_⟩
        have G3 := (HG2.out.trans (grow_below _ hb3)).trans (World.grownBy_alloc w3 (.cells #[.int .i64 1, .int .i64 num, .int .i64 life, .int .i64 peer, .int .i64 (nx : Int), .int .i64 ((tells nx hs : Nat) : Int), .int .i64 0, .bool false, .string ⟨#[]⟩] 54) _)
        exact ((G3.andThen hgrow (fun j hj => .inl (by have := (HOWN.out.lt j hj).1; omega))).trans (grow_set w4 ⟨A, 266, none⟩ (.int .i64 0))).trans (grow_set _ ⟨A, 267, none⟩ (.bool false))
      | false =>
        by_cases h6 : 6 ≤ σ
        · skip
          have HZ := HBW.out (.inr h6)
          have HZ2 : Hid _ := HZ
          clear HZ HBW HBN
          go_wp2_with (first
            | (go_at_call 65; refine HWP.out.mono ?_; rintro x w3 ⟨rfl, hb3⟩; (have s3 := hb3.size))
            | (at_builtin; refine wpList_append_own _ rfl _ _ 40 rfl w2.heap.size 54 i0 (.agg #[.int .i64 0, .int .i64 0, .int .i64 0, .int .i64 0, .int .i64 0, .int .i64 0, .int .i64 0, .bool false, .string ⟨#[]⟩]) 9 80 Tryz.underlying40 hi hz0 hz1 hz2 rfl (by decide) _ _ _ rfl ((owns_keep HOWN.out hb3).alloc _) ⟨w3.heap.size, 0, none⟩ 1 1 [.int .i64 1, .int .i64 num, .int .i64 life, .int .i64 peer, .int .i64 (nx : Int), .int .i64 ((tells nx hs : Nat) : Int), .int .i64 0, .bool false, .string ⟨#[]⟩] rfl rfl (pk_news _ _ _ _ _ _ _ _ _ _) (pk_one _ _ _ _ _ _ _ _ _) (by unfold maxLen; omega) (by omega) (by simp; omega) ?_; intro v' w4 hown' hgrow _; obtain ⟨ao', c', rfl, _, _, _⟩ := rs_of_owns hown'; (have oA4 := World.ownsRow.kept ((owns_keep HOA3.out hb3).alloc (.cells #[.int .i64 1, .int .i64 num, .int .i64 life, .int .i64 peer, .int .i64 (nx : Int), .int .i64 ((tells nx hs : Nat) : Int), .int .i64 0, .bool false, .string ⟨#[]⟩] 54)) hgrow (rows_ne6 ((owns_keep HOA3.out hb3).alloc (.cells #[.int .i64 1, .int .i64 num, .int .i64 life, .int .i64 peer, .int .i64 (nx : Int), .int .i64 ((tells nx hs : Nat) : Int), .int .i64 0, .bool false, .string ⟨#[]⟩] 54)) ((owns_keep HOWN.out hb3).alloc (.cells #[.int .i64 1, .int .i64 num, .int .i64 life, .int .i64 peer, .int .i64 (nx : Int), .int .i64 ((tells nx hs : Nat) : Int), .int .i64 0, .bool false, .string ⟨#[]⟩] 54)) (by decide))); (have v4 := self_at oA4 l3 l2 4 266 rfl (by simp)); (have v5 := self_at oA4 l3 l2 5 267 rfl (by simp)); (simp only [List.getElem?_cons_succ, List.getElem?_cons_zero] at v4 v5); (have y4 := oA4.frozenAt 266); (have y5 := oA4.frozenAt 267)))
          go_ret
          rw [HZ2.out.1, HZ2.out.2.1, HZ2.out.2.2]
          have oA5 := (oA4.stored 266 (.int .i64 0)).1
          rw [show (266 : Nat) = 262 + 4 from rfl, set_self cr2 ds _ 4 _ l3 l2] at oA5
          have oA6 := (oA5.stored 267 (.bool false)).1
          rw [show (267 : Nat) = 262 + 5 from rfl, set_self cr2 ds _ 5 _ l3 l2] at oA6
          have nA : (Value.slice ao' (Q.length + 1) c').ownBlock ≠ some A := by
            rcases rows_ne6 hown' oA4 (by decide) with h | h
            · rw [h]; simp
            · simpa [Value.ownBlock] using h
          have p5 := ownsRow_setCell_other (ownsRow_setCell_other hown' (a := ⟨A, 266, none⟩) nA (.int .i64 0)) (a := ⟨A, 267, none⟩) nA (.bool false)
          have hpk : pks (P ++ [wordOf num life peer (nx : Int) (tells nx hs)]) = pks P ++ [.int .i64 1, .int .i64 num, .int .i64 life, .int .i64 peer, .int .i64 (nx : Int), .int .i64 ((tells nx hs : Nat) : Int), .int .i64 0, .bool false, .string ⟨#[]⟩] := by rw [pks_append]; rfl
          have hln : (P ++ [wordOf num life peer (nx : Int) (tells nx hs)]).length = Q.length + 1 := by simp [hPl]
          refine ⟨⟨ao', c', cr2, by rw [hln]; rfl, by rw [hln, hpk]; exact owns_mono3 p5 (by omega), oA6, HH2.out, l3⟩, ?_⟩
          have G3 := (HG2.out.trans (grow_below _ hb3)).trans (World.grownBy_alloc w3 (.cells #[.int .i64 1, .int .i64 num, .int .i64 life, .int .i64 peer, .int .i64 (nx : Int), .int .i64 ((tells nx hs : Nat) : Int), .int .i64 0, .bool false, .string ⟨#[]⟩] 54) _)
          exact ((G3.andThen hgrow (fun j hj => .inl (by have := (HOWN.out.lt j hj).1; omega))).trans (grow_set w4 ⟨A, 266, none⟩ (.int .i64 0))).trans (grow_set _ ⟨A, 267, none⟩ (.bool false))
        · have h6' : σ < 6 := by omega
          have HZ := HBN.out (by simp; omega)
          have HZ2 : Hid _ := HZ
          clear HZ HBW HBN HWP
          go_wp2
          go_ret
          rw [HZ2.out.1, HZ2.out.2.1, HZ2.out.2.2]
          exact ⟨⟨a4, c4, by rw [hPl]; rfl, by rw [hPl]; exact owns_mono3 HOWN.out (by omega), cr2, HOA3.out, HH2.out, l3⟩, HG2.out⟩
end Go.Proofs.YtfjedpnagnnobaaGreat.mk
