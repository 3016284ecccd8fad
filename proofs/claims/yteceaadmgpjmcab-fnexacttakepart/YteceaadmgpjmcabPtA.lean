/-
  TAKING A PART: spec.TakePart.
-/
import Derived.Test.YteceaadmgpjmcabRgJ0
import Derived.Test.YteceaadmgpjmcabLiA
namespace Go.Proofs.Yteceaadmgpjmcab.mk
open Go.RowKit
set_option linter.unusedVariables false

theorem held_one0 (n : Int) (s : ByteArray) (l : Bool) : ∀ u ∈ ([.int .i64 n, .string s, .bool l] : List Value), u.oneCell' = true := by
  intro u hu; simp at hu; rcases hu with rfl | rfl | rfl <;> rfl
theorem ins_done (x : Hd) (pre : List Hd) (y : Hd) (h : ∃ z ∈ pre, x.seq < z.seq) : ins x (pre ++ [y]) = ins x pre ++ [y] := by
  induction pre with
  | nil => obtain ⟨z, hz, _⟩ := h; simp at hz
  | cons a bs ih =>
    show ins x (a :: (bs ++ [y])) = ins x (a :: bs) ++ [y]
    unfold ins
    by_cases hx : x.seq < a.seq
    · rw [if_pos hx, if_pos hx]; rfl
    · rw [if_neg hx, if_neg hx, ih (by obtain ⟨z, hz, hq⟩ := h; rcases List.mem_cons.1 hz with e | e; (subst e; exact absurd hq hx); exact ⟨z, e, hq⟩)]; rfl
theorem ins_here (x : Hd) (pre : List Hd) (y : Hd) (h : ∀ z ∈ pre, ¬ x.seq < z.seq) (hy : x.seq < y.seq) : ins x (pre ++ [y]) = (pre ++ [x]) ++ [y] := by
  induction pre with
  | nil => show ins x [y] = _; unfold ins; rw [if_pos hy]; rfl
  | cons a bs ih =>
    show ins x (a :: (bs ++ [y])) = _
    unfold ins
    rw [if_neg (h a (by simp)), ih (fun z hz => h z (by simp [hz]))]; rfl
theorem ins_end (x : Hd) (pre : List Hd) (h : ∀ z ∈ pre, ¬ x.seq < z.seq) : ins x pre = pre ++ [x] := by
  induction pre with
  | nil => rfl
  | cons a bs ih => unfold ins; rw [if_neg (h a (by simp)), ih (fun z hz => h z (by simp [hz]))]; rfl
theorem take_snoc7 (xs : List Hd) (k : Nat) (h : k < xs.length) : xs.take (k + 1) = xs.take k ++ [xs[k]] := by
  rw [List.take_add_one, List.getElem?_eq_getElem h]; rfl
theorem hs_snoc (xs : List Hd) (y : Hd) : hs (xs ++ [y]) = hs xs ++ [.int .i64 y.seq, .string y.text, .bool y.last] := by rw [hs_append]; rfl
theorem three_cell {W : World} {H j : Nat} {t : TypeId} {a b c u : Value} (hH : W.heap.size = H) (hj : ([a, b, c] : List Value)[j]? = some u) : (W.alloc (.cells #[a, b, c] t)).cell? ((⟨H, 0, none⟩ : Addr).add j) = some u := by
  subst hH
  have ea : (⟨W.heap.size, 0, none⟩ : Addr).add j = ⟨W.heap.size, j, none⟩ := by unfold Addr.add; split <;> simp_all
  rw [ea]
  match j, hj with
  | 0, hj => simp at hj; subst hj; simp [go_sem]
  | 1, hj => simp at hj; subst hj; simp [go_sem]
  | 2, hj => simp at hj; subst hj; simp [go_sem]
  | j + 3, hj => simp at hj
/-- the list in the making: k of the parts have been looked at, d: the new one has its place -/
def putUp (x : Hd) (xs : List Hd) (k : Nat) (d : Bool) : List Hd := if d then ins x (xs.take k) else xs.take k
structure Pu (x : Hd) (xs : List Hd) (k : Nat) (d : Bool) : Prop where
  le : k ≤ xs.length
  ne : ∀ z ∈ xs.take k, z.seq ≠ x.seq
  yes : d = true → ∃ z ∈ xs.take k, x.seq < z.seq
  no : d = false → ∀ z ∈ xs.take k, ¬ x.seq < z.seq
theorem Pu.len {x : Hd} {xs : List Hd} {k : Nat} {d : Bool} (h : Pu x xs k d) : (putUp x xs k d).length ≤ xs.length + 1 := by
  have := h.le
  unfold putUp
  split
  · rw [ins_length, List.length_take]; omega
  · rw [List.length_take]; omega
theorem Pu.step_done {x : Hd} {xs : List Hd} {k : Nat} (h : Pu x xs k true) (hk : k < xs.length) (hne : xs[k].seq ≠ x.seq) : Pu x xs (k + 1) true ∧ putUp x xs (k + 1) true = putUp x xs k true ++ [xs[k]] := by
  have e := take_snoc7 xs k hk
  obtain ⟨z, hz, hq⟩ := h.yes rfl
  refine ⟨⟨hk, ?_, fun _ => ⟨z, (by rw [e]; exact List.mem_append_left _ hz), hq⟩, fun h => (by cases h)⟩, ?_⟩
  · rw [e]; intro z hz; rcases List.mem_append.1 hz with q | q
    · exact h.ne z q
    · rw [List.mem_singleton] at q; rw [q]; exact hne
  · show ins x (xs.take (k + 1)) = ins x (xs.take k) ++ [xs[k]]
    rw [e]; exact ins_done x _ _ ⟨z, hz, hq⟩
theorem Pu.step_here {x : Hd} {xs : List Hd} {k : Nat} (h : Pu x xs k false) (hk : k < xs.length) (hne : x.seq < xs[k].seq) : Pu x xs (k + 1) true ∧ putUp x xs (k + 1) true = (putUp x xs k false ++ [x]) ++ [xs[k]] := by
  have e := take_snoc7 xs k hk
  refine ⟨⟨hk, ?_, fun _ => ⟨xs[k], (by rw [e]; exact List.mem_append_right _ (by simp)), hne⟩, fun h => (by cases h)⟩, ?_⟩
  · rw [e]; intro z hz; rcases List.mem_append.1 hz with q | q
    · exact h.ne z q
    · rw [List.mem_singleton] at q; rw [q]; omega
  · show ins x (xs.take (k + 1)) = (xs.take k ++ [x]) ++ [xs[k]]
    rw [e]; exact ins_here x _ _ (h.no rfl) hne
theorem Pu.step_not {x : Hd} {xs : List Hd} {k : Nat} (h : Pu x xs k false) (hk : k < xs.length) (hne : xs[k].seq < x.seq) : Pu x xs (k + 1) false ∧ putUp x xs (k + 1) false = putUp x xs k false ++ [xs[k]] := by
  have e := take_snoc7 xs k hk
  refine ⟨⟨hk, ?_, fun h => (by cases h), fun _ => ?_⟩, e⟩
  · rw [e]; intro z hz; rcases List.mem_append.1 hz with q | q
    · exact h.ne z q
    · rw [List.mem_singleton] at q; rw [q]; omega
  · rw [e]; intro z hz; rcases List.mem_append.1 hz with q | q
    · exact h.no rfl z q
    · rw [List.mem_singleton] at q; rw [q]; omega
set_option maxHeartbeats 1000000 in
theorem specPart_no (nx : Int) (ao so : Option Addr) (ca cs : Nat) (xs : List Hd) (o : ByteArray) (rs : List ByteArray) (q : Int) (s : ByteArray) (l : Bool) (w : World) (hn : xs.length ≤ 1048576) (ht : ∀ i (h : i < xs.length), xs[i].text.size ≤ 1048576) (ho : o.size ≤ 1048576) (hk : rs.length ≤ 1048576) (hz : ∀ i (h : i < rs.length), rs[i].size ≤ 1048576) (hsz : s.size ≤ 1048576) (hr : Rt w ao so xs rs) (hn1 : ao = none → xs.length = 0 ∧ ca = 0) (hn2 : so = none → rs.length = 0 ∧ cs = 0) (hv : tkOk nx xs o rs = false) :
    Calls Try.prog 6 #[.agg #[.int .i64 nx, .slice ao xs.length ca, .string o, .slice so rs.length cs], .int .i64 q, .agg #[.string s, .bool l]] w fun e w' => TakePost w (partOf nx xs o rs q s l) e w' := by
  have HC : Hid (∀ u : World, Rt u ao so xs rs → Calls Try.prog 15 #[.agg #[.int .i64 nx, .slice ao xs.length ca, .string o, .slice so rs.length cs]] u fun e w' => e = .returned (.bool false) ∧ Below u.heap.size u w') := fun u h => by have := specValidTake_any nx ao so ca cs xs o rs u hn ht ho hk hz h; rw [hv] at this; exact this
  have B0 : Hid (Below w.heap.size w (((w.alloc (.cells #[.int .i64 nx, .slice ao xs.length ca, .string o, .slice so rs.length cs] 32)).alloc (.cells #[.string s, .bool l] 35)).alloc (.cells #[.int .i64 0, .slice none 0 0, .string ⟨#[]⟩, .slice none 0 0] 32))) := three_below w _ _ _
  have R0 : Hid (Rt (((w.alloc (.cells #[.int .i64 nx, .slice ao xs.length ca, .string o, .slice so rs.length cs] 32)).alloc (.cells #[.string s, .bool l] 35)).alloc (.cells #[.int .i64 0, .slice none 0 0, .string ⟨#[]⟩, .slice none 0 0] 32)) ao so xs rs) := hr.keep B0.out
  have X0 : Hid (Bx (((w.alloc (.cells #[.int .i64 nx, .slice ao xs.length ca, .string o, .slice so rs.length cs] 32)).alloc (.cells #[.string s, .bool l] 35)).alloc (.cells #[.int .i64 0, .slice none 0 0, .string ⟨#[]⟩, .slice none 0 0] 32)) (w.heap.size + 1 + 1) 32 #[.int .i64 0, .slice none 0 0, .string ⟨#[]⟩, .slice none 0 0]) := (by have := Bx.new ((w.alloc (.cells #[.int .i64 nx, .slice ao xs.length ca, .string o, .slice so rs.length cs] 32)).alloc (.cells #[.string s, .bool l] 35)) 32 #[.int .i64 0, .slice none 0 0, .string ⟨#[]⟩, .slice none 0 0]; rw [World.size_alloc, World.size_alloc] at this; exact this : Bx (((w.alloc (.cells #[.int .i64 nx, .slice ao xs.length ca, .string o, .slice so rs.length cs] 32)).alloc (.cells #[.string s, .bool l] 35)).alloc (.cells #[.int .i64 0, .slice none 0 0, .string ⟨#[]⟩, .slice none 0 0] 32)) (w.heap.size + 1 + 1) 32 #[.int .i64 0, .slice none 0 0, .string ⟨#[]⟩, .slice none 0 0])
  have T0 : Hid (partOf nx xs o rs q s l = (0, [], ⟨#[]⟩, [])) := partOf_no hv
  clear ht hz hr hv hn1 hn2
  go_enter Try.func6, Try.ntmps6
  go_wp2_with (go_at_call 15; refine (HC.out _ R0.out).mono ?_; rintro e w1 ⟨rfl, hb1⟩; (have ZV := X0.out.keep hb1); (have z0 := ZV.cell 0); (have z1 := ZV.cell 1); (have z2 := ZV.cell 2); (have z3 := ZV.cell 3); simp at z0 z1 z2 z3; (have f0 := ZV.frozen 0); (have f1 := ZV.frozen 1); (have f2 := ZV.frozen 2); (have f3 := ZV.frozen 3))
  have B1 := kb B0.out hb1 (Nat.le_refl _)
  refine bodyPost_ret (v := .agg #[.int .i64 0, .slice none 0 0, .string ⟨#[]⟩, .slice none 0 0]) (by simp [results, Try.results6, go_sem, z0, z1, z2, z3]) rfl ?_
  unfold TakePost
  rw [T0.out]
  exact ⟨⟨_, _, rfl, World.ownsRow_nil _ _ _ _, World.ownsRow_nil _ _ _ _⟩, ((((B1.setCell (p := ⟨w.heap.size + 1 + 1, 0, none⟩) (by show w.heap.size ≤ w.heap.size + 1 + 1; omega) _).setCell (p := ⟨w.heap.size + 1 + 1, 1, none⟩) (by show w.heap.size ≤ w.heap.size + 1 + 1; omega) _).setCell (p := ⟨w.heap.size + 1 + 1, 2, none⟩) (by show w.heap.size ≤ w.heap.size + 1 + 1; omega) _).setCell (p := ⟨w.heap.size + 1 + 1, 3, none⟩) (by show w.heap.size ≤ w.heap.size + 1 + 1; omega) _)⟩
theorem bx_below {base : Nat} {u u' : World} {B : Nat} {t : TypeId} {cs : Array Value} (h : Bx u B t cs) (hb : Below base u u') (hlt : B < base) : Bx u' B t cs := (hb.block B hlt).trans h
theorem ins_small {nx : Nat} {xs : List Hd} {q : Int} {s : ByteArray} {l : Bool} (h : ∀ i (h : i < xs.length), xs[i].seq < 1000000 ∧ xs[i].text.size ≤ 20) (hp : Puts nx xs q s) (i : Nat) (hi : i < (ins ⟨q, s, l⟩ xs).length) : (ins ⟨q, s, l⟩ xs)[i].seq < 1000000 ∧ (ins ⟨q, s, l⟩ xs)[i].text.size ≤ 20 := by
  rcases (mem_ins _ _ _).1 (List.getElem_mem hi) with e | e
  · rw [e]; exact ⟨hp.1.2.2, hp.2.1⟩
  · obtain ⟨j, hj, e2⟩ := List.getElem_of_mem e
    rw [← e2]; exact h j hj
set_option maxRecDepth 100000 in
set_option maxHeartbeats 4000000 in
theorem specPart_yes (nx : Nat) (ao so : Option Addr) (ca cs : Nat) (xs : List Hd) (o : ByteArray) (rs : List ByteArray) (q : Int) (s : ByteArray) (l : Bool) (w : World) (hn : xs.length ≤ 1048576) (ht : ∀ i (h : i < xs.length), xs[i].text.size ≤ 1048576) (ho : o.size ≤ 1048576) (hk : rs.length ≤ 1048576) (hz : ∀ i (h : i < rs.length), rs[i].size ≤ 1048576) (hsz : s.size ≤ 1048576) (hr : Rt w ao so xs rs) (hn1 : ao = none → xs.length = 0 ∧ ca = 0) (hn2 : so = none → rs.length = 0 ∧ cs = 0) (hv : tkOk (nx : Int) xs o rs = true) :
    Calls Try.prog 6 #[.agg #[.int .i64 (nx : Int), .slice ao xs.length ca, .string o, .slice so rs.length cs], .int .i64 q, .agg #[.string s, .bool l]] w fun e w' => TakePost w (partOf (nx : Int) xs o rs q s l) e w' := by
  have hok := tkOk_of hv
  have hlen := hok.len
  have hhd := hok.1
  unfold TkHd at hhd
  have HSM : Hid (∀ i (h : i < xs.length), xs[i].seq < 1000000 ∧ xs[i].text.size ≤ 20) := fun i h => ⟨(hok.2.2 i h).2.2.1, (hok.2.2 i h).2.2.2.1⟩
  have HST : Hid (tin xs nx o rs = (nx, xs, o, rs)) := tin_stop (fun h0 e => (hok.2.2 0 h0).2.2.2.2 e)
  have HC : Hid (∀ u : World, Rt u ao so xs rs → Calls Try.prog 15 #[.agg #[.int .i64 (nx : Int), .slice ao xs.length ca, .string o, .slice so rs.length cs]] u fun e w' => e = .returned (.bool true) ∧ Below u.heap.size u w') := fun u h => by have := specValidTake_any (nx : Int) ao so ca cs xs o rs u hn ht ho hk hz h; rw [hv] at this; exact this
  have HP : Hid (∀ u : World, Rt u ao so xs rs → Calls Try.prog 16 #[.agg #[.int .i64 (nx : Int), .slice ao xs.length ca, .string o, .slice so rs.length cs]] u fun e w' => (∃ hv rv, e = .returned (.agg #[.int .i64 (nx : Int), hv, .string o, rv]) ∧ w'.ownsRow u.heap.size 46 3 hv xs.length (hs xs) ∧ w'.ownsRow u.heap.size 9 1 rv rs.length (ss rs)) ∧ Below u.heap.size u w') := fun u h => tcopy_any (nx : Int) ao so ca cs xs o rs u hn hk h hn1 hn2
  obtain ⟨D, hD⟩ : ∃ D, D = decide (NearIn (nx : Int) q) := ⟨_, rfl⟩
  have HN : Hid (∀ u : World, Calls Try.prog 17 #[.agg #[.int .i64 (nx : Int), .slice ao xs.length ca, .string o, .slice so rs.length cs], .int .i64 q] u fun e w' => e = .returned (.bool D) ∧ Below u.heap.size u w') := fun u => by rw [hD]; exact l5Near_any (nx : Int) ao so xs.length ca rs.length cs o q u (by omega) (by omega)
  have HD : Hid (D = decide (NearIn (nx : Int) q)) := hD
  have B0 : Hid (Below w.heap.size w (((w.alloc (.cells #[.int .i64 (nx : Int), .slice ao xs.length ca, .string o, .slice so rs.length cs] 32)).alloc (.cells #[.string s, .bool l] 35)).alloc (.cells #[.int .i64 0, .slice none 0 0, .string ⟨#[]⟩, .slice none 0 0] 32))) := three_below w _ _ _
  have R0 : Hid (Rt (((w.alloc (.cells #[.int .i64 (nx : Int), .slice ao xs.length ca, .string o, .slice so rs.length cs] 32)).alloc (.cells #[.string s, .bool l] 35)).alloc (.cells #[.int .i64 0, .slice none 0 0, .string ⟨#[]⟩, .slice none 0 0] 32)) ao so xs rs) := hr.keep B0.out
  have A0 : Hid (Bx (((w.alloc (.cells #[.int .i64 (nx : Int), .slice ao xs.length ca, .string o, .slice so rs.length cs] 32)).alloc (.cells #[.string s, .bool l] 35)).alloc (.cells #[.int .i64 0, .slice none 0 0, .string ⟨#[]⟩, .slice none 0 0] 32)) w.heap.size 32 #[.int .i64 (nx : Int), .slice ao xs.length ca, .string o, .slice so rs.length cs]) := ((Bx.new w _ _).alloc _).alloc _
  have P0 : Hid (Bx (((w.alloc (.cells #[.int .i64 (nx : Int), .slice ao xs.length ca, .string o, .slice so rs.length cs] 32)).alloc (.cells #[.string s, .bool l] 35)).alloc (.cells #[.int .i64 0, .slice none 0 0, .string ⟨#[]⟩, .slice none 0 0] 32)) (w.heap.size + 1) 35 #[.string s, .bool l]) := (by have := (Bx.new (w.alloc (.cells #[.int .i64 (nx : Int), .slice ao xs.length ca, .string o, .slice so rs.length cs] 32)) 35 #[.string s, .bool l]).alloc (.cells #[.int .i64 0, .slice none 0 0, .string ⟨#[]⟩, .slice none 0 0] 32); rw [World.size_alloc] at this; exact this : Bx (((w.alloc (.cells #[.int .i64 (nx : Int), .slice ao xs.length ca, .string o, .slice so rs.length cs] 32)).alloc (.cells #[.string s, .bool l] 35)).alloc (.cells #[.int .i64 0, .slice none 0 0, .string ⟨#[]⟩, .slice none 0 0] 32)) (w.heap.size + 1) 35 #[.string s, .bool l])
  have X0 : Hid (Bx (((w.alloc (.cells #[.int .i64 (nx : Int), .slice ao xs.length ca, .string o, .slice so rs.length cs] 32)).alloc (.cells #[.string s, .bool l] 35)).alloc (.cells #[.int .i64 0, .slice none 0 0, .string ⟨#[]⟩, .slice none 0 0] 32)) (w.heap.size + 1 + 1) 32 #[.int .i64 0, .slice none 0 0, .string ⟨#[]⟩, .slice none 0 0]) := (by have := Bx.new ((w.alloc (.cells #[.int .i64 (nx : Int), .slice ao xs.length ca, .string o, .slice so rs.length cs] 32)).alloc (.cells #[.string s, .bool l] 35)) 32 #[.int .i64 0, .slice none 0 0, .string ⟨#[]⟩, .slice none 0 0]; rw [World.size_alloc, World.size_alloc] at this; exact this : Bx (((w.alloc (.cells #[.int .i64 (nx : Int), .slice ao xs.length ca, .string o, .slice so rs.length cs] 32)).alloc (.cells #[.string s, .bool l] 35)).alloc (.cells #[.int .i64 0, .slice none 0 0, .string ⟨#[]⟩, .slice none 0 0] 32)) (w.heap.size + 1 + 1) 32 #[.int .i64 0, .slice none 0 0, .string ⟨#[]⟩, .slice none 0 0])
  have T0 : Hid (partOf (nx : Int) xs o rs q s l = tin (heldBy nx xs q s l) nx o rs) := partOf_yes hv
  have TN : Hid (¬ Puts nx xs q s → partOf (nx : Int) xs o rs q s l = (nx, xs, o, rs)) := fun h => by rw [T0.out, heldBy_no h, HST.out]
  clear ht hz hr hv hok hD hn1 hn2
  have CP : Hid (∀ u, Below (((w.alloc (.cells #[.int .i64 (nx : Int), .slice ao xs.length ca, .string o, .slice so rs.length cs] 32)).alloc (.cells #[.string s, .bool l] 35)).alloc (.cells #[.int .i64 0, .slice none 0 0, .string ⟨#[]⟩, .slice none 0 0] 32)).heap.size (((w.alloc (.cells #[.int .i64 (nx : Int), .slice ao xs.length ca, .string o, .slice so rs.length cs] 32)).alloc (.cells #[.string s, .bool l] 35)).alloc (.cells #[.int .i64 0, .slice none 0 0, .string ⟨#[]⟩, .slice none 0 0] 32)) u → Bx u w.heap.size 32 #[.int .i64 (nx : Int), .slice ao xs.length ca, .string o, .slice so rs.length cs] ∧ Bx u (w.heap.size + 1) 35 #[.string s, .bool l] ∧ Bx u (w.heap.size + 1 + 1) 32 #[.int .i64 0, .slice none 0 0, .string ⟨#[]⟩, .slice none 0 0]) := fun u h => ⟨A0.out.keep h, P0.out.keep h, X0.out.keep h⟩
  cases D with
  | false =>
    go_enter Try.func6, Try.ntmps6
    go_wp2_with (first
      | (go_at_call 15; refine (HC.out _ R0.out).mono ?_; rintro e w1 ⟨rfl, hb1⟩; (obtain ⟨a1, pp1, xx1⟩ := CP.out _ hb1); (have d0 := a1.cell 0); (have d1 := a1.cell 1); (have d2 := a1.cell 2); (have d3 := a1.cell 3); simp at d0 d1 d2 d3)
      | (go_at_call 16; refine (HP.out _ (R0.out.keep hb1)).mono ?_; rintro e w2 ⟨⟨hv2, rv2, rfl, h2, r2⟩, hb2⟩; (obtain ⟨a2, c2, rfl, -, -, -⟩ := rs_of_owns h2); (obtain ⟨b2, e2, rfl, -, -, -⟩ := rs_of_owns r2); clear d0 d1 d2 d3; (have A2 := a1.keep hb2); (have lt2 := A2.lt); (have d0 := A2.cell 0); (have d1 := A2.cell 1); (have d2 := A2.cell 2); (have d3 := A2.cell 3); simp at d0 d1 d2 d3)
      | (go_at_call 17; refine (HN.out _).mono ?_; rintro e w3 ⟨rfl, hb3⟩; clear d0 d1 d2 d3; (have A3 := (A2.alloc (.cells #[.int .i64 (nx : Int), .slice a2 xs.length c2, .string o, .slice b2 rs.length e2] 32)).keep hb3); (have d0 := A3.cell 0); (have d1 := A3.cell 1); (have d2 := A3.cell 2); (have d3 := A3.cell 3); simp at d0 d1 d2 d3; (have P3 := ((pp1.keep hb2).alloc (.cells #[.int .i64 (nx : Int), .slice a2 xs.length c2, .string o, .slice b2 rs.length e2] 32)).keep hb3); (have p0 := P3.cell 0); (have p1 := P3.cell 1); simp at p0 p1; (have X3 := ((xx1.keep hb2).alloc (.cells #[.int .i64 (nx : Int), .slice a2 xs.length c2, .string o, .slice b2 rs.length e2] 32)).keep hb3); (have z0 := X3.cell 0); (have z1 := X3.cell 1); (have z2 := X3.cell 2); (have z3 := X3.cell 3); simp at z0 z1 z2 z3; (have f0 := X3.frozen 0); (have f1 := X3.frozen 1); (have f2 := X3.frozen 2); (have f3 := X3.frozen 3); (have O3 := (Bx.new w2 32 #[.int .i64 (nx : Int), .slice a2 xs.length c2, .string o, .slice b2 rs.length e2]).keep hb3); (have o0 := O3.cell 0); (have o1 := O3.cell 1); (have o2 := O3.cell 2); (have o3 := O3.cell 3); simp at o0 o1 o2 o3; (have g0 := O3.frozen 0); (have g1 := O3.frozen 1); (have g2 := O3.frozen 2); (have g3 := O3.frozen 3))
      | fail)
    have B2 := kb (kb B0.out hb1 (Nat.le_refl _)) hb2 (Nat.le_refl _)
    have B2a := B2.alloc B2.size (.cells #[.int .i64 (nx : Int), .slice a2 xs.length c2, .string o, .slice b2 rs.length e2] 32)
    have B3 := kb B2a hb3 (Nat.le_refl _)
    have RH := owns_keep (h2.alloc (.cells #[.int .i64 (nx : Int), .slice a2 xs.length c2, .string o, .slice b2 rs.length e2] 32)) hb3
    have RR := owns_keep (r2.alloc (.cells #[.int .i64 (nx : Int), .slice a2 xs.length c2, .string o, .slice b2 rs.length e2] 32)) hb3
    have hW1 : Hid (w.heap.size ≤ w1.heap.size) := (kb B0.out hb1 (Nat.le_refl _)).size
    have ZV := X3
    have nh := ZV.ne (by decide) RH
    have nr := ZV.ne (by decide) RR
    have P1 := (ownsRow_setCell_other (ownsRow_setCell_other (ownsRow_setCell_other (ownsRow_setCell_other RH (a := ⟨w.heap.size + 1 + 1, 0, none⟩) (Ne.symm nh) (.int .i64 (nx : Int))) (a := ⟨w.heap.size + 1 + 1, 1, none⟩) (Ne.symm nh) (.slice a2 xs.length c2)) (a := ⟨w.heap.size + 1 + 1, 2, none⟩) (Ne.symm nh) (.string o)) (a := ⟨w.heap.size + 1 + 1, 3, none⟩) (Ne.symm nh) (.slice b2 rs.length e2))
    have P2 := (ownsRow_setCell_other (ownsRow_setCell_other (ownsRow_setCell_other (ownsRow_setCell_other RR (a := ⟨w.heap.size + 1 + 1, 0, none⟩) (Ne.symm nr) (.int .i64 (nx : Int))) (a := ⟨w.heap.size + 1 + 1, 1, none⟩) (Ne.symm nr) (.slice a2 xs.length c2)) (a := ⟨w.heap.size + 1 + 1, 2, none⟩) (Ne.symm nr) (.string o)) (a := ⟨w.heap.size + 1 + 1, 3, none⟩) (Ne.symm nr) (.slice b2 rs.length e2))
    refine bodyPost_ret (v := .agg #[.int .i64 (nx : Int), .slice a2 xs.length c2, .string o, .slice b2 rs.length e2]) (by simp [results, Try.results6, go_sem, z0, z1, z2, z3]) rfl ?_
    unfold TakePost
    rw [TN.out (fun h => by have := HD.out; rw [decide_eq_true h.1] at this; cases this)]
    exact ⟨⟨_, _, rfl, owns_mono3 P1 hW1.out, owns_mono3 P2 hW1.out⟩, ((((B3.setCell (p := ⟨w.heap.size + 1 + 1, 0, none⟩) (by show w.heap.size ≤ w.heap.size + 1 + 1; omega) (.int .i64 (nx : Int))).setCell (p := ⟨w.heap.size + 1 + 1, 1, none⟩) (by show w.heap.size ≤ w.heap.size + 1 + 1; omega) (.slice a2 xs.length c2)).setCell (p := ⟨w.heap.size + 1 + 1, 2, none⟩) (by show w.heap.size ≤ w.heap.size + 1 + 1; omega) (.string o)).setCell (p := ⟨w.heap.size + 1 + 1, 3, none⟩) (by show w.heap.size ≤ w.heap.size + 1 + 1; omega) (.slice b2 rs.length e2))⟩
  | true =>
    by_cases hbig : 20 < s.size
    · skip
      go_enter Try.func6, Try.ntmps6
      go_wp2_with (first
        | (go_at_call 15; refine (HC.out _ R0.out).mono ?_; rintro e w1 ⟨rfl, hb1⟩; (obtain ⟨a1, pp1, xx1⟩ := CP.out _ hb1); (have d0 := a1.cell 0); (have d1 := a1.cell 1); (have d2 := a1.cell 2); (have d3 := a1.cell 3); simp at d0 d1 d2 d3)
        | (go_at_call 16; refine (HP.out _ (R0.out.keep hb1)).mono ?_; rintro e w2 ⟨⟨hv2, rv2, rfl, h2, r2⟩, hb2⟩; (obtain ⟨a2, c2, rfl, -, -, -⟩ := rs_of_owns h2); (obtain ⟨b2, e2, rfl, -, -, -⟩ := rs_of_owns r2); clear d0 d1 d2 d3; (have A2 := a1.keep hb2); (have lt2 := A2.lt); (have d0 := A2.cell 0); (have d1 := A2.cell 1); (have d2 := A2.cell 2); (have d3 := A2.cell 3); simp at d0 d1 d2 d3)
        | (go_at_call 17; refine (HN.out _).mono ?_; rintro e w3 ⟨rfl, hb3⟩; clear d0 d1 d2 d3; (have A3 := (A2.alloc (.cells #[.int .i64 (nx : Int), .slice a2 xs.length c2, .string o, .slice b2 rs.length e2] 32)).keep hb3); (have d0 := A3.cell 0); (have d1 := A3.cell 1); (have d2 := A3.cell 2); (have d3 := A3.cell 3); simp at d0 d1 d2 d3; (have P3 := ((pp1.keep hb2).alloc (.cells #[.int .i64 (nx : Int), .slice a2 xs.length c2, .string o, .slice b2 rs.length e2] 32)).keep hb3); (have p0 := P3.cell 0); (have p1 := P3.cell 1); simp at p0 p1; (have X3 := ((xx1.keep hb2).alloc (.cells #[.int .i64 (nx : Int), .slice a2 xs.length c2, .string o, .slice b2 rs.length e2] 32)).keep hb3); (have z0 := X3.cell 0); (have z1 := X3.cell 1); (have z2 := X3.cell 2); (have z3 := X3.cell 3); simp at z0 z1 z2 z3; (have f0 := X3.frozen 0); (have f1 := X3.frozen 1); (have f2 := X3.frozen 2); (have f3 := X3.frozen 3); (have O3 := (Bx.new w2 32 #[.int .i64 (nx : Int), .slice a2 xs.length c2, .string o, .slice b2 rs.length e2]).keep hb3); (have o0 := O3.cell 0); (have o1 := O3.cell 1); (have o2 := O3.cell 2); (have o3 := O3.cell 3); simp at o0 o1 o2 o3; (have g0 := O3.frozen 0); (have g1 := O3.frozen 1); (have g2 := O3.frozen 2); (have g3 := O3.frozen 3))
        | fail)
      have B2 := kb (kb B0.out hb1 (Nat.le_refl _)) hb2 (Nat.le_refl _)
      have B2a := B2.alloc B2.size (.cells #[.int .i64 (nx : Int), .slice a2 xs.length c2, .string o, .slice b2 rs.length e2] 32)
      have B3 := kb B2a hb3 (Nat.le_refl _)
      have RH := owns_keep (h2.alloc (.cells #[.int .i64 (nx : Int), .slice a2 xs.length c2, .string o, .slice b2 rs.length e2] 32)) hb3
      have RR := owns_keep (r2.alloc (.cells #[.int .i64 (nx : Int), .slice a2 xs.length c2, .string o, .slice b2 rs.length e2] 32)) hb3
      have hW1 : Hid (w.heap.size ≤ w1.heap.size) := (kb B0.out hb1 (Nat.le_refl _)).size
      have ZV := X3
      have nh := ZV.ne (by decide) RH
      have nr := ZV.ne (by decide) RR
      have P1 := (ownsRow_setCell_other (ownsRow_setCell_other (ownsRow_setCell_other (ownsRow_setCell_other RH (a := ⟨w.heap.size + 1 + 1, 0, none⟩) (Ne.symm nh) (.int .i64 (nx : Int))) (a := ⟨w.heap.size + 1 + 1, 1, none⟩) (Ne.symm nh) (.slice a2 xs.length c2)) (a := ⟨w.heap.size + 1 + 1, 2, none⟩) (Ne.symm nh) (.string o)) (a := ⟨w.heap.size + 1 + 1, 3, none⟩) (Ne.symm nh) (.slice b2 rs.length e2))
      have P2 := (ownsRow_setCell_other (ownsRow_setCell_other (ownsRow_setCell_other (ownsRow_setCell_other RR (a := ⟨w.heap.size + 1 + 1, 0, none⟩) (Ne.symm nr) (.int .i64 (nx : Int))) (a := ⟨w.heap.size + 1 + 1, 1, none⟩) (Ne.symm nr) (.slice a2 xs.length c2)) (a := ⟨w.heap.size + 1 + 1, 2, none⟩) (Ne.symm nr) (.string o)) (a := ⟨w.heap.size + 1 + 1, 3, none⟩) (Ne.symm nr) (.slice b2 rs.length e2))
      refine bodyPost_ret (v := .agg #[.int .i64 (nx : Int), .slice a2 xs.length c2, .string o, .slice b2 rs.length e2]) (by simp [results, Try.results6, go_sem, z0, z1, z2, z3]) rfl ?_
      unfold TakePost
      rw [TN.out (fun h => by have := h.2.1; omega)]
      exact ⟨⟨_, _, rfl, owns_mono3 P1 hW1.out, owns_mono3 P2 hW1.out⟩, ((((B3.setCell (p := ⟨w.heap.size + 1 + 1, 0, none⟩) (by show w.heap.size ≤ w.heap.size + 1 + 1; omega) (.int .i64 (nx : Int))).setCell (p := ⟨w.heap.size + 1 + 1, 1, none⟩) (by show w.heap.size ≤ w.heap.size + 1 + 1; omega) (.slice a2 xs.length c2)).setCell (p := ⟨w.heap.size + 1 + 1, 2, none⟩) (by show w.heap.size ≤ w.heap.size + 1 + 1; omega) (.string o)).setCell (p := ⟨w.heap.size + 1 + 1, 3, none⟩) (by show w.heap.size ≤ w.heap.size + 1 + 1; omega) (.slice b2 rs.length e2))⟩
    · skip
      go_enter Try.func6, Try.ntmps6
      go_wp2_with (first
        | (go_at_call 15; refine (HC.out _ R0.out).mono ?_; rintro e w1 ⟨rfl, hb1⟩; (obtain ⟨a1, pp1, xx1⟩ := CP.out _ hb1); (have d0 := a1.cell 0); (have d1 := a1.cell 1); (have d2 := a1.cell 2); (have d3 := a1.cell 3); simp at d0 d1 d2 d3)
        | (go_at_call 16; refine (HP.out _ (R0.out.keep hb1)).mono ?_; rintro e w2 ⟨⟨hv2, rv2, rfl, h2, r2⟩, hb2⟩; (obtain ⟨a2, c2, rfl, -, -, -⟩ := rs_of_owns h2); (obtain ⟨b2, e2, rfl, -, -, -⟩ := rs_of_owns r2); clear d0 d1 d2 d3; (have A2 := a1.keep hb2); (have lt2 := A2.lt); (have d0 := A2.cell 0); (have d1 := A2.cell 1); (have d2 := A2.cell 2); (have d3 := A2.cell 3); simp at d0 d1 d2 d3)
        | (go_at_call 17; refine (HN.out _).mono ?_; rintro e w3 ⟨rfl, hb3⟩; clear d0 d1 d2 d3; (have A3 := (A2.alloc (.cells #[.int .i64 (nx : Int), .slice a2 xs.length c2, .string o, .slice b2 rs.length e2] 32)).keep hb3); (have d0 := A3.cell 0); (have d1 := A3.cell 1); (have d2 := A3.cell 2); (have d3 := A3.cell 3); simp at d0 d1 d2 d3; (have P3 := ((pp1.keep hb2).alloc (.cells #[.int .i64 (nx : Int), .slice a2 xs.length c2, .string o, .slice b2 rs.length e2] 32)).keep hb3); (have p0 := P3.cell 0); (have p1 := P3.cell 1); simp at p0 p1; (have X3 := ((xx1.keep hb2).alloc (.cells #[.int .i64 (nx : Int), .slice a2 xs.length c2, .string o, .slice b2 rs.length e2] 32)).keep hb3); (have z0 := X3.cell 0); (have z1 := X3.cell 1); (have z2 := X3.cell 2); (have z3 := X3.cell 3); simp at z0 z1 z2 z3; (have f0 := X3.frozen 0); (have f1 := X3.frozen 1); (have f2 := X3.frozen 2); (have f3 := X3.frozen 3); (have O3 := (Bx.new w2 32 #[.int .i64 (nx : Int), .slice a2 xs.length c2, .string o, .slice b2 rs.length e2]).keep hb3); (have o0 := O3.cell 0); (have o1 := O3.cell 1); (have o2 := O3.cell 2); (have o3 := O3.cell 3); simp at o0 o1 o2 o3; (have g0 := O3.frozen 0); (have g1 := O3.frozen 1); (have g2 := O3.frozen 2); (have g3 := O3.frozen 3))
        | fail)
      have B2 := kb (kb B0.out hb1 (Nat.le_refl _)) hb2 (Nat.le_refl _)
      have B2a := B2.alloc B2.size (.cells #[.int .i64 (nx : Int), .slice a2 xs.length c2, .string o, .slice b2 rs.length e2] 32)
      have B3 := kb B2a hb3 (Nat.le_refl _)
      have RH := owns_keep (h2.alloc (.cells #[.int .i64 (nx : Int), .slice a2 xs.length c2, .string o, .slice b2 rs.length e2] 32)) hb3
      have RR := owns_keep (r2.alloc (.cells #[.int .i64 (nx : Int), .slice a2 xs.length c2, .string o, .slice b2 rs.length e2] 32)) hb3
      have hW1 : Hid (w.heap.size ≤ w1.heap.size) := (kb B0.out hb1 (Nat.le_refl _)).size
      have KA : Hid (∀ u, Below w3.heap.size w3 u → Bx u w.heap.size 32 #[.int .i64 (nx : Int), .slice ao xs.length ca, .string o, .slice so rs.length cs] ∧ Bx u (w.heap.size + 1) 35 #[.string s, .bool l] ∧ Bx u (w.heap.size + 1 + 1) 32 #[.int .i64 0, .slice none 0 0, .string ⟨#[]⟩, .slice none 0 0] ∧ Bx u w2.heap.size 32 #[.int .i64 (nx : Int), .slice a2 xs.length c2, .string o, .slice b2 rs.length e2] ∧ u.ownsRow w1.heap.size 46 3 (.slice a2 xs.length c2) xs.length (hs xs) ∧ u.ownsRow w1.heap.size 9 1 (.slice b2 rs.length e2) rs.length (ss rs)) := fun u h => ⟨A3.keep h, P3.keep h, X3.keep h, O3.keep h, owns_keep RH h, owns_keep RR h⟩
      have RA : Hid (Rs w3 ao xs.length (hs xs)) := (((((R0.out.keep hb1).held).keep hb2).keep ((Below.refl _ _).alloc (Nat.le_refl _) _)).keep hb3)
      have E0 : Hid ((w3.alloc (.cells #[] 46)).ownsRow w3.heap.size 46 3 (.slice (some ⟨w3.heap.size, 0, none⟩) 0 0) 0 []) := own0 46 3 w3 w3.heap.size (Nat.le_refl _) _ rfl
      have HB3 : Hid (Below w.heap.size w w3) := B3
      have hlx : Hid (w.heap.size + 1 + 1 < w1.heap.size) := xx1.lt
      have hl13 : Hid (w1.heap.size ≤ w3.heap.size) := Nat.le_trans hb2.size (Nat.le_trans (by simp) hb3.size)
      have hrw : w.heap.size + 1 + 1 < w2.heap.size := Nat.lt_of_lt_of_le xx1.lt hb2.size
      have h23 : w2.heap.size < w3.heap.size := O3.lt
      obtain ⟨iH, hiH, hH1, hH2, hH3⟩ := info_parts info_held
      clear d0 d1 d2 d3 p0 p1 z0 z1 z2 z3 f0 f1 f2 f3 o0 o1 o2 o3 g0 g1 g2 g3 A2 A3 P3 X3 O3 RH RR B2 B2a B3 h2 r2 hb1 hb2 hb3 a1 pp1 xx1 HC HP HN lt2
      go_loopw [8, 9, 10] (fun v dn i wr => ∃ (k : Nat) (d : Bool), i = .int .i64 k ∧ dn = .bool d ∧ Pu ⟨q, s, l⟩ xs k d ∧ wr.ownsRow w3.heap.size 46 3 v (putUp ⟨q, s, l⟩ xs k d).length (hs (putUp ⟨q, s, l⟩ xs k d)) ∧ Below w3.heap.size w3 wr) (fun _ _ i _ => xs.length - (intOf i).toNat)
      case atStart => exact ⟨0, false, rfl, rfl, ⟨Nat.zero_le _, fun z hz => by simp at hz, fun h => (by cases h), fun _ z hz => by simp at hz⟩, E0.out, (Below.refl _ _).alloc (Nat.le_refl _) _⟩
      case round =>
        obtain ⟨k, d, rfl, rfl, hP, hL, hB⟩ := hrel
        have hLl := hP.len
        obtain ⟨L, hLd⟩ : ∃ L, L = putUp ⟨q, s, l⟩ xs k d := ⟨_, rfl⟩
        rw [← hLd] at hL hLl
        have HLD : Hid (L = putUp ⟨q, s, l⟩ xs k d) := hLd
        clear hLd E0
        obtain ⟨la, lc, rfl, -, -, -⟩ := rs_of_owns hL
        obtain ⟨kA, kP, kX, kO, RH, RR⟩ := KA.out wr hB; (have d0 := kA.cell 0); (have d1 := kA.cell 1); (have d2 := kA.cell 2); (have d3 := kA.cell 3); simp at d0 d1 d2 d3; (have p0 := kP.cell 0); (have p1 := kP.cell 1); simp at p0 p1; (have z0 := kX.cell 0); (have z1 := kX.cell 1); (have z2 := kX.cell 2); (have z3 := kX.cell 3); simp at z0 z1 z2 z3; (have f0 := kX.frozen 0); (have f1 := kX.frozen 1); (have f2 := kX.frozen 2); (have f3 := kX.frozen 3); (have o0 := kO.cell 0); (have o1 := kO.cell 1); (have o2 := kO.cell 2); (have o3 := kO.cell 3); simp at o0 o1 o2 o3; (have g0 := kO.frozen 0); (have g1 := kO.frozen 1); (have g2 := kO.frozen 2); (have g3 := kO.frozen 3)
        by_cases hlt : k < xs.length
        · obtain ⟨ga, rfl, hga, hgc⟩ : ∃ g, ao = some ⟨g, 0, none⟩ ∧ g < w3.heap.size ∧ ∀ j, j < (hs xs).length → w3.cell? ⟨g, j, none⟩ = (hs xs)[j]? := by
            rcases RA.out.ex with e | e
            · omega
            · exact e
          have hhl := hs_length xs
          obtain ⟨k0', k1', k2'⟩ := hs_at xs k hlt
          have k0 := (hgc (k * 3) (by omega)).trans k0'
          have k1 := (hgc (k * 3 + 1) (by omega)).trans k1'
          have k2 := (hgc (k * 3 + 2) (by omega)).trans k2'
          obtain ⟨y, hy⟩ : ∃ y, y = xs[k] := ⟨_, rfl⟩
          rw [← hy] at k0 k1 k2
          have HY : Hid (xs[k] = y) := hy.symm
          have Y0 : Hid (w3.cell? ⟨ga, k * 3, none⟩ = some (.int .i64 y.seq)) := k0
          have Y1 : Hid (w3.cell? ⟨ga, k * 3 + 1, none⟩ = some (.string y.text)) := k1
          have Y2 : Hid (w3.cell? ⟨ga, k * 3 + 2, none⟩ = some (.bool y.last)) := k2
          have y0 := cell_keep k0 hB
          have y1 := cell_keep k1 hB
          have y2 := cell_keep k2 hB
          clear k0 k1 k2 k0' k1' k2' hgc hy hhl RA
          by_cases he : y.seq = q
          · have he' := he
            have hNP : Hid (¬ Puts nx xs q s) := fun h => h.2.2 y (by rw [← HY.out]; exact List.getElem_mem hlt) he
            go_wp2
            have ZV := kX
            have B3 := kb HB3.out hB (Nat.le_refl _)
            have hW1 : Hid (w.heap.size ≤ w1.heap.size) := (by have := hlx.out; omega : w.heap.size ≤ w1.heap.size)
            have nh := ZV.ne (by decide) RH
            have nr := ZV.ne (by decide) RR
            have P1 := (ownsRow_setCell_other (ownsRow_setCell_other (ownsRow_setCell_other (ownsRow_setCell_other RH (a := ⟨w.heap.size + 1 + 1, 0, none⟩) (Ne.symm nh) (.int .i64 (nx : Int))) (a := ⟨w.heap.size + 1 + 1, 1, none⟩) (Ne.symm nh) (.slice a2 xs.length c2)) (a := ⟨w.heap.size + 1 + 1, 2, none⟩) (Ne.symm nh) (.string o)) (a := ⟨w.heap.size + 1 + 1, 3, none⟩) (Ne.symm nh) (.slice b2 rs.length e2))
            have P2 := (ownsRow_setCell_other (ownsRow_setCell_other (ownsRow_setCell_other (ownsRow_setCell_other RR (a := ⟨w.heap.size + 1 + 1, 0, none⟩) (Ne.symm nr) (.int .i64 (nx : Int))) (a := ⟨w.heap.size + 1 + 1, 1, none⟩) (Ne.symm nr) (.slice a2 xs.length c2)) (a := ⟨w.heap.size + 1 + 1, 2, none⟩) (Ne.symm nr) (.string o)) (a := ⟨w.heap.size + 1 + 1, 3, none⟩) (Ne.symm nr) (.slice b2 rs.length e2))
            refine bodyPost_ret (v := .agg #[.int .i64 (nx : Int), .slice a2 xs.length c2, .string o, .slice b2 rs.length e2]) (by simp [results, Try.results6, go_sem, z0, z1, z2, z3]) rfl ?_
            unfold TakePost
            rw [TN.out hNP.out]
            exact ⟨⟨_, _, rfl, owns_mono3 P1 hW1.out, owns_mono3 P2 hW1.out⟩, ((((B3.setCell (p := ⟨w.heap.size + 1 + 1, 0, none⟩) (by show w.heap.size ≤ w.heap.size + 1 + 1; omega) (.int .i64 (nx : Int))).setCell (p := ⟨w.heap.size + 1 + 1, 1, none⟩) (by show w.heap.size ≤ w.heap.size + 1 + 1; omega) (.slice a2 xs.length c2)).setCell (p := ⟨w.heap.size + 1 + 1, 2, none⟩) (by show w.heap.size ≤ w.heap.size + 1 + 1; omega) (.string o)).setCell (p := ⟨w.heap.size + 1 + 1, 3, none⟩) (by show w.heap.size ≤ w.heap.size + 1 + 1; omega) (.slice b2 rs.length e2))⟩
          · cases d with
          | true =>
            go_wp2_with (at_builtin; refine list_append_any _ rfl _ _ 30 rfl w3.heap.size 46 iH (.agg #[.int .i64 0, .string ⟨#[]⟩, .bool false]) 3 32 Try.underlying30 hiH hH1 hH2 hH3 rfl (by decide) (.slice la L.length lc) (L.length) (hs L) rfl (hL.alloc (.cells #[.int .i64 y.seq, .string y.text, .bool y.last] 46)) (some ⟨wr.heap.size, 0, none⟩) 1 1 [.int .i64 y.seq, .string y.text, .bool y.last] rfl rfl (fun e => by cases e) (fun ad had j u hj => by cases had; exact three_cell rfl hj) (held_one0 _ _ _) (by unfold maxLen; omega) (by omega) (Nat.le_trans hB.size (by simp)) ?_; intro v5 w5 O5 h5; (obtain ⟨v5a, v5c, rfl, -, -, -⟩ := rs_of_owns O5); (have B5 : Below w3.heap.size w3 w5 := (hB.alloc hB.size (.cells #[.int .i64 y.seq, .string y.text, .bool y.last] 46)).grown h5 (Nat.le_trans hB.size (by simp)) (fun k hk => ((hL.alloc (.cells #[.int .i64 y.seq, .string y.text, .bool y.last] 46)).lt k hk).1)))
            obtain ⟨hP', hE⟩ := hP.step_done hlt (by rw [HY.out]; exact he)
            rw [HY.out, ← HLD.out] at hE
            exact ⟨⟨k + 1, true, rfl, rfl, hP', by rw [hE, hs_snoc, List.length_append]; exact O5, B5⟩, by simp [intOf]; omega⟩
          | false =>
            by_cases hgt : q < y.seq
            · skip
              go_wp2_with (first | (at_builtin; refine list_append_any _ rfl _ _ 30 rfl w3.heap.size 46 iH (.agg #[.int .i64 0, .string ⟨#[]⟩, .bool false]) 3 32 Try.underlying30 hiH hH1 hH2 hH3 rfl (by decide) (.slice la L.length lc) (L.length) (hs L) rfl (hL.alloc (.cells #[.int .i64 q, .string s, .bool l] 46)) (some ⟨wr.heap.size, 0, none⟩) 1 1 [.int .i64 q, .string s, .bool l] rfl rfl (fun e => by cases e) (fun ad had j u hj => by cases had; exact three_cell rfl hj) (held_one0 _ _ _) (by unfold maxLen; omega) (by omega) (Nat.le_trans hB.size (by simp)) ?_; intro v5 w5 O5 h5; (obtain ⟨v5a, v5c, rfl, -, -, -⟩ := rs_of_owns O5); (have B5 : Below w3.heap.size w3 w5 := (hB.alloc hB.size (.cells #[.int .i64 q, .string s, .bool l] 46)).grown h5 (Nat.le_trans hB.size (by simp)) (fun k hk => ((hL.alloc (.cells #[.int .i64 q, .string s, .bool l] 46)).lt k hk).1)); clear d0 d1 d2 d3 p0 p1 z0 z1 z2 z3 f0 f1 f2 f3 o0 o1 o2 o3 g0 g1 g2 g3 kA kP kX kO RH RR; clear y0 y1 y2; (obtain ⟨kA, kP, kX, kO, RH, RR⟩ := KA.out w5 B5); (have d0 := kA.cell 0); (have d1 := kA.cell 1); (have d2 := kA.cell 2); (have d3 := kA.cell 3); simp at d0 d1 d2 d3; (have p0 := kP.cell 0); (have p1 := kP.cell 1); simp at p0 p1; (have z0 := kX.cell 0); (have z1 := kX.cell 1); (have z2 := kX.cell 2); (have z3 := kX.cell 3); simp at z0 z1 z2 z3; (have f0 := kX.frozen 0); (have f1 := kX.frozen 1); (have f2 := kX.frozen 2); (have f3 := kX.frozen 3); (have o0 := kO.cell 0); (have o1 := kO.cell 1); (have o2 := kO.cell 2); (have o3 := kO.cell 3); simp at o0 o1 o2 o3; (have g0 := kO.frozen 0); (have g1 := kO.frozen 1); (have g2 := kO.frozen 2); (have g3 := kO.frozen 3); (have y0 := cell_keep Y0.out B5); (have y1 := cell_keep Y1.out B5); (have y2 := cell_keep Y2.out B5)) | (at_builtin; refine list_append_any _ rfl _ _ 30 rfl w3.heap.size 46 iH (.agg #[.int .i64 0, .string ⟨#[]⟩, .bool false]) 3 32 Try.underlying30 hiH hH1 hH2 hH3 rfl (by decide) (.slice v5a (L.length + 1) v5c) (L.length + 1) (hs L ++ [.int .i64 q, .string s, .bool l]) rfl (O5.alloc (.cells #[.int .i64 y.seq, .string y.text, .bool y.last] 46)) (some ⟨w5.heap.size, 0, none⟩) 1 1 [.int .i64 y.seq, .string y.text, .bool y.last] rfl rfl (fun e => by cases e) (fun ad had j u hj => by cases had; exact three_cell rfl hj) (held_one0 _ _ _) (by unfold maxLen; omega) (by omega) (Nat.le_trans B5.size (by simp)) ?_; intro v6 w6 O6 h6; (obtain ⟨v6a, v6c, rfl, -, -, -⟩ := rs_of_owns O6); (have B6 : Below w3.heap.size w3 w6 := (B5.alloc B5.size (.cells #[.int .i64 y.seq, .string y.text, .bool y.last] 46)).grown h6 (Nat.le_trans B5.size (by simp)) (fun k hk => ((O5.alloc (.cells #[.int .i64 y.seq, .string y.text, .bool y.last] 46)).lt k hk).1))) | fail)
              obtain ⟨hP', hE⟩ := hP.step_here hlt (by rw [HY.out]; exact hgt)
              rw [HY.out, ← HLD.out] at hE
              exact ⟨⟨k + 1, true, rfl, rfl, hP', by rw [hE, hs_snoc, hs_snoc, List.length_append, List.length_append]; exact O6, B6⟩, by simp [intOf]; omega⟩
            · skip
              go_wp2_with (at_builtin; refine list_append_any _ rfl _ _ 30 rfl w3.heap.size 46 iH (.agg #[.int .i64 0, .string ⟨#[]⟩, .bool false]) 3 32 Try.underlying30 hiH hH1 hH2 hH3 rfl (by decide) (.slice la L.length lc) (L.length) (hs L) rfl (hL.alloc (.cells #[.int .i64 y.seq, .string y.text, .bool y.last] 46)) (some ⟨wr.heap.size, 0, none⟩) 1 1 [.int .i64 y.seq, .string y.text, .bool y.last] rfl rfl (fun e => by cases e) (fun ad had j u hj => by cases had; exact three_cell rfl hj) (held_one0 _ _ _) (by unfold maxLen; omega) (by omega) (Nat.le_trans hB.size (by simp)) ?_; intro v5 w5 O5 h5; (obtain ⟨v5a, v5c, rfl, -, -, -⟩ := rs_of_owns O5); (have B5 : Below w3.heap.size w3 w5 := (hB.alloc hB.size (.cells #[.int .i64 y.seq, .string y.text, .bool y.last] 46)).grown h5 (Nat.le_trans hB.size (by simp)) (fun k hk => ((hL.alloc (.cells #[.int .i64 y.seq, .string y.text, .bool y.last] 46)).lt k hk).1)))
              obtain ⟨hP', hE⟩ := hP.step_not hlt (by rw [HY.out]; show y.seq < q; omega)
              rw [HY.out, ← HLD.out] at hE
              exact ⟨⟨k + 1, false, rfl, rfl, hP', by rw [hE, hs_snoc, List.length_append]; exact O5, B5⟩, by simp [intOf]; omega⟩
        · obtain rfl : k = xs.length := by have := hP.le; omega
          have hPuts : Puts nx xs q s := ⟨by have := HD.out; simpa using this.symm, by omega, fun y hy => hP.ne y (by rw [List.take_of_length_le (Nat.le_refl _)]; exact hy)⟩
          obtain ⟨m, zs, p, ts, hT⟩ : ∃ m zs p ts, tin (ins ⟨q, s, l⟩ xs) nx o rs = (m, zs, p, ts) := ⟨_, _, _, _, rfl⟩
          have hT1 : Hid (partOf (nx : Int) xs o rs q s l = (m, zs, p, ts)) := (by rw [T0.out, heldBy_yes hPuts, hT] : partOf (nx : Int) xs o rs q s l = (m, zs, p, ts))
          have hIL : (ins ⟨q, s, l⟩ xs).length = xs.length + 1 := ins_length _ _
          have HLI : Hid (∀ (u : World) (hv rv : Value), u.ownsRow w1.heap.size 46 3 hv (xs.length + 1) (hs (ins ⟨q, s, l⟩ xs)) → u.ownsRow w1.heap.size 9 1 rv rs.length (ss rs) → w1.heap.size ≤ u.heap.size → Calls Try.prog 18 #[.agg #[.int .i64 (nx : Int), hv, .string o, rv]] u fun e w' => (∃ hv' rv', e = .returned (.agg #[.int .i64 ((m : Nat) : Int), hv', .string p, rv']) ∧ w'.ownsRow w1.heap.size 46 3 hv' zs.length (hs zs) ∧ w'.ownsRow w1.heap.size 9 1 rv' ts.length (ss ts)) ∧ Below w1.heap.size u w') := fun u hv rv g1 g2 g3 => by
            have := l5In_any w1.heap.size nx (ins ⟨q, s, l⟩ xs) o rs hv rv u (by rw [hIL]; exact g1) g2 (fun i h => ins_small HSM.out hPuts i h) (by omega) (by omega) (by omega) (by omega) g3
            rw [hT] at this
            exact this
          clear hPuts hT
          cases d with
          | true =>
            have hLe : L = ins ⟨q, s, l⟩ xs := by rw [HLD.out]; show ins _ (xs.take xs.length) = _; rw [List.take_of_length_le (Nat.le_refl _)]
            have hLn : L.length = xs.length + 1 := by rw [hLe, hIL]
            rw [hLe, hIL] at hL
            rw [hLn]
            go_wp2_with (first | (go_at_call 18; go_must ((have N1 := kO.ne (by decide) hL); (have N2 := kO.ne (by decide) RR); (have H8 := ownsRow_setCell_other hL (a := ⟨w2.heap.size, 1, none⟩) (Ne.symm N1) (.slice la (xs.length + 1) lc)); (have R8 := ownsRow_setCell_other RR (a := ⟨w2.heap.size, 1, none⟩) (Ne.symm N2) (.slice la (xs.length + 1) lc)); (have X8 := kX.other ⟨w2.heap.size, 1, none⟩ (by show w.heap.size + 1 + 1 ≠ w2.heap.size; omega) (.slice la (xs.length + 1) lc)); (have S8 : w1.heap.size ≤ (wr.setCell ⟨w2.heap.size, 1, none⟩ (.slice la (xs.length + 1) lc)).heap.size := (by have := hl13.out; have := hB.size; simp; omega)); refine (HLI.out (wr.setCell ⟨w2.heap.size, 1, none⟩ (.slice la (xs.length + 1) lc)) _ _ (owns_mono3 H8 hl13.out) R8 S8).mono ?_; rintro e w8 ⟨⟨hv8, rv8, rfl, h8, r8⟩, hb8⟩; (obtain ⟨a8, c8, rfl, -, -, -⟩ := rs_of_owns h8); (obtain ⟨b8, e8, rfl, -, -, -⟩ := rs_of_owns r8); (have ZV := bx_below X8 hb8 hlx.out); clear z0 z1 z2 z3 f0 f1 f2 f3; (have z0 := ZV.cell 0); (have z1 := ZV.cell 1); (have z2 := ZV.cell 2); (have z3 := ZV.cell 3); simp at z0 z1 z2 z3; (have f0 := ZV.frozen 0); (have f1 := ZV.frozen 1); (have f2 := ZV.frozen 2); (have f3 := ZV.frozen 3))) | fail)
            have nh := ZV.ne (by decide) h8
            have nr := ZV.ne (by decide) r8
            have P1 := (ownsRow_setCell_other (ownsRow_setCell_other (ownsRow_setCell_other (ownsRow_setCell_other h8 (a := ⟨w.heap.size + 1 + 1, 0, none⟩) (Ne.symm nh) (.int .i64 ((m : Nat) : Int))) (a := ⟨w.heap.size + 1 + 1, 1, none⟩) (Ne.symm nh) (.slice a8 zs.length c8)) (a := ⟨w.heap.size + 1 + 1, 2, none⟩) (Ne.symm nh) (.string p)) (a := ⟨w.heap.size + 1 + 1, 3, none⟩) (Ne.symm nh) (.slice b8 ts.length e8))
            have P2 := (ownsRow_setCell_other (ownsRow_setCell_other (ownsRow_setCell_other (ownsRow_setCell_other r8 (a := ⟨w.heap.size + 1 + 1, 0, none⟩) (Ne.symm nr) (.int .i64 ((m : Nat) : Int))) (a := ⟨w.heap.size + 1 + 1, 1, none⟩) (Ne.symm nr) (.slice a8 zs.length c8)) (a := ⟨w.heap.size + 1 + 1, 2, none⟩) (Ne.symm nr) (.string p)) (a := ⟨w.heap.size + 1 + 1, 3, none⟩) (Ne.symm nr) (.slice b8 ts.length e8))
            have hW1 : w.heap.size ≤ w1.heap.size := by have := hlx.out; omega
            have BB := (kb HB3.out hB (Nat.le_refl _)).setCell (p := ⟨w2.heap.size, 1, none⟩) (by show w.heap.size ≤ w2.heap.size; omega) (.slice la (xs.length + 1) lc)
            have BC := BB.trans (hb8.mono hW1)
            refine bodyPost_ret (v := .agg #[.int .i64 ((m : Nat) : Int), .slice a8 zs.length c8, .string p, .slice b8 ts.length e8]) (by simp [results, Try.results6, go_sem, z0, z1, z2, z3]) rfl ?_
            unfold TakePost
            rw [hT1.out]
            exact ⟨⟨_, _, rfl, owns_mono3 P1 hW1, owns_mono3 P2 hW1⟩, ((((BC.setCell (p := ⟨w.heap.size + 1 + 1, 0, none⟩) (by show w.heap.size ≤ w.heap.size + 1 + 1; omega) (.int .i64 ((m : Nat) : Int))).setCell (p := ⟨w.heap.size + 1 + 1, 1, none⟩) (by show w.heap.size ≤ w.heap.size + 1 + 1; omega) (.slice a8 zs.length c8)).setCell (p := ⟨w.heap.size + 1 + 1, 2, none⟩) (by show w.heap.size ≤ w.heap.size + 1 + 1; omega) (.string p)).setCell (p := ⟨w.heap.size + 1 + 1, 3, none⟩) (by show w.heap.size ≤ w.heap.size + 1 + 1; omega) (.slice b8 ts.length e8))⟩
          | false =>
            have hLe : L ++ [⟨q, s, l⟩] = ins ⟨q, s, l⟩ xs := by rw [HLD.out, ins_end _ _ (fun z hz => hP.no rfl z (by rw [List.take_of_length_le (Nat.le_refl _)]; exact hz))]; show xs.take xs.length ++ _ = _; rw [List.take_of_length_le (Nat.le_refl _)]
            have hLn : L.length = xs.length := by have := congrArg List.length hLe; rw [List.length_append, hIL] at this; simpa using this
            rw [hLn] at hL
            rw [hLn]
            go_wp2_with (first | (at_builtin; refine list_append_any _ rfl _ _ 30 rfl w3.heap.size 46 iH (.agg #[.int .i64 0, .string ⟨#[]⟩, .bool false]) 3 32 Try.underlying30 hiH hH1 hH2 hH3 rfl (by decide) (.slice la xs.length lc) (xs.length) (hs L) rfl (hL.alloc (.cells #[.int .i64 q, .string s, .bool l] 46)) (some ⟨wr.heap.size, 0, none⟩) 1 1 [.int .i64 q, .string s, .bool l] rfl rfl (fun e => by cases e) (fun ad had j u hj => by cases had; exact three_cell rfl hj) (held_one0 _ _ _) (by unfold maxLen; omega) (by omega) (Nat.le_trans hB.size (by simp)) ?_; intro v5 w5 O5 h5; (obtain ⟨v5a, v5c, rfl, -, -, -⟩ := rs_of_owns O5); (have B5 : Below w3.heap.size w3 w5 := (hB.alloc hB.size (.cells #[.int .i64 q, .string s, .bool l] 46)).grown h5 (Nat.le_trans hB.size (by simp)) (fun k hk => ((hL.alloc (.cells #[.int .i64 q, .string s, .bool l] 46)).lt k hk).1)); (have O5' : w5.ownsRow w3.heap.size 46 3 (.slice v5a (xs.length + 1) v5c) (xs.length + 1) (hs (ins ⟨q, s, l⟩ xs)) := (by rw [← hLe, hs_snoc]; exact O5)); clear d0 d1 d2 d3 p0 p1 z0 z1 z2 z3 f0 f1 f2 f3 o0 o1 o2 o3 g0 g1 g2 g3 kA kP kX kO RH RR; (obtain ⟨kA, kP, kX, kO, RH, RR⟩ := KA.out w5 B5); (have d0 := kA.cell 0); (have d1 := kA.cell 1); (have d2 := kA.cell 2); (have d3 := kA.cell 3); simp at d0 d1 d2 d3; (have p0 := kP.cell 0); (have p1 := kP.cell 1); simp at p0 p1; (have z0 := kX.cell 0); (have z1 := kX.cell 1); (have z2 := kX.cell 2); (have z3 := kX.cell 3); simp at z0 z1 z2 z3; (have f0 := kX.frozen 0); (have f1 := kX.frozen 1); (have f2 := kX.frozen 2); (have f3 := kX.frozen 3); (have o0 := kO.cell 0); (have o1 := kO.cell 1); (have o2 := kO.cell 2); (have o3 := kO.cell 3); simp at o0 o1 o2 o3; (have g0 := kO.frozen 0); (have g1 := kO.frozen 1); (have g2 := kO.frozen 2); (have g3 := kO.frozen 3)) | (go_at_call 18; go_must ((have N1 := kO.ne (by decide) O5'); (have N2 := kO.ne (by decide) RR); (have H8 := ownsRow_setCell_other O5' (a := ⟨w2.heap.size, 1, none⟩) (Ne.symm N1) (.slice v5a (xs.length + 1) v5c)); (have R8 := ownsRow_setCell_other RR (a := ⟨w2.heap.size, 1, none⟩) (Ne.symm N2) (.slice v5a (xs.length + 1) v5c)); (have X8 := kX.other ⟨w2.heap.size, 1, none⟩ (by show w.heap.size + 1 + 1 ≠ w2.heap.size; omega) (.slice v5a (xs.length + 1) v5c)); (have S8 : w1.heap.size ≤ (w5.setCell ⟨w2.heap.size, 1, none⟩ (.slice v5a (xs.length + 1) v5c)).heap.size := (by have := hl13.out; have := B5.size; simp; omega)); refine (HLI.out (w5.setCell ⟨w2.heap.size, 1, none⟩ (.slice v5a (xs.length + 1) v5c)) _ _ (owns_mono3 H8 hl13.out) R8 S8).mono ?_; rintro e w8 ⟨⟨hv8, rv8, rfl, h8, r8⟩, hb8⟩; (obtain ⟨a8, c8, rfl, -, -, -⟩ := rs_of_owns h8); (obtain ⟨b8, e8, rfl, -, -, -⟩ := rs_of_owns r8); (have ZV := bx_below X8 hb8 hlx.out); clear z0 z1 z2 z3 f0 f1 f2 f3; (have z0 := ZV.cell 0); (have z1 := ZV.cell 1); (have z2 := ZV.cell 2); (have z3 := ZV.cell 3); simp at z0 z1 z2 z3; (have f0 := ZV.frozen 0); (have f1 := ZV.frozen 1); (have f2 := ZV.frozen 2); (have f3 := ZV.frozen 3))) | fail)
            have nh := ZV.ne (by decide) h8
            have nr := ZV.ne (by decide) r8
            have P1 := (ownsRow_setCell_other (ownsRow_setCell_other (ownsRow_setCell_other (ownsRow_setCell_other h8 (a := ⟨w.heap.size + 1 + 1, 0, none⟩) (Ne.symm nh) (.int .i64 ((m : Nat) : Int))) (a := ⟨w.heap.size + 1 + 1, 1, none⟩) (Ne.symm nh) (.slice a8 zs.length c8)) (a := ⟨w.heap.size + 1 + 1, 2, none⟩) (Ne.symm nh) (.string p)) (a := ⟨w.heap.size + 1 + 1, 3, none⟩) (Ne.symm nh) (.slice b8 ts.length e8))
            have P2 := (ownsRow_setCell_other (ownsRow_setCell_other (ownsRow_setCell_other (ownsRow_setCell_other r8 (a := ⟨w.heap.size + 1 + 1, 0, none⟩) (Ne.symm nr) (.int .i64 ((m : Nat) : Int))) (a := ⟨w.heap.size + 1 + 1, 1, none⟩) (Ne.symm nr) (.slice a8 zs.length c8)) (a := ⟨w.heap.size + 1 + 1, 2, none⟩) (Ne.symm nr) (.string p)) (a := ⟨w.heap.size + 1 + 1, 3, none⟩) (Ne.symm nr) (.slice b8 ts.length e8))
            have hW1 : w.heap.size ≤ w1.heap.size := by have := hlx.out; omega
            have BB := (kb HB3.out B5 (Nat.le_refl _)).setCell (p := ⟨w2.heap.size, 1, none⟩) (by show w.heap.size ≤ w2.heap.size; omega) (.slice v5a (xs.length + 1) v5c)
            have BC := BB.trans (hb8.mono hW1)
            refine bodyPost_ret (v := .agg #[.int .i64 ((m : Nat) : Int), .slice a8 zs.length c8, .string p, .slice b8 ts.length e8]) (by simp [results, Try.results6, go_sem, z0, z1, z2, z3]) rfl ?_
            unfold TakePost
            rw [hT1.out]
            exact ⟨⟨_, _, rfl, owns_mono3 P1 hW1, owns_mono3 P2 hW1⟩, ((((BC.setCell (p := ⟨w.heap.size + 1 + 1, 0, none⟩) (by show w.heap.size ≤ w.heap.size + 1 + 1; omega) (.int .i64 ((m : Nat) : Int))).setCell (p := ⟨w.heap.size + 1 + 1, 1, none⟩) (by show w.heap.size ≤ w.heap.size + 1 + 1; omega) (.slice a8 zs.length c8)).setCell (p := ⟨w.heap.size + 1 + 1, 2, none⟩) (by show w.heap.size ≤ w.heap.size + 1 + 1; omega) (.string p)).setCell (p := ⟨w.heap.size + 1 + 1, 3, none⟩) (by show w.heap.size ≤ w.heap.size + 1 + 1; omega) (.slice b8 ts.length e8))⟩
theorem specPart_any (nx : Int) (ao so : Option Addr) (ca cs : Nat) (xs : List Hd) (o : ByteArray) (rs : List ByteArray) (q : Int) (s : ByteArray) (l : Bool) (w : World) (hn : xs.length ≤ 1048576) (ht : ∀ i (h : i < xs.length), xs[i].text.size ≤ 1048576) (ho : o.size ≤ 1048576) (hk : rs.length ≤ 1048576) (hz : ∀ i (h : i < rs.length), rs[i].size ≤ 1048576) (hsz : s.size ≤ 1048576) (hr : Rt w ao so xs rs) (hn1 : ao = none → xs.length = 0 ∧ ca = 0) (hn2 : so = none → rs.length = 0 ∧ cs = 0) :
    Calls Try.prog 6 #[.agg #[.int .i64 nx, .slice ao xs.length ca, .string o, .slice so rs.length cs], .int .i64 q, .agg #[.string s, .bool l]] w fun e w' => TakePost w (partOf nx xs o rs q s l) e w' := by
  cases hv : tkOk nx xs o rs
  · exact specPart_no nx ao so ca cs xs o rs q s l w hn ht ho hk hz hsz hr hn1 hn2 hv
  · obtain ⟨n, rfl⟩ : ∃ n : Nat, nx = (n : Int) := ⟨nx.toNat, by have := (tkOk_of hv).1; unfold TkHd at this; omega⟩
    exact specPart_yes n ao so ca cs xs o rs q s l w hn ht ho hk hz hsz hr hn1 hn2 hv
end Go.Proofs.Yteceaadmgpjmcab.mk
