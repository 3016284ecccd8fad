/-
  VALID ENDS: spec.ValidEnd, impl.ValidEnd.
-/
import Derived.Test.YtmliinglojmojabBase
import Derived.Test.YtmliinglojmojabValB
import Derived.Test.YtmliinglojmojabVTkC
namespace Go.Proofs.Ytmliinglojmojab.mk
open Go.RowKit
set_option linter.unusedVariables false

def noS (b : Int) (n : Nat) : Bool := decide (b = 0) && decide (n = 0)
def noT (nx : Int) (n : Nat) (o : ByteArray) (m : Nat) : Bool := decide (nx = 0) && decide (n = 0) && decide (o.size = 0) && decide (m = 0)
noncomputable def enOk (num : Int) (up : Bool) (life peer since : Int) (owes : Bool) (b : Int) (xs : List It) (nx : Int) (hs : List Hd) (o : ByteArray) (rs : List ByteArray) : Bool := decide (1 ≤ num ∧ num ≤ 2) && decide (1 ≤ life ∧ life ≤ 1000) && decide (0 ≤ peer ∧ peer ≤ 1000) && decide (0 ≤ since ∧ since ≤ 1000000) && sdOk b xs && tkOk nx hs o rs && (!decide (peer = 0) || (noS b xs.length && noT nx hs.length o rs.length)) && (up || (decide (peer = 0) && decide (since = 0) && !owes))
theorem l1In_any (n lo hi : Int) (w : World) : Calls Try.prog 24 #[.int .i64 n, .int .i64 lo, .int .i64 hi] w fun e w' => e = .returned (.bool (decide (lo ≤ n ∧ n ≤ hi))) ∧ w = w' := by
  by_cases h : lo ≤ n ∧ n ≤ hi
  · rw [decide_eq_true h]; exact l1In_true n lo hi w h.1 h.2
  · rw [decide_eq_false h]; exact l1In_false n lo hi w (by omega)
theorem within_any (n lo hi : Int) (w : World) : Calls Try.prog 61 #[.int .i64 n, .int .i64 lo, .int .i64 hi] w fun e w' => e = .returned (.bool (decide (lo ≤ n ∧ n ≤ hi))) ∧ w = w' := by
  by_cases h : lo ≤ n ∧ n ≤ hi
  · rw [decide_eq_true h]; exact within_true n lo hi w h.1 h.2
  · rw [decide_eq_false h]; exact within_false n lo hi w (by omega)
theorem isEnd_any (n : Int) (w : World) : Calls Try.prog 60 #[.int .i64 n] w fun e w' => e = .returned (.bool (decide (1 ≤ n ∧ n ≤ 2))) ∧ w = w' := by
  by_cases h1 : n = 1
  · subst h1
    go_enter Try.func60, Try.ntmps60
    go_wp2
    go_ret
    exact ⟨ret_b (by decide), rfl⟩
  by_cases h2 : n = 2
  · subst h2
    go_enter Try.func60, Try.ntmps60
    go_wp2
    go_ret
    exact ⟨ret_b (by decide), rfl⟩
  · go_enter Try.func60, Try.ntmps60
    go_wp2
    go_ret
    exact ⟨ret_b (by rw [decide_eq_false (by omega)]; simp [h1, h2]), rfl⟩
theorem loop_len (bs : ByteArray) : ∀ (n i : Nat) (r : List UInt8), bs.size - i = n → (ByteArray.toList.loop bs i r).length = r.length + n := by
  intro n
  induction n with
  | zero => intro i r h; rw [ByteArray.toList.loop, if_neg (by omega)]; simp
  | succ n ih => intro i r h; rw [ByteArray.toList.loop, if_pos (by omega), ih (i + 1) _ (by omega)]; simp; omega
theorem not_nil {o : ByteArray} (h : ¬ o.size = 0) : ¬ o.toList = [] := fun e => by
  have := loop_len o o.size 0 [] (by omega)
  have e2 : ByteArray.toList.loop o 0 [] = [] := e
  rw [e2] at this
  simp at this
  omega
theorem str_nil {o : ByteArray} (h : o.size = 0) : o = ⟨#[]⟩ := by
  obtain ⟨a⟩ := o
  have : a = #[] := Array.eq_empty_of_size_eq_zero h
  rw [this]
theorem noSendSpec_any (b : Int) (ao : Option Addr) (n ca : Nat) (w : World) (hn : n ≤ 1048576) : Calls Try.prog 41 #[.agg #[.int .i64 b, .slice ao n ca]] w fun e w' => e = .returned (.bool (noS b n)) ∧ Below w.heap.size w w' := by
  have HB0 : Hid (∀ o' : Obj, Below w.heap.size w (w.alloc o')) := fun o' => (Below.refl _ _).alloc (Nat.le_refl _) _
  by_cases h1 : b = 0
  · subst h1
    by_cases h2 : n = 0
    · subst h2
      go_enter Try.func41, Try.ntmps41
      go_wp2
      go_ret
      exact ⟨ret_b (by simp [noS]), HB0.out _⟩
    · go_enter Try.func41, Try.ntmps41
      go_wp2
      go_ret
      exact ⟨ret_b (by simp [noS, h2]), HB0.out _⟩
  · go_enter Try.func41, Try.ntmps41
    go_wp2
    go_ret
    exact ⟨ret_b (by simp [noS, h1]), HB0.out _⟩
theorem noSendImpl_any (b : Int) (ao : Option Addr) (n ca : Nat) (w : World) (hn : n ≤ 1048576) : Calls Try.prog 62 #[.agg #[.int .i64 b, .slice ao n ca]] w fun e w' => e = .returned (.bool (noS b n)) ∧ Below w.heap.size w w' := by
  have HB0 : Hid (∀ o' : Obj, Below w.heap.size w (w.alloc o')) := fun o' => (Below.refl _ _).alloc (Nat.le_refl _) _
  by_cases h1 : b = 0
  · subst h1
    by_cases h2 : n = 0
    · subst h2
      go_enter Try.func62, Try.ntmps62
      go_wp2
      go_ret
      exact ⟨ret_b (by simp [noS]), HB0.out _⟩
    · go_enter Try.func62, Try.ntmps62
      go_wp2
      go_ret
      exact ⟨ret_b (by simp [noS, h2]), HB0.out _⟩
  · go_enter Try.func62, Try.ntmps62
    go_wp2
    go_ret
    exact ⟨ret_b (by simp [noS, h1]), HB0.out _⟩
theorem noTakeSpec_any (nx : Int) (ao so : Option Addr) (n ca m cs : Nat) (o : ByteArray) (w : World) (hn : n ≤ 1048576) (hm : m ≤ 1048576) (ho : o.size ≤ 1048576) : Calls Try.prog 42 #[.agg #[.int .i64 nx, .slice ao n ca, .string o, .slice so m cs]] w fun e w' => e = .returned (.bool (noT nx n o m)) ∧ Below w.heap.size w w' := by
  have HB0 : Hid (∀ o' : Obj, Below w.heap.size w (w.alloc o')) := fun o' => (Below.refl _ _).alloc (Nat.le_refl _) _
  by_cases h1 : nx = 0
  · subst h1
    by_cases h2 : n = 0
    · subst h2
      by_cases h3 : o.size = 0
      · obtain rfl := str_nil h3
        by_cases h4 : m = 0
        · subst h4
          go_enter Try.func42, Try.ntmps42
          go_wp2
          go_ret
          exact ⟨ret_b (by simp [noT]; rfl), HB0.out _⟩
        · skip
          go_enter Try.func42, Try.ntmps42
          go_wp2
          go_ret
          exact ⟨ret_b (by simp [noT, h4]), HB0.out _⟩
      · have h3' : ¬ o.toList = [] := not_nil h3
        go_enter Try.func42, Try.ntmps42
        go_wp2
        go_ret
        exact ⟨ret_b (by simp [noT, h3]), HB0.out _⟩
    · skip
      go_enter Try.func42, Try.ntmps42
      go_wp2
      go_ret
      exact ⟨ret_b (by simp [noT, h2]), HB0.out _⟩
  · skip
    go_enter Try.func42, Try.ntmps42
    go_wp2
    go_ret
    exact ⟨ret_b (by simp [noT, h1]), HB0.out _⟩
theorem noTakeImpl_any (nx : Int) (ao so : Option Addr) (n ca m cs : Nat) (o : ByteArray) (w : World) (hn : n ≤ 1048576) (hm : m ≤ 1048576) (ho : o.size ≤ 1048576) : Calls Try.prog 63 #[.agg #[.int .i64 nx, .slice ao n ca, .string o, .slice so m cs]] w fun e w' => e = .returned (.bool (noT nx n o m)) ∧ Below w.heap.size w w' := by
  have HB0 : Hid (∀ o' : Obj, Below w.heap.size w (w.alloc o')) := fun o' => (Below.refl _ _).alloc (Nat.le_refl _) _
  by_cases h1 : nx = 0
  · subst h1
    by_cases h2 : n = 0
    · subst h2
      by_cases h3 : o.size = 0
      · obtain rfl := str_nil h3
        by_cases h4 : m = 0
        · subst h4
          go_enter Try.func63, Try.ntmps63
          go_wp2
          go_ret
          exact ⟨ret_b (by simp [noT]; rfl), HB0.out _⟩
        · skip
          go_enter Try.func63, Try.ntmps63
          go_wp2
          go_ret
          exact ⟨ret_b (by simp [noT, h4]), HB0.out _⟩
      · have h3' : ¬ o.toList = [] := not_nil h3
        go_enter Try.func63, Try.ntmps63
        go_wp2
        go_ret
        exact ⟨ret_b (by simp [noT, h3]), HB0.out _⟩
    · skip
      go_enter Try.func63, Try.ntmps63
      go_wp2
      go_ret
      exact ⟨ret_b (by simp [noT, h2]), HB0.out _⟩
  · skip
    go_enter Try.func63, Try.ntmps63
    go_wp2
    go_ret
    exact ⟨ret_b (by simp [noT, h1]), HB0.out _⟩
set_option maxHeartbeats 2000000 in
theorem specValidEnd_any (num : Int) (up : Bool) (life peer since : Int) (owes : Bool) (b : Int) (xs : List It) (nx : Int) (hs : List Hd) (o : ByteArray) (rs : List ByteArray) (ao hp so : Option Addr) (ci ch cs : Nat) (w : World) (hn : xs.length ≤ 1048576) (ht : ∀ i (h : i < xs.length), xs[i].text.size ≤ 1048576) (hk : hs.length ≤ 1048576) (hu : ∀ i (h : i < hs.length), hs[i].text.size ≤ 1048576) (ho : o.size ≤ 1048576) (hm : rs.length ≤ 1048576) (hz : ∀ i (h : i < rs.length), rs[i].size ≤ 1048576) (h1 : Rs w ao xs.length (is xs)) (h2 : Rt w hp so hs rs) :
    Calls Try.prog 25 #[.agg #[.int .i64 num, .bool up, .int .i64 life, .int .i64 peer, .int .i64 since, .bool owes, .int .i64 b, .slice ao xs.length ci, .int .i64 nx, .slice hp hs.length ch, .string o, .slice so rs.length cs]] w fun e w' => e = .returned (.bool (enOk num up life peer since owes b xs nx hs o rs)) ∧ Below w.heap.size w w' := by
  obtain ⟨c1, hc1⟩ : ∃ c, c = decide (1 ≤ num ∧ num ≤ 2) := ⟨_, rfl⟩
  obtain ⟨c2, hc2⟩ : ∃ c, c = decide (1 ≤ life ∧ life ≤ 1000) := ⟨_, rfl⟩
  obtain ⟨c3, hc3⟩ : ∃ c, c = decide (0 ≤ peer ∧ peer ≤ 1000) := ⟨_, rfl⟩
  obtain ⟨c4, hc4⟩ : ∃ c, c = decide (0 ≤ since ∧ since ≤ 1000000) := ⟨_, rfl⟩
  obtain ⟨s, hs'⟩ : ∃ c, c = sdOk b xs := ⟨_, rfl⟩
  obtain ⟨t, ht'⟩ : ∃ c, c = tkOk nx hs o rs := ⟨_, rfl⟩
  obtain ⟨ns, hns⟩ : ∃ c, c = noS b xs.length := ⟨_, rfl⟩
  obtain ⟨nt, hnt⟩ : ∃ c, c = noT nx hs.length o rs.length := ⟨_, rfl⟩
  have HC1 : Hid (c1 = decide (1 ≤ num ∧ num ≤ 2)) := hc1
  have HC2 : Hid (c2 = decide (1 ≤ life ∧ life ≤ 1000)) := hc2
  have HC3 : Hid (c3 = decide (0 ≤ peer ∧ peer ≤ 1000)) := hc3
  have HC4 : Hid (c4 = decide (0 ≤ since ∧ since ≤ 1000000)) := hc4
  have KS : Hid (∀ u : World, Rs u ao xs.length (is xs) → Calls Try.prog 39 #[.agg #[.int .i64 b, .slice ao xs.length ci]] u fun e w' => e = .returned (.bool s) ∧ Below u.heap.size u w') := fun u h => by rw [hs']; exact specValid_any b ao ci xs u hn ht h
  have KT : Hid (∀ u : World, Rt u hp so hs rs → Calls Try.prog 40 #[.agg #[.int .i64 nx, .slice hp hs.length ch, .string o, .slice so rs.length cs]] u fun e w' => e = .returned (.bool t) ∧ Below u.heap.size u w') := fun u h => by rw [ht']; exact specValidTake_any nx hp so ch cs hs o rs u hk hu ho hm hz h
  have NS : Hid (∀ u : World, Calls Try.prog 41 #[.agg #[.int .i64 b, .slice ao xs.length ci]] u fun e w' => e = .returned (.bool ns) ∧ Below u.heap.size u w') := fun u => by rw [hns]; exact noSendSpec_any b ao xs.length ci u hn
  have NT : Hid (∀ u : World, Calls Try.prog 42 #[.agg #[.int .i64 nx, .slice hp hs.length ch, .string o, .slice so rs.length cs]] u fun e w' => e = .returned (.bool nt) ∧ Below u.heap.size u w') := fun u => by rw [hnt]; exact noTakeSpec_any nx hp so hs.length ch rs.length cs o u hk hm ho
  have hbel : Below w.heap.size w (w.alloc (.cells #[.int .i64 num, .bool up, .int .i64 life, .int .i64 peer, .int .i64 since, .bool owes, .int .i64 b, .slice ao xs.length ci, .int .i64 nx, .slice hp hs.length ch, .string o, .slice so rs.length cs] 48)) := (Below.refl _ _).alloc (Nat.le_refl _) _
  have X : Ex (w.alloc (.cells #[.int .i64 num, .bool up, .int .i64 life, .int .i64 peer, .int .i64 since, .bool owes, .int .i64 b, .slice ao xs.length ci, .int .i64 nx, .slice hp hs.length ch, .string o, .slice so rs.length cs] 48)) w.heap.size #[.int .i64 num, .bool up, .int .i64 life, .int .i64 peer, .int .i64 since, .bool owes, .int .i64 b, .slice ao xs.length ci, .int .i64 nx, .slice hp hs.length ch, .string o, .slice so rs.length cs] := Ex.new w _ _
  have R1 : Rs (w.alloc (.cells #[.int .i64 num, .bool up, .int .i64 life, .int .i64 peer, .int .i64 since, .bool owes, .int .i64 b, .slice ao xs.length ci, .int .i64 nx, .slice hp hs.length ch, .string o, .slice so rs.length cs] 48)) ao xs.length (is xs) := h1.keep hbel
  have R2 : Rt (w.alloc (.cells #[.int .i64 num, .bool up, .int .i64 life, .int .i64 peer, .int .i64 since, .bool owes, .int .i64 b, .slice ao xs.length ci, .int .i64 nx, .slice hp hs.length ch, .string o, .slice so rs.length cs] 48)) hp so hs rs := h2.keep hbel
  clear h1 h2 ht hu hz
  unfold enOk
  rw [← hc1, ← hc2, ← hc3, ← hc4, ← hs', ← ht', ← hns, ← hnt]
  obtain ⟨V, hV⟩ : ∃ V, V = (c1 && c2 && c3 && c4 && s && t && (!decide (peer = 0) || (ns && nt)) && (up || (decide (peer = 0) && decide (since = 0) && !owes))) := ⟨_, rfl⟩
  rw [← hV]
  have HV : Hid (V = (c1 && c2 && c3 && c4 && s && t && (!decide (peer = 0) || (ns && nt)) && (up || (decide (peer = 0) && decide (since = 0) && !owes)))) := hV
  clear hc1 hc2 hc3 hc4 hs' ht' hns hnt hV
  cases c1 with
  | false =>
    go_enter Try.func25, Try.ntmps25
    go_wp2_with (first
      | (go_at_call 24; refine (l1In_any _ _ _ _).mono ?_; rintro e w' ⟨rfl, rfl⟩; first | rw [← HC2.out] | rw [← HC3.out] | rw [← HC4.out] | rw [← HC1.out])
      | (go_at_call 39; refine (KS.out _ R1).mono ?_; rintro e w' ⟨rfl, hb⟩; replace hbel := kb hbel hb (Nat.le_refl _); replace X := X.keep hb; replace R1 := R1.keep hb; replace R2 := R2.keep hb; (obtain ⟨d0, d1, d2, d3, d4, d5, d6, d7, d8, d9, d10, d11⟩ := X.cells))
      | (go_at_call 40; refine (KT.out _ R2).mono ?_; rintro e w' ⟨rfl, hb⟩; replace hbel := kb hbel hb (Nat.le_refl _); replace X := X.keep hb; replace R1 := R1.keep hb; replace R2 := R2.keep hb; (obtain ⟨d0, d1, d2, d3, d4, d5, d6, d7, d8, d9, d10, d11⟩ := X.cells))
      | (go_at_call 41; refine (NS.out _).mono ?_; rintro e w' ⟨rfl, hb⟩; replace hbel := kb hbel hb (Nat.le_refl _); replace X := X.keep hb; replace R1 := R1.keep hb; replace R2 := R2.keep hb; (obtain ⟨d0, d1, d2, d3, d4, d5, d6, d7, d8, d9, d10, d11⟩ := X.cells))
      | (go_at_call 42; refine (NT.out _).mono ?_; rintro e w' ⟨rfl, hb⟩; replace hbel := kb hbel hb (Nat.le_refl _); replace X := X.keep hb; replace R1 := R1.keep hb; replace R2 := R2.keep hb; (obtain ⟨d0, d1, d2, d3, d4, d5, d6, d7, d8, d9, d10, d11⟩ := X.cells))
      | fail)
    go_ret
    exact ⟨ret_b (Eq.trans (by simp) HV.out.symm), hbel⟩
  | true =>
    cases c2 with
    | false =>
      go_enter Try.func25, Try.ntmps25
      go_wp2_with (first
        | (go_at_call 24; refine (l1In_any _ _ _ _).mono ?_; rintro e w' ⟨rfl, rfl⟩; first | rw [← HC2.out] | rw [← HC3.out] | rw [← HC4.out] | rw [← HC1.out])
        | (go_at_call 39; refine (KS.out _ R1).mono ?_; rintro e w' ⟨rfl, hb⟩; replace hbel := kb hbel hb (Nat.le_refl _); replace X := X.keep hb; replace R1 := R1.keep hb; replace R2 := R2.keep hb; (obtain ⟨d0, d1, d2, d3, d4, d5, d6, d7, d8, d9, d10, d11⟩ := X.cells))
        | (go_at_call 40; refine (KT.out _ R2).mono ?_; rintro e w' ⟨rfl, hb⟩; replace hbel := kb hbel hb (Nat.le_refl _); replace X := X.keep hb; replace R1 := R1.keep hb; replace R2 := R2.keep hb; (obtain ⟨d0, d1, d2, d3, d4, d5, d6, d7, d8, d9, d10, d11⟩ := X.cells))
        | (go_at_call 41; refine (NS.out _).mono ?_; rintro e w' ⟨rfl, hb⟩; replace hbel := kb hbel hb (Nat.le_refl _); replace X := X.keep hb; replace R1 := R1.keep hb; replace R2 := R2.keep hb; (obtain ⟨d0, d1, d2, d3, d4, d5, d6, d7, d8, d9, d10, d11⟩ := X.cells))
        | (go_at_call 42; refine (NT.out _).mono ?_; rintro e w' ⟨rfl, hb⟩; replace hbel := kb hbel hb (Nat.le_refl _); replace X := X.keep hb; replace R1 := R1.keep hb; replace R2 := R2.keep hb; (obtain ⟨d0, d1, d2, d3, d4, d5, d6, d7, d8, d9, d10, d11⟩ := X.cells))
        | fail)
      go_ret
      exact ⟨ret_b (Eq.trans (by simp) HV.out.symm), hbel⟩
    | true =>
      cases c3 with
      | false =>
        go_enter Try.func25, Try.ntmps25
        go_wp2_with (first
          | (go_at_call 24; refine (l1In_any _ _ _ _).mono ?_; rintro e w' ⟨rfl, rfl⟩; first | rw [← HC2.out] | rw [← HC3.out] | rw [← HC4.out] | rw [← HC1.out])
          | (go_at_call 39; refine (KS.out _ R1).mono ?_; rintro e w' ⟨rfl, hb⟩; replace hbel := kb hbel hb (Nat.le_refl _); replace X := X.keep hb; replace R1 := R1.keep hb; replace R2 := R2.keep hb; (obtain ⟨d0, d1, d2, d3, d4, d5, d6, d7, d8, d9, d10, d11⟩ := X.cells))
          | (go_at_call 40; refine (KT.out _ R2).mono ?_; rintro e w' ⟨rfl, hb⟩; replace hbel := kb hbel hb (Nat.le_refl _); replace X := X.keep hb; replace R1 := R1.keep hb; replace R2 := R2.keep hb; (obtain ⟨d0, d1, d2, d3, d4, d5, d6, d7, d8, d9, d10, d11⟩ := X.cells))
          | (go_at_call 41; refine (NS.out _).mono ?_; rintro e w' ⟨rfl, hb⟩; replace hbel := kb hbel hb (Nat.le_refl _); replace X := X.keep hb; replace R1 := R1.keep hb; replace R2 := R2.keep hb; (obtain ⟨d0, d1, d2, d3, d4, d5, d6, d7, d8, d9, d10, d11⟩ := X.cells))
          | (go_at_call 42; refine (NT.out _).mono ?_; rintro e w' ⟨rfl, hb⟩; replace hbel := kb hbel hb (Nat.le_refl _); replace X := X.keep hb; replace R1 := R1.keep hb; replace R2 := R2.keep hb; (obtain ⟨d0, d1, d2, d3, d4, d5, d6, d7, d8, d9, d10, d11⟩ := X.cells))
          | fail)
        go_ret
        exact ⟨ret_b (Eq.trans (by simp) HV.out.symm), hbel⟩
      | true =>
        cases c4 with
        | false =>
          go_enter Try.func25, Try.ntmps25
          go_wp2_with (first
            | (go_at_call 24; refine (l1In_any _ _ _ _).mono ?_; rintro e w' ⟨rfl, rfl⟩; first | rw [← HC2.out] | rw [← HC3.out] | rw [← HC4.out] | rw [← HC1.out])
            | (go_at_call 39; refine (KS.out _ R1).mono ?_; rintro e w' ⟨rfl, hb⟩; replace hbel := kb hbel hb (Nat.le_refl _); replace X := X.keep hb; replace R1 := R1.keep hb; replace R2 := R2.keep hb; (obtain ⟨d0, d1, d2, d3, d4, d5, d6, d7, d8, d9, d10, d11⟩ := X.cells))
            | (go_at_call 40; refine (KT.out _ R2).mono ?_; rintro e w' ⟨rfl, hb⟩; replace hbel := kb hbel hb (Nat.le_refl _); replace X := X.keep hb; replace R1 := R1.keep hb; replace R2 := R2.keep hb; (obtain ⟨d0, d1, d2, d3, d4, d5, d6, d7, d8, d9, d10, d11⟩ := X.cells))
            | (go_at_call 41; refine (NS.out _).mono ?_; rintro e w' ⟨rfl, hb⟩; replace hbel := kb hbel hb (Nat.le_refl _); replace X := X.keep hb; replace R1 := R1.keep hb; replace R2 := R2.keep hb; (obtain ⟨d0, d1, d2, d3, d4, d5, d6, d7, d8, d9, d10, d11⟩ := X.cells))
            | (go_at_call 42; refine (NT.out _).mono ?_; rintro e w' ⟨rfl, hb⟩; replace hbel := kb hbel hb (Nat.le_refl _); replace X := X.keep hb; replace R1 := R1.keep hb; replace R2 := R2.keep hb; (obtain ⟨d0, d1, d2, d3, d4, d5, d6, d7, d8, d9, d10, d11⟩ := X.cells))
            | fail)
          go_ret
          exact ⟨ret_b (Eq.trans (by simp) HV.out.symm), hbel⟩
        | true =>
          cases s with
          | false =>
            go_enter Try.func25, Try.ntmps25
            go_wp2_with (first
              | (go_at_call 24; refine (l1In_any _ _ _ _).mono ?_; rintro e w' ⟨rfl, rfl⟩; first | rw [← HC2.out] | rw [← HC3.out] | rw [← HC4.out] | rw [← HC1.out])
              | (go_at_call 39; refine (KS.out _ R1).mono ?_; rintro e w' ⟨rfl, hb⟩; replace hbel := kb hbel hb (Nat.le_refl _); replace X := X.keep hb; replace R1 := R1.keep hb; replace R2 := R2.keep hb; (obtain ⟨d0, d1, d2, d3, d4, d5, d6, d7, d8, d9, d10, d11⟩ := X.cells))
              | (go_at_call 40; refine (KT.out _ R2).mono ?_; rintro e w' ⟨rfl, hb⟩; replace hbel := kb hbel hb (Nat.le_refl _); replace X := X.keep hb; replace R1 := R1.keep hb; replace R2 := R2.keep hb; (obtain ⟨d0, d1, d2, d3, d4, d5, d6, d7, d8, d9, d10, d11⟩ := X.cells))
              | (go_at_call 41; refine (NS.out _).mono ?_; rintro e w' ⟨rfl, hb⟩; replace hbel := kb hbel hb (Nat.le_refl _); replace X := X.keep hb; replace R1 := R1.keep hb; replace R2 := R2.keep hb; (obtain ⟨d0, d1, d2, d3, d4, d5, d6, d7, d8, d9, d10, d11⟩ := X.cells))
              | (go_at_call 42; refine (NT.out _).mono ?_; rintro e w' ⟨rfl, hb⟩; replace hbel := kb hbel hb (Nat.le_refl _); replace X := X.keep hb; replace R1 := R1.keep hb; replace R2 := R2.keep hb; (obtain ⟨d0, d1, d2, d3, d4, d5, d6, d7, d8, d9, d10, d11⟩ := X.cells))
              | fail)
            go_ret
            exact ⟨ret_b (Eq.trans (by simp) HV.out.symm), hbel⟩
          | true =>
            cases t with
            | false =>
              go_enter Try.func25, Try.ntmps25
              go_wp2_with (first
                | (go_at_call 24; refine (l1In_any _ _ _ _).mono ?_; rintro e w' ⟨rfl, rfl⟩; first | rw [← HC2.out] | rw [← HC3.out] | rw [← HC4.out] | rw [← HC1.out])
                | (go_at_call 39; refine (KS.out _ R1).mono ?_; rintro e w' ⟨rfl, hb⟩; replace hbel := kb hbel hb (Nat.le_refl _); replace X := X.keep hb; replace R1 := R1.keep hb; replace R2 := R2.keep hb; (obtain ⟨d0, d1, d2, d3, d4, d5, d6, d7, d8, d9, d10, d11⟩ := X.cells))
                | (go_at_call 40; refine (KT.out _ R2).mono ?_; rintro e w' ⟨rfl, hb⟩; replace hbel := kb hbel hb (Nat.le_refl _); replace X := X.keep hb; replace R1 := R1.keep hb; replace R2 := R2.keep hb; (obtain ⟨d0, d1, d2, d3, d4, d5, d6, d7, d8, d9, d10, d11⟩ := X.cells))
                | (go_at_call 41; refine (NS.out _).mono ?_; rintro e w' ⟨rfl, hb⟩; replace hbel := kb hbel hb (Nat.le_refl _); replace X := X.keep hb; replace R1 := R1.keep hb; replace R2 := R2.keep hb; (obtain ⟨d0, d1, d2, d3, d4, d5, d6, d7, d8, d9, d10, d11⟩ := X.cells))
                | (go_at_call 42; refine (NT.out _).mono ?_; rintro e w' ⟨rfl, hb⟩; replace hbel := kb hbel hb (Nat.le_refl _); replace X := X.keep hb; replace R1 := R1.keep hb; replace R2 := R2.keep hb; (obtain ⟨d0, d1, d2, d3, d4, d5, d6, d7, d8, d9, d10, d11⟩ := X.cells))
                | fail)
              go_ret
              exact ⟨ret_b (Eq.trans (by simp) HV.out.symm), hbel⟩
            | true =>
              by_cases hp0 : peer = 0
              · subst hp0
                cases ns with
                | false =>
                  go_enter Try.func25, Try.ntmps25
                  go_wp2_with (first
                    | (go_at_call 24; refine (l1In_any _ _ _ _).mono ?_; rintro e w' ⟨rfl, rfl⟩; first | rw [← HC2.out] | rw [← HC3.out] | rw [← HC4.out] | rw [← HC1.out])
                    | (go_at_call 39; refine (KS.out _ R1).mono ?_; rintro e w' ⟨rfl, hb⟩; replace hbel := kb hbel hb (Nat.le_refl _); replace X := X.keep hb; replace R1 := R1.keep hb; replace R2 := R2.keep hb; (obtain ⟨d0, d1, d2, d3, d4, d5, d6, d7, d8, d9, d10, d11⟩ := X.cells))
                    | (go_at_call 40; refine (KT.out _ R2).mono ?_; rintro e w' ⟨rfl, hb⟩; replace hbel := kb hbel hb (Nat.le_refl _); replace X := X.keep hb; replace R1 := R1.keep hb; replace R2 := R2.keep hb; (obtain ⟨d0, d1, d2, d3, d4, d5, d6, d7, d8, d9, d10, d11⟩ := X.cells))
                    | (go_at_call 41; refine (NS.out _).mono ?_; rintro e w' ⟨rfl, hb⟩; replace hbel := kb hbel hb (Nat.le_refl _); replace X := X.keep hb; replace R1 := R1.keep hb; replace R2 := R2.keep hb; (obtain ⟨d0, d1, d2, d3, d4, d5, d6, d7, d8, d9, d10, d11⟩ := X.cells))
                    | (go_at_call 42; refine (NT.out _).mono ?_; rintro e w' ⟨rfl, hb⟩; replace hbel := kb hbel hb (Nat.le_refl _); replace X := X.keep hb; replace R1 := R1.keep hb; replace R2 := R2.keep hb; (obtain ⟨d0, d1, d2, d3, d4, d5, d6, d7, d8, d9, d10, d11⟩ := X.cells))
                    | fail)
                  go_ret
                  exact ⟨ret_b (Eq.trans (by simp) HV.out.symm), hbel⟩
                | true =>
                  cases nt with
                  | false =>
                    go_enter Try.func25, Try.ntmps25
                    go_wp2_with (first
                      | (go_at_call 24; refine (l1In_any _ _ _ _).mono ?_; rintro e w' ⟨rfl, rfl⟩; first | rw [← HC2.out] | rw [← HC3.out] | rw [← HC4.out] | rw [← HC1.out])
                      | (go_at_call 39; refine (KS.out _ R1).mono ?_; rintro e w' ⟨rfl, hb⟩; replace hbel := kb hbel hb (Nat.le_refl _); replace X := X.keep hb; replace R1 := R1.keep hb; replace R2 := R2.keep hb; (obtain ⟨d0, d1, d2, d3, d4, d5, d6, d7, d8, d9, d10, d11⟩ := X.cells))
                      | (go_at_call 40; refine (KT.out _ R2).mono ?_; rintro e w' ⟨rfl, hb⟩; replace hbel := kb hbel hb (Nat.le_refl _); replace X := X.keep hb; replace R1 := R1.keep hb; replace R2 := R2.keep hb; (obtain ⟨d0, d1, d2, d3, d4, d5, d6, d7, d8, d9, d10, d11⟩ := X.cells))
                      | (go_at_call 41; refine (NS.out _).mono ?_; rintro e w' ⟨rfl, hb⟩; replace hbel := kb hbel hb (Nat.le_refl _); replace X := X.keep hb; replace R1 := R1.keep hb; replace R2 := R2.keep hb; (obtain ⟨d0, d1, d2, d3, d4, d5, d6, d7, d8, d9, d10, d11⟩ := X.cells))
                      | (go_at_call 42; refine (NT.out _).mono ?_; rintro e w' ⟨rfl, hb⟩; replace hbel := kb hbel hb (Nat.le_refl _); replace X := X.keep hb; replace R1 := R1.keep hb; replace R2 := R2.keep hb; (obtain ⟨d0, d1, d2, d3, d4, d5, d6, d7, d8, d9, d10, d11⟩ := X.cells))
                      | fail)
                    go_ret
                    exact ⟨ret_b (Eq.trans (by simp) HV.out.symm), hbel⟩
                  | true =>
                    cases up with
                    | true =>
                      go_enter Try.func25, Try.ntmps25
                      go_wp2_with (first
                        | (go_at_call 24; refine (l1In_any _ _ _ _).mono ?_; rintro e w' ⟨rfl, rfl⟩; first | rw [← HC2.out] | rw [← HC3.out] | rw [← HC4.out] | rw [← HC1.out])
                        | (go_at_call 39; refine (KS.out _ R1).mono ?_; rintro e w' ⟨rfl, hb⟩; replace hbel := kb hbel hb (Nat.le_refl _); replace X := X.keep hb; replace R1 := R1.keep hb; replace R2 := R2.keep hb; (obtain ⟨d0, d1, d2, d3, d4, d5, d6, d7, d8, d9, d10, d11⟩ := X.cells))
                        | (go_at_call 40; refine (KT.out _ R2).mono ?_; rintro e w' ⟨rfl, hb⟩; replace hbel := kb hbel hb (Nat.le_refl _); replace X := X.keep hb; replace R1 := R1.keep hb; replace R2 := R2.keep hb; (obtain ⟨d0, d1, d2, d3, d4, d5, d6, d7, d8, d9, d10, d11⟩ := X.cells))
                        | (go_at_call 41; refine (NS.out _).mono ?_; rintro e w' ⟨rfl, hb⟩; replace hbel := kb hbel hb (Nat.le_refl _); replace X := X.keep hb; replace R1 := R1.keep hb; replace R2 := R2.keep hb; (obtain ⟨d0, d1, d2, d3, d4, d5, d6, d7, d8, d9, d10, d11⟩ := X.cells))
                        | (go_at_call 42; refine (NT.out _).mono ?_; rintro e w' ⟨rfl, hb⟩; replace hbel := kb hbel hb (Nat.le_refl _); replace X := X.keep hb; replace R1 := R1.keep hb; replace R2 := R2.keep hb; (obtain ⟨d0, d1, d2, d3, d4, d5, d6, d7, d8, d9, d10, d11⟩ := X.cells))
                        | fail)
                      go_ret
                      exact ⟨ret_b (Eq.trans (by simp) HV.out.symm), hbel⟩
                    | false =>
                      by_cases hs0 : since = 0
                      · subst hs0
                        cases owes with
                        | false =>
                          go_enter Try.func25, Try.ntmps25
                          go_wp2_with (first
                            | (go_at_call 24; refine (l1In_any _ _ _ _).mono ?_; rintro e w' ⟨rfl, rfl⟩; first | rw [← HC2.out] | rw [← HC3.out] | rw [← HC4.out] | rw [← HC1.out])
                            | (go_at_call 39; refine (KS.out _ R1).mono ?_; rintro e w' ⟨rfl, hb⟩; replace hbel := kb hbel hb (Nat.le_refl _); replace X := X.keep hb; replace R1 := R1.keep hb; replace R2 := R2.keep hb; (obtain ⟨d0, d1, d2, d3, d4, d5, d6, d7, d8, d9, d10, d11⟩ := X.cells))
                            | (go_at_call 40; refine (KT.out _ R2).mono ?_; rintro e w' ⟨rfl, hb⟩; replace hbel := kb hbel hb (Nat.le_refl _); replace X := X.keep hb; replace R1 := R1.keep hb; replace R2 := R2.keep hb; (obtain ⟨d0, d1, d2, d3, d4, d5, d6, d7, d8, d9, d10, d11⟩ := X.cells))
                            | (go_at_call 41; refine (NS.out _).mono ?_; rintro e w' ⟨rfl, hb⟩; replace hbel := kb hbel hb (Nat.le_refl _); replace X := X.keep hb; replace R1 := R1.keep hb; replace R2 := R2.keep hb; (obtain ⟨d0, d1, d2, d3, d4, d5, d6, d7, d8, d9, d10, d11⟩ := X.cells))
                            | (go_at_call 42; refine (NT.out _).mono ?_; rintro e w' ⟨rfl, hb⟩; replace hbel := kb hbel hb (Nat.le_refl _); replace X := X.keep hb; replace R1 := R1.keep hb; replace R2 := R2.keep hb; (obtain ⟨d0, d1, d2, d3, d4, d5, d6, d7, d8, d9, d10, d11⟩ := X.cells))
                            | fail)
                          go_ret
                          exact ⟨ret_b (Eq.trans (by simp) HV.out.symm), hbel⟩
                        | true =>
                          go_enter Try.func25, Try.ntmps25
                          go_wp2_with (first
                            | (go_at_call 24; refine (l1In_any _ _ _ _).mono ?_; rintro e w' ⟨rfl, rfl⟩; first | rw [← HC2.out] | rw [← HC3.out] | rw [← HC4.out] | rw [← HC1.out])
                            | (go_at_call 39; refine (KS.out _ R1).mono ?_; rintro e w' ⟨rfl, hb⟩; replace hbel := kb hbel hb (Nat.le_refl _); replace X := X.keep hb; replace R1 := R1.keep hb; replace R2 := R2.keep hb; (obtain ⟨d0, d1, d2, d3, d4, d5, d6, d7, d8, d9, d10, d11⟩ := X.cells))
                            | (go_at_call 40; refine (KT.out _ R2).mono ?_; rintro e w' ⟨rfl, hb⟩; replace hbel := kb hbel hb (Nat.le_refl _); replace X := X.keep hb; replace R1 := R1.keep hb; replace R2 := R2.keep hb; (obtain ⟨d0, d1, d2, d3, d4, d5, d6, d7, d8, d9, d10, d11⟩ := X.cells))
                            | (go_at_call 41; refine (NS.out _).mono ?_; rintro e w' ⟨rfl, hb⟩; replace hbel := kb hbel hb (Nat.le_refl _); replace X := X.keep hb; replace R1 := R1.keep hb; replace R2 := R2.keep hb; (obtain ⟨d0, d1, d2, d3, d4, d5, d6, d7, d8, d9, d10, d11⟩ := X.cells))
                            | (go_at_call 42; refine (NT.out _).mono ?_; rintro e w' ⟨rfl, hb⟩; replace hbel := kb hbel hb (Nat.le_refl _); replace X := X.keep hb; replace R1 := R1.keep hb; replace R2 := R2.keep hb; (obtain ⟨d0, d1, d2, d3, d4, d5, d6, d7, d8, d9, d10, d11⟩ := X.cells))
                            | fail)
                          go_ret
                          exact ⟨ret_b (Eq.trans (by simp) HV.out.symm), hbel⟩
                      · skip
                        go_enter Try.func25, Try.ntmps25
                        go_wp2_with (first
                          | (go_at_call 24; refine (l1In_any _ _ _ _).mono ?_; rintro e w' ⟨rfl, rfl⟩; first | rw [← HC2.out] | rw [← HC3.out] | rw [← HC4.out] | rw [← HC1.out])
                          | (go_at_call 39; refine (KS.out _ R1).mono ?_; rintro e w' ⟨rfl, hb⟩; replace hbel := kb hbel hb (Nat.le_refl _); replace X := X.keep hb; replace R1 := R1.keep hb; replace R2 := R2.keep hb; (obtain ⟨d0, d1, d2, d3, d4, d5, d6, d7, d8, d9, d10, d11⟩ := X.cells))
                          | (go_at_call 40; refine (KT.out _ R2).mono ?_; rintro e w' ⟨rfl, hb⟩; replace hbel := kb hbel hb (Nat.le_refl _); replace X := X.keep hb; replace R1 := R1.keep hb; replace R2 := R2.keep hb; (obtain ⟨d0, d1, d2, d3, d4, d5, d6, d7, d8, d9, d10, d11⟩ := X.cells))
                          | (go_at_call 41; refine (NS.out _).mono ?_; rintro e w' ⟨rfl, hb⟩; replace hbel := kb hbel hb (Nat.le_refl _); replace X := X.keep hb; replace R1 := R1.keep hb; replace R2 := R2.keep hb; (obtain ⟨d0, d1, d2, d3, d4, d5, d6, d7, d8, d9, d10, d11⟩ := X.cells))
                          | (go_at_call 42; refine (NT.out _).mono ?_; rintro e w' ⟨rfl, hb⟩; replace hbel := kb hbel hb (Nat.le_refl _); replace X := X.keep hb; replace R1 := R1.keep hb; replace R2 := R2.keep hb; (obtain ⟨d0, d1, d2, d3, d4, d5, d6, d7, d8, d9, d10, d11⟩ := X.cells))
                          | fail)
                        go_ret
                        exact ⟨ret_b (Eq.trans (by simp [hs0]) HV.out.symm), hbel⟩
              · cases up with
                | true =>
                  go_enter Try.func25, Try.ntmps25
                  go_wp2_with (first
                    | (go_at_call 24; refine (l1In_any _ _ _ _).mono ?_; rintro e w' ⟨rfl, rfl⟩; first | rw [← HC2.out] | rw [← HC3.out] | rw [← HC4.out] | rw [← HC1.out])
                    | (go_at_call 39; refine (KS.out _ R1).mono ?_; rintro e w' ⟨rfl, hb⟩; replace hbel := kb hbel hb (Nat.le_refl _); replace X := X.keep hb; replace R1 := R1.keep hb; replace R2 := R2.keep hb; (obtain ⟨d0, d1, d2, d3, d4, d5, d6, d7, d8, d9, d10, d11⟩ := X.cells))
                    | (go_at_call 40; refine (KT.out _ R2).mono ?_; rintro e w' ⟨rfl, hb⟩; replace hbel := kb hbel hb (Nat.le_refl _); replace X := X.keep hb; replace R1 := R1.keep hb; replace R2 := R2.keep hb; (obtain ⟨d0, d1, d2, d3, d4, d5, d6, d7, d8, d9, d10, d11⟩ := X.cells))
                    | (go_at_call 41; refine (NS.out _).mono ?_; rintro e w' ⟨rfl, hb⟩; replace hbel := kb hbel hb (Nat.le_refl _); replace X := X.keep hb; replace R1 := R1.keep hb; replace R2 := R2.keep hb; (obtain ⟨d0, d1, d2, d3, d4, d5, d6, d7, d8, d9, d10, d11⟩ := X.cells))
                    | (go_at_call 42; refine (NT.out _).mono ?_; rintro e w' ⟨rfl, hb⟩; replace hbel := kb hbel hb (Nat.le_refl _); replace X := X.keep hb; replace R1 := R1.keep hb; replace R2 := R2.keep hb; (obtain ⟨d0, d1, d2, d3, d4, d5, d6, d7, d8, d9, d10, d11⟩ := X.cells))
                    | fail)
                  go_ret
                  exact ⟨ret_b (Eq.trans (by simp [hp0]) HV.out.symm), hbel⟩
                | false =>
                  go_enter Try.func25, Try.ntmps25
                  go_wp2_with (first
                    | (go_at_call 24; refine (l1In_any _ _ _ _).mono ?_; rintro e w' ⟨rfl, rfl⟩; first | rw [← HC2.out] | rw [← HC3.out] | rw [← HC4.out] | rw [← HC1.out])
                    | (go_at_call 39; refine (KS.out _ R1).mono ?_; rintro e w' ⟨rfl, hb⟩; replace hbel := kb hbel hb (Nat.le_refl _); replace X := X.keep hb; replace R1 := R1.keep hb; replace R2 := R2.keep hb; (obtain ⟨d0, d1, d2, d3, d4, d5, d6, d7, d8, d9, d10, d11⟩ := X.cells))
                    | (go_at_call 40; refine (KT.out _ R2).mono ?_; rintro e w' ⟨rfl, hb⟩; replace hbel := kb hbel hb (Nat.le_refl _); replace X := X.keep hb; replace R1 := R1.keep hb; replace R2 := R2.keep hb; (obtain ⟨d0, d1, d2, d3, d4, d5, d6, d7, d8, d9, d10, d11⟩ := X.cells))
                    | (go_at_call 41; refine (NS.out _).mono ?_; rintro e w' ⟨rfl, hb⟩; replace hbel := kb hbel hb (Nat.le_refl _); replace X := X.keep hb; replace R1 := R1.keep hb; replace R2 := R2.keep hb; (obtain ⟨d0, d1, d2, d3, d4, d5, d6, d7, d8, d9, d10, d11⟩ := X.cells))
                    | (go_at_call 42; refine (NT.out _).mono ?_; rintro e w' ⟨rfl, hb⟩; replace hbel := kb hbel hb (Nat.le_refl _); replace X := X.keep hb; replace R1 := R1.keep hb; replace R2 := R2.keep hb; (obtain ⟨d0, d1, d2, d3, d4, d5, d6, d7, d8, d9, d10, d11⟩ := X.cells))
                    | fail)
                  go_ret
                  exact ⟨ret_b (Eq.trans (by simp [hp0]) HV.out.symm), hbel⟩
theorem noS_ok {b : Int} {xs : List It} (h : noS b xs.length = true) : sdOk b xs = true := by
  simp [noS] at h
  obtain ⟨rfl, rfl⟩ := h
  exact sdOk_yes ⟨by unfold HdOk; simp, fun i h => absurd h (by simp)⟩
theorem noT_ok {nx : Int} {hs : List Hd} {o : ByteArray} {rs : List ByteArray} (h : noT nx hs.length o rs.length = true) : tkOk nx hs o rs = true := by
  simp only [noT, Bool.and_eq_true, decide_eq_true_eq] at h
  obtain ⟨⟨⟨rfl, h2⟩, h3⟩, h4⟩ := h
  obtain rfl := str_nil h3
  obtain rfl := List.eq_nil_of_length_eq_zero h2
  obtain rfl := List.eq_nil_of_length_eq_zero h4
  exact tkOk_yes ⟨⟨by decide, by decide, by decide, by decide⟩, fun i h => absurd h (by simp), fun i h => absurd h (by simp)⟩
set_option maxHeartbeats 2000000 in
theorem implValidEnd_any (num : Int) (up : Bool) (life peer since : Int) (owes : Bool) (b : Int) (xs : List It) (nx : Int) (hs : List Hd) (o : ByteArray) (rs : List ByteArray) (ao hp so : Option Addr) (ci ch cs : Nat) (w : World) (hn : xs.length ≤ 1048576) (ht : ∀ i (h : i < xs.length), xs[i].text.size ≤ 1048576) (hk : hs.length ≤ 1048576) (hu : ∀ i (h : i < hs.length), hs[i].text.size ≤ 1048576) (ho : o.size ≤ 1048576) (hm : rs.length ≤ 1048576) (hz : ∀ i (h : i < rs.length), rs[i].size ≤ 1048576) (h1 : Rs w ao xs.length (is xs)) (h2 : Rt w hp so hs rs) :
    Calls Try.prog 45 #[.agg #[.int .i64 num, .bool up, .int .i64 life, .int .i64 peer, .int .i64 since, .bool owes, .int .i64 b, .slice ao xs.length ci, .int .i64 nx, .slice hp hs.length ch, .string o, .slice so rs.length cs]] w fun e w' => e = .returned (.bool (enOk num up life peer since owes b xs nx hs o rs)) ∧ Below w.heap.size w w' := by
  obtain ⟨c1, hc1⟩ : ∃ c, c = decide (1 ≤ num ∧ num ≤ 2) := ⟨_, rfl⟩
  obtain ⟨c2, hc2⟩ : ∃ c, c = decide (1 ≤ life ∧ life ≤ 1000) := ⟨_, rfl⟩
  obtain ⟨c3, hc3⟩ : ∃ c, c = decide (0 ≤ peer ∧ peer ≤ 1000) := ⟨_, rfl⟩
  obtain ⟨c4, hc4⟩ : ∃ c, c = decide (0 ≤ since ∧ since ≤ 1000000) := ⟨_, rfl⟩
  obtain ⟨s, hs'⟩ : ∃ c, c = sdOk b xs := ⟨_, rfl⟩
  obtain ⟨t, ht'⟩ : ∃ c, c = tkOk nx hs o rs := ⟨_, rfl⟩
  obtain ⟨ns, hns⟩ : ∃ c, c = noS b xs.length := ⟨_, rfl⟩
  obtain ⟨nt, hnt⟩ : ∃ c, c = noT nx hs.length o rs.length := ⟨_, rfl⟩
  have HC1 : Hid (c1 = decide (1 ≤ num ∧ num ≤ 2)) := hc1
  have HC2 : Hid (c2 = decide (1 ≤ life ∧ life ≤ 1000)) := hc2
  have HC3 : Hid (c3 = decide (0 ≤ peer ∧ peer ≤ 1000)) := hc3
  have HC4 : Hid (c4 = decide (0 ≤ since ∧ since ≤ 1000000)) := hc4
  have KS : Hid (∀ u : World, Rs u ao xs.length (is xs) → Calls Try.prog 64 #[.agg #[.int .i64 b, .slice ao xs.length ci]] u fun e w' => e = .returned (.bool s) ∧ Below u.heap.size u w') := fun u h => by rw [hs']; exact implValid_any b ao ci xs u hn ht h
  have KT : Hid (∀ u : World, Rt u hp so hs rs → Calls Try.prog 65 #[.agg #[.int .i64 nx, .slice hp hs.length ch, .string o, .slice so rs.length cs]] u fun e w' => e = .returned (.bool t) ∧ Below u.heap.size u w') := fun u h => by rw [ht']; exact implValidTake_any nx hp so ch cs hs o rs u hk hu ho hm hz h
  have NS : Hid (∀ u : World, Calls Try.prog 62 #[.agg #[.int .i64 b, .slice ao xs.length ci]] u fun e w' => e = .returned (.bool ns) ∧ Below u.heap.size u w') := fun u => by rw [hns]; exact noSendImpl_any b ao xs.length ci u hn
  have NT : Hid (∀ u : World, Calls Try.prog 63 #[.agg #[.int .i64 nx, .slice hp hs.length ch, .string o, .slice so rs.length cs]] u fun e w' => e = .returned (.bool nt) ∧ Below u.heap.size u w') := fun u => by rw [hnt]; exact noTakeImpl_any nx hp so hs.length ch rs.length cs o u hk hm ho
  have hbel : Below w.heap.size w (w.alloc (.cells #[.int .i64 num, .bool up, .int .i64 life, .int .i64 peer, .int .i64 since, .bool owes, .int .i64 b, .slice ao xs.length ci, .int .i64 nx, .slice hp hs.length ch, .string o, .slice so rs.length cs] 48)) := (Below.refl _ _).alloc (Nat.le_refl _) _
  have X : Ex (w.alloc (.cells #[.int .i64 num, .bool up, .int .i64 life, .int .i64 peer, .int .i64 since, .bool owes, .int .i64 b, .slice ao xs.length ci, .int .i64 nx, .slice hp hs.length ch, .string o, .slice so rs.length cs] 48)) w.heap.size #[.int .i64 num, .bool up, .int .i64 life, .int .i64 peer, .int .i64 since, .bool owes, .int .i64 b, .slice ao xs.length ci, .int .i64 nx, .slice hp hs.length ch, .string o, .slice so rs.length cs] := Ex.new w _ _
  have R1 : Rs (w.alloc (.cells #[.int .i64 num, .bool up, .int .i64 life, .int .i64 peer, .int .i64 since, .bool owes, .int .i64 b, .slice ao xs.length ci, .int .i64 nx, .slice hp hs.length ch, .string o, .slice so rs.length cs] 48)) ao xs.length (is xs) := h1.keep hbel
  have R2 : Rt (w.alloc (.cells #[.int .i64 num, .bool up, .int .i64 life, .int .i64 peer, .int .i64 since, .bool owes, .int .i64 b, .slice ao xs.length ci, .int .i64 nx, .slice hp hs.length ch, .string o, .slice so rs.length cs] 48)) hp so hs rs := h2.keep hbel
  clear h1 h2 ht hu hz
  have hE : enOk num up life peer since owes b xs nx hs o rs = (c1 && c2 && c3 && c4 && (if peer = 0 then ns && nt else s && t) && (up || (decide (peer = 0) && decide (since = 0) && !owes))) := by
    unfold enOk
    rw [← hc1, ← hc2, ← hc3, ← hc4, ← hs', ← ht', ← hns, ← hnt]
    have q1 : ns = true → s = true := fun h => by rw [hs']; exact noS_ok (by rw [← hns]; exact h)
    have q2 : nt = true → t = true := fun h => by rw [ht']; exact noT_ok (by rw [← hnt]; exact h)
    by_cases hp0 : peer = 0
    · rw [if_pos hp0, decide_eq_true hp0]
      revert q1 q2
      cases ns <;> cases nt <;> cases s <;> cases t <;> simp
    · rw [if_neg hp0, decide_eq_false hp0]
      cases s <;> cases t <;> simp
  rw [hE]
  obtain ⟨V, hV⟩ : ∃ V, V = (c1 && c2 && c3 && c4 && (if peer = 0 then ns && nt else s && t) && (up || (decide (peer = 0) && decide (since = 0) && !owes))) := ⟨_, rfl⟩
  rw [← hV]
  have HV : Hid (V = (c1 && c2 && c3 && c4 && (if peer = 0 then ns && nt else s && t) && (up || (decide (peer = 0) && decide (since = 0) && !owes)))) := hV
  clear hc1 hc2 hc3 hc4 hs' ht' hns hnt hE hV
  cases c1 with
  | false =>
    go_enter Try.func45, Try.ntmps45
    go_wp2_with (first
      | (go_at_call 61; refine (within_any _ _ _ _).mono ?_; rintro e w' ⟨rfl, rfl⟩; first | rw [← HC2.out] | rw [← HC3.out] | rw [← HC4.out])
      | (go_at_call 60; refine (isEnd_any _ _).mono ?_; rintro e w' ⟨rfl, rfl⟩; rw [← HC1.out])
      | (go_at_call 64; refine (KS.out _ R1).mono ?_; rintro e w' ⟨rfl, hb⟩; replace hbel := kb hbel hb (Nat.le_refl _); replace X := X.keep hb; replace R1 := R1.keep hb; replace R2 := R2.keep hb; (obtain ⟨d0, d1, d2, d3, d4, d5, d6, d7, d8, d9, d10, d11⟩ := X.cells))
      | (go_at_call 65; refine (KT.out _ R2).mono ?_; rintro e w' ⟨rfl, hb⟩; replace hbel := kb hbel hb (Nat.le_refl _); replace X := X.keep hb; replace R1 := R1.keep hb; replace R2 := R2.keep hb; (obtain ⟨d0, d1, d2, d3, d4, d5, d6, d7, d8, d9, d10, d11⟩ := X.cells))
      | (go_at_call 62; refine (NS.out _).mono ?_; rintro e w' ⟨rfl, hb⟩; replace hbel := kb hbel hb (Nat.le_refl _); replace X := X.keep hb; replace R1 := R1.keep hb; replace R2 := R2.keep hb; (obtain ⟨d0, d1, d2, d3, d4, d5, d6, d7, d8, d9, d10, d11⟩ := X.cells))
      | (go_at_call 63; refine (NT.out _).mono ?_; rintro e w' ⟨rfl, hb⟩; replace hbel := kb hbel hb (Nat.le_refl _); replace X := X.keep hb; replace R1 := R1.keep hb; replace R2 := R2.keep hb; (obtain ⟨d0, d1, d2, d3, d4, d5, d6, d7, d8, d9, d10, d11⟩ := X.cells))
      | fail)
    go_ret
    exact ⟨ret_b (Eq.trans (by simp) HV.out.symm), hbel⟩
  | true =>
    cases c2 with
    | false =>
      go_enter Try.func45, Try.ntmps45
      go_wp2_with (first
        | (go_at_call 61; refine (within_any _ _ _ _).mono ?_; rintro e w' ⟨rfl, rfl⟩; first | rw [← HC2.out] | rw [← HC3.out] | rw [← HC4.out])
        | (go_at_call 60; refine (isEnd_any _ _).mono ?_; rintro e w' ⟨rfl, rfl⟩; rw [← HC1.out])
        | (go_at_call 64; refine (KS.out _ R1).mono ?_; rintro e w' ⟨rfl, hb⟩; replace hbel := kb hbel hb (Nat.le_refl _); replace X := X.keep hb; replace R1 := R1.keep hb; replace R2 := R2.keep hb; (obtain ⟨d0, d1, d2, d3, d4, d5, d6, d7, d8, d9, d10, d11⟩ := X.cells))
        | (go_at_call 65; refine (KT.out _ R2).mono ?_; rintro e w' ⟨rfl, hb⟩; replace hbel := kb hbel hb (Nat.le_refl _); replace X := X.keep hb; replace R1 := R1.keep hb; replace R2 := R2.keep hb; (obtain ⟨d0, d1, d2, d3, d4, d5, d6, d7, d8, d9, d10, d11⟩ := X.cells))
        | (go_at_call 62; refine (NS.out _).mono ?_; rintro e w' ⟨rfl, hb⟩; replace hbel := kb hbel hb (Nat.le_refl _); replace X := X.keep hb; replace R1 := R1.keep hb; replace R2 := R2.keep hb; (obtain ⟨d0, d1, d2, d3, d4, d5, d6, d7, d8, d9, d10, d11⟩ := X.cells))
        | (go_at_call 63; refine (NT.out _).mono ?_; rintro e w' ⟨rfl, hb⟩; replace hbel := kb hbel hb (Nat.le_refl _); replace X := X.keep hb; replace R1 := R1.keep hb; replace R2 := R2.keep hb; (obtain ⟨d0, d1, d2, d3, d4, d5, d6, d7, d8, d9, d10, d11⟩ := X.cells))
        | fail)
      go_ret
      exact ⟨ret_b (Eq.trans (by simp) HV.out.symm), hbel⟩
    | true =>
      cases c3 with
      | false =>
        go_enter Try.func45, Try.ntmps45
        go_wp2_with (first
          | (go_at_call 61; refine (within_any _ _ _ _).mono ?_; rintro e w' ⟨rfl, rfl⟩; first | rw [← HC2.out] | rw [← HC3.out] | rw [← HC4.out])
          | (go_at_call 60; refine (isEnd_any _ _).mono ?_; rintro e w' ⟨rfl, rfl⟩; rw [← HC1.out])
          | (go_at_call 64; refine (KS.out _ R1).mono ?_; rintro e w' ⟨rfl, hb⟩; replace hbel := kb hbel hb (Nat.le_refl _); replace X := X.keep hb; replace R1 := R1.keep hb; replace R2 := R2.keep hb; (obtain ⟨d0, d1, d2, d3, d4, d5, d6, d7, d8, d9, d10, d11⟩ := X.cells))
          | (go_at_call 65; refine (KT.out _ R2).mono ?_; rintro e w' ⟨rfl, hb⟩; replace hbel := kb hbel hb (Nat.le_refl _); replace X := X.keep hb; replace R1 := R1.keep hb; replace R2 := R2.keep hb; (obtain ⟨d0, d1, d2, d3, d4, d5, d6, d7, d8, d9, d10, d11⟩ := X.cells))
          | (go_at_call 62; refine (NS.out _).mono ?_; rintro e w' ⟨rfl, hb⟩; replace hbel := kb hbel hb (Nat.le_refl _); replace X := X.keep hb; replace R1 := R1.keep hb; replace R2 := R2.keep hb; (obtain ⟨d0, d1, d2, d3, d4, d5, d6, d7, d8, d9, d10, d11⟩ := X.cells))
          | (go_at_call 63; refine (NT.out _).mono ?_; rintro e w' ⟨rfl, hb⟩; replace hbel := kb hbel hb (Nat.le_refl _); replace X := X.keep hb; replace R1 := R1.keep hb; replace R2 := R2.keep hb; (obtain ⟨d0, d1, d2, d3, d4, d5, d6, d7, d8, d9, d10, d11⟩ := X.cells))
          | fail)
        go_ret
        exact ⟨ret_b (Eq.trans (by simp) HV.out.symm), hbel⟩
      | true =>
        cases c4 with
        | false =>
          go_enter Try.func45, Try.ntmps45
          go_wp2_with (first
            | (go_at_call 61; refine (within_any _ _ _ _).mono ?_; rintro e w' ⟨rfl, rfl⟩; first | rw [← HC2.out] | rw [← HC3.out] | rw [← HC4.out])
            | (go_at_call 60; refine (isEnd_any _ _).mono ?_; rintro e w' ⟨rfl, rfl⟩; rw [← HC1.out])
            | (go_at_call 64; refine (KS.out _ R1).mono ?_; rintro e w' ⟨rfl, hb⟩; replace hbel := kb hbel hb (Nat.le_refl _); replace X := X.keep hb; replace R1 := R1.keep hb; replace R2 := R2.keep hb; (obtain ⟨d0, d1, d2, d3, d4, d5, d6, d7, d8, d9, d10, d11⟩ := X.cells))
            | (go_at_call 65; refine (KT.out _ R2).mono ?_; rintro e w' ⟨rfl, hb⟩; replace hbel := kb hbel hb (Nat.le_refl _); replace X := X.keep hb; replace R1 := R1.keep hb; replace R2 := R2.keep hb; (obtain ⟨d0, d1, d2, d3, d4, d5, d6, d7, d8, d9, d10, d11⟩ := X.cells))
            | (go_at_call 62; refine (NS.out _).mono ?_; rintro e w' ⟨rfl, hb⟩; replace hbel := kb hbel hb (Nat.le_refl _); replace X := X.keep hb; replace R1 := R1.keep hb; replace R2 := R2.keep hb; (obtain ⟨d0, d1, d2, d3, d4, d5, d6, d7, d8, d9, d10, d11⟩ := X.cells))
            | (go_at_call 63; refine (NT.out _).mono ?_; rintro e w' ⟨rfl, hb⟩; replace hbel := kb hbel hb (Nat.le_refl _); replace X := X.keep hb; replace R1 := R1.keep hb; replace R2 := R2.keep hb; (obtain ⟨d0, d1, d2, d3, d4, d5, d6, d7, d8, d9, d10, d11⟩ := X.cells))
            | fail)
          go_ret
          exact ⟨ret_b (Eq.trans (by simp) HV.out.symm), hbel⟩
        | true =>
          by_cases hp0 : peer = 0
          · subst hp0
            cases up with
            | true =>
              cases ns with
              | false =>
                go_enter Try.func45, Try.ntmps45
                go_wp2_with (first
                  | (go_at_call 61; refine (within_any _ _ _ _).mono ?_; rintro e w' ⟨rfl, rfl⟩; first | rw [← HC2.out] | rw [← HC3.out] | rw [← HC4.out])
                  | (go_at_call 60; refine (isEnd_any _ _).mono ?_; rintro e w' ⟨rfl, rfl⟩; rw [← HC1.out])
                  | (go_at_call 64; refine (KS.out _ R1).mono ?_; rintro e w' ⟨rfl, hb⟩; replace hbel := kb hbel hb (Nat.le_refl _); replace X := X.keep hb; replace R1 := R1.keep hb; replace R2 := R2.keep hb; (obtain ⟨d0, d1, d2, d3, d4, d5, d6, d7, d8, d9, d10, d11⟩ := X.cells))
                  | (go_at_call 65; refine (KT.out _ R2).mono ?_; rintro e w' ⟨rfl, hb⟩; replace hbel := kb hbel hb (Nat.le_refl _); replace X := X.keep hb; replace R1 := R1.keep hb; replace R2 := R2.keep hb; (obtain ⟨d0, d1, d2, d3, d4, d5, d6, d7, d8, d9, d10, d11⟩ := X.cells))
                  | (go_at_call 62; refine (NS.out _).mono ?_; rintro e w' ⟨rfl, hb⟩; replace hbel := kb hbel hb (Nat.le_refl _); replace X := X.keep hb; replace R1 := R1.keep hb; replace R2 := R2.keep hb; (obtain ⟨d0, d1, d2, d3, d4, d5, d6, d7, d8, d9, d10, d11⟩ := X.cells))
                  | (go_at_call 63; refine (NT.out _).mono ?_; rintro e w' ⟨rfl, hb⟩; replace hbel := kb hbel hb (Nat.le_refl _); replace X := X.keep hb; replace R1 := R1.keep hb; replace R2 := R2.keep hb; (obtain ⟨d0, d1, d2, d3, d4, d5, d6, d7, d8, d9, d10, d11⟩ := X.cells))
                  | fail)
                go_ret
                exact ⟨ret_b (Eq.trans (by simp) HV.out.symm), hbel⟩
              | true =>
                go_enter Try.func45, Try.ntmps45
                go_wp2_with (first
                  | (go_at_call 61; refine (within_any _ _ _ _).mono ?_; rintro e w' ⟨rfl, rfl⟩; first | rw [← HC2.out] | rw [← HC3.out] | rw [← HC4.out])
                  | (go_at_call 60; refine (isEnd_any _ _).mono ?_; rintro e w' ⟨rfl, rfl⟩; rw [← HC1.out])
                  | (go_at_call 64; refine (KS.out _ R1).mono ?_; rintro e w' ⟨rfl, hb⟩; replace hbel := kb hbel hb (Nat.le_refl _); replace X := X.keep hb; replace R1 := R1.keep hb; replace R2 := R2.keep hb; (obtain ⟨d0, d1, d2, d3, d4, d5, d6, d7, d8, d9, d10, d11⟩ := X.cells))
                  | (go_at_call 65; refine (KT.out _ R2).mono ?_; rintro e w' ⟨rfl, hb⟩; replace hbel := kb hbel hb (Nat.le_refl _); replace X := X.keep hb; replace R1 := R1.keep hb; replace R2 := R2.keep hb; (obtain ⟨d0, d1, d2, d3, d4, d5, d6, d7, d8, d9, d10, d11⟩ := X.cells))
                  | (go_at_call 62; refine (NS.out _).mono ?_; rintro e w' ⟨rfl, hb⟩; replace hbel := kb hbel hb (Nat.le_refl _); replace X := X.keep hb; replace R1 := R1.keep hb; replace R2 := R2.keep hb; (obtain ⟨d0, d1, d2, d3, d4, d5, d6, d7, d8, d9, d10, d11⟩ := X.cells))
                  | (go_at_call 63; refine (NT.out _).mono ?_; rintro e w' ⟨rfl, hb⟩; replace hbel := kb hbel hb (Nat.le_refl _); replace X := X.keep hb; replace R1 := R1.keep hb; replace R2 := R2.keep hb; (obtain ⟨d0, d1, d2, d3, d4, d5, d6, d7, d8, d9, d10, d11⟩ := X.cells))
                  | fail)
                go_ret
                exact ⟨ret_b (Eq.trans (by simp) HV.out.symm), hbel⟩
            | false =>
              by_cases hs0 : since = 0
              · subst hs0
                cases owes with
                | false =>
                  cases ns with
                  | false =>
                    go_enter Try.func45, Try.ntmps45
                    go_wp2_with (first
                      | (go_at_call 61; refine (within_any _ _ _ _).mono ?_; rintro e w' ⟨rfl, rfl⟩; first | rw [← HC2.out] | rw [← HC3.out] | rw [← HC4.out])
                      | (go_at_call 60; refine (isEnd_any _ _).mono ?_; rintro e w' ⟨rfl, rfl⟩; rw [← HC1.out])
                      | (go_at_call 64; refine (KS.out _ R1).mono ?_; rintro e w' ⟨rfl, hb⟩; replace hbel := kb hbel hb (Nat.le_refl _); replace X := X.keep hb; replace R1 := R1.keep hb; replace R2 := R2.keep hb; (obtain ⟨d0, d1, d2, d3, d4, d5, d6, d7, d8, d9, d10, d11⟩ := X.cells))
                      | (go_at_call 65; refine (KT.out _ R2).mono ?_; rintro e w' ⟨rfl, hb⟩; replace hbel := kb hbel hb (Nat.le_refl _); replace X := X.keep hb; replace R1 := R1.keep hb; replace R2 := R2.keep hb; (obtain ⟨d0, d1, d2, d3, d4, d5, d6, d7, d8, d9, d10, d11⟩ := X.cells))
                      | (go_at_call 62; refine (NS.out _).mono ?_; rintro e w' ⟨rfl, hb⟩; replace hbel := kb hbel hb (Nat.le_refl _); replace X := X.keep hb; replace R1 := R1.keep hb; replace R2 := R2.keep hb; (obtain ⟨d0, d1, d2, d3, d4, d5, d6, d7, d8, d9, d10, d11⟩ := X.cells))
                      | (go_at_call 63; refine (NT.out _).mono ?_; rintro e w' ⟨rfl, hb⟩; replace hbel := kb hbel hb (Nat.le_refl _); replace X := X.keep hb; replace R1 := R1.keep hb; replace R2 := R2.keep hb; (obtain ⟨d0, d1, d2, d3, d4, d5, d6, d7, d8, d9, d10, d11⟩ := X.cells))
                      | fail)
                    go_ret
                    exact ⟨ret_b (Eq.trans (by simp) HV.out.symm), hbel⟩
                  | true =>
                    go_enter Try.func45, Try.ntmps45
                    go_wp2_with (first
                      | (go_at_call 61; refine (within_any _ _ _ _).mono ?_; rintro e w' ⟨rfl, rfl⟩; first | rw [← HC2.out] | rw [← HC3.out] | rw [← HC4.out])
                      | (go_at_call 60; refine (isEnd_any _ _).mono ?_; rintro e w' ⟨rfl, rfl⟩; rw [← HC1.out])
                      | (go_at_call 64; refine (KS.out _ R1).mono ?_; rintro e w' ⟨rfl, hb⟩; replace hbel := kb hbel hb (Nat.le_refl _); replace X := X.keep hb; replace R1 := R1.keep hb; replace R2 := R2.keep hb; (obtain ⟨d0, d1, d2, d3, d4, d5, d6, d7, d8, d9, d10, d11⟩ := X.cells))
                      | (go_at_call 65; refine (KT.out _ R2).mono ?_; rintro e w' ⟨rfl, hb⟩; replace hbel := kb hbel hb (Nat.le_refl _); replace X := X.keep hb; replace R1 := R1.keep hb; replace R2 := R2.keep hb; (obtain ⟨d0, d1, d2, d3, d4, d5, d6, d7, d8, d9, d10, d11⟩ := X.cells))
                      | (go_at_call 62; refine (NS.out _).mono ?_; rintro e w' ⟨rfl, hb⟩; replace hbel := kb hbel hb (Nat.le_refl _); replace X := X.keep hb; replace R1 := R1.keep hb; replace R2 := R2.keep hb; (obtain ⟨d0, d1, d2, d3, d4, d5, d6, d7, d8, d9, d10, d11⟩ := X.cells))
                      | (go_at_call 63; refine (NT.out _).mono ?_; rintro e w' ⟨rfl, hb⟩; replace hbel := kb hbel hb (Nat.le_refl _); replace X := X.keep hb; replace R1 := R1.keep hb; replace R2 := R2.keep hb; (obtain ⟨d0, d1, d2, d3, d4, d5, d6, d7, d8, d9, d10, d11⟩ := X.cells))
                      | fail)
                    go_ret
                    exact ⟨ret_b (Eq.trans (by simp) HV.out.symm), hbel⟩
                | true =>
                  go_enter Try.func45, Try.ntmps45
                  go_wp2_with (first
                    | (go_at_call 61; refine (within_any _ _ _ _).mono ?_; rintro e w' ⟨rfl, rfl⟩; first | rw [← HC2.out] | rw [← HC3.out] | rw [← HC4.out])
                    | (go_at_call 60; refine (isEnd_any _ _).mono ?_; rintro e w' ⟨rfl, rfl⟩; rw [← HC1.out])
                    | (go_at_call 64; refine (KS.out _ R1).mono ?_; rintro e w' ⟨rfl, hb⟩; replace hbel := kb hbel hb (Nat.le_refl _); replace X := X.keep hb; replace R1 := R1.keep hb; replace R2 := R2.keep hb; (obtain ⟨d0, d1, d2, d3, d4, d5, d6, d7, d8, d9, d10, d11⟩ := X.cells))
                    | (go_at_call 65; refine (KT.out _ R2).mono ?_; rintro e w' ⟨rfl, hb⟩; replace hbel := kb hbel hb (Nat.le_refl _); replace X := X.keep hb; replace R1 := R1.keep hb; replace R2 := R2.keep hb; (obtain ⟨d0, d1, d2, d3, d4, d5, d6, d7, d8, d9, d10, d11⟩ := X.cells))
                    | (go_at_call 62; refine (NS.out _).mono ?_; rintro e w' ⟨rfl, hb⟩; replace hbel := kb hbel hb (Nat.le_refl _); replace X := X.keep hb; replace R1 := R1.keep hb; replace R2 := R2.keep hb; (obtain ⟨d0, d1, d2, d3, d4, d5, d6, d7, d8, d9, d10, d11⟩ := X.cells))
                    | (go_at_call 63; refine (NT.out _).mono ?_; rintro e w' ⟨rfl, hb⟩; replace hbel := kb hbel hb (Nat.le_refl _); replace X := X.keep hb; replace R1 := R1.keep hb; replace R2 := R2.keep hb; (obtain ⟨d0, d1, d2, d3, d4, d5, d6, d7, d8, d9, d10, d11⟩ := X.cells))
                    | fail)
                  go_ret
                  exact ⟨ret_b (Eq.trans (by simp) HV.out.symm), hbel⟩
              · skip
                go_enter Try.func45, Try.ntmps45
                go_wp2_with (first
                  | (go_at_call 61; refine (within_any _ _ _ _).mono ?_; rintro e w' ⟨rfl, rfl⟩; first | rw [← HC2.out] | rw [← HC3.out] | rw [← HC4.out])
                  | (go_at_call 60; refine (isEnd_any _ _).mono ?_; rintro e w' ⟨rfl, rfl⟩; rw [← HC1.out])
                  | (go_at_call 64; refine (KS.out _ R1).mono ?_; rintro e w' ⟨rfl, hb⟩; replace hbel := kb hbel hb (Nat.le_refl _); replace X := X.keep hb; replace R1 := R1.keep hb; replace R2 := R2.keep hb; (obtain ⟨d0, d1, d2, d3, d4, d5, d6, d7, d8, d9, d10, d11⟩ := X.cells))
                  | (go_at_call 65; refine (KT.out _ R2).mono ?_; rintro e w' ⟨rfl, hb⟩; replace hbel := kb hbel hb (Nat.le_refl _); replace X := X.keep hb; replace R1 := R1.keep hb; replace R2 := R2.keep hb; (obtain ⟨d0, d1, d2, d3, d4, d5, d6, d7, d8, d9, d10, d11⟩ := X.cells))
                  | (go_at_call 62; refine (NS.out _).mono ?_; rintro e w' ⟨rfl, hb⟩; replace hbel := kb hbel hb (Nat.le_refl _); replace X := X.keep hb; replace R1 := R1.keep hb; replace R2 := R2.keep hb; (obtain ⟨d0, d1, d2, d3, d4, d5, d6, d7, d8, d9, d10, d11⟩ := X.cells))
                  | (go_at_call 63; refine (NT.out _).mono ?_; rintro e w' ⟨rfl, hb⟩; replace hbel := kb hbel hb (Nat.le_refl _); replace X := X.keep hb; replace R1 := R1.keep hb; replace R2 := R2.keep hb; (obtain ⟨d0, d1, d2, d3, d4, d5, d6, d7, d8, d9, d10, d11⟩ := X.cells))
                  | fail)
                go_ret
                exact ⟨ret_b (Eq.trans (by simp [hs0]) HV.out.symm), hbel⟩
          · cases up with
            | true =>
              cases s with
              | false =>
                go_enter Try.func45, Try.ntmps45
                go_wp2_with (first
                  | (go_at_call 61; refine (within_any _ _ _ _).mono ?_; rintro e w' ⟨rfl, rfl⟩; first | rw [← HC2.out] | rw [← HC3.out] | rw [← HC4.out])
                  | (go_at_call 60; refine (isEnd_any _ _).mono ?_; rintro e w' ⟨rfl, rfl⟩; rw [← HC1.out])
                  | (go_at_call 64; refine (KS.out _ R1).mono ?_; rintro e w' ⟨rfl, hb⟩; replace hbel := kb hbel hb (Nat.le_refl _); replace X := X.keep hb; replace R1 := R1.keep hb; replace R2 := R2.keep hb; (obtain ⟨d0, d1, d2, d3, d4, d5, d6, d7, d8, d9, d10, d11⟩ := X.cells))
                  | (go_at_call 65; refine (KT.out _ R2).mono ?_; rintro e w' ⟨rfl, hb⟩; replace hbel := kb hbel hb (Nat.le_refl _); replace X := X.keep hb; replace R1 := R1.keep hb; replace R2 := R2.keep hb; (obtain ⟨d0, d1, d2, d3, d4, d5, d6, d7, d8, d9, d10, d11⟩ := X.cells))
                  | (go_at_call 62; refine (NS.out _).mono ?_; rintro e w' ⟨rfl, hb⟩; replace hbel := kb hbel hb (Nat.le_refl _); replace X := X.keep hb; replace R1 := R1.keep hb; replace R2 := R2.keep hb; (obtain ⟨d0, d1, d2, d3, d4, d5, d6, d7, d8, d9, d10, d11⟩ := X.cells))
                  | (go_at_call 63; refine (NT.out _).mono ?_; rintro e w' ⟨rfl, hb⟩; replace hbel := kb hbel hb (Nat.le_refl _); replace X := X.keep hb; replace R1 := R1.keep hb; replace R2 := R2.keep hb; (obtain ⟨d0, d1, d2, d3, d4, d5, d6, d7, d8, d9, d10, d11⟩ := X.cells))
                  | fail)
                go_ret
                exact ⟨ret_b (Eq.trans (by simp [hp0]) HV.out.symm), hbel⟩
              | true =>
                go_enter Try.func45, Try.ntmps45
                go_wp2_with (first
                  | (go_at_call 61; refine (within_any _ _ _ _).mono ?_; rintro e w' ⟨rfl, rfl⟩; first | rw [← HC2.out] | rw [← HC3.out] | rw [← HC4.out])
                  | (go_at_call 60; refine (isEnd_any _ _).mono ?_; rintro e w' ⟨rfl, rfl⟩; rw [← HC1.out])
                  | (go_at_call 64; refine (KS.out _ R1).mono ?_; rintro e w' ⟨rfl, hb⟩; replace hbel := kb hbel hb (Nat.le_refl _); replace X := X.keep hb; replace R1 := R1.keep hb; replace R2 := R2.keep hb; (obtain ⟨d0, d1, d2, d3, d4, d5, d6, d7, d8, d9, d10, d11⟩ := X.cells))
                  | (go_at_call 65; refine (KT.out _ R2).mono ?_; rintro e w' ⟨rfl, hb⟩; replace hbel := kb hbel hb (Nat.le_refl _); replace X := X.keep hb; replace R1 := R1.keep hb; replace R2 := R2.keep hb; (obtain ⟨d0, d1, d2, d3, d4, d5, d6, d7, d8, d9, d10, d11⟩ := X.cells))
                  | (go_at_call 62; refine (NS.out _).mono ?_; rintro e w' ⟨rfl, hb⟩; replace hbel := kb hbel hb (Nat.le_refl _); replace X := X.keep hb; replace R1 := R1.keep hb; replace R2 := R2.keep hb; (obtain ⟨d0, d1, d2, d3, d4, d5, d6, d7, d8, d9, d10, d11⟩ := X.cells))
                  | (go_at_call 63; refine (NT.out _).mono ?_; rintro e w' ⟨rfl, hb⟩; replace hbel := kb hbel hb (Nat.le_refl _); replace X := X.keep hb; replace R1 := R1.keep hb; replace R2 := R2.keep hb; (obtain ⟨d0, d1, d2, d3, d4, d5, d6, d7, d8, d9, d10, d11⟩ := X.cells))
                  | fail)
                go_ret
                exact ⟨ret_b (Eq.trans (by simp [hp0]) HV.out.symm), hbel⟩
            | false =>
              go_enter Try.func45, Try.ntmps45
              go_wp2_with (first
                | (go_at_call 61; refine (within_any _ _ _ _).mono ?_; rintro e w' ⟨rfl, rfl⟩; first | rw [← HC2.out] | rw [← HC3.out] | rw [← HC4.out])
                | (go_at_call 60; refine (isEnd_any _ _).mono ?_; rintro e w' ⟨rfl, rfl⟩; rw [← HC1.out])
                | (go_at_call 64; refine (KS.out _ R1).mono ?_; rintro e w' ⟨rfl, hb⟩; replace hbel := kb hbel hb (Nat.le_refl _); replace X := X.keep hb; replace R1 := R1.keep hb; replace R2 := R2.keep hb; (obtain ⟨d0, d1, d2, d3, d4, d5, d6, d7, d8, d9, d10, d11⟩ := X.cells))
                | (go_at_call 65; refine (KT.out _ R2).mono ?_; rintro e w' ⟨rfl, hb⟩; replace hbel := kb hbel hb (Nat.le_refl _); replace X := X.keep hb; replace R1 := R1.keep hb; replace R2 := R2.keep hb; (obtain ⟨d0, d1, d2, d3, d4, d5, d6, d7, d8, d9, d10, d11⟩ := X.cells))
                | (go_at_call 62; refine (NS.out _).mono ?_; rintro e w' ⟨rfl, hb⟩; replace hbel := kb hbel hb (Nat.le_refl _); replace X := X.keep hb; replace R1 := R1.keep hb; replace R2 := R2.keep hb; (obtain ⟨d0, d1, d2, d3, d4, d5, d6, d7, d8, d9, d10, d11⟩ := X.cells))
                | (go_at_call 63; refine (NT.out _).mono ?_; rintro e w' ⟨rfl, hb⟩; replace hbel := kb hbel hb (Nat.le_refl _); replace X := X.keep hb; replace R1 := R1.keep hb; replace R2 := R2.keep hb; (obtain ⟨d0, d1, d2, d3, d4, d5, d6, d7, d8, d9, d10, d11⟩ := X.cells))
                | fail)
              go_ret
              exact ⟨ret_b (Eq.trans (by simp [hp0]) HV.out.symm), hbel⟩
end Go.Proofs.Ytmliinglojmojab.mk
