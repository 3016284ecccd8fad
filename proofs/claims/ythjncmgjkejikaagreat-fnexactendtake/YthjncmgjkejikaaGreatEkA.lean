/-
  A PACKET at an end: what it does (plain); the state of an actor.
-/
import Derived.Test.YthjncmgjkejikaaGreatEpA
import Derived.Test.YthjncmgjkejikaaGreatActC
import Derived.Test.YthjncmgjkejikaaGreatWords
import Derived.Test.YthjncmgjkejikaaGreatRgJ0
import Derived.Test.YthjncmgjkejikaaGreatForms
namespace Go.Proofs.YthjncmgjkejikaaGreat.mk
open Go.RowKit
set_option linter.unusedVariables false

/-- an end behind which a new pair of lives begins -/
def pairE (e : En) (m : Int) : En := { e with peer := m, owes := true, b := 0, xs := [], nx := 0, hs := [], o := ⟨#[]⟩, rs := [] }
/-- what a packet of this pair of lives does -/
noncomputable def doE (e : En) (k y nxt msk sq : Int) (l : Bool) (p : ByteArray) : En :=
  if y = e.life then
    (if k = 1 then { e with b := (wordOf e.b e.xs nxt msk).1, xs := (wordOf e.b e.xs nxt msk).2 }
    else { e with owes := true, nx := ((partOf e.nx e.hs e.o e.rs sq p l).1 : Int), hs := (partOf e.nx e.hs e.o e.rs sq p l).2.1, o := (partOf e.nx e.hs e.o e.rs sq p l).2.2.1, rs := (partOf e.nx e.hs e.o e.rs sq p l).2.2.2 })
  else { e with owes := true }
/-- what taking a packet gives -/
noncomputable def takeE (e : En) (k f m y nxt msk sq : Int) (l : Bool) (p : ByteArray) : Int × En :=
  if enOk e.num e.up e.life e.peer e.since e.owes e.b e.xs e.nx e.hs e.o e.rs = true then
    (if heedsP e.num e.up e.peer k f m y nxt msk sq l p = true then
      (if e.peer < m then (0, doE (pairE e m) k y nxt msk sq l p) else (0, doE e k y nxt msk sq l p))
    else (0, e))
  else (1, zeroE)
theorem tin_lenE (xs : List Hd) : ∀ (nx : Nat) (o : ByteArray) (rs : List ByteArray), (tin xs nx o rs).2.1.length ≤ xs.length ∧ (tin xs nx o rs).2.2.2.length ≤ rs.length + xs.length := by
  induction xs with
  | nil => intro nx o rs; simp [tin]
  | cons x xs ih =>
    intro nx o rs
    unfold tin
    split
    · split
      · have := ih (nx + 1) ⟨#[]⟩ (rs ++ [o ++ x.text])
        simp at this ⊢
        omega
      · have := ih (nx + 1) (o ++ x.text) rs
        simp at this ⊢
        omega
    · simp
theorem part_lenE (nx : Int) (xs : List Hd) (o : ByteArray) (rs : List ByteArray) (q : Int) (s : ByteArray) (l : Bool) : (partOf nx xs o rs q s l).2.1.length ≤ 9 ∧ (partOf nx xs o rs q s l).2.2.2.length ≤ 13 := by
  cases hv : tkOk nx xs o rs
  · rw [partOf_no hv]
    simp
  · obtain ⟨n, rfl⟩ : ∃ n : Nat, nx = (n : Int) := ⟨nx.toNat, by have := (tkOk_of hv).1; unfold TkHd at this; omega⟩
    have h1 := (tkOk_of hv).len
    have h2 := (tkOk_of hv).1
    unfold TkHd at h2
    have h3 : (heldBy n xs q s l).length ≤ xs.length + 1 := by unfold heldBy; split; (rw [ins_length]; omega); omega
    rw [partOf_yes hv]
    have h4 := tin_lenE (heldBy n xs q s l) n o rs
    omega
theorem word_lenE (b : Int) (xs : List It) (next mask : Int) : (wordOf b xs next mask).2.length ≤ 60 := by
  cases hv : sdOk b xs
  · rw [wordOf_no hv]; simp
  · obtain ⟨n, rfl⟩ : ∃ n : Nat, b = (n : Int) := ⟨b.toNat, by have := (sdOk_of hv).1; unfold HdOk at this; omega⟩
    rw [wordOf_yes hv]
    have h1 := (heard_le n xs next mask).1
    have h2 : xs.length ≤ 60 := by have := (sdOk_of hv).1; unfold HdOk at this; omega
    exact Nat.le_trans h1 h2
theorem doE_size (e : En) (k y nxt msk sq : Int) (l : Bool) (p : ByteArray) (n : Nat) (h60 : 60 ≤ n) (h1 : e.xs.length ≤ n) (h2 : e.hs.length ≤ n) (h3 : e.rs.length ≤ n) : (doE e k y nxt msk sq l p).xs.length ≤ n ∧ (doE e k y nxt msk sq l p).hs.length ≤ n ∧ (doE e k y nxt msk sq l p).rs.length ≤ n := by
  unfold doE
  split
  · split
    · have := word_lenE e.b e.xs nxt msk
      exact ⟨by dsimp only; omega, h2, h3⟩
    · have := part_lenE e.nx e.hs e.o e.rs sq p l
      exact ⟨h1, by dsimp only; omega, by dsimp only; omega⟩
  · exact ⟨h1, h2, h3⟩
theorem takeE_size {e : En} {n : Nat} (k f m y nxt msk sq : Int) (l : Bool) (p : ByteArray) (h60 : 60 ≤ n) (h : Se n e) : (takeE e k f m y nxt msk sq l p).2.xs.length ≤ n ∧ (takeE e k f m y nxt msk sq l p).2.hs.length ≤ n ∧ (takeE e k f m y nxt msk sq l p).2.rs.length ≤ n := by
  unfold takeE
  split
  · split
    · split
      · exact doE_size _ k y nxt msk sq l p n h60 (Nat.zero_le _) (Nat.zero_le _) (Nat.zero_le _)
      · exact doE_size e k y nxt msk sq l p n h60 h.n h.tk.n h.tk.k
    · exact ⟨h.n, h.tk.n, h.tk.k⟩
  · exact ⟨Nat.zero_le _, Nat.zero_le _, Nat.zero_le _⟩
theorem set_self (cr ds l : List Value) (j : Nat) (v : Value) (h1 : cr.length = 242) (h2 : ds.length = 20) : (cr ++ (ds ++ l)).set (262 + j) v = cr ++ (ds ++ l.set j v) := by
  rw [List.set_append_right _ _ (by omega), List.set_append_right _ _ (by omega)]
  congr 3
  omega
theorem self_at {cr ds l : List Value} {w : World} {base A n : Nat} {t : TypeId} (h : w.ownsRow base t n (.slice (some ⟨A, 0, none⟩) 1 1) 1 (cr ++ (ds ++ l))) (h1 : cr.length = 242) (h2 : ds.length = 20) (j k : Nat) (hk : k = 262 + j) (hj : j < l.length) : w.cell? ⟨A, k, none⟩ = l[j]? := by
  subst hk
  have hl := h.1
  simp only [List.length_append] at hl
  rw [h.cellAt (262 + j) (by omega), List.getElem?_append_right (by omega), List.getElem?_append_right (by omega)]
  congr 1
  omega
theorem ne_block {w : World} {b b' : Nat} {e e' : TypeId} {sz sz' n n' A l c : Nat} {v : Value} {xs xs' : List Value} (h : w.ownsRow b e sz v n xs) (h' : w.ownsRow b' e' sz' (.slice (some ⟨A, 0, none⟩) l c) n' xs') (hne : e ≠ e') : v.ownBlock ≠ some A := by
  rcases rows_ne6 h h' hne with q | q
  · rw [q]; simp
  · simpa [Value.ownBlock] using q
/-- an actor at block A that stands for an end; sf: what its own Send and Take were -/
structure Actr (base A : Nat) (num : Int) (up : Bool) (life peer since : Int) (owes : Bool) (b : Nat) (xs : List It) (nx : Nat) (hs : List Hd) (o : ByteArray) (rs : List ByteArray) (sf : List Value) (w : World) : Prop where
  ex : ∃ cr ds v, w.ownsRow base 114 274 (.slice (some ⟨A, 0, none⟩) 1 1) 1 (cr ++ (ds ++ (.int .i64 num :: .bool up :: .int .i64 life :: .int .i64 peer :: .int .i64 since :: .bool owes :: sf))) ∧ Holds b xs cr ∧ HoldT (nx : Int) hs o v ds ∧ cr.length = 242 ∧ ds.length = 20 ∧ w.ownsRow base 9 1 v rs.length (ss rs)
theorem Actr.keep {base A : Nat} {num : Int} {up : Bool} {life peer since : Int} {owes : Bool} {b : Nat} {xs : List It} {nx : Nat} {hs : List Hd} {o : ByteArray} {rs : List ByteArray} {sf : List Value} {w w' : World} (h : Actr base A num up life peer since owes b xs nx hs o rs sf w) (hb : Below w.heap.size w w') : Actr base A num up life peer since owes b xs nx hs o rs sf w' := by
  obtain ⟨cr, ds, v, h1, h2, h3, l1, l2, h4⟩ := h.ex
  exact ⟨cr, ds, v, owns_keep h1 hb, h2, h3, l1, l2, owns_keep h4 hb⟩
theorem Actr.lt {base A : Nat} {num : Int} {up : Bool} {life peer since : Int} {owes : Bool} {b : Nat} {xs : List It} {nx : Nat} {hs : List Hd} {o : ByteArray} {rs : List ByteArray} {sf : List Value} {w : World} (h : Actr base A num up life peer since owes b xs nx hs o rs sf w) : base ≤ A ∧ A < w.heap.size := by
  obtain ⟨cr, ds, v, h1, h2, h3, l1, l2, h4⟩ := h.ex
  exact h1.lt A rfl
theorem Actr.cells {base A : Nat} {num : Int} {up : Bool} {life peer since : Int} {owes : Bool} {b : Nat} {xs : List It} {nx : Nat} {hs : List Hd} {o : ByteArray} {rs : List ByteArray} {sf : List Value} {w : World} (h : Actr base A num up life peer since owes b xs nx hs o rs sf w) : w.cell? ⟨A, 262, none⟩ = some (.int .i64 num) ∧ w.cell? ⟨A, 263, none⟩ = some (.bool up) ∧ w.cell? ⟨A, 264, none⟩ = some (.int .i64 life) ∧ w.cell? ⟨A, 265, none⟩ = some (.int .i64 peer) ∧ w.cell? ⟨A, 267, none⟩ = some (.bool owes) ∧ w.frozen? ⟨A, 265, none⟩ = false ∧ w.frozen? ⟨A, 267, none⟩ = false := by
  obtain ⟨cr, ds, v, h1, h2, h3, l1, l2, h4⟩ := h.ex
  exact ⟨self_at h1 l1 l2 0 262 rfl (by simp), self_at h1 l1 l2 1 263 rfl (by simp), self_at h1 l1 l2 2 264 rfl (by simp), self_at h1 l1 l2 3 265 rfl (by simp), self_at h1 l1 l2 5 267 rfl (by simp), h1.frozenAt 265, h1.frozenAt 267⟩
/-- it owes a word -/
theorem Actr.owe {base A : Nat} {num : Int} {up : Bool} {life peer since : Int} {owes : Bool} {b : Nat} {xs : List It} {nx : Nat} {hs : List Hd} {o : ByteArray} {rs : List ByteArray} {sf : List Value} {w : World} (h : Actr base A num up life peer since owes b xs nx hs o rs sf w) : Actr base A num up life peer since true b xs nx hs o rs sf (w.setCell ⟨A, 267, none⟩ (.bool true)) := by
  obtain ⟨cr, ds, v, h1, h2, h3, l1, l2, h4⟩ := h.ex
  have h5 := (h1.stored 267 (.bool true)).1
  rw [show (267 : Nat) = 262 + 5 from rfl, set_self cr ds _ 5 _ l1 l2] at h5
  exact ⟨cr, ds, v, h5, h2, h3, l1, l2, ownsRow_setCell_other h4 (a := ⟨A, 267, none⟩) (ne_block h4 h1 (by decide)) (.bool true)⟩
theorem Actr.peered {base A : Nat} {num : Int} {up : Bool} {life peer since : Int} {owes : Bool} {b : Nat} {xs : List It} {nx : Nat} {hs : List Hd} {o : ByteArray} {rs : List ByteArray} {sf : List Value} {w : World} (h : Actr base A num up life peer since owes b xs nx hs o rs sf w) (m : Int) : Actr base A num up life m since owes b xs nx hs o rs sf (w.setCell ⟨A, 265, none⟩ (.int .i64 m)) := by
  obtain ⟨cr, ds, v, h1, h2, h3, l1, l2, h4⟩ := h.ex
  have h5 := (h1.stored 265 (.int .i64 m)).1
  rw [show (265 : Nat) = 262 + 3 from rfl, set_self cr ds _ 3 _ l1 l2] at h5
  exact ⟨cr, ds, v, h5, h2, h3, l1, l2, ownsRow_setCell_other h4 (a := ⟨A, 265, none⟩) (ne_block h4 h1 (by decide)) (.int .i64 m)⟩
end Go.Proofs.YthjncmgjkejikaaGreat.mk
