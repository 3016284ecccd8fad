/-
  A REGION THAT DRAWS ITS ORDER, by what holds of the operations that are done: no order is walked.
-/
import Derived.Test.YtfeknhopjgpbfaaDoorProg
import Derived.Orders
import Derived.RegionTactic
namespace Go.Proofs.YtfeknhopjgpbfaaDoor.mk
set_option linter.unusedVariables false

theorem count_set {l : List Bool} : ∀ {i : Nat}, l[i]? = some false → (l.set i true).count false + 1 = l.count false := by
  induction l with
  | nil => intro i h; simp at h
  | cons b l ih =>
    intro i h
    cases i with
    | zero => simp at h; subst h; simp
    | succ i =>
      simp only [List.getElem?_cons_succ] at h
      have := ih h
      cases b <;> simp at this ⊢ <;> omega
/-- what an operation waits for -/
def deps (md : Region.Mode) (ops : Array Oper) (i : Nat) : List Nat := ((ops[i]?.map (·.after)).getD #[]).toList.filterMap fun e => if Region.binds md e = true then some e.on else none
/-- every operation waits for earlier ones alone -/
def downB (ops : Array Oper) : Bool := (List.range ops.size).all fun i => ((ops[i]?.map (·.after)).getD #[]).toList.all fun e => decide (e.on < i)
theorem wpAny_inv {P : Program} {md : Region.Mode} {ops : Array Oper} {Q : Exit → Act → World → Prop} (I : (Nat → Bool) → Act → World → Prop)
    (hstep : ∀ (L : Nat → Bool) a w i o, I L a w → ops[i]? = some o → i < ops.size → L i = false → (∀ j ∈ deps md ops i, L j = true) → wpOp P ops Q i (I (fun j => if j = i then true else L j)) a w)
    (hdone : ∀ (L : Nat → Bool) a w, (∀ j, j < ops.size → L j = true) → I L a w → Q .normal a w)
    (hdownB : downB ops = true) :
    ∀ (fuel : Nat) (listed : Array Bool) (a : Act) (w : World), listed.size = ops.size → listed.toList.count false ≤ fuel → I (fun j => listed.getD j false) a w → wpAny P md ops Q fuel listed a w := by
  have hdown : ∀ i, i < ops.size → ∀ e ∈ (ops[i]?.map (·.after)).getD #[], e.on < i := fun i hi e he => by
    have h1 := List.all_eq_true.1 hdownB i (List.mem_range.2 hi)
    have h2 := List.all_eq_true.1 h1 e (by simpa using he)
    exact of_decide_eq_true h2
  have hall : ∀ (listed : Array Bool), listed.size = ops.size → Region.ready md ops listed = [] → ∀ j, j < ops.size → listed.getD j false = true := by
    intro listed hs hr j
    induction j using Nat.strongRecOn with
    | ind j ih =>
      intro hj
      rcases Bool.eq_false_or_eq_true (listed.getD j false) with h | h
      · exact h
      · exfalso
        have hm : j ∈ Region.ready md ops listed := by
          refine mem_ready.2 ⟨?_, ops[j], by simp [hj], fun e he _ => ih e.on (hdown j hj e (by simpa [hj] using he)) (Nat.lt_trans (hdown j hj e (by simpa [hj] using he)) hj)⟩
          have hj' : j < listed.size := by omega
          simpa [Array.getD, hj'] using h
        rw [hr] at hm
        cases hm
  intro fuel
  induction fuel with
  | zero =>
    intro listed a w hs hc hI
    have h1 : ∀ j, j < ops.size → listed.getD j false = true := fun j hj => by
      have hj' : j < listed.size := by omega
      rcases Bool.eq_false_or_eq_true (listed.getD j false) with h | h
      · exact h
      · exfalso
        have : false ∈ listed.toList := by
          have e : listed[j] = false := by simpa [Array.getD, hj'] using h
          rw [← e]
          simp
        have := List.count_pos_iff.2 this
        omega
    refine ⟨?_, hdone _ a w h1 hI⟩
    apply List.eq_nil_iff_forall_not_mem.2
    intro j hj
    obtain ⟨h2, o, ho, _⟩ := mem_ready.1 hj
    have hj0 : j < ops.size := (Array.getElem?_eq_some_iff.1 ho).1
    have hj' : j < listed.size := by omega
    have h3 := h1 j hj0
    simp [Array.getD, hj'] at h2 h3
    rw [h2] at h3
    cases h3
  | succ fuel ih =>
    intro listed a w hs hc hI
    refine ⟨fun hr => hdone _ a w (hall listed hs hr) hI, fun i hi => ?_⟩
    obtain ⟨h2, o, ho, h3⟩ := mem_ready.1 hi
    have hj0 : i < ops.size := (Array.getElem?_eq_some_iff.1 ho).1
    have hj' : i < listed.size := by omega
    have h4 : listed.getD i false = false := by simpa [Array.getD, hj'] using h2
    refine wpOp_mono (fun a' w' h' => ?_) (hstep _ a w i o hI ho hj0 h4 (fun j hj => ?_))
    rotate_left
    · unfold deps at hj
      obtain ⟨e, he, hje⟩ := List.mem_filterMap.1 hj
      rw [ho] at he
      split at hje
      · rename_i hb
        cases hje
        exact h3 e (by simpa using he) hb
      · cases hje
    refine ih _ a' w' (by simpa using hs) ?_ ?_
    · have e : listed.toList[i]? = some false := by simpa [Array.getD, hj'] using h2
      have := count_set e
      rw [Array.toList_setIfInBounds]
      omega
    · have e : (fun j => (listed.setIfInBounds i true).getD j false) = (fun j => if j = i then true else listed.getD j false) := by
        funext j
        by_cases hji : j = i
        · subst hji
          simp [Array.getD, hj']
        · rw [if_neg hji]
          exact getD_set_ne false (Ne.symm hji)
      rw [e]
      exact h'
end Go.Proofs.YtfeknhopjgpbfaaDoor.mk
