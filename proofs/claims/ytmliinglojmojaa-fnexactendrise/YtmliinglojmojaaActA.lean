/-
  AN ACTOR's BLOCK: sending, taking in, the end: 274 cells.
-/
import Derived.Test.YtmliinglojmojaaRingA
import Derived.Test.YtmliinglojmojaaBase
import Derived.Laws.Tables
import Derived.Deep.MidRow
namespace Go.Proofs.Ytmliinglojmojaa.mk
open Go.RowKit
set_option linter.unusedVariables false

theorem fold_list (off : Nat) (l : List Value) : ∀ (k : Nat) (Z : Array Value), off + k + l.length ≤ Z.size → ((l.zipIdx k).foldl (fun (cs : Array Value) (x : Value × Nat) => cs.setIfInBounds (off + x.2) x.1) Z).toList = Z.toList.take (off + k) ++ l ++ Z.toList.drop (off + k + l.length) := by
  induction l with
  | nil => intro k Z h; simp
  | cons c l ih =>
    intro k Z h
    rw [List.zipIdx_cons, List.foldl_cons, ih (k + 1) _ (by simp at h ⊢; omega)]
    simp only [Array.toList_setIfInBounds, List.length_cons]
    simp only [List.length_cons] at h
    have e1 : off + (k + 1) = off + k + 1 := by omega
    have e2 : off + k + 1 + l.length = off + k + (l.length + 1) := by omega
    have hl : off + k < Z.toList.length := by simp; omega
    rw [e1, e2, List.take_succ_eq_append_getElem (by simp; omega), List.take_set_of_le (by omega), List.getElem_set_self, List.drop_set_of_lt (by omega)]
    simp
theorem fold_set (off : Nat) (vs Z : Array Value) (h : off + vs.size ≤ Z.size) : (vs.zipIdx.foldl (fun (cs : Array Value) (x : Value × Nat) => cs.setIfInBounds (off + x.2) x.1) Z).toList = Z.toList.take off ++ vs.toList ++ Z.toList.drop (off + vs.size) := by
  rw [← Array.foldl_toList, Array.toList_zipIdx]
  have := fold_list off vs.toList 0 Z (by simpa using h)
  simpa using this
theorem fill_step (pl : Nat → Option (Nat × Nat)) (Z cs : Array Value) (off size i : Nat) (rest : List (Nat × Value)) (hp : pl i = some (off, size)) (hs : cs.size = size) (ho : off + size ≤ Z.size) :
    Instr.fill pl Z ((i, .agg cs) :: rest) = Instr.fill pl (cs.zipIdx.foldl (fun (cs : Array Value) (x : Value × Nat) => cs.setIfInBounds (off + x.2) x.1) Z) rest := by
  rw [Instr.fill, hp]
  have hc : (Value.agg cs).cells = cs := rfl
  simp only [hc, hs]
  rw [if_neg (by simp; omega)]
theorem fill3 (Z cs ds es : Array Value) (hZ : Z.size = 274) (h1 : cs.size = 242) (h2 : ds.size = 20) (h3 : es.size = 12) :
    Instr.fill (#[(0, 242), (242, 20), (262, 12)][·]?) Z [(0, .agg cs), (1, .agg ds), (2, .agg es)] = some (cs ++ ds ++ es) := by
  have f1 := fold_set 0 cs Z (by omega)
  obtain ⟨Z1, e1⟩ : ∃ Z1, Z1 = cs.zipIdx.foldl (fun (cs : Array Value) (x : Value × Nat) => cs.setIfInBounds (0 + x.2) x.1) Z := ⟨_, rfl⟩
  rw [← e1] at f1
  have s1 : Z1.size = 274 := by rw [← Array.length_toList, f1]; simp; omega
  have f2 := fold_set 242 ds Z1 (by omega)
  obtain ⟨Z2, e2⟩ : ∃ Z2, Z2 = ds.zipIdx.foldl (fun (cs : Array Value) (x : Value × Nat) => cs.setIfInBounds (242 + x.2) x.1) Z1 := ⟨_, rfl⟩
  rw [← e2] at f2
  have s2 : Z2.size = 274 := by rw [← Array.length_toList, f2]; simp; omega
  have f3 := fold_set 262 es Z2 (by omega)
  obtain ⟨Z3, e3⟩ : ∃ Z3, Z3 = es.zipIdx.foldl (fun (cs : Array Value) (x : Value × Nat) => cs.setIfInBounds (262 + x.2) x.1) Z2 := ⟨_, rfl⟩
  rw [← e3] at f3
  have hend : Z3 = cs ++ ds ++ es := by
    apply Array.ext'
    have t1 : Z1.toList.take 242 = cs.toList := by rw [f1]; simp [h1]
    have t2 : Z2.toList.take 262 = cs.toList ++ ds.toList := by
      rw [f2, t1]
      rw [List.take_append_of_le_length (by simp; omega), List.take_of_length_le (by simp; omega)]
    rw [f3, t2, List.drop_eq_nil_of_le (by simp; omega)]
    simp
  rw [fill_step _ Z cs 0 242 0 _ rfl h1 (by omega), ← e1, fill_step _ Z1 ds 242 20 1 _ rfl h2 (by omega), ← e2, fill_step _ Z2 es 262 12 2 _ rfl h3 (by omega), ← e3, hend]
  rfl
theorem built_actor (cs ds es : Array Value) (h1 : cs.size = 242) (h2 : ds.size = 20) (h3 : es.size = 12) : Try.prog.built 141 [(0, .agg cs), (1, .agg ds), (2, .agg es)] = some (cs ++ ds ++ es) := by
  have h : (Try.prog.info? 141).map (fun i => match i.zero with | some (.agg Z) => Z.size | _ => 0) = some 274 := by kernel_rfl
  have hp : (match Try.prog.underlying 141 with | some (.struct fields) => fields.toList.mapM (fun f => (Try.prog.info? f.type).map fun i => (f.offset, i.size)) | _ => none) = some [(0, 242), (242, 20), (262, 12)] := by kernel_rfl
  unfold Program.built
  cases e : Try.prog.info? 141 with
  | none => rw [e] at h; simp at h
  | some it =>
    rw [e] at h
    simp only [Option.map_some, Option.some.injEq] at h
    split at h
    · rename_i Z hz
      cases u : Try.prog.underlying 141 with
      | none => rw [u] at hp; simp at hp
      | some d =>
        rw [u] at hp
        cases d with
        | struct fields =>
          simp only at hp
          simp only [hz, hp]
          exact fill3 Z cs ds es h h1 h2 h3
        | _ => simp at hp
    · simp at h
end Go.Proofs.Ytmliinglojmojaa.mk
