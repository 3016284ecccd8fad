/-
  JOINING: what parts make; spec.Join.
-/
import Derived.Test.YtdmlhfbnhhafmaaBase
import Derived.Lib.AppendStr
namespace Go.Proofs.Ytdmlhfbnhhafmaa.mk
open Go.RowKit
set_option linter.unusedVariables false

def jn : List (ByteArray × Bool) → List ByteArray → ByteArray → List ByteArray × ByteArray × Bool
  | [], ms, o => (ms, o, true)
  | x :: xs, ms, o => if 20 < x.1.size ∨ 200 < o.size + x.1.size then ([], ⟨#[]⟩, false) else if x.2 then jn xs (ms ++ [o ++ x.1]) ⟨#[]⟩ else jn xs ms (o ++ x.1)
def join (xs : List (ByteArray × Bool)) : List ByteArray × ByteArray × Bool := if 1000000 < xs.length then ([], ⟨#[]⟩, false) else jn xs [] ⟨#[]⟩
theorem jn_at (xs : List (ByteArray × Bool)) (k : Nat) (ms : List ByteArray) (o : ByteArray) (h : k < xs.length) :
    jn (xs.drop k) ms o = if 20 < xs[k].1.size ∨ 200 < o.size + xs[k].1.size then ([], ⟨#[]⟩, false) else if xs[k].2 then jn (xs.drop (k + 1)) (ms ++ [o ++ xs[k].1]) ⟨#[]⟩ else jn (xs.drop (k + 1)) ms (o ++ xs[k].1) := by
  rw [List.drop_eq_getElem_cons h, jn]
theorem jn_end (xs : List (ByteArray × Bool)) (ms : List ByteArray) (o : ByteArray) : jn (xs.drop xs.length) ms o = (ms, o, true) := by
  rw [List.drop_length, jn]
theorem info_string : (Try.prog.info? 9).map (fun i => (i.zero, i.size, i.bytes)) = some (some (.string ⟨#[]⟩), 1, 16) := by kernel_rfl
theorem owns_lit0 (w : World) (e : TypeId) (size : Nat) : (w.alloc (.cells #[] e)).ownsRow w.heap.size e size (.slice (some ⟨w.heap.size, 0, none⟩) 0 0) 0 [] := World.ownsRow_lit _ #[] 0 (Nat.le_refl _) (Nat.zero_le _) (by simp)
theorem below_app {B base : Nat} {w wr w1 : World} {e : TypeId} {size n : Nat} {o : Value} {xs : List Value} {ob : Obj} (h : Below B w wr) (hown : wr.ownsRow base e size o n xs) (hg : (wr.alloc ob).grownBy w1 o.ownBlock) (hB : B ≤ base := by omega) (hw : B ≤ w.heap.size := by omega) : Below B w w1 :=
  (h.alloc (Nat.le_trans hw h.size) ob).grown hg (by have := h.size; simp; omega) (fun k hk => Nat.le_trans hB (hown.lt k hk).1)
set_option maxRecDepth 100000 in
set_option maxHeartbeats 1000000 in
theorem specJoin_yes (ao : Option Addr) (cap : Nat) (xs : List (ByteArray × Bool)) (w : World) (hl : xs.length ≤ 1000000) (hz : ∀ i (h : i < xs.length), xs[i].1.size ≤ 1048576) (hr : Rs w ao xs.length (ps xs)) (J : List ByteArray × ByteArray × Bool) (hJ : J = jn xs [] ⟨#[]⟩) :
    Calls Try.prog 20 #[.slice ao xs.length cap] w fun e w' => (∃ v, e = .returned (.tuple #[v, .string J.2.1, .bool J.2.2]) ∧ w'.ownsRow w.heap.size 9 1 v J.1.length (ss J.1)) ∧ Below w.heap.size w w' := by
  obtain ⟨i0, hi, hz0, hz1, hz2⟩ := info_parts info_string
  have HR : Hid (Rs w ao xs.length (ps xs)) := hr
  have HZ : Hid (∀ i (h : i < xs.length), xs[i].1.size ≤ 1048576) := hz
  have HJ : Hid (J = jn xs [] ⟨#[]⟩) := hJ
  clear hr hz hJ
  go_enter Try.func20, Try.ntmps20
  go_wp2
  go_loopw [5, 6, 7] (fun m y i wr => ∃ (k : Nat) (ms : List ByteArray) (o : ByteArray), k ≤ xs.length ∧ i = .int .i64 k ∧ y = .string o ∧ o.size ≤ 200 ∧ ms.length ≤ k ∧ jn (xs.drop k) ms o = J ∧ wr.ownsRow w.heap.size 9 1 m ms.length (ss ms) ∧ Below w.heap.size w wr) (fun _ _ i _ => xs.length - (intOf i).toNat)
  case atStart => exact ⟨0, [], ⟨#[]⟩, Nat.zero_le _, rfl, rfl, by decide, by simp, HJ.out.symm, owns_lit0 _ _ _, (Below.refl _ _).alloc (Nat.le_refl _) _⟩
  case round =>
    obtain ⟨k, ms, o, hk, rfl, rfl, ho, hms, hjn, hown, hbel⟩ := hrel
    by_cases hlt : k < xs.length
    · rcases HR.out.ex with h | ⟨g, rfl, hg, hgc⟩
      · omega
      have hx := ps_at xs k hlt
      have hpl := ps_length xs
      have a0 : wr.cell? ⟨g, k * 2, none⟩ = some (.string xs[k].1) := (hbel.cell (p := ⟨g, k * 2, none⟩) hg).trans ((hgc _ (by omega)).trans hx.1)
      have a1 : wr.cell? ⟨g, k * 2 + 1, none⟩ = some (.bool xs[k].2) := (hbel.cell (p := ⟨g, k * 2 + 1, none⟩) hg).trans ((hgc _ (by omega)).trans hx.2)
      have hsz := HZ.out k hlt
      rw [jn_at xs k ms o hlt] at hjn
      clear hx hgc
      generalize xs[k].1 = s at *
      generalize xs[k].2 = t at *
      have HN : Hid ((if 20 < s.size ∨ 200 < o.size + s.size then ([], ⟨#[]⟩, false) else if t then jn (xs.drop (k + 1)) (ms ++ [o ++ s]) ⟨#[]⟩ else jn (xs.drop (k + 1)) ms (o ++ s)) = J) := hjn
      clear hjn
      by_cases hb1 : 20 < s.size
      · have hJ : J = ([], ⟨#[]⟩, false) := by rw [← HN.out, if_pos (.inl hb1)]
        subst hJ
        go_wp2
        exact bodyPost_ret (v := .tuple #[_, .string ⟨#[]⟩, .bool false]) (by simp [results, Try.results20, go_sem]) rfl ⟨⟨_, rfl, World.ownsRow_lit _ #[] 0 hbel.size (Nat.zero_le _) rfl⟩, hbel.alloc hbel.size _⟩
      · by_cases hb2 : 200 < o.size + s.size
        · have hJ : J = ([], ⟨#[]⟩, false) := by rw [← HN.out, if_pos (.inr hb2)]
          subst hJ
          go_wp2
          exact bodyPost_ret (v := .tuple #[_, .string ⟨#[]⟩, .bool false]) (by simp [results, Try.results20, go_sem]) rfl ⟨⟨_, rfl, World.ownsRow_lit _ #[] 0 hbel.size (Nat.zero_le _) rfl⟩, hbel.alloc hbel.size _⟩
        · have hN : (if t then jn (xs.drop (k + 1)) (ms ++ [o ++ s]) ⟨#[]⟩ else jn (xs.drop (k + 1)) ms (o ++ s)) = J := by have q := HN.out; rw [if_neg (by omega)] at q; exact q
          have hos : (o ++ s).size = o.size + s.size := ByteArray.size_append
          clear HN
          cases t with
          | true =>
            have HN : Hid (jn (xs.drop (k + 1)) (ms ++ [o ++ s]) ⟨#[]⟩ = J) := (by simpa using hN : _ = J)
            clear hN
            go_wp2_with (at_builtin; refine wpList_append_own _ rfl _ _ 31 rfl w.heap.size 9 i0 (.string ⟨#[]⟩) 1 16 Try.underlying31 hi hz0 hz1 hz2 rfl (by decide) _ _ _ rfl (hown.alloc _) ⟨wr.heap.size, 0, none⟩ 1 1 [.string (o ++ s)] rfl rfl (cell_one_new _ _ _) (by simp [Value.oneCell']) (by unfold maxLen; omega) (by omega) (by have := hbel.size; simp; omega) ?_; intro v' w1 hown' hgrow _)
            have hb1 := below_app hbel hown hgrow
            go_roundw
            case rel => exact ⟨k + 1, ms ++ [o ++ s], ⟨#[]⟩, by omega, by go_num, rfl, by decide, by simp; omega, HN.out, by rw [ss_append]; simpa [ss] using hown', hb1⟩
            case measure => simp [intOf]; omega
          | false =>
            have HN : Hid (jn (xs.drop (k + 1)) ms (o ++ s) = J) := (by simpa using hN : _ = J)
            clear hN
            go_wp2
            go_roundw
            case rel => exact ⟨k + 1, ms, o ++ s, by omega, by go_num, rfl, by omega, by omega, HN.out, hown, hbel⟩
            case measure => simp [intOf]; omega
    · obtain rfl : k = xs.length := by omega
      rw [jn_end] at hjn
      subst hjn
      go_wp2
      exact bodyPost_ret (v := .tuple #[_, .string o, .bool true]) (by simp [results, Try.results20, go_sem]) rfl ⟨⟨_, rfl, hown⟩, hbel⟩
theorem specJoin_any (ao : Option Addr) (cap : Nat) (xs : List (ByteArray × Bool)) (w : World) (hl : xs.length ≤ 1048576) (hz : ∀ i (h : i < xs.length), xs[i].1.size ≤ 1048576) (hr : Rs w ao xs.length (ps xs)) :
    Calls Try.prog 20 #[.slice ao xs.length cap] w fun e w' => (∃ v, e = .returned (.tuple #[v, .string (join xs).2.1, .bool (join xs).2.2]) ∧ w'.ownsRow w.heap.size 9 1 v (join xs).1.length (ss (join xs).1)) ∧ Below w.heap.size w w' := by
  by_cases h : 1000000 < xs.length
  · have hj : join xs = ([], ⟨#[]⟩, false) := by rw [join, if_pos h]
    rw [hj]
    clear hr hz
    go_enter Try.func20, Try.ntmps20
    go_wp2
    exact bodyPost_ret (v := .tuple #[_, .string ⟨#[]⟩, .bool false]) (by simp [results, Try.results20, go_sem]) rfl ⟨⟨_, rfl, owns_lit0 _ _ _⟩, (Below.refl _ _).alloc (Nat.le_refl _) _⟩
  · have hj : join xs = jn xs [] ⟨#[]⟩ := by rw [join, if_neg h]
    rw [hj]
    exact specJoin_yes ao cap xs w (by omega) hz hr _ rfl
end Go.Proofs.Ytdmlhfbnhhafmaa.mk
