/-
  PARTS: what is cut is joined again; the drawing of a message.
-/
import Derived.Test.YtdmlhfbnhhafmaaCutB
import Derived.Test.YtdmlhfbnhhafmaaJoinB
import Derived.Test.YtdmlhfbnhhafmaaDrawC
import Derived.Laws.AppendOwnNone
namespace Go.Proofs.Ytdmlhfbnhhafmaa.mk
open Go.RowKit
open Go.Proofs.Ytdmlhfbnhhafmaa.draw
set_option linter.unusedVariables false

theorem ext_join (r : ByteArray) (h : 20 < r.size) : r.extract 0 20 ++ r.extract 20 r.size = r := by
  apply ByteArray.ext
  have h' : 20 < r.data.size := h
  simp only [ByteArray.data_append, ByteArray.data_extract]
  show r.data.extract 0 20 ++ r.data.extract 20 r.data.size = r.data
  rw [Array.extract_append_extract]
  simp
  omega
theorem ext0_size (r : ByteArray) (h : 20 < r.size) : (r.extract 0 20).size = 20 := by rw [ByteArray.size_extract]; omega
theorem app_assoc (a b c : ByteArray) : a ++ b ++ c = a ++ (b ++ c) := by
  apply ByteArray.ext
  simp [ByteArray.data_append]
theorem nil_app (a : ByteArray) : (⟨#[]⟩ : ByteArray) ++ a = a := by
  apply ByteArray.ext
  simp [ByteArray.data_append]
theorem jn_cut (r o : ByteArray) (ms : List ByteArray) (rest : List (ByteArray × Bool)) (h : o.size + r.size ≤ 200) : jn (cut r ++ rest) ms o = jn rest (ms ++ [o ++ r]) ⟨#[]⟩ := by
  induction hk : r.size using Nat.strongRecOn generalizing r o with
  | _ m ih =>
    by_cases hlt : 20 < r.size
    · rw [cut_step r hlt]
      have hz := ext_size r hlt
      have h0 := ext0_size r hlt
      have := ih (r.size - 20) (by omega) (r.extract 20 r.size) (o ++ r.extract 0 20) (by rw [ByteArray.size_append, hz, h0]; omega) hz
      rw [List.cons_append, jn, if_neg (by rw [h0]; omega), if_neg (by simp), this, app_assoc, ext_join r hlt]
    · rw [cut_last r hlt, List.singleton_append, jn, if_neg (by dsimp only; omega), if_pos rfl]
theorem jn_cutOf (r : ByteArray) (ms : List ByteArray) (rest : List (ByteArray × Bool)) : jn (cutOf r ++ rest) ms ⟨#[]⟩ = jn rest (if r.size ≤ 200 then ms ++ [r] else ms) ⟨#[]⟩ := by
  unfold cutOf
  split
  · rename_i h
    rw [jn_cut r ⟨#[]⟩ ms rest (by show 0 + r.size ≤ 200; omega), nil_app]
  · rfl
theorem cutOf_len (s : ByteArray) : (cutOf s).length ≤ 11 := by
  unfold cutOf
  split
  · have := cut_length s; omega
  · simp
theorem cut_pos (s : ByteArray) : 0 < (cut s).length := by
  by_cases h : 20 < s.size
  · rw [cut_step s h]; simp
  · rw [cut_last s h]; simp
theorem join_cut2 (a b : ByteArray) : join (cutOf a ++ cutOf b) = ((if a.size ≤ 200 then [a] else []) ++ (if b.size ≤ 200 then [b] else []), ⟨#[]⟩, true) := by
  have ha := cutOf_len a
  have hb := cutOf_len b
  unfold join
  rw [if_neg (by simp; omega), jn_cutOf]
  have := jn_cutOf b (if a.size ≤ 200 then [] ++ [a] else []) []
  rw [List.append_nil] at this
  rw [this, jn]
  split <;> split <;> simp
/-- a row that owns one element at least lies somewhere -/
theorem owns_some {w : World} {base n : Nat} {e : TypeId} {size : Nat} {v : Value} {xs : List Value} (h : w.ownsRow base e size v n xs) (hn : 0 < n) : ∃ g cap, v = .slice (some ⟨g, 0, none⟩) n cap := by
  rcases h.2 with ⟨_, h0⟩ | ⟨g, cap, _, rfl, _⟩
  · omega
  · exact ⟨g, cap, rfl⟩
theorem specCut_some (s : ByteArray) (w : World) (hs : s.size ≤ 1048576) :
    Calls Try.prog 11 #[.string s] w fun e w' => (∃ g cap, e = .returned (.slice (some ⟨g, 0, none⟩) (cutOf s).length cap) ∧ w'.ownsRow w.heap.size 66 2 (.slice (some ⟨g, 0, none⟩) (cutOf s).length cap) (cutOf s).length (ps (cutOf s))) ∧ Below w.heap.size w w' := by
  by_cases h : s.size ≤ 200
  · rw [cutOf, if_pos h]
    refine (specCut_yes s w h).mono fun e w' ⟨⟨v, e1, e2⟩, e3⟩ => ?_
    obtain ⟨g, cap, rfl⟩ := owns_some e2 (cut_pos s)
    exact ⟨⟨g, cap, e1, e2⟩, e3⟩
  · rw [cutOf, if_neg h]
    go_enter Try.func11, Try.ntmps11
    go_wp2
    go_ret
    exact ⟨⟨_, _, rfl, World.ownsRow_lit _ #[] 0 (Nat.le_refl _) (Nat.zero_le _) rfl⟩, (Below.refl _ _).alloc (Nat.le_refl _) _⟩
theorem implCut_some (s : ByteArray) (w : World) (h : s.size ≤ 200) :
    Calls Try.prog 12 #[.string s] w fun e w' => (∃ g cap, e = .returned (.slice (some ⟨g, 0, none⟩) (cutOf s).length cap) ∧ w'.ownsRow w.heap.size 66 2 (.slice (some ⟨g, 0, none⟩) (cutOf s).length cap) (cutOf s).length (ps (cutOf s))) ∧ Below w.heap.size w w' := by
  rw [cutOf, if_pos h]
  refine (implCut_yes s w h).mono fun e w' ⟨⟨v, e1, e2⟩, e3⟩ => ?_
  obtain ⟨g, cap, rfl⟩ := owns_some e2 (cut_pos s)
  exact ⟨⟨g, cap, e1, e2⟩, e3⟩
theorem implCut_none (s : ByteArray) (w : World) (h : ¬ s.size ≤ 200) (hs : s.size ≤ 1048576) :
    Calls Try.prog 12 #[.string s] w fun e w' => e = .returned (.slice none 0 0) ∧ w' = w := by
  go_enter Try.func12, Try.ntmps12
  go_wp2
  go_ret
  exact ⟨rfl, rfl⟩
theorem wTexts_same (ao bo : Option Addr) (ca cb : Nat) (xs : List ByteArray) (w : World) (hl : xs.length ≤ 1000000000) (ha : Rs w ao xs.length (ss xs)) (hb : Rs w bo xs.length (ss xs)) :
    Calls Try.prog 18 #[.slice ao xs.length ca, .slice bo xs.length cb] w fun e w' => e = .returned (.bool true) ∧ Below w.heap.size w w' := by
  have HA : Hid (Rs w ao xs.length (ss xs)) := ha
  have HB : Hid (Rs w bo xs.length (ss xs)) := hb
  clear ha hb
  go_enter Try.func18, Try.ntmps18
  go_wp2
  go_loopw [5] (fun i wr => ∃ k : Nat, k ≤ xs.length ∧ i = .int .i64 k ∧ Below w.heap.size w wr) (fun i _ => xs.length - (intOf i).toNat)
  case atStart => exact ⟨0, Nat.zero_le _, rfl, Below.refl _ _⟩
  case round =>
    obtain ⟨k, hk, rfl, hbel⟩ := hrel
    by_cases hlt : k < xs.length
    · rcases HA.out.ex with h | ⟨g, rfl, hg, hgc⟩
      · omega
      rcases HB.out.ex with h | ⟨g', rfl, hg', hgc'⟩
      · omega
      have hx := ss_at xs k hlt
      have hpl := ss_length xs
      have a0 : wr.cell? ⟨g, k, none⟩ = some (.string xs[k]) := (hbel.cell (p := ⟨g, k, none⟩) hg).trans ((hgc _ (by omega)).trans hx)
      have b0 : wr.cell? ⟨g', k, none⟩ = some (.string xs[k]) := (hbel.cell (p := ⟨g', k, none⟩) hg').trans ((hgc' _ (by omega)).trans hx)
      clear hx hgc hgc'
      generalize xs[k] = s at *
      go_wp2
      go_region_held3 (fun w' => w'.cell? ⟨g, k, none⟩ = some (.string s) ∧ w'.cell? ⟨g', k, none⟩ = some (.string s) ∧ Below wr.heap.size wr w')
        (first | assumption | exact ⟨a0, b0, (Below.refl _ _).drew⟩)
        (fail)
      go_wp2
      go_roundw
      case rel => exact ⟨k + 1, by omega, by go_num, hbel.drew⟩
      case measure => simp [intOf]; omega
    · obtain rfl : k = xs.length := by omega
      go_wp2
      go_ret
      exact ⟨rfl, hbel⟩
theorem cutIn_any (v : Option Addr) (len cap : Nat) (w : World) (h : draw.Code v len w) (hc : len ≤ cap) (hm : cap ≤ 9223372036854775807) :
    Calls Try.prog 16 #[.slice v len cap] w fun e w' => (∃ t : ByteArray, e = .returned (.string t) ∧ t.size ≤ 5000) ∧ Below w.heap.size w w' := by
  go_enter Try.func16, Try.ntmps16
  go_wp2_with (first
    | (go_at_call 42; refine (open_any v len cap _ h hc hm).mono ?_; rintro e w1 ⟨rfl, hr, hbel⟩; (have hb : But w.heap.size w w1 := But.ofBelow hbel))
    | (go_at_call 45; refine (msg_any _ _ _ hr (by omega)).mono ?_; rintro e w1 ⟨⟨t, rfl, ht⟩, ⟨k, hr1, hk⟩, hb1⟩; replace hr := hr1; replace hb := hb.trans hb1)
    | (go_at_call_of 43 (Value.int IntKind.i64 6); refine (pick_any _ _ _ _ hr (by omega) (by omega)).mono ?_; rintro e w1 ⟨⟨z, rfl, z0, z1⟩, hr1, hb1⟩; replace hr := hr1; replace hb := hb.trans hb1) | (go_at_call_of 43 (Value.int IntKind.i64 10); refine (pick_any _ _ _ _ (hr.made _) (by omega) (by omega)).mono ?_; rintro e w1 ⟨⟨z, rfl, z0, z1⟩, hr1, hb1⟩; obtain ⟨V, hV, v0, v1⟩ := tab_ints (lo := 0) (hi := 220) [0, 1, 19, 20, 21, 40, 199, 200, 201, 220] hb1 hr.lt z0 z1 (by decide); replace hr := hr1; replace hb := hb.trans hb1.made)
    | (go_at_call 44; refine (many_le _ _ _ (by decide) (by omega)).mono ?_; rintro e w0 ⟨⟨t, rfl, ht⟩, hb0⟩; replace hr := hr.keep hb0; replace hb := hb.trans (But.ofBelow hb0)))
  · go_ret
    exact ⟨⟨t, rfl, ht⟩, hb.below (Nat.le_refl _)⟩
  · go_ret
    exact ⟨⟨t, rfl, ht⟩, hb.below (Nat.le_refl _)⟩
end Go.Proofs.Ytdmlhfbnhhafmaa.mk
