/-
  THE RING of a Send's items: the Send that it is.
-/
import Derived.Test.YtmliinglojmojaaRingA
import Derived.Laws.ResultCell
namespace Go.Proofs.Ytmliinglojmojaa.mk
open Go.RowKit
set_option linter.unusedVariables false

theorem item_news (W : World) (s : ByteArray) (l h : Bool) (n : Int) : ∀ j u, ([.string s, .bool l, .bool h, .int .i64 n] : List Value)[j]? = some u → (W.alloc (.cells #[.string s, .bool l, .bool h, .int .i64 n] 115)).cell? ((⟨W.heap.size, 0, none⟩ : Addr).add j) = some u := by
  intro j u hj
  match j, hj with
  | 0, hj => simp at hj; subst hj; simp [Addr.add]
  | 1, hj => simp at hj; subst hj; simp [Addr.add]
  | 2, hj => simp at hj; subst hj; simp [Addr.add]
  | 3, hj => simp at hj; subst hj; simp [Addr.add]
theorem item_one (s : ByteArray) (l h : Bool) (n : Int) : ∀ u ∈ ([.string s, .bool l, .bool h, .int .i64 n] : List Value), u.oneCell' = true := by
  intro u hu; simp at hu; rcases hu with rfl | rfl | rfl | rfl <;> rfl
theorem make_items (n : Nat) (hn : n ≤ 60) : ∃ M : Array Value, M.size = n * 4 ∧ ∀ W : World, (Instr.makeSlice 42 (.int .i64 0) (.int .i64 (n : Int))).run Try.prog W = .ok (.slice (some ⟨W.heap.size, 0, none⟩) 0 n) (W.alloc (.cells M 115)) := by
  obtain ⟨i0, hi, hz0, hz1, hz2⟩ := info_parts info_item
  refine ⟨madeCells (Value.agg #[.string ⟨#[]⟩, .bool false, .bool false, .int .i64 0]).cells (((n : Nat) : Int).toNat * i0.size), ?_, fun W => ?_⟩
  · rw [size_madeCells, hz1]; simp
  · have h := run_make (P := Try.prog) W 42 115 i0 (.agg #[.string ⟨#[]⟩, .bool false, .bool false, .int .i64 0]) Try.underlying42 hi hz0 .i64 .i64 0 (n : Int) (by omega) (by omega) (by rw [hz2]; omega) (by omega)
    simpa using h
set_option maxRecDepth 100000 in
set_option maxHeartbeats 1000000 in
theorem send_any (base : Nat) (R : Rl) (b : Nat) (cs : List Value) (xs : List It) (w : World) (hb : b ≤ 1000000) (hn : xs.length ≤ 60) (hr : Ring base R cs w) (hH : Holds b xs cs) :
    Calls Try.prog 107 #[.pointer (some ⟨R, 0, none⟩)] w fun e w' => (∃ ao c, e = .returned (.agg #[.int .i64 (b : Int), .slice ao xs.length c]) ∧ w'.ownsRow w.heap.size 115 4 (.slice ao xs.length c) xs.length (is xs)) ∧ Below w.heap.size w w' := by
  obtain ⟨i0, hi, hz0, hz1, hz2⟩ := info_parts info_item
  obtain ⟨M, hMs, hmk⟩ := make_items xs.length hn
  have hlt := hr.lt
  have hF := (hr.cell 240 (by omega)).trans hH.2.1
  have hE := (hr.cell 241 (by omega)).trans hH.2.2.1
  have HR : Hid (Ring base R cs w) := hr
  have HH : Hid (Holds b xs cs) := hH
  clear hr hH
  obtain ⟨e, he⟩ : ∃ e, e = b + xs.length := ⟨_, rfl⟩
  rw [← he] at hE
  have hmk' : ∀ W : World, (Instr.makeSlice 42 (.int .i64 0) (.int .i64 (IntKind.i64.wrap ((e : Int) - (b : Int))))).run Try.prog W = .ok (.slice (some ⟨W.heap.size, 0, none⟩) 0 xs.length) (W.alloc (.cells M 115)) := by
    have q : IntKind.i64.wrap ((e : Int) - (b : Int)) = ((xs.length : Nat) : Int) := by rw [IntKind.wrap_i64]; omega
    rw [q]
    exact hmk
  have heb : e ≤ 1000060 := by omega
  have hbe : b ≤ e := by omega
  have HE : Hid (e = b + xs.length) := he
  clear hmk he
  go_enter Try.func107, Try.ntmps107
  go_wp2
  go_region_held3 (fun w' => w'.cell? ⟨R, 240, none⟩ = some (.int .i64 (b : Int)) ∧ w'.cell? ⟨R, 241, none⟩ = some (.int .i64 (e : Int)))
    (first | assumption | (simp [go_sem]; done) | go_keep)
    (fail)
  generalize IntKind.i64.wrap ((e : Int) - (b : Int)) = d
  go_wp2
  have hsz1 : (w.alloc (.cells #[.int .i64 0, .slice none 0 0] 44)).heap.size = w.heap.size + 1 := by simp
  go_loopw [3, 4] (fun o i wr => ∃ k : Nat, k ≤ xs.length ∧ i = .int .i64 ((b + k : Nat) : Int) ∧ wr.ownsRow (w.heap.size + 1) 115 4 o k (is (xs.take k)) ∧ Below (w.heap.size + 1) (w.alloc (.cells #[.int .i64 0, .slice none 0 0] 44)) wr) (fun _ i _ => e - (intOf i).toNat)
  case atStart => exact ⟨0, Nat.zero_le _, rfl, World.ownsRow.drew (by have := World.ownsRow_made (base := w.heap.size + 1) (e := 115) (size := 4) (w.alloc (.cells #[.int .i64 0, .slice none 0 0] 44)) M xs.length (by simp) (by unfold maxLen; omega) (by omega); rw [hsz1] at this; exact this), ((Below.refl _ _).alloc (by simp) _).drew⟩
  case round =>
    obtain ⟨k, hk, rfl, hown, hbel⟩ := hrel
    have hwr := hbel.size
    rw [hsz1] at hwr
    have old : ∀ (B j : Nat), B < w.heap.size → wr.cell? ⟨B, j, none⟩ = w.cell? ⟨B, j, none⟩ := fun B j hB => (hbel.cell (p := ⟨B, j, none⟩) (by show B < _; omega)).trans (World.cell?_alloc_past (hn := hB) ..)
    have hEr : wr.cell? ⟨R, 241, none⟩ = some (.int .i64 (e : Int)) := (old R 241 hlt.2).trans hE
    have hFr : wr.cell? ⟨R, 240, none⟩ = some (.int .i64 (b : Int)) := (old R 240 hlt.2).trans hF
    have OLD : Hid (∀ (B j : Nat), B < w.heap.size → wr.cell? ⟨B, j, none⟩ = w.cell? ⟨B, j, none⟩) := old
    clear old
    by_cases hltk : k < xs.length
    · have he := HE.out
      obtain ⟨c0, c1, c2, c3⟩ := HH.out.2.2.2 k hltk
      have r0 := (OLD.out R ((b + k) % 60 * 4) hlt.2).trans ((HR.out.cell _ (by omega)).trans c0)
      have r1 := (OLD.out R ((b + k) % 60 * 4 + 1) hlt.2).trans ((HR.out.cell _ (by omega)).trans c1)
      have r2 := (OLD.out R ((b + k) % 60 * 4 + 2) hlt.2).trans ((HR.out.cell _ (by omega)).trans c2)
      have r3 := (OLD.out R ((b + k) % 60 * 4 + 3) hlt.2).trans ((HR.out.cell _ (by omega)).trans c3)
      have HT : Hid (is (xs.take (k + 1)) = is (xs.take k) ++ [.string xs[k].text, .bool xs[k].last, .bool xs[k].has, .int .i64 xs[k].since]) := by
        show _ = _
        rw [← List.take_append_getElem hltk, is_append]
        rfl
      clear c0 c1 c2 c3
      obtain ⟨q, hq⟩ : ∃ q, q = b + k := ⟨_, rfl⟩
      rw [← hq] at r0 r1 r2 r3 ⊢
      have hqe : q < e := by omega
      have HQ : Hid (q = b + k) := hq
      clear hq he
      generalize xs[k].text = s at *
      generalize xs[k].last = l at *
      generalize xs[k].has = h at *
      generalize xs[k].since = n at *
      go_wp2_with (first
        | (go_at_call 128; refine (at_any R q _ (by omega)).mono ?_; rintro x w' ⟨rfl, rfl⟩)
        | (at_builtin; refine wpList_append_own _ rfl _ _ 42 rfl (w.heap.size + 1) 115 i0 (.agg #[.string ⟨#[]⟩, .bool false, .bool false, .int .i64 0]) 4 40 Try.underlying42 hi hz0 hz1 hz2 rfl (by decide) _ _ _ rfl (hown.alloc _) ⟨wr.heap.size, 0, none⟩ 1 1 [.string s, .bool l, .bool h, .int .i64 n] rfl rfl (item_news _ _ _ _ _) (item_one _ _ _ _) (by unfold maxLen; omega) (by omega) (by simp; omega) ?_; intro v' w1 hown' hgrow _))
      go_roundw
      case rel =>
        have hq := HQ.out
        exact ⟨k + 1, by omega, by go_num, by rw [HT.out]; exact hown', (hbel.alloc (by omega) _).grown hgrow (by simp; omega) (fun j hj => (hown.lt j hj).1)⟩
      case measure => simp [intOf]; omega
    · obtain rfl : k = xs.length := by omega
      have he := HE.out.symm
      rw [he]
      rw [List.take_length] at hown
      have x0 := hbel.cell (p := ⟨w.heap.size, 0, none⟩) (Nat.lt_succ_self _)
      have x1 := hbel.cell (p := ⟨w.heap.size, 1, none⟩) (Nat.lt_succ_self _)
      have z0 := hbel.frozen (p := ⟨w.heap.size, 0, none⟩) (Nat.lt_succ_self _)
      have z1 := hbel.frozen (p := ⟨w.heap.size, 1, none⟩) (Nat.lt_succ_self _)
      simp [go_sem] at x0 x1 z0 z1
      obtain ⟨ao, c, rfl, _, _, _⟩ := rs_of_owns hown
      clear he
      go_wp2
      have b1 : Below w.heap.size w wr := ((Below.refl _ _).alloc (Nat.le_refl _) _).trans (hbel.mono (by omega))
      have o1 := ownsRow_setCell_below (ownsRow_setCell_below hown (a := ⟨w.heap.size, 0, none⟩) (Nat.lt_succ_self _) (.int .i64 (b : Int))) (a := ⟨w.heap.size, 1, none⟩) (Nat.lt_succ_self _) (.slice ao xs.length c)
      exact bodyPost_ret (v := .agg #[.int .i64 (b : Int), .slice ao xs.length c]) (by simp [results, Try.results107, go_sem, x0, x1]) rfl ⟨⟨ao, c, rfl, owns_mono o1 (by omega)⟩, (b1.setCell (p := ⟨w.heap.size, 0, none⟩) (Nat.le_refl _) _).setCell (p := ⟨w.heap.size, 1, none⟩) (Nat.le_refl _) _⟩
end Go.Proofs.Ytmliinglojmojaa.mk
