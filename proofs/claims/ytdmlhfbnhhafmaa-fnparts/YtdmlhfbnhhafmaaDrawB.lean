/-
  THE DRAWING of a law's inputs, second part: the reader opened, a text many times.
-/
import Derived.Test.YtdmlhfbnhhafmaaDraw
namespace Go.Proofs.Ytdmlhfbnhhafmaa.draw
open Go.RowKit
set_option linter.unusedVariables false

/-- a code: bytes that can be read -/
def Code (v : Option Addr) (len : Nat) (w : World) : Prop := len = 0 ∨ ∃ C o, v = some ⟨C, o, none⟩ ∧ C < w.heap.size ∧ ∀ i, i < len → ∃ c : Int, w.cell? ⟨C, o + i, none⟩ = some (.int .u8 c) ∧ 0 ≤ c ∧ c ≤ 255
theorem Code.keep {v : Option Addr} {len : Nat} {w w' : World} (h : Code v len w) (hb : Below w.heap.size w w') : Code v len w' := by
  rcases h with h | ⟨C, o, h1, h2, h3⟩
  · exact .inl h
  · exact .inr ⟨C, o, h1, Nat.lt_of_lt_of_le h2 hb.size, fun i hi => by obtain ⟨c, c0, c1⟩ := h3 i hi; exact ⟨c, (hb.cell (p := ⟨C, o + i, none⟩) h2).trans c0, c1⟩⟩
theorem rd_new {v : Option Addr} {len cap : Nat} {T : TypeId} {w : World} (h : Code v len w) (hl : len ≤ 2000) : Rd w.heap.size 0 (w.alloc (.cells #[.slice v len cap, .int .i64 0] T)) := by
  refine ⟨by simp, by simp [go_sem], by simp [go_sem], by omega, v, len, cap, by simp [go_sem], hl, ?_⟩
  rcases h with h | ⟨C, o, h1, h2, h3⟩
  · exact .inl h
  · exact .inr ⟨C, o, h1, h2, Nat.lt_of_lt_of_le h2 (by simp), fun i hi => by obtain ⟨c, c0, c1⟩ := h3 i hi; exact ⟨c, (World.cell?_alloc_past (hn := h2) ..).trans c0, c1⟩⟩
theorem open_any (v : Option Addr) (len cap : Nat) (w : World) (h : Code v len w) (hc : len ≤ cap) (hm : cap ≤ 9223372036854775807) :
    Calls Try.prog 42 #[.slice v len cap] w fun e w' => e = .returned (.pointer (some ⟨w.heap.size, 0, none⟩)) ∧ Rd w.heap.size 0 w' ∧ Below w.heap.size w w' := by
  by_cases hl : (len : Int) > 2000
  · rcases h with h | ⟨C, o, rfl, h2, h3⟩
    · omega
    · go_enter Try.func42, Try.ntmps42
      go_wp2
      go_ret
      refine ⟨rfl, rd_new (.inr ⟨C, o, rfl, h2, fun i hi => h3 i (by omega)⟩) (by omega), (Below.refl _ _).alloc (Nat.le_refl _) _⟩
  · go_enter Try.func42, Try.ntmps42
    go_wp2
    go_ret
    refine ⟨rfl, rd_new h (by omega), (Below.refl _ _).alloc (Nat.le_refl _) _⟩

theorem many_step (m S : Nat) : m * S = (m % 2) * S + (m / 2) * (S + S) := by
  have h : m = m % 2 + (m / 2 + m / 2) := by omega
  have e : (m % 2 + (m / 2 + m / 2)) * S = (m % 2) * S + (m / 2) * (S + S) := by rw [Nat.add_mul, Nat.add_mul, Nat.mul_add]
  rw [← h] at e
  exact e
theorem many_any (s : ByteArray) (n : Int) (w : World) (hs : s.size ≤ 10) (hn : n ≤ 5000) :
    Calls Try.prog 44 #[.string s, .int .i64 n] w fun e w' => (∃ t : ByteArray, e = .returned (.string t) ∧ t.size ≤ n.toNat * s.size) ∧ Below w.heap.size w w' := by
  have hT : n.toNat * s.size ≤ 5000 * 10 := Nat.mul_le_mul (by omega) hs
  go_enter Try.func44, Try.ntmps44
  go_wp2
  go_loopw [0, 1, 5] (fun y i o wr => ∃ (S O : ByteArray) (m : Int), y = .string S ∧ i = .int .i64 m ∧ o = .string O ∧ m ≤ n ∧ O.size + m.toNat * S.size ≤ n.toNat * s.size ∧ S.size ≤ 200000 ∧ Below w.heap.size w wr) (fun _ i _ _ => (intOf i).toNat)
  case atStart => exact ⟨s, ⟨#[]⟩, n, rfl, rfl, rfl, Int.le_refl _, by show 0 + _ ≤ _; omega, by omega, Below.refl _ _⟩
  case round =>
    obtain ⟨S, O, m, rfl, rfl, rfl, hmn, hsz, hS, hbel⟩ := hrel
    by_cases hlt : m > 0
    · have hst := many_step m.toNat S.size
      have hS1 : S.size ≤ m.toNat * S.size := by have := Nat.mul_le_mul_right S.size (show 1 ≤ m.toNat by omega); omega
      have e : (m / 2).toNat = m.toNat / 2 := by omega
      by_cases hodd : m % 2 = 1
      · rw [show m.toNat % 2 = 1 by omega, Nat.one_mul] at hst
        go_wp2
        refine ⟨⟨S ++ S, O ++ S, m / 2, rfl, rfl, rfl, by omega, ?_, ?_, hbel⟩, ?_⟩
        · rw [ByteArray.size_append, ByteArray.size_append, e]; omega
        · rw [ByteArray.size_append]; omega
        · simp only [intOf]; omega
      · rw [show m.toNat % 2 = 0 by omega, Nat.zero_mul] at hst
        go_wp2
        refine ⟨⟨S ++ S, O, m / 2, rfl, rfl, rfl, by omega, ?_, ?_, hbel⟩, ?_⟩
        · rw [ByteArray.size_append, e]; omega
        · rw [ByteArray.size_append]; omega
        · simp only [intOf]; omega
    · go_wp2
      go_ret
      exact ⟨⟨O, rfl, by omega⟩, hbel⟩
theorem tab_cell {B : Nat} {w w1 : World} {T : TypeId} {cs : Array Value} (hb : But B (w.alloc (.cells cs T)) w1) (hB : B < w.heap.size) (i : Nat) : w1.cell? ⟨w.heap.size, i, none⟩ = cs[i]? := by
  rw [hb.cell (p := ⟨w.heap.size, i, none⟩) (by simp) (by show w.heap.size ≠ B; omega)]
  simp [go_sem]
theorem tab_ints {B : Nat} {w w1 : World} {T : TypeId} {z lo hi : Int} (l : List Int) (hb : But B (w.alloc (.cells (l.map (Value.int .i64)).toArray T)) w1) (hB : B < w.heap.size) (h0 : 0 ≤ z) (h1 : z < (l.length : Int)) (hP : ∀ v ∈ l, lo ≤ v ∧ v ≤ hi) :
    ∃ V, w1.cell? ⟨w.heap.size, z.toNat, none⟩ = some (.int .i64 V) ∧ lo ≤ V ∧ V ≤ hi := by
  have hz : z.toNat < l.length := by omega
  exact ⟨l[z.toNat], by rw [tab_cell hb hB]; simp [hz], hP _ (List.getElem_mem hz)⟩
theorem tab_strs {B : Nat} {w w1 : World} {T : TypeId} {z : Int} {hi : Nat} (l : List ByteArray) (hb : But B (w.alloc (.cells (l.map Value.string).toArray T)) w1) (hB : B < w.heap.size) (h0 : 0 ≤ z) (h1 : z < (l.length : Int)) (hP : ∀ v ∈ l, v.size ≤ hi) :
    ∃ V : ByteArray, w1.cell? ⟨w.heap.size, z.toNat, none⟩ = some (.string V) ∧ V.size ≤ hi := by
  have hz : z.toNat < l.length := by omega
  exact ⟨l[z.toNat], by rw [tab_cell hb hB]; simp [hz], hP _ (List.getElem_mem hz)⟩
theorem Rd.made {B : Nat} {k : Int} {w : World} (h : Rd B k w) (o : Obj) : Rd B k (w.alloc o) := h.keep ((Below.refl _ _).alloc (Nat.le_refl _) _)
theorem But.made {B : Nat} {w w1 : World} {o : Obj} (hb : But B (w.alloc o) w1) : But B w w1 := ((But.refl B w).alloc o).trans hb
theorem key_sizes {t : ByteArray} (ht : t.size ≤ Int.toNat 30 * (⟨#[107]⟩ : ByteArray).size) : ∀ v ∈ [(⟨#[107, 101, 121]⟩ : ByteArray), ⟨#[107]⟩, ⟨#[]⟩, t], v.size ≤ 30 := by
  have h1 : t.size ≤ 30 := ht
  intro v hv
  simp only [List.mem_cons, List.not_mem_nil, or_false] at hv
  rcases hv with rfl | rfl | rfl | rfl
  · decide
  · decide
  · decide
  · exact h1
theorem many_le (s : ByteArray) (n : Int) (w : World) (hs : s.size ≤ 10) (hn : n ≤ 500) :
    Calls Try.prog 44 #[.string s, .int .i64 n] w fun e w' => (∃ t : ByteArray, e = .returned (.string t) ∧ t.size ≤ 5000) ∧ Below w.heap.size w w' :=
  (many_any s n w hs (by omega)).mono fun e w' ⟨⟨t, h1, h2⟩, h3⟩ => ⟨⟨t, h1, Nat.le_trans h2 (Nat.mul_le_mul (show n.toNat ≤ 500 by omega) hs)⟩, h3⟩
theorem many_prod {a b c d : Int} (ha : 0 ≤ a ∧ a < 5) (hb : 0 ≤ b ∧ b < 3) (hc : 0 ≤ c ∧ c < 2) (hd : 0 ≤ d ∧ d < 2) : wrap64 (20 * a + b - wrap64 (c * d)) ≤ 500 := by
  have h : c * d = 0 ∨ c * d = 1 := by
    rcases (show c = 0 ∨ c = 1 by omega) with rfl | rfl
    · simp
    · rw [Int.one_mul]; omega
  rcases h with h | h
  · rw [h, wrap_in 0 (by omega), wrap_in _ (by omega)]; omega
  · rw [h, wrap_in 1 (by omega), wrap_in _ (by omega)]; omega
theorem msg_any (B : Nat) (k : Int) (w : World) (h : Rd B k w) (hkb : k ≤ 900000) :
    Calls Try.prog 45 #[.pointer (some ⟨B, 0, none⟩)] w fun e w' => (∃ t : ByteArray, e = .returned (.string t) ∧ t.size ≤ 5000) ∧ (∃ k', Rd B k' w' ∧ k' ≤ k + 40) ∧ But B w w' := by
  have hr := h
  have hb := But.refl B w
  go_enter Try.func45, Try.ntmps45
  go_wp2_with (first | (go_at_call 43; refine (pick_any B _ _ _ hr (by omega) (by omega)).mono ?_; rintro e w1 ⟨⟨z, rfl, z0, z1⟩, hr1, hb1⟩; replace hr := hr1; replace hb := hb.trans hb1) | (go_at_call 44; (first | refine (many_le _ _ _ (by decide) (by omega)).mono ?_ | refine (many_le _ _ _ (by decide) (many_prod (by omega) (by omega) (by omega) (by omega))).mono ?_); rintro e w0 ⟨⟨t, rfl, ht⟩, hb0⟩; replace hr := hr.keep hb0; replace hb := hb.trans (But.ofBelow hb0)))
  · go_ret
    exact ⟨⟨_, rfl, by decide⟩, ⟨_, hr, by omega⟩, hb⟩
  · go_ret
    exact ⟨⟨_, rfl, ht⟩, ⟨_, hr, by omega⟩, hb⟩
  · go_ret
    exact ⟨⟨_, rfl, ht⟩, ⟨_, hr, by omega⟩, hb⟩
  · go_ret
    exact ⟨⟨_, rfl, by decide⟩, ⟨_, hr, by omega⟩, hb⟩
  · go_loopw [3, 4] (fun o i wr => ∃ (O : ByteArray) (m : Nat) (kk : Int), o = .string O ∧ i = .int .i64 m ∧ m ≤ 30 ∧ O.size + m ≤ 31 ∧ Rd B kk wr ∧ kk + m ≤ k + 33 ∧ But B w wr) (fun _ i _ => (intOf i).toNat)
    case atStart => exact ⟨⟨#[]⟩, (1 + z).toNat, _, rfl, by congr 1; omega, by omega, by show 0 + _ ≤ _; omega, hr, by omega, hb⟩
    case round =>
      obtain ⟨O, m, kk, rfl, rfl, hm, hO, hr, hkk, hb⟩ := hrel
      by_cases hlt : (m : Int) > 0
      · go_wp2_with (go_at_call 43; refine (pick_any B _ _ _ hr (by omega) (by omega)).mono ?_; rintro e w1 ⟨⟨z, rfl, z0, z1⟩, hr1, hb1⟩; replace hr := hr1; replace hb := hb.trans hb1)
        refine ⟨⟨_, m - 1, _, rfl, by congr 1; omega, by omega, ?_, hr, by omega, hb⟩, by simp only [intOf]; omega⟩
        rw [ByteArray.size_append, ByteArray.size_extract]
        omega
      · go_wp2
        go_ret
        exact ⟨⟨O, rfl, by omega⟩, ⟨_, hr, by omega⟩, hb⟩
end Go.Proofs.Ytdmlhfbnhhafmaa.draw
