/-
  THE DRAWING of a law's inputs: the reader and its picks.
-/
import Derived.Test.YtdmlhfbnhhafmaaProg
import Derived.Test.YtdmlhfbnhhafmaaBase
import Derived.WalkKit
import Derived.WalkSpells
import Derived.WalkLawsBesides
import Derived.Outline
import Derived.Deep.QuietTactic
import Derived.BigQuiet
namespace Go.Proofs.Ytdmlhfbnhhafmaa.draw
open Go.RowKit
set_option linter.unusedVariables false

theorem pick_zero (B : Nat) (k n : Int) (v : Option Addr) (len cap : Nat) (w : World) (hB : B < w.heap.size) (hf : w.frozen? ⟨B, 1, none⟩ = false) (h1 : w.cell? ⟨B, 1, none⟩ = some (.int .i64 k)) (h0 : w.cell? ⟨B, 0, none⟩ = some (.slice v len cap))
    (hk : 0 ≤ k) (hkb : k ≤ 1000000) (hl : len ≤ 2000) (h : n < 1) :
    Calls Try.prog 43 #[.pointer (some ⟨B, 0, none⟩), .int .i64 n] w fun e w' => e = .returned (.int .i64 0) ∧ w' = w.setCell ⟨B, 1, none⟩ (.int .i64 (k + 1)) := by
  go_enter Try.func43, Try.ntmps43
  go_wp2
  go_ret
  exact ⟨rfl, rfl⟩
theorem pick_empty (B : Nat) (k n : Int) (v : Option Addr) (cap : Nat) (w : World) (hB : B < w.heap.size) (hf : w.frozen? ⟨B, 1, none⟩ = false) (h1 : w.cell? ⟨B, 1, none⟩ = some (.int .i64 k)) (h0 : w.cell? ⟨B, 0, none⟩ = some (.slice v 0 cap))
    (hk : 0 ≤ k) (hkb : k ≤ 1000000) (h : ¬ n < 1) :
    Calls Try.prog 43 #[.pointer (some ⟨B, 0, none⟩), .int .i64 n] w fun e w' => e = .returned (.int .i64 0) ∧ w' = w.setCell ⟨B, 1, none⟩ (.int .i64 (k + 1)) := by
  go_enter Try.func43, Try.ntmps43
  go_wp2
  go_ret
  exact ⟨rfl, rfl⟩
theorem pick_in (B C o : Nat) (k n c : Int) (len cap : Nat) (w : World) (hC : C ≠ B) (hB : B < w.heap.size) (hf : w.frozen? ⟨B, 1, none⟩ = false) (h1 : w.cell? ⟨B, 1, none⟩ = some (.int .i64 k)) (h0 : w.cell? ⟨B, 0, none⟩ = some (.slice (some ⟨C, o, none⟩) len cap))
    (hk : 0 ≤ k) (hkb : k ≤ 1000000) (hl : len ≤ 2000) (h : ¬ n < 1) (hz : ((len : Int) == 0) = false) (hkl : k < (len : Int)) (hc : w.cell? ⟨C, o + k.toNat, none⟩ = some (.int .u8 c)) (hc0 : 0 ≤ c) (hc1 : c ≤ 255) :
    Calls Try.prog 43 #[.pointer (some ⟨B, 0, none⟩), .int .i64 n] w fun e w' => e = .returned (.int .i64 (c % n)) ∧ w' = w.setCell ⟨B, 1, none⟩ (.int .i64 (k + 1)) := by
  go_enter Try.func43, Try.ntmps43
  go_wp2
  all_goals go_ret
  all_goals exact ⟨rfl, rfl⟩
theorem wrap_in (n : Int) (h : -9223372036854775808 ≤ n ∧ n ≤ 9223372036854775807) : wrap64 n = n := by unfold wrap64; omega
theorem xor_within (a b : Int) (ha : 0 ≤ a ∧ a ≤ 1000000000) (hb : 0 ≤ b ∧ b ≤ 1000000000) : 0 ≤ bits BinOp.xor IntKind.i64 a b ∧ bits BinOp.xor IntKind.i64 a b < 1073741824 := by
  obtain ⟨X, rfl⟩ := Int.eq_ofNat_of_zero_le ha.1
  obtain ⟨Y, rfl⟩ := Int.eq_ofNat_of_zero_le hb.1
  have hx : X ^^^ Y < 2 ^ 30 := Nat.xor_lt_two_pow (by omega) (by omega)
  have h1 : (BitVec.ofInt 64 (X : Int)).toNat = X := by rw [BitVec.ofInt_natCast, BitVec.toNat_ofNat]; exact Nat.mod_eq_of_lt (by omega)
  have h2 : (BitVec.ofInt 64 (Y : Int)).toNat = Y := by rw [BitVec.ofInt_natCast, BitVec.toNat_ofNat]; exact Nat.mod_eq_of_lt (by omega)
  have e : bits BinOp.xor IntKind.i64 (X : Int) (Y : Int) = ((X ^^^ Y : Nat) : Int) := by
    show IntKind.i64.wrap ((BitVec.ofInt 64 (X : Int) ^^^ BitVec.ofInt 64 (Y : Int)).toNat : Int) = _
    rw [BitVec.toNat_xor, h1, h2, IntKind.wrap_i64]
    omega
  rw [e]
  omega
theorem pick_past (B C o : Nat) (k n c d : Int) (len cap : Nat) (w : World) (hC : C ≠ B) (hB : B < w.heap.size) (hf : w.frozen? ⟨B, 1, none⟩ = false) (h1 : w.cell? ⟨B, 1, none⟩ = some (.int .i64 k)) (h0 : w.cell? ⟨B, 0, none⟩ = some (.slice (some ⟨C, o, none⟩) len cap))
    (hk : 0 ≤ k) (hkb : k ≤ 1000000) (hl : len ≤ 2000) (h : ¬ n < 1) (hz : ((len : Int) == 0) = false) (hkl : ¬ k < (len : Int)) (hc : w.cell? ⟨C, o + (k % (len : Int)).toNat, none⟩ = some (.int .u8 c)) (hc0 : 0 ≤ c) (hc1 : c ≤ 255) (hd : w.cell? ⟨C, o + ((k * 7 + 3) % (len : Int)).toNat, none⟩ = some (.int .u8 d)) (hd0 : 0 ≤ d) (hd1 : d ≤ 255) :
    Calls Try.prog 43 #[.pointer (some ⟨B, 0, none⟩), .int .i64 n] w fun e w' => (∃ z, e = .returned (.int .i64 z) ∧ 0 ≤ z ∧ z < n) ∧ ∃ q, w' = (w.setCell ⟨B, 1, none⟩ (.int .i64 (k + 1))).drewN q := by
  have m1 : 0 ≤ k % (len : Int) := Int.emod_nonneg _ (by intro e; simp [e] at hz)
  have m2 : k % (len : Int) < (len : Int) := Int.emod_lt_of_pos _ (by rcases Nat.eq_zero_or_pos len with e | e; (simp [e] at hz); omega)
  have m3 : 0 ≤ (k * 7 + 3) % (len : Int) := Int.emod_nonneg _ (by intro e; simp [e] at hz)
  have m4 : (k * 7 + 3) % (len : Int) < (len : Int) := Int.emod_lt_of_pos _ (by rcases Nat.eq_zero_or_pos len with e | e; (simp [e] at hz); omega)
  have hz' : ¬ (len : Int) = 0 := by intro e; simp [e] at hz
  go_enter Try.func43, Try.ntmps43
  go_wp2
  go_quiet (fail)
  go_wp2
  go_ret
  have q0 : 0 ≤ k / (len : Int) := Int.ediv_nonneg hk (by omega)
  have q1 : k / (len : Int) ≤ k := Int.ediv_le_self _ hk
  have e1 : wrap64 (k / (len : Int) * 53) = k / (len : Int) * 53 := wrap_in _ (by omega)
  have e2 : wrap64 (c * 131 + d * 1117 + k * 29 + k / (len : Int) * 53) = c * 131 + d * 1117 + k * 29 + k / (len : Int) * 53 := wrap_in _ (by omega)
  rw [e1, e2]
  obtain ⟨X, hX⟩ : ∃ X, c * 131 + d * 1117 + k * 29 + k / (len : Int) * 53 = X := ⟨_, rfl⟩
  have x0 : 0 ≤ X := by omega
  have x1 : X ≤ 1000000000 := by omega
  rw [hX]
  have e3 : X.tdiv 64 = X / 64 := Int.tdiv_eq_ediv_of_nonneg x0
  rw [e3, wrap_in (X / 64) (by omega)]
  obtain ⟨y0, y1⟩ := xor_within X (X / 64) (by omega) (by omega)
  rw [Int.tmod_eq_emod_of_nonneg y0]
  exact ⟨⟨_, rfl, Int.emod_nonneg _ (by omega), Int.emod_lt_of_pos _ (by omega)⟩, _, rfl⟩

/-- nothing but block B turns -/
structure But (B : Nat) (w w' : World) : Prop where
  os : w'.os = w.os
  tape : w'.tape = w.tape
  output : w'.output = w.output
  size : w.heap.size ≤ w'.heap.size
  block : ∀ k, k < w.heap.size → k ≠ B → w'.heap[k]? = w.heap[k]?
theorem But.refl (B : Nat) (w : World) : But B w w := ⟨rfl, rfl, rfl, Nat.le_refl _, fun _ _ _ => rfl⟩
theorem But.trans {B : Nat} {a b c : World} (h : But B a b) (k : But B b c) : But B a c :=
  ⟨k.os.trans h.os, k.tape.trans h.tape, k.output.trans h.output, Nat.le_trans h.size k.size, fun i hi hn => (k.block i (Nat.lt_of_lt_of_le hi h.size) hn).trans (h.block i hi hn)⟩
theorem But.cell {B : Nat} {w w' : World} (h : But B w w') {p : Addr} (hp : p.block < w.heap.size) (hn : p.block ≠ B) : w'.cell? p = w.cell? p := World.cell?_of_block (w := w) (h.block p.block hp hn)
theorem But.frozen {B : Nat} {w w' : World} (h : But B w w') {p : Addr} (hp : p.block < w.heap.size) (hn : p.block ≠ B) : w'.frozen? p = w.frozen? p := World.frozen?_of_block (w := w) (h.block p.block hp hn)
theorem But.drew {B : Nat} {a w : World} (h : But B a w) : But B a w.drew := ⟨h.os, h.tape, h.output, h.size, h.block⟩
theorem But.drewN {B n : Nat} {a w : World} (h : But B a w) : But B a (w.drewN n) := ⟨h.os, h.tape, h.output, h.size, h.block⟩
theorem But.alloc {B : Nat} {a w : World} (h : But B a w) (o : Obj) : But B a (w.alloc o) :=
  ⟨h.os, h.tape, h.output, Nat.le_trans h.size (by simp), fun k hk hn => (Below.heap_alloc w o k (Nat.lt_of_lt_of_le hk h.size)).trans (h.block k hk hn)⟩
theorem But.setCell {B : Nat} {a w : World} (h : But B a w) {p : Addr} (hp : p.block = B ∨ a.heap.size ≤ p.block) (u : Value) : But B a (w.setCell p u) :=
  ⟨h.os, h.tape, h.output, Nat.le_trans h.size (by simp), fun k hk hn => (Below.heap_setCell w p u k (by omega)).trans (h.block k hk hn)⟩
theorem But.below {B : Nat} {a w : World} (h : But B a w) (hB : a.heap.size ≤ B) : Below a.heap.size a w :=
  ⟨h.os, h.tape, h.output, h.size, fun k hk => h.block k hk (by omega)⟩
theorem But.ofBelow {B : Nat} {a w : World} (h : Below a.heap.size a w) : But B a w :=
  ⟨h.os, h.tape, h.output, h.size, fun k hk _ => h.block k hk⟩

/-- a reader of a code: block B, at place k -/
structure Rd (B : Nat) (k : Int) (w : World) : Prop where
  lt : B < w.heap.size
  frozen : w.frozen? ⟨B, 1, none⟩ = false
  pos : w.cell? ⟨B, 1, none⟩ = some (.int .i64 k)
  nonneg : 0 ≤ k
  buf : ∃ v len cap, w.cell? ⟨B, 0, none⟩ = some (.slice v len cap) ∧ len ≤ 2000 ∧ (len = 0 ∨ ∃ C o, v = some ⟨C, o, none⟩ ∧ C < B ∧ C < w.heap.size ∧ ∀ i, i < len → ∃ c : Int, w.cell? ⟨C, o + i, none⟩ = some (.int .u8 c) ∧ 0 ≤ c ∧ c ≤ 255)
theorem Rd.step {B : Nat} {k k' : Int} {w w' : World} (h : Rd B k w) (hb : But B w w') (h0 : w'.cell? ⟨B, 0, none⟩ = w.cell? ⟨B, 0, none⟩) (h1 : w'.cell? ⟨B, 1, none⟩ = some (.int .i64 k')) (hf : w'.frozen? ⟨B, 1, none⟩ = w.frozen? ⟨B, 1, none⟩) (hk : 0 ≤ k') : Rd B k' w' := by
  obtain ⟨v, len, cap, b0, b1, b2⟩ := h.buf
  refine ⟨Nat.lt_of_lt_of_le h.lt hb.size, hf.trans h.frozen, h1, hk, v, len, cap, h0.trans b0, b1, ?_⟩
  rcases b2 with b2 | ⟨C, o, b3, b4, b5, b6⟩
  · exact .inl b2
  · exact .inr ⟨C, o, b3, b4, Nat.lt_of_lt_of_le b5 hb.size, fun i hi => by obtain ⟨c, c0, c1⟩ := b6 i hi; exact ⟨c, (hb.cell (p := ⟨C, o + i, none⟩) b5 (Nat.ne_of_lt b4)).trans c0, c1⟩⟩
theorem Rd.keep {B : Nat} {k : Int} {w w' : World} (h : Rd B k w) (hb : Below w.heap.size w w') : Rd B k w' :=
  h.step (But.ofBelow hb) (hb.cell (p := ⟨B, 0, none⟩) h.lt) ((hb.cell (p := ⟨B, 1, none⟩) h.lt).trans h.pos) (hb.frozen (p := ⟨B, 1, none⟩) h.lt) h.nonneg
theorem Rd.put {B : Nat} {k k' : Int} {w : World} (h : Rd B k w) (hk : 0 ≤ k') (n : Nat) : Rd B k' ((w.setCell ⟨B, 1, none⟩ (.int .i64 k')).drewN n) ∧ But B w ((w.setCell ⟨B, 1, none⟩ (.int .i64 k')).drewN n) := by
  have hb : But B w ((w.setCell ⟨B, 1, none⟩ (.int .i64 k')).drewN n) := ((But.refl B w).setCell (.inl rfl) _).drewN
  refine ⟨h.step hb ?_ ?_ ?_ hk, hb⟩
  · rw [World.cell?_drewN, World.cell?_setCell_other _ _ _ _ (by simp)]
  · rw [World.cell?_drewN]; exact World.cell?_setCell_same (h := h.pos) ..
  · rw [World.frozen?_drewN, World.frozen?_setCell]
/-- a pick is a number below n -/
theorem pick_any (B : Nat) (k n : Int) (w : World) (h : Rd B k w) (hkb : k ≤ 1000000) (hn : 1 ≤ n) :
    Calls Try.prog 43 #[.pointer (some ⟨B, 0, none⟩), .int .i64 n] w fun e w' => (∃ z, e = .returned (.int .i64 z) ∧ 0 ≤ z ∧ z < n) ∧ Rd B (k + 1) w' ∧ But B w w' := by
  have hk := h.nonneg
  obtain ⟨v, len, cap, b0, b1, b2⟩ := h.buf
  have fin : ∀ m e w', (∃ z, e = Ending.returned (.int .i64 z) ∧ 0 ≤ z ∧ z < n) → w' = (w.setCell ⟨B, 1, none⟩ (.int .i64 (k + 1))).drewN m → (∃ z, e = Ending.returned (.int .i64 z) ∧ 0 ≤ z ∧ z < n) ∧ Rd B (k + 1) w' ∧ But B w w' := by
    rintro m e w' hz rfl
    exact ⟨hz, h.put (by omega) m⟩
  by_cases hl : len = 0
  · subst hl
    exact (pick_empty B k n v cap w h.lt h.frozen h.pos b0 hk hkb (by omega)).mono fun e w' hh => fin 0 e w' ⟨0, hh.1, by omega, by omega⟩ hh.2
  · rcases b2 with b2 | ⟨C, o, rfl, b4, b5, b6⟩
    · exact absurd b2 hl
    · have hz : ((len : Int) == 0) = false := by simp; omega
      by_cases hkl : k < (len : Int)
      · obtain ⟨c, c0, c1, c2⟩ := b6 k.toNat (by omega)
        exact (pick_in B C o k n c len cap w (Nat.ne_of_lt b4) h.lt h.frozen h.pos b0 hk hkb b1 (by omega) hz hkl c0 c1 c2).mono fun e w' hh => fin 0 e w' ⟨_, hh.1, Int.emod_nonneg _ (by omega), Int.emod_lt_of_pos _ (by omega)⟩ hh.2
      · have m1 : 0 ≤ k % (len : Int) := Int.emod_nonneg _ (by omega)
        have m2 : k % (len : Int) < (len : Int) := Int.emod_lt_of_pos _ (by omega)
        have m3 : 0 ≤ (k * 7 + 3) % (len : Int) := Int.emod_nonneg _ (by omega)
        have m4 : (k * 7 + 3) % (len : Int) < (len : Int) := Int.emod_lt_of_pos _ (by omega)
        obtain ⟨c, c0, c1, c2⟩ := b6 (k % (len : Int)).toNat (by omega)
        obtain ⟨d, d0, d1, d2⟩ := b6 ((k * 7 + 3) % (len : Int)).toNat (by omega)
        exact (pick_past B C o k n c d len cap w (Nat.ne_of_lt b4) h.lt h.frozen h.pos b0 hk hkb b1 (by omega) hz hkl c0 c1 c2 d0 d1 d2).mono fun e w' hh => by obtain ⟨hz, m, hm⟩ := hh; exact fin m e w' hz hm
end Go.Proofs.Ytdmlhfbnhhafmaa.draw
