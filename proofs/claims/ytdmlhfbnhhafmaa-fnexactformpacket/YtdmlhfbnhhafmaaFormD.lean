/-
  THE WALKS of FormPacket, fourth part: the program's.
-/
import Derived.Test.YtdmlhfbnhhafmaaFormC
import Derived.WalkKit
import Derived.WalkSpells
import Derived.WalkLawsBesides
import Derived.Laws.StructEq
import Derived.Laws.ResultCell
import Derived.Deep.RegionHeld3
import Derived.Outline
namespace Go.Proofs.Ytdmlhfbnhhafmaa.tag
open Go.RowKit


theorem below_box2 {w w1 : World} {o o' : Obj} (hb : Below ((w.alloc o).alloc o').drew.heap.size ((w.alloc o).alloc o').drew w1) : Below w.heap.size w w1 :=
  (((Below.refl _ _).alloc (Nat.le_refl _) _).alloc (by simp) _).drew.trans (hb.mono (by show w.heap.size ≤ ((w.alloc o).alloc o').heap.size; simp; omega))
theorem ta_ww (v : Value) (w : World) : (Instr.typeAssert (.iface 103 v) 84 103 true).run Try.prog w = .ok (.tuple #[v, .bool true]) w := by kernel_rfl
theorem ta_dw (v : Value) (w : World) : (Instr.typeAssert (.iface 105 v) 84 103 true).run Try.prog w = .ok (.tuple #[.agg #[.int .i64 0, .int .i64 0, .int .i64 0, .int .i64 0, .int .i64 0], .bool false]) w := by kernel_rfl
theorem ta_dd (v : Value) (w : World) : (Instr.typeAssert (.iface 105 v) 84 105 true).run Try.prog w = .ok (.tuple #[v, .bool true]) w := by kernel_rfl
theorem me_wv (v : Value) (w : World) : (method 229 103 v "loop.example/kilnwind/impl.valid").run Try.prog w = .ok (84, v) w := by kernel_rfl
theorem me_dv (v : Value) (w : World) : (method 229 105 v "loop.example/kilnwind/impl.valid").run Try.prog w = .ok (88, v) w := by kernel_rfl
theorem me_wb (v : Value) (w : World) : (method 229 103 v "loop.example/kilnwind/impl.body").run Try.prog w = .ok (83, v) w := by kernel_rfl
theorem me_db (v : Value) (w : World) : (method 229 105 v "loop.example/kilnwind/impl.body").run Try.prog w = .ok (87, v) w := by kernel_rfl
theorem packetOf_word (f m y nx mk : Int) (w : World) :
    Calls Try.prog 59 #[.iface 103 (.agg #[.int .i64 f, .int .i64 m, .int .i64 y, .int .i64 nx, .int .i64 mk])] w fun e w' =>
      e = .returned (.agg #[.int .i64 1, .int .i64 f, .int .i64 m, .int .i64 y, .int .i64 nx, .int .i64 mk, .int .i64 0, .bool false, .string ⟨#[]⟩]) ∧ Below w.heap.size w w' := by
  have t1 := ta_ww
  have t2 := ta_dw
  have t3 := ta_dd
  go_enter Try.func59, Try.ntmps59
  go_wp2
  exact bodyPost_ret (v := .agg #[.int .i64 1, .int .i64 f, .int .i64 m, .int .i64 y, .int .i64 nx, .int .i64 mk, .int .i64 0, .bool false, .string ⟨#[]⟩]) (by simp [results, Try.results59, go_sem]) rfl
    ⟨rfl, ((Below.refl _ _).alloc (Nat.le_refl _) _).alloc (by simp) _⟩
theorem packetOf_data (f m y sq : Int) (l : Bool) (p : ByteArray) (w : World) :
    Calls Try.prog 59 #[.iface 105 (.agg #[.int .i64 f, .int .i64 m, .int .i64 y, .int .i64 sq, .bool l, .string p])] w fun e w' =>
      e = .returned (.agg #[.int .i64 2, .int .i64 f, .int .i64 m, .int .i64 y, .int .i64 0, .int .i64 0, .int .i64 sq, .bool l, .string p]) ∧ Below w.heap.size w w' := by
  have t1 := ta_ww
  have t2 := ta_dw
  have t3 := ta_dd
  go_enter Try.func59, Try.ntmps59
  go_wp2
  exact bodyPost_ret (v := .agg #[.int .i64 2, .int .i64 f, .int .i64 m, .int .i64 y, .int .i64 0, .int .i64 0, .int .i64 sq, .bool l, .string p]) (by simp [results, Try.results59, go_sem]) rfl
    ⟨rfl, ((Below.refl _ _).alloc (Nat.le_refl _) _).alloc (by simp) _⟩

theorem letterOf_other (k f m y nx mk sq : Int) (l : Bool) (p : ByteArray) (w : World) (h1 : k ≠ 1) (h2 : k ≠ 2) :
    Calls Try.prog 50 #[.agg #[.int .i64 k, .int .i64 f, .int .i64 m, .int .i64 y, .int .i64 nx, .int .i64 mk, .int .i64 sq, .bool l, .string p]] w fun e w' => e = .returned (.tuple #[.nilIface, .bool false]) ∧ Below w.heap.size w w' := by
  have h1' : (k == 1) = false := by simpa using h1
  have h2' : (k == 2) = false := by simpa using h2
  clear h1 h2
  go_enter Try.func50, Try.ntmps50
  go_wp2
  go_ret2
  exact ⟨rfl, ((Below.refl _ _).alloc (Nat.le_refl _) _).alloc (by simp) _⟩
theorem letterOf_word_yes (f m y nx mk : Int) (w : World) (h : wordOk f m y nx mk = true) :
    Calls Try.prog 50 #[.agg #[.int .i64 1, .int .i64 f, .int .i64 m, .int .i64 y, .int .i64 nx, .int .i64 mk, .int .i64 0, .bool false, .string ⟨#[]⟩]] w fun e w' =>
      e = .returned (.tuple #[.iface 103 (.agg #[.int .i64 f, .int .i64 m, .int .i64 y, .int .i64 nx, .int .i64 mk]), .bool true]) ∧ Below w.heap.size w w' := by
  have m1 := me_wv
  go_enter Try.func50, Try.ntmps50
  go_wp2
  go_region_held3 (fun w' => w'.cell? ⟨w.heap.size, 0, none⟩ = some (.int .i64 1) ∧ w'.cell? ⟨w.heap.size, 1, none⟩ = some (.int .i64 f) ∧ w'.cell? ⟨w.heap.size, 2, none⟩ = some (.int .i64 m) ∧ w'.cell? ⟨w.heap.size, 3, none⟩ = some (.int .i64 y) ∧ w'.cell? ⟨w.heap.size, 4, none⟩ = some (.int .i64 nx) ∧ w'.cell? ⟨w.heap.size, 5, none⟩ = some (.int .i64 mk) ∧ w'.cell? ⟨w.heap.size, 6, none⟩ = some (.int .i64 0) ∧ w'.cell? ⟨w.heap.size, 7, none⟩ = some (.bool false) ∧ w'.cell? ⟨w.heap.size, 8, none⟩ = some (.string ⟨#[]⟩) ∧ Below w.heap.size w w' ∧ w.heap.size < w'.heap.size)
    (first | assumption | ((repeat' apply And.intro) <;> first | (simp; done) | (simp; omega) | exact (((Below.refl _ _).alloc (Nat.le_refl _) _).alloc (by simp) _).drew) | (first | assumption | ((repeat' apply And.intro) <;> first | (simp; done) | exact ((Below.refl _ _).alloc (Nat.le_refl _) _).drew) | (go_split_ands; (repeat' apply And.intro) <;> first | exact keep_cell hb2 (by assumption) (by assumption) | exact keep_below hb2 (by assumption) (by assumption) | exact keep_size hb2 (by assumption)) | (go_split_ands; (repeat' apply And.intro) <;> first | assumption | exact Below.drew (by assumption))))
    (first | (go_at_call 84; refine (wordValid_any _ _ _ _ _ _).mono ?_; rintro e w2 ⟨rfl, hb2⟩) | (go_at_call 59; refine (packetOf_word _ _ _ _ _ _).mono ?_; rintro e w2 ⟨rfl, hb2⟩))
  have hbl : Below w.heap.size w w2 := by go_split_ands; assumption
  go_wp2
  go_ret2
  exact ⟨rfl, hbl⟩
theorem letterOf_word_sq (f m y nx mk sq : Int) (l : Bool) (p : ByteArray) (w : World) (h : wordOk f m y nx mk = true) (hs : sq ≠ 0) :
    Calls Try.prog 50 #[.agg #[.int .i64 1, .int .i64 f, .int .i64 m, .int .i64 y, .int .i64 nx, .int .i64 mk, .int .i64 sq, .bool l, .string p]] w fun e w' =>
      e = .returned (.tuple #[.nilIface, .bool false]) ∧ Below w.heap.size w w' := by
  have m1 := me_wv
  have hs1 : ((0 : Int) == sq) = false := by simp; omega
  clear hs
  go_enter Try.func50, Try.ntmps50
  go_wp2
  go_region_held3 (fun w' => w'.cell? ⟨w.heap.size, 0, none⟩ = some (.int .i64 1) ∧ w'.cell? ⟨w.heap.size, 1, none⟩ = some (.int .i64 f) ∧ w'.cell? ⟨w.heap.size, 2, none⟩ = some (.int .i64 m) ∧ w'.cell? ⟨w.heap.size, 3, none⟩ = some (.int .i64 y) ∧ w'.cell? ⟨w.heap.size, 4, none⟩ = some (.int .i64 nx) ∧ w'.cell? ⟨w.heap.size, 5, none⟩ = some (.int .i64 mk) ∧ w'.cell? ⟨w.heap.size, 6, none⟩ = some (.int .i64 sq) ∧ w'.cell? ⟨w.heap.size, 7, none⟩ = some (.bool l) ∧ w'.cell? ⟨w.heap.size, 8, none⟩ = some (.string p) ∧ Below w.heap.size w w' ∧ w.heap.size < w'.heap.size)
    (first | assumption | ((repeat' apply And.intro) <;> first | (simp; done) | (simp; omega) | exact (((Below.refl _ _).alloc (Nat.le_refl _) _).alloc (by simp) _).drew) | (first | assumption | ((repeat' apply And.intro) <;> first | (simp; done) | exact ((Below.refl _ _).alloc (Nat.le_refl _) _).drew) | (go_split_ands; (repeat' apply And.intro) <;> first | exact keep_cell hb2 (by assumption) (by assumption) | exact keep_below hb2 (by assumption) (by assumption) | exact keep_size hb2 (by assumption)) | (go_split_ands; (repeat' apply And.intro) <;> first | assumption | exact Below.drew (by assumption))))
    (first | (go_at_call 84; refine (wordValid_any _ _ _ _ _ _).mono ?_; rintro e w2 ⟨rfl, hb2⟩) | (go_at_call 59; refine (packetOf_word _ _ _ _ _ _).mono ?_; rintro e w2 ⟨rfl, hb2⟩))
  have hbl : Below w.heap.size w w2 := by go_split_ands; assumption
  go_wp2
  go_ret2
  exact ⟨rfl, hbl⟩
theorem letterOf_word_l (f m y nx mk : Int) (p : ByteArray) (w : World) (h : wordOk f m y nx mk = true) :
    Calls Try.prog 50 #[.agg #[.int .i64 1, .int .i64 f, .int .i64 m, .int .i64 y, .int .i64 nx, .int .i64 mk, .int .i64 0, .bool true, .string p]] w fun e w' =>
      e = .returned (.tuple #[.nilIface, .bool false]) ∧ Below w.heap.size w w' := by
  have m1 := me_wv
  go_enter Try.func50, Try.ntmps50
  go_wp2
  go_region_held3 (fun w' => w'.cell? ⟨w.heap.size, 0, none⟩ = some (.int .i64 1) ∧ w'.cell? ⟨w.heap.size, 1, none⟩ = some (.int .i64 f) ∧ w'.cell? ⟨w.heap.size, 2, none⟩ = some (.int .i64 m) ∧ w'.cell? ⟨w.heap.size, 3, none⟩ = some (.int .i64 y) ∧ w'.cell? ⟨w.heap.size, 4, none⟩ = some (.int .i64 nx) ∧ w'.cell? ⟨w.heap.size, 5, none⟩ = some (.int .i64 mk) ∧ w'.cell? ⟨w.heap.size, 6, none⟩ = some (.int .i64 0) ∧ w'.cell? ⟨w.heap.size, 7, none⟩ = some (.bool true) ∧ w'.cell? ⟨w.heap.size, 8, none⟩ = some (.string p) ∧ Below w.heap.size w w' ∧ w.heap.size < w'.heap.size)
    (first | assumption | ((repeat' apply And.intro) <;> first | (simp; done) | (simp; omega) | exact (((Below.refl _ _).alloc (Nat.le_refl _) _).alloc (by simp) _).drew) | (first | assumption | ((repeat' apply And.intro) <;> first | (simp; done) | exact ((Below.refl _ _).alloc (Nat.le_refl _) _).drew) | (go_split_ands; (repeat' apply And.intro) <;> first | exact keep_cell hb2 (by assumption) (by assumption) | exact keep_below hb2 (by assumption) (by assumption) | exact keep_size hb2 (by assumption)) | (go_split_ands; (repeat' apply And.intro) <;> first | assumption | exact Below.drew (by assumption))))
    (first | (go_at_call 84; refine (wordValid_any _ _ _ _ _ _).mono ?_; rintro e w2 ⟨rfl, hb2⟩) | (go_at_call 59; refine (packetOf_word _ _ _ _ _ _).mono ?_; rintro e w2 ⟨rfl, hb2⟩))
  have hbl : Below w.heap.size w w2 := by go_split_ands; assumption
  go_wp2
  go_ret2
  exact ⟨rfl, hbl⟩
theorem letterOf_word_p (f m y nx mk : Int) (p : ByteArray) (w : World) (h : wordOk f m y nx mk = true) (hp : p.toList.isEmpty = false) :
    Calls Try.prog 50 #[.agg #[.int .i64 1, .int .i64 f, .int .i64 m, .int .i64 y, .int .i64 nx, .int .i64 mk, .int .i64 0, .bool false, .string p]] w fun e w' =>
      e = .returned (.tuple #[.nilIface, .bool false]) ∧ Below w.heap.size w w' := by
  have m1 := me_wv
  have hp1 : (([] : List UInt8) == p.toList) = false := by cases hq : p.toList with | nil => rw [hq] at hp; cases hp | cons a b => rfl
  go_enter Try.func50, Try.ntmps50
  go_wp2
  go_region_held3 (fun w' => w'.cell? ⟨w.heap.size, 0, none⟩ = some (.int .i64 1) ∧ w'.cell? ⟨w.heap.size, 1, none⟩ = some (.int .i64 f) ∧ w'.cell? ⟨w.heap.size, 2, none⟩ = some (.int .i64 m) ∧ w'.cell? ⟨w.heap.size, 3, none⟩ = some (.int .i64 y) ∧ w'.cell? ⟨w.heap.size, 4, none⟩ = some (.int .i64 nx) ∧ w'.cell? ⟨w.heap.size, 5, none⟩ = some (.int .i64 mk) ∧ w'.cell? ⟨w.heap.size, 6, none⟩ = some (.int .i64 0) ∧ w'.cell? ⟨w.heap.size, 7, none⟩ = some (.bool false) ∧ w'.cell? ⟨w.heap.size, 8, none⟩ = some (.string p) ∧ Below w.heap.size w w' ∧ w.heap.size < w'.heap.size)
    (first | assumption | ((repeat' apply And.intro) <;> first | (simp; done) | (simp; omega) | exact (((Below.refl _ _).alloc (Nat.le_refl _) _).alloc (by simp) _).drew) | (first | assumption | ((repeat' apply And.intro) <;> first | (simp; done) | exact ((Below.refl _ _).alloc (Nat.le_refl _) _).drew) | (go_split_ands; (repeat' apply And.intro) <;> first | exact keep_cell hb2 (by assumption) (by assumption) | exact keep_below hb2 (by assumption) (by assumption) | exact keep_size hb2 (by assumption)) | (go_split_ands; (repeat' apply And.intro) <;> first | assumption | exact Below.drew (by assumption))))
    (first | (go_at_call 84; refine (wordValid_any _ _ _ _ _ _).mono ?_; rintro e w2 ⟨rfl, hb2⟩) | (go_at_call 59; refine (packetOf_word _ _ _ _ _ _).mono ?_; rintro e w2 ⟨rfl, hb2⟩))
  have hbl : Below w.heap.size w w2 := by go_split_ands; assumption
  go_wp2
  go_ret2
  exact ⟨rfl, hbl⟩
theorem letterOf_word_no (f m y nx mk sq : Int) (l : Bool) (p : ByteArray) (w : World) (h : wordOk f m y nx mk = false) :
    Calls Try.prog 50 #[.agg #[.int .i64 1, .int .i64 f, .int .i64 m, .int .i64 y, .int .i64 nx, .int .i64 mk, .int .i64 sq, .bool l, .string p]] w fun e w' =>
      e = .returned (.tuple #[.nilIface, .bool false]) ∧ Below w.heap.size w w' := by
  have m1 := me_wv
  go_enter Try.func50, Try.ntmps50
  go_wp2
  refine wp_region_any (by kernel_rfl) ?_
  change wpAny _ _ _ _ _ _ _ (World.drew _)
  refine wpAny_ready (rs := [0]) (by kernel_rfl) (by simp) ?_; refine AllReady.cons rfl (fun K hK => ?_) AllReady.nil; go_simp; refine hK _ _ ?_; clear hK K
  refine wpAny_ready (rs := [1]) (by kernel_rfl) (by simp) ?_; refine AllReady.cons rfl (fun K hK => ?_) AllReady.nil; go_simp
  go_wp2_with (first | (go_at_call 84; refine (wordValid_any _ _ _ _ _ _).mono ?_; rintro e w2 ⟨rfl, hb2⟩))
  refine wpAny_ready (rs := [2]) (by kernel_rfl) (by simp) ?_; refine AllReady.cons rfl (fun K hK => ?_) AllReady.nil; go_simp; refine hK _ _ ?_; clear hK K
  refine wpAny_ready (rs := [3]) (by kernel_rfl) (by simp) ?_; refine AllReady.cons rfl (fun K hK => ?_) AllReady.nil; go_simp; refine hK _ _ ?_; clear hK K
  refine wpAny_ready (rs := [4, 6]) (by kernel_rfl) (by simp) (BigFrame.allReady_skip rfl rfl ?_ (BigFrame.allReady_skip rfl rfl ?_ AllReady.nil))
  · refine wpAny_ready (rs := [5, 6]) (by kernel_rfl) (by simp) (BigFrame.allReady_skip rfl rfl ?_ (BigFrame.allReady_skip rfl rfl ?_ AllReady.nil))
    · refine wpAny_ready (rs := [6]) (by kernel_rfl) (by simp) (BigFrame.allReady_skip rfl rfl ?_ AllReady.nil)
      refine wpAny_ready (rs := [7]) (by kernel_rfl) (by simp) (BigFrame.allReady_skip rfl rfl ?_ AllReady.nil)
      simp only [Act.put, List.setIfInBounds_toArray]; refine wpAny_ready (rs := [8]) (by kernel_rfl) (by simp) ?_; refine AllReady.cons rfl (fun K hK => ?_) AllReady.nil; go_simp; refine hK _ _ ?_; clear hK K; refine wpAny_done (by kernel_rfl) ?_ _; go_wp2; go_ret2; exact ⟨rfl, below_box2 hb2⟩
    · refine wpAny_ready (rs := [5]) (by kernel_rfl) (by simp) (BigFrame.allReady_skip rfl rfl ?_ AllReady.nil)
      refine wpAny_ready (rs := [7]) (by kernel_rfl) (by simp) (BigFrame.allReady_skip rfl rfl ?_ AllReady.nil)
      simp only [Act.put, List.setIfInBounds_toArray]; refine wpAny_ready (rs := [8]) (by kernel_rfl) (by simp) ?_; refine AllReady.cons rfl (fun K hK => ?_) AllReady.nil; go_simp; refine hK _ _ ?_; clear hK K; refine wpAny_done (by kernel_rfl) ?_ _; go_wp2; go_ret2; exact ⟨rfl, below_box2 hb2⟩
  · refine wpAny_ready (rs := [4]) (by kernel_rfl) (by simp) (BigFrame.allReady_skip rfl rfl ?_ AllReady.nil)
    refine wpAny_ready (rs := [5]) (by kernel_rfl) (by simp) (BigFrame.allReady_skip rfl rfl ?_ AllReady.nil)
    refine wpAny_ready (rs := [7]) (by kernel_rfl) (by simp) (BigFrame.allReady_skip rfl rfl ?_ AllReady.nil)
    simp only [Act.put, List.setIfInBounds_toArray]; refine wpAny_ready (rs := [8]) (by kernel_rfl) (by simp) ?_; refine AllReady.cons rfl (fun K hK => ?_) AllReady.nil; go_simp; refine hK _ _ ?_; clear hK K; refine wpAny_done (by kernel_rfl) ?_ _; go_wp2; go_ret2; exact ⟨rfl, below_box2 hb2⟩
theorem letterOf_data_yes (f m y sq : Int) (l : Bool) (p : ByteArray) (w : World) (h : dataOk f m y sq p.size = true) :
    Calls Try.prog 50 #[.agg #[.int .i64 2, .int .i64 f, .int .i64 m, .int .i64 y, .int .i64 0, .int .i64 0, .int .i64 sq, .bool l, .string p]] w fun e w' =>
      e = .returned (.tuple #[.iface 105 (.agg #[.int .i64 f, .int .i64 m, .int .i64 y, .int .i64 sq, .bool l, .string p]), .bool true]) ∧ Below w.heap.size w w' := by
  have m1 := me_dv
  go_enter Try.func50, Try.ntmps50
  go_wp2
  go_region_held3 (fun w' => w'.cell? ⟨w.heap.size, 0, none⟩ = some (.int .i64 2) ∧ w'.cell? ⟨w.heap.size, 1, none⟩ = some (.int .i64 f) ∧ w'.cell? ⟨w.heap.size, 2, none⟩ = some (.int .i64 m) ∧ w'.cell? ⟨w.heap.size, 3, none⟩ = some (.int .i64 y) ∧ w'.cell? ⟨w.heap.size, 4, none⟩ = some (.int .i64 0) ∧ w'.cell? ⟨w.heap.size, 5, none⟩ = some (.int .i64 0) ∧ w'.cell? ⟨w.heap.size, 6, none⟩ = some (.int .i64 sq) ∧ w'.cell? ⟨w.heap.size, 7, none⟩ = some (.bool l) ∧ w'.cell? ⟨w.heap.size, 8, none⟩ = some (.string p) ∧ Below w.heap.size w w' ∧ w.heap.size < w'.heap.size)
    (first | assumption | ((repeat' apply And.intro) <;> first | (simp; done) | (simp; omega) | exact (((Below.refl _ _).alloc (Nat.le_refl _) _).alloc (by simp) _).drew) | (first | assumption | ((repeat' apply And.intro) <;> first | (simp; done) | exact ((Below.refl _ _).alloc (Nat.le_refl _) _).drew) | (go_split_ands; (repeat' apply And.intro) <;> first | exact keep_cell hb2 (by assumption) (by assumption) | exact keep_below hb2 (by assumption) (by assumption) | exact keep_size hb2 (by assumption)) | (go_split_ands; (repeat' apply And.intro) <;> first | assumption | exact Below.drew (by assumption))))
    (first | (go_at_call 88; refine (dataValid_any _ _ _ _ _ _ _).mono ?_; rintro e w2 ⟨rfl, hb2⟩) | (go_at_call 59; refine (packetOf_data _ _ _ _ _ _ _).mono ?_; rintro e w2 ⟨rfl, hb2⟩))
  have hbl : Below w.heap.size w w2 := by go_split_ands; assumption
  go_wp2
  go_ret2
  exact ⟨rfl, hbl⟩
theorem letterOf_data_nx (f m y nx mk sq : Int) (l : Bool) (p : ByteArray) (w : World) (h : dataOk f m y sq p.size = true) (hs : nx ≠ 0) :
    Calls Try.prog 50 #[.agg #[.int .i64 2, .int .i64 f, .int .i64 m, .int .i64 y, .int .i64 nx, .int .i64 mk, .int .i64 sq, .bool l, .string p]] w fun e w' =>
      e = .returned (.tuple #[.nilIface, .bool false]) ∧ Below w.heap.size w w' := by
  have m1 := me_dv
  have hs1 : ((0 : Int) == nx) = false := by simp; omega
  clear hs
  go_enter Try.func50, Try.ntmps50
  go_wp2
  go_region_held3 (fun w' => w'.cell? ⟨w.heap.size, 0, none⟩ = some (.int .i64 2) ∧ w'.cell? ⟨w.heap.size, 1, none⟩ = some (.int .i64 f) ∧ w'.cell? ⟨w.heap.size, 2, none⟩ = some (.int .i64 m) ∧ w'.cell? ⟨w.heap.size, 3, none⟩ = some (.int .i64 y) ∧ w'.cell? ⟨w.heap.size, 4, none⟩ = some (.int .i64 nx) ∧ w'.cell? ⟨w.heap.size, 5, none⟩ = some (.int .i64 mk) ∧ w'.cell? ⟨w.heap.size, 6, none⟩ = some (.int .i64 sq) ∧ w'.cell? ⟨w.heap.size, 7, none⟩ = some (.bool l) ∧ w'.cell? ⟨w.heap.size, 8, none⟩ = some (.string p) ∧ Below w.heap.size w w' ∧ w.heap.size < w'.heap.size)
    (first | assumption | ((repeat' apply And.intro) <;> first | (simp; done) | (simp; omega) | exact (((Below.refl _ _).alloc (Nat.le_refl _) _).alloc (by simp) _).drew) | (first | assumption | ((repeat' apply And.intro) <;> first | (simp; done) | exact ((Below.refl _ _).alloc (Nat.le_refl _) _).drew) | (go_split_ands; (repeat' apply And.intro) <;> first | exact keep_cell hb2 (by assumption) (by assumption) | exact keep_below hb2 (by assumption) (by assumption) | exact keep_size hb2 (by assumption)) | (go_split_ands; (repeat' apply And.intro) <;> first | assumption | exact Below.drew (by assumption))))
    (first | (go_at_call 88; refine (dataValid_any _ _ _ _ _ _ _).mono ?_; rintro e w2 ⟨rfl, hb2⟩) | (go_at_call 59; refine (packetOf_data _ _ _ _ _ _ _).mono ?_; rintro e w2 ⟨rfl, hb2⟩))
  have hbl : Below w.heap.size w w2 := by go_split_ands; assumption
  go_wp2
  go_ret2
  exact ⟨rfl, hbl⟩
theorem letterOf_data_mk (f m y mk sq : Int) (l : Bool) (p : ByteArray) (w : World) (h : dataOk f m y sq p.size = true) (hs : mk ≠ 0) :
    Calls Try.prog 50 #[.agg #[.int .i64 2, .int .i64 f, .int .i64 m, .int .i64 y, .int .i64 0, .int .i64 mk, .int .i64 sq, .bool l, .string p]] w fun e w' =>
      e = .returned (.tuple #[.nilIface, .bool false]) ∧ Below w.heap.size w w' := by
  have m1 := me_dv
  have hs1 : ((0 : Int) == mk) = false := by simp; omega
  clear hs
  go_enter Try.func50, Try.ntmps50
  go_wp2
  go_region_held3 (fun w' => w'.cell? ⟨w.heap.size, 0, none⟩ = some (.int .i64 2) ∧ w'.cell? ⟨w.heap.size, 1, none⟩ = some (.int .i64 f) ∧ w'.cell? ⟨w.heap.size, 2, none⟩ = some (.int .i64 m) ∧ w'.cell? ⟨w.heap.size, 3, none⟩ = some (.int .i64 y) ∧ w'.cell? ⟨w.heap.size, 4, none⟩ = some (.int .i64 0) ∧ w'.cell? ⟨w.heap.size, 5, none⟩ = some (.int .i64 mk) ∧ w'.cell? ⟨w.heap.size, 6, none⟩ = some (.int .i64 sq) ∧ w'.cell? ⟨w.heap.size, 7, none⟩ = some (.bool l) ∧ w'.cell? ⟨w.heap.size, 8, none⟩ = some (.string p) ∧ Below w.heap.size w w' ∧ w.heap.size < w'.heap.size)
    (first | assumption | ((repeat' apply And.intro) <;> first | (simp; done) | (simp; omega) | exact (((Below.refl _ _).alloc (Nat.le_refl _) _).alloc (by simp) _).drew) | (first | assumption | ((repeat' apply And.intro) <;> first | (simp; done) | exact ((Below.refl _ _).alloc (Nat.le_refl _) _).drew) | (go_split_ands; (repeat' apply And.intro) <;> first | exact keep_cell hb2 (by assumption) (by assumption) | exact keep_below hb2 (by assumption) (by assumption) | exact keep_size hb2 (by assumption)) | (go_split_ands; (repeat' apply And.intro) <;> first | assumption | exact Below.drew (by assumption))))
    (first | (go_at_call 88; refine (dataValid_any _ _ _ _ _ _ _).mono ?_; rintro e w2 ⟨rfl, hb2⟩) | (go_at_call 59; refine (packetOf_data _ _ _ _ _ _ _).mono ?_; rintro e w2 ⟨rfl, hb2⟩))
  have hbl : Below w.heap.size w w2 := by go_split_ands; assumption
  go_wp2
  go_ret2
  exact ⟨rfl, hbl⟩
theorem letterOf_data_no (f m y nx mk sq : Int) (l : Bool) (p : ByteArray) (w : World) (h : dataOk f m y sq p.size = false) :
    Calls Try.prog 50 #[.agg #[.int .i64 2, .int .i64 f, .int .i64 m, .int .i64 y, .int .i64 nx, .int .i64 mk, .int .i64 sq, .bool l, .string p]] w fun e w' =>
      e = .returned (.tuple #[.nilIface, .bool false]) ∧ Below w.heap.size w w' := by
  have m1 := me_dv
  go_enter Try.func50, Try.ntmps50
  go_wp2
  refine wp_region_any (by kernel_rfl) ?_
  change wpAny _ _ _ _ _ _ _ (World.drew _)
  refine wpAny_ready (rs := [0]) (by kernel_rfl) (by simp) ?_; refine AllReady.cons rfl (fun K hK => ?_) AllReady.nil; go_simp; refine hK _ _ ?_; clear hK K
  refine wpAny_ready (rs := [1]) (by kernel_rfl) (by simp) ?_; refine AllReady.cons rfl (fun K hK => ?_) AllReady.nil; go_simp
  go_wp2_with (first | (go_at_call 88; refine (dataValid_any _ _ _ _ _ _ _).mono ?_; rintro e w2 ⟨rfl, hb2⟩))
  refine wpAny_ready (rs := [2]) (by kernel_rfl) (by simp) ?_; refine AllReady.cons rfl (fun K hK => ?_) AllReady.nil; go_simp; refine hK _ _ ?_; clear hK K
  refine wpAny_ready (rs := [3]) (by kernel_rfl) (by simp) ?_; refine AllReady.cons rfl (fun K hK => ?_) AllReady.nil; go_simp; refine hK _ _ ?_; clear hK K
  refine wpAny_ready (rs := [4, 6]) (by kernel_rfl) (by simp) (BigFrame.allReady_skip rfl rfl ?_ (BigFrame.allReady_skip rfl rfl ?_ AllReady.nil))
  · refine wpAny_ready (rs := [5, 6]) (by kernel_rfl) (by simp) (BigFrame.allReady_skip rfl rfl ?_ (BigFrame.allReady_skip rfl rfl ?_ AllReady.nil))
    · refine wpAny_ready (rs := [6]) (by kernel_rfl) (by simp) (BigFrame.allReady_skip rfl rfl ?_ AllReady.nil)
      refine wpAny_ready (rs := [7]) (by kernel_rfl) (by simp) (BigFrame.allReady_skip rfl rfl ?_ AllReady.nil)
      simp only [Act.put, List.setIfInBounds_toArray]; refine wpAny_ready (rs := [8]) (by kernel_rfl) (by simp) ?_; refine AllReady.cons rfl (fun K hK => ?_) AllReady.nil; go_simp; refine hK _ _ ?_; clear hK K; refine wpAny_done (by kernel_rfl) ?_ _; go_wp2; go_ret2; exact ⟨rfl, below_box2 hb2⟩
    · refine wpAny_ready (rs := [5]) (by kernel_rfl) (by simp) (BigFrame.allReady_skip rfl rfl ?_ AllReady.nil)
      refine wpAny_ready (rs := [7]) (by kernel_rfl) (by simp) (BigFrame.allReady_skip rfl rfl ?_ AllReady.nil)
      simp only [Act.put, List.setIfInBounds_toArray]; refine wpAny_ready (rs := [8]) (by kernel_rfl) (by simp) ?_; refine AllReady.cons rfl (fun K hK => ?_) AllReady.nil; go_simp; refine hK _ _ ?_; clear hK K; refine wpAny_done (by kernel_rfl) ?_ _; go_wp2; go_ret2; exact ⟨rfl, below_box2 hb2⟩
  · refine wpAny_ready (rs := [4]) (by kernel_rfl) (by simp) (BigFrame.allReady_skip rfl rfl ?_ AllReady.nil)
    refine wpAny_ready (rs := [5]) (by kernel_rfl) (by simp) (BigFrame.allReady_skip rfl rfl ?_ AllReady.nil)
    refine wpAny_ready (rs := [7]) (by kernel_rfl) (by simp) (BigFrame.allReady_skip rfl rfl ?_ AllReady.nil)
    simp only [Act.put, List.setIfInBounds_toArray]; refine wpAny_ready (rs := [8]) (by kernel_rfl) (by simp) ?_; refine AllReady.cons rfl (fun K hK => ?_) AllReady.nil; go_simp; refine hK _ _ ?_; clear hK K; refine wpAny_done (by kernel_rfl) ?_ _; go_wp2; go_ret2; exact ⟨rfl, below_box2 hb2⟩
end Go.Proofs.Ytdmlhfbnhhafmaa.tag
