/-
  THE WALKS of ReadPacket, fifth part: the program's form, and both ReadPackets as one answer.
-/
import Derived.Test.YtdmlhfbnhhafmabDoorReadD
import Derived.Test.YtdmlhfbnhhafmabDoorReadPlain2
namespace Go.Proofs.YtdmlhfbnhhafmabDoor.tag
open Go.RowKit
set_option linter.unusedVariables false

/-- what the package's variables hold -/
structure Gl (w : World) : Prop where
  size : 7 ≤ w.heap.size
  sealV : ∃ x, w.cell? ⟨0, 0, none⟩ = some (.iface 96 x)
  shortV : ∃ x, w.cell? ⟨1, 0, none⟩ = some (.iface 96 x)
  tagV : ∃ x, w.cell? ⟨2, 0, none⟩ = some (.iface 96 x)
  sizeV : ∃ x, w.cell? ⟨3, 0, none⟩ = some (.iface 96 x)
  rangeV : ∃ x, w.cell? ⟨4, 0, none⟩ = some (.iface 96 x)
  markV : ∃ x, w.cell? ⟨6, 0, none⟩ = some (.iface 96 x)
  typeV : w.cell? ⟨5, 0, none⟩ = some (.iface 81 (.agg #[.pointer (some ⟨7, 34, none⟩)]))
theorem gl_cell {w w' : World} {k : Nat} {P : Value → Prop} (hk : k < w.heap.size) (hb : Below w.heap.size w w') (h : ∃ x, w.cell? ⟨k, 0, none⟩ = some (.iface 96 x)) : ∃ x, w'.cell? ⟨k, 0, none⟩ = some (.iface 96 x) := by
  obtain ⟨x, hx⟩ := h
  exact ⟨x, (hb.cell (p := ⟨k, 0, none⟩) hk).trans hx⟩
theorem Gl.mono {w w' : World} (h : Gl w) (hb : Below w.heap.size w w') : Gl w' := by
  have hz := h.size
  have c : ∀ k v, k < 7 → w.cell? ⟨k, 0, none⟩ = some v → w'.cell? ⟨k, 0, none⟩ = some v := fun k v hk hv => (hb.cell (p := ⟨k, 0, none⟩) (by show k < w.heap.size; omega)).trans hv
  obtain ⟨x0, h0⟩ := h.sealV
  obtain ⟨x1, h1⟩ := h.shortV
  obtain ⟨x2, h2⟩ := h.tagV
  obtain ⟨x3, h3⟩ := h.sizeV
  obtain ⟨x4, h4⟩ := h.rangeV
  obtain ⟨x5, h5⟩ := h.markV
  exact ⟨Nat.le_trans h.size hb.size, ⟨x0, c _ _ (by omega) h0⟩, ⟨x1, c _ _ (by omega) h1⟩, ⟨x2, c _ _ (by omega) h2⟩, ⟨x3, c _ _ (by omega) h3⟩, ⟨x4, c _ _ (by omega) h4⟩, ⟨x5, c _ _ (by omega) h5⟩, c _ _ (by omega) h.typeV⟩
theorem u8_one {c : UInt8} (h : c.toNat = 1) : c = 1 := UInt8.toNat_inj.1 (h.trans rfl)
theorem u8_two {c : UInt8} (h : c.toNat = 2) : c = 2 := UInt8.toNat_inj.1 (h.trans rfl)
theorem errOf {P : World → Prop} {w : World} {f : Nat} {args : Array Value} {V : Value} (h : Calls Tryd.prog f args w fun e w' => ∃ g, e = .returned (.tuple #[.nilIface, .iface 42 (.pointer (some ⟨g, 0, none⟩))]) ∧ w.heap.size ≤ g ∧ g < w'.heap.size ∧ w'.cell? ⟨g, 1, none⟩ = some V ∧ Below w.heap.size w w') :
    Calls Tryd.prog f args w fun e w' => (∃ v, e = .returned (.tuple #[.nilIface, .iface 42 v])) ∧ Below w.heap.size w w' :=
  h.mono fun e w' ⟨g, he, _, _, _, hb⟩ => ⟨⟨_, he⟩, hb⟩
theorem readBody_isWord (b : ByteArray) (w : World) (hG : Gl w) (h : isWord b) :
    Calls Tryd.prog 17 #[.string b] w fun e w' => e = .returned (.tuple #[.iface 49 (.agg #[.int .i64 ((bt b 1).toNat : Int), .int .i64 (rdx b 2 4), .int .i64 (rdx b 4 6), .int .i64 (rdx b 6 10), .int .i64 ((bt b 10).toNat : Int)]), .nilIface]) ∧ Below w.heap.size w w' := by
  obtain ⟨hz, h0, hw⟩ := h
  obtain ⟨x4, h4⟩ := hG.rangeV
  have hs := hG.size
  exact readBody_word b _ w (readWord_ok b (bt b 1) (bt b 10) 96 x4 w (by omega) (by rw [bt_get b 0 (by omega)]; exact u8_one h0) (bt_get b 1 (by omega)) (bt_get b 10 (by omega)) h4 (by omega) hw)
theorem readBody_isData (b : ByteArray) (w : World) (hG : Gl w) (hbm : b.size ≤ 1048576) (h : isData b) :
    Calls Tryd.prog 17 #[.string b] w fun e w' => e = .returned (.tuple #[.iface 51 (.agg #[.int .i64 ((bt b 1).toNat : Int), .int .i64 (rdx b 2 4), .int .i64 (rdx b 4 6), .int .i64 (rdx b 6 10), .bool (((bt b 10).toNat : Int) == 1), .string (b.extract 11 b.size)]), .nilIface]) ∧ Below w.heap.size w w' := by
  obtain ⟨hz, h0, hm, hd⟩ := h
  have hs := hG.size
  refine readBody_data b (bt b 0) w hG.typeV (by omega) (readWord_other b (bt b 0) w (by omega) (bt_get b 0 (by omega)) (by rw [h0]; rfl)) _ (by omega) ?_
  intro W hW
  obtain ⟨x4, h4⟩ := (hG.mono hW).rangeV
  have hs' := (hG.mono hW).size
  exact readData_ok b (bt b 1) (bt b 10) 96 x4 W (by omega) hbm (by rw [bt_get b 0 (by omega)]; exact u8_two h0) (bt_get b 1 (by omega)) (bt_get b 10 (by omega)) hm h4 (by omega) hd
theorem readBody_isNone (b : ByteArray) (w : World) (hG : Gl w) (hbm : b.size ≤ 1048576) (hW : ¬ isWord b) (hD : ¬ isData b) :
    Calls Tryd.prog 17 #[.string b] w fun e w' => (∃ v, e = .returned (.tuple #[.nilIface, .iface 42 v])) ∧ Below w.heap.size w w' := by
  have hs := hG.size
  obtain ⟨x1, h1⟩ := hG.shortV
  obtain ⟨x3, h3⟩ := hG.sizeV
  obtain ⟨x4, h4⟩ := hG.rangeV
  by_cases z6 : b.size < 6
  · exact readBody_plain b x1 w hG.typeV (by omega) (readWord_short b 96 x1 w (by omega) h1 (by omega))
  · by_cases k1 : (bt b 0).toNat = 1
    · have e0 : b[0]'(by omega) = 1 := by rw [bt_get b 0 (by omega)]; exact u8_one k1
      by_cases z11 : b.size = 11
      · refine readBody_plain b x4 w hG.typeV (by omega) (readWord_bad b (bt b 1) (bt b 10) 96 x4 w (by omega) e0 (bt_get b 1 (by omega)) (bt_get b 10 (by omega)) h4 (by omega) ?_)
        cases hq : wordOk (bt b 1).toNat (rdx b 2 4) (rdx b 4 6) (rdx b 6 10) (bt b 10).toNat
        · rfl
        · exact absurd ⟨z11, k1, hq⟩ hW
      · exact readBody_plain b x3 w hG.typeV (by omega) (readWord_size b (bt b 1) 96 x3 w (by omega) (by simp; omega) e0 (bt_get b 1 (by omega)) h3 (by omega))
    · by_cases k2 : (bt b 0).toNat = 2
      · have e0 : b[0]'(by omega) = 2 := by rw [bt_get b 0 (by omega)]; exact u8_two k2
        refine readBody_bad b (bt b 0) w hG.typeV (by omega) (readWord_other b (bt b 0) w (by omega) (bt_get b 0 (by omega)) (by rw [k2]; rfl)) (by omega) ?_
        intro W hWb
        have G := hG.mono hWb
        have hs' := G.size
        obtain ⟨y1, g1⟩ := G.shortV
        obtain ⟨y4, g4⟩ := G.rangeV
        obtain ⟨y6, g6⟩ := G.markV
        by_cases z11 : b.size < 11
        · exact errOf (P := fun _ => True) (readData_short b (bt b 1) 96 y1 W (by omega) (by omega) e0 (bt_get b 1 (by omega)) g1 (by omega))
        · by_cases hm : ((bt b 10).toNat : Int) ≤ 1
          · refine errOf (P := fun _ => True) (readData_bad b (bt b 1) (bt b 10) 96 y4 W (by omega) hbm e0 (bt_get b 1 (by omega)) (bt_get b 10 (by omega)) hm g4 (by omega) ?_)
            cases hq : dataOk (bt b 1).toNat (rdx b 2 4) (rdx b 4 6) (rdx b 6 10) (b.extract 11 b.size).size
            · rfl
            · exact absurd ⟨by omega, k2, hm, hq⟩ hD
          · exact errOf (P := fun _ => True) (readData_mark b (bt b 1) (bt b 10) 96 y6 W (by omega) e0 (bt_get b 1 (by omega)) (bt_get b 10 (by omega)) (by omega) g6 (by omega))
      · exact readBody_other b (bt b 0) w hG.typeV (by omega) (readWord_other b (bt b 0) w (by omega) (bt_get b 0 (by omega)) (by simp; omega)) (by simp; omega)

theorem readForm_noseal (s key : ByteArray) (n : Int) (w : World) (hG : Gl w) (h : sealOk key.size n = false) :
    Calls Tryd.prog 10 #[.string s, .string key, .int .i64 n] w fun e w' => (∃ v, e = .returned (.tuple #[.nilIface, .iface 42 v])) ∧ Below w.heap.size w w' := by
  obtain ⟨x, hx⟩ := hG.sealV
  have hs : 0 < w.heap.size := by have := hG.size; omega
  clear hG
  go_enter Tryd.func10, Tryd.ntmps10
  go_wp2_with (go_at_call 15; refine (isSeal_any _ _ _).mono ?_; rintro e w' ⟨rfl, rfl⟩)
  go_region
  all_goals go_wp2
  all_goals go_ret2
  all_goals exact ⟨⟨_, rfl⟩, ((Below.refl _ _).alloc (Nat.le_refl _) _).drew⟩
theorem readForm_short (s key : ByteArray) (n : Int) (w : World) (hG : Gl w) (h : sealOk key.size n = true) (hz : (s.size : Int) < n) :
    Calls Tryd.prog 10 #[.string s, .string key, .int .i64 n] w fun e w' => (∃ v, e = .returned (.tuple #[.nilIface, .iface 42 v])) ∧ Below w.heap.size w w' := by
  obtain ⟨x, hx⟩ := hG.shortV
  have hs : 1 < w.heap.size := by have := hG.size; omega
  clear hG
  go_enter Tryd.func10, Tryd.ntmps10
  go_wp2_with (go_at_call 15; refine (isSeal_any _ _ _).mono ?_; rintro e w' ⟨rfl, rfl⟩)
  go_region
  all_goals go_wp2
  all_goals go_ret2
  all_goals exact ⟨⟨_, rfl⟩, ((Below.refl _ _).alloc (Nat.le_refl _) _).drew⟩
theorem readForm_tag (s key b T : ByteArray) (n : Int) (w : World) (hG : Gl w) (hk : key.size ≤ 1048576) (hbm : b.size ≤ 1048576) (h : sealOk key.size n = true) (hz : n ≤ (s.size : Int)) (hb : s.extract n.toNat s.size = b) (hT : tagOf b key n = T) (hq : ((s.extract 0 n.toNat).toList == T.toList) = false) :
    Calls Tryd.prog 10 #[.string s, .string key, .int .i64 n] w fun e w' => (∃ v, e = .returned (.tuple #[.nilIface, .iface 42 v])) ∧ Below w.heap.size w w' := by
  have hn := sealOk_yes h; (have hn0 : (0 : Int) ≤ n := by omega); have HT : Hid (∀ w : World, Calls Tryd.prog 16 #[.string b, .string key, .int .i64 n] w fun e w' => e = .returned (.string T) ∧ Below w.heap.size w w') := fun w => by rw [← hT]; exact implTag_any b key n w hbm hk
  clear hT hbm
  have HG : Hid (Gl w) := hG
  clear hG
  go_enter Tryd.func10, Tryd.ntmps10
  go_wp2_with (go_at_call 15; refine (isSeal_any _ _ _).mono ?_; rintro e w' ⟨rfl, rfl⟩)
  go_region_held3 (fun w' => Below w.heap.size w w') (first | assumption | exact (Below.refl _ _).drew | exact hb2 | exact (Below.refl _ _).drew.trans hb2) (first | (go_at_call 16; refine (HT.out _).mono ?_; rintro e w2 ⟨rfl, hb2⟩))
  have hbl : Below w.heap.size w w2 := by assumption
  have hG2 := HG.out.mono hbl
  obtain ⟨x, hx⟩ := hG2.tagV
  have hs : 2 < w2.heap.size := by have := hG2.size; omega
  clear hG2
  go_wp2
  go_region
  all_goals go_wp2
  all_goals go_ret2
  all_goals exact ⟨⟨_, rfl⟩, (hbl.alloc hbl.size _).drew⟩
theorem readForm_err (s key b T : ByteArray) (n : Int) (w : World) (hG : Gl w) (hk : key.size ≤ 1048576) (hbm : b.size ≤ 1048576) (h : sealOk key.size n = true) (hz : n ≤ (s.size : Int)) (hb : s.extract n.toNat s.size = b) (hT : tagOf b key n = T) (hq : ((s.extract 0 n.toNat).toList == T.toList) = true) (HB : Hid (∀ W, Below w.heap.size w W → Calls Tryd.prog 17 #[.string b] W fun e w' => (∃ v, e = .returned (.tuple #[.nilIface, .iface 42 v])) ∧ Below W.heap.size W w')) :
    Calls Tryd.prog 10 #[.string s, .string key, .int .i64 n] w fun e w' => (∃ v, e = .returned (.tuple #[.nilIface, .iface 42 v])) ∧ Below w.heap.size w w' := by
  have hn := sealOk_yes h; (have hn0 : (0 : Int) ≤ n := by omega); have HT : Hid (∀ w : World, Calls Tryd.prog 16 #[.string b, .string key, .int .i64 n] w fun e w' => e = .returned (.string T) ∧ Below w.heap.size w w') := fun w => by rw [← hT]; exact implTag_any b key n w hbm hk
  clear hT hbm hG
  go_enter Tryd.func10, Tryd.ntmps10
  go_wp2_with (go_at_call 15; refine (isSeal_any _ _ _).mono ?_; rintro e w' ⟨rfl, rfl⟩)
  go_region_held3 (fun w' => Below w.heap.size w w') (first | assumption | exact (Below.refl _ _).drew | exact hb2 | exact (Below.refl _ _).drew.trans hb2) (first | (go_at_call 16; refine (HT.out _).mono ?_; rintro e w2 ⟨rfl, hb2⟩))
  have hbl : Below w.heap.size w w2 := by assumption
  go_wp2_with (go_at_call 17; refine (HB.out _ hbl).mono ?_; rintro e w3 ⟨⟨v, rfl⟩, hb3⟩)
  go_ret2
  exact ⟨⟨_, rfl⟩, hbl.trans (hb3.mono hbl.size)⟩
theorem readForm_ok (s key b T : ByteArray) (n : Int) (w : World) (hG : Gl w) (hk : key.size ≤ 1048576) (hbm : b.size ≤ 1048576) (h : sealOk key.size n = true) (hz : n ≤ (s.size : Int)) (hb : s.extract n.toNat s.size = b) (hT : tagOf b key n = T) (l : Value) (hq : ((s.extract 0 n.toNat).toList == T.toList) = true) (HB : Hid (∀ W, Below w.heap.size w W → Calls Tryd.prog 17 #[.string b] W fun e w' => e = .returned (.tuple #[l, .nilIface]) ∧ Below W.heap.size W w')) :
    Calls Tryd.prog 10 #[.string s, .string key, .int .i64 n] w fun e w' => e = .returned (.tuple #[l, .nilIface]) ∧ Below w.heap.size w w' := by
  have hn := sealOk_yes h; (have hn0 : (0 : Int) ≤ n := by omega); have HT : Hid (∀ w : World, Calls Tryd.prog 16 #[.string b, .string key, .int .i64 n] w fun e w' => e = .returned (.string T) ∧ Below w.heap.size w w') := fun w => by rw [← hT]; exact implTag_any b key n w hbm hk
  clear hT hbm hG
  go_enter Tryd.func10, Tryd.ntmps10
  go_wp2_with (go_at_call 15; refine (isSeal_any _ _ _).mono ?_; rintro e w' ⟨rfl, rfl⟩)
  go_region_held3 (fun w' => Below w.heap.size w w') (first | assumption | exact (Below.refl _ _).drew | exact hb2 | exact (Below.refl _ _).drew.trans hb2) (first | (go_at_call 16; refine (HT.out _).mono ?_; rintro e w2 ⟨rfl, hb2⟩))
  have hbl : Below w.heap.size w w2 := by assumption
  go_wp2_with (go_at_call 17; refine (HB.out _ hbl).mono ?_; rintro e w3 ⟨rfl, hb3⟩)
  go_ret2
  exact ⟨rfl, hbl.trans (hb3.mono hbl.size)⟩
theorem below_chain {W w1 w2 : World} (hb1 : Below W.heap.size W w1) (hb2 : Below w1.heap.size w1 w2) : Below W.heap.size W w2 := hb1.trans (hb2.mono hb1.size)
theorem zero9a {w w1 : World} {T : TypeId} (hb : Below (w.alloc (.cells #[.int .i64 0, .int .i64 0, .int .i64 0, .int .i64 0, .int .i64 0, .int .i64 0, .int .i64 0, .bool false, .string ⟨#[]⟩] T)).heap.size (w.alloc (.cells #[.int .i64 0, .int .i64 0, .int .i64 0, .int .i64 0, .int .i64 0, .int .i64 0, .int .i64 0, .bool false, .string ⟨#[]⟩] T)) w1) :
    w1.cell? ⟨w.heap.size, 0, none⟩ = some (.int .i64 0) ∧ w1.cell? ⟨w.heap.size, 1, none⟩ = some (.int .i64 0) ∧ w1.cell? ⟨w.heap.size, 2, none⟩ = some (.int .i64 0) ∧ w1.cell? ⟨w.heap.size, 3, none⟩ = some (.int .i64 0) ∧ w1.cell? ⟨w.heap.size, 4, none⟩ = some (.int .i64 0) ∧ w1.cell? ⟨w.heap.size, 5, none⟩ = some (.int .i64 0) ∧ w1.cell? ⟨w.heap.size, 6, none⟩ = some (.int .i64 0) ∧ w1.cell? ⟨w.heap.size, 7, none⟩ = some (.bool false) ∧ w1.cell? ⟨w.heap.size, 8, none⟩ = some (.string ⟨#[]⟩) := by
  have hs : w.heap.size < (w.alloc (.cells #[.int .i64 0, .int .i64 0, .int .i64 0, .int .i64 0, .int .i64 0, .int .i64 0, .int .i64 0, .bool false, .string ⟨#[]⟩] T)).heap.size := by simp
  refine ⟨?_, ?_, ?_, ?_, ?_, ?_, ?_, ?_, ?_⟩
  all_goals exact (hb.cell (p := ⟨w.heap.size, _, none⟩) hs).trans (World.cell?_alloc_at (hn := rfl) ..)
theorem implRead_no (s key : ByteArray) (n : Int) (w : World) (HF : Hid (∀ W, Below w.heap.size w W → Calls Tryd.prog 10 #[.string s, .string key, .int .i64 n] W fun e w' => (∃ v, e = .returned (.tuple #[.nilIface, .iface 42 v])) ∧ Below W.heap.size W w')) :
    Calls Tryd.prog 5 #[.string s, .string key, .int .i64 n] w fun e w' => e = .returned (.tuple #[.agg #[.int .i64 0, .int .i64 0, .int .i64 0, .int .i64 0, .int .i64 0, .int .i64 0, .int .i64 0, .bool false, .string ⟨#[]⟩], .bool false]) ∧ Below w.heap.size w w' := by
  go_enter Tryd.func5, Tryd.ntmps5
  go_wp2_with (go_at_call 10; refine (HF.out _ ((Below.refl _ _).alloc (Nat.le_refl _) _)).mono ?_; rintro e w1 ⟨⟨v, rfl⟩, hb1⟩; (obtain ⟨hc1, hf1⟩ := bcell hb1); (have hz1 := hb1.size); simp at hz1)
  obtain ⟨k0, k1, k2, k3, k4, k5, k6, k7, k8⟩ := zero9a hb1
  have hbl : Below w.heap.size w w1 := below_box hb1
  exact bodyPost_ret (v := .tuple #[.agg #[.int .i64 0, .int .i64 0, .int .i64 0, .int .i64 0, .int .i64 0, .int .i64 0, .int .i64 0, .bool false, .string ⟨#[]⟩], .bool false]) (by simp [results, Tryd.results5, go_sem, k0, k1, k2, k3, k4, k5, k6, k7, k8]) rfl ⟨rfl, ((((((((hbl.setCell (Nat.le_refl _) _).setCell (Nat.le_refl _) _).setCell (Nat.le_refl _) _).setCell (Nat.le_refl _) _).setCell (Nat.le_refl _) _).setCell (Nat.le_refl _) _).setCell (Nat.le_refl _) _).setCell (Nat.le_refl _) _).setCell (Nat.le_refl _) _⟩
theorem implRead_word (s key : ByteArray) (f m y nx mk : Int) (n : Int) (w : World) (HF : Hid (∀ W, Below w.heap.size w W → Calls Tryd.prog 10 #[.string s, .string key, .int .i64 n] W fun e w' => e = .returned (.tuple #[.iface 49 (.agg #[.int .i64 f, .int .i64 m, .int .i64 y, .int .i64 nx, .int .i64 mk]), .nilIface]) ∧ Below W.heap.size W w')) :
    Calls Tryd.prog 5 #[.string s, .string key, .int .i64 n] w fun e w' => e = .returned (.tuple #[.agg #[.int .i64 1, .int .i64 f, .int .i64 m, .int .i64 y, .int .i64 nx, .int .i64 mk, .int .i64 0, .bool false, .string ⟨#[]⟩], .bool true]) ∧ Below w.heap.size w w' := by
  go_enter Tryd.func5, Tryd.ntmps5
  go_wp2_with (first | (go_at_call 10; refine (HF.out _ ((Below.refl _ _).alloc (Nat.le_refl _) _)).mono ?_; rintro e w1 ⟨rfl, hb1⟩) | (go_at_call 11; refine (packetOf_word _ _ _ _ _ _).mono ?_; rintro e w2 ⟨rfl, hb2⟩; (have hb2' := below_chain hb1 hb2); (obtain ⟨hc2, hf2⟩ := bcell hb2'); (have hz2 := hb2'.size); simp at hz2))
  obtain ⟨k0, k1, k2, k3, k4, k5, k6, k7, k8⟩ := zero9a hb2'
  have hbl : Below w.heap.size w w2 := below_box hb2'
  exact bodyPost_ret (v := .tuple #[.agg #[.int .i64 1, .int .i64 f, .int .i64 m, .int .i64 y, .int .i64 nx, .int .i64 mk, .int .i64 0, .bool false, .string ⟨#[]⟩], .bool true]) (by simp [results, Tryd.results5, go_sem, k0, k1, k2, k3, k4, k5, k6, k7, k8]) rfl ⟨rfl, ((((((((hbl.setCell (Nat.le_refl _) _).setCell (Nat.le_refl _) _).setCell (Nat.le_refl _) _).setCell (Nat.le_refl _) _).setCell (Nat.le_refl _) _).setCell (Nat.le_refl _) _).setCell (Nat.le_refl _) _).setCell (Nat.le_refl _) _).setCell (Nat.le_refl _) _⟩
theorem implRead_data (s key : ByteArray) (f m y sq : Int) (l : Bool) (p : ByteArray) (n : Int) (w : World) (HF : Hid (∀ W, Below w.heap.size w W → Calls Tryd.prog 10 #[.string s, .string key, .int .i64 n] W fun e w' => e = .returned (.tuple #[.iface 51 (.agg #[.int .i64 f, .int .i64 m, .int .i64 y, .int .i64 sq, .bool l, .string p]), .nilIface]) ∧ Below W.heap.size W w')) :
    Calls Tryd.prog 5 #[.string s, .string key, .int .i64 n] w fun e w' => e = .returned (.tuple #[.agg #[.int .i64 2, .int .i64 f, .int .i64 m, .int .i64 y, .int .i64 0, .int .i64 0, .int .i64 sq, .bool l, .string p], .bool true]) ∧ Below w.heap.size w w' := by
  go_enter Tryd.func5, Tryd.ntmps5
  go_wp2_with (first | (go_at_call 10; refine (HF.out _ ((Below.refl _ _).alloc (Nat.le_refl _) _)).mono ?_; rintro e w1 ⟨rfl, hb1⟩) | (go_at_call 11; refine (packetOf_data _ _ _ _ _ _ _).mono ?_; rintro e w2 ⟨rfl, hb2⟩; (have hb2' := below_chain hb1 hb2); (obtain ⟨hc2, hf2⟩ := bcell hb2'); (have hz2 := hb2'.size); simp at hz2))
  obtain ⟨k0, k1, k2, k3, k4, k5, k6, k7, k8⟩ := zero9a hb2'
  have hbl : Below w.heap.size w w2 := below_box hb2'
  exact bodyPost_ret (v := .tuple #[.agg #[.int .i64 2, .int .i64 f, .int .i64 m, .int .i64 y, .int .i64 0, .int .i64 0, .int .i64 sq, .bool l, .string p], .bool true]) (by simp [results, Tryd.results5, go_sem, k0, k1, k2, k3, k4, k5, k6, k7, k8]) rfl ⟨rfl, ((((((((hbl.setCell (Nat.le_refl _) _).setCell (Nat.le_refl _) _).setCell (Nat.le_refl _) _).setCell (Nat.le_refl _) _).setCell (Nat.le_refl _) _).setCell (Nat.le_refl _) _).setCell (Nat.le_refl _) _).setCell (Nat.le_refl _) _).setCell (Nat.le_refl _) _⟩
end Go.Proofs.YtdmlhfbnhhafmabDoor.tag
