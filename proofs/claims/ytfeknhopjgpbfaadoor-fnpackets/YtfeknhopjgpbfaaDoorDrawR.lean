/-
  THE DRAWING of a law's inputs, tenth part: spec.DrawReadPacket.
-/
import Derived.Test.YtfeknhopjgpbfaaDoorDrawT
import Derived.Test.YtfeknhopjgpbfaaDoorFormC
namespace Go.Proofs.YtfeknhopjgpbfaaDoor.draw
open Go.RowKit mk
set_option linter.unusedVariables false

theorem form_size (k f m y nx mk sq : Int) (l : Bool) (p key : ByteArray) (n : Int) : (tag.formStr k f m y nx mk sq l p key n).size ≤ 100 := by
  cases h : tag.pkOk k f m y nx mk sq l p
  · rw [tag.formStr_nopk h]; decide
  · cases hs : tag.sealOk key.size n
    · rw [tag.formStr_noseal hs]; decide
    · rw [tag.formStr_yes h hs, ByteArray.size_append]
      have h1 := tag.bodyStr_size h
      have h2 := tag.tagOf_size (tag.bodyStr k f m y nx mk sq l p) key n
      omega
set_option maxRecDepth 100000 in
set_option maxHeartbeats 4000000 in
theorem readIn_any (v : Option Addr) (len cap : Nat) (w : World) (h : Code v len w) (hc : len ≤ cap) (hm : cap ≤ 9223372036854775807) :
    Calls Tryd.prog 10 #[.slice v len cap] w fun e w' => (∃ (t key : ByteArray) (n : Int), e = .returned (.tuple #[.string t, .string key, .int .i64 n]) ∧ t.size ≤ 1000 ∧ key.size ≤ 5000) ∧ Below w.heap.size w w' := by
  go_enter Tryd.func10, Tryd.ntmps10
  go_wp2_with (first
    | (go_at_call 11; refine (open_any v len cap _ h hc hm).mono ?_; rintro e w1 ⟨rfl, hr, hb⟩)
    | (go_at_call 12; refine (l2Draw_ok _ _ _ hr (by omega)).mono ?_; rintro e w2 ⟨⟨a0, a1, a2, a3, a4, a5, a6, a7, a8, rfl, h8, hv⟩, ⟨k2, hr2, hk2⟩, hb2⟩; (have hlt1 := hr.lt); (have hlt2 := hr2.lt); (replace hb : Below w.heap.size w w2 := hb.trans (hb2.low (Nat.le_refl _) (by omega))); (have HV : Hid (tag.pkOk a0 a1 a2 a3 a4 a5 a6 a7 a8 = true) := hv); clear hv; (have HBo : Hid (∀ u : World, Calls Tryd.prog 21 #[.agg #[.int .i64 a0, .int .i64 a1, .int .i64 a2, .int .i64 a3, .int .i64 a4, .int .i64 a5, .int .i64 a6, .bool a7, .string a8]] u fun e w' => (∃ b : ByteArray, e = .returned (.string b) ∧ b.size ≤ 31) ∧ Below u.heap.size u w') := fun u => (tag.l2Body_any a0 a1 a2 a3 a4 a5 a6 a7 a8 u HV.out).mono fun e w' q => ⟨⟨_, q.1, tag.bodyStr_size HV.out⟩, q.2⟩))
    | (go_at_call 15; refine (tagIn_any v len cap _ (h.keep (hb.alloc (by omega) _)) hc hm).mono ?_; rintro e w3 ⟨⟨tb, key, n, rfl, ht⟩, hb3⟩; (have hyy := (Bk.new w2 24 #[.int .i64 a0, .int .i64 a1, .int .i64 a2, .int .i64 a3, .int .i64 a4, .int .i64 a5, .int .i64 a6, .bool a7, .string a8]).keep hb3); (replace hr := (hr2.made _).keep hb3); (have hb4 : Below w.heap.size w w3 := kpb (hb.alloc (by omega) _) hb3 (by simp; omega)); (replace hb := hb4); clear hb4; (obtain ⟨y, hy0⟩ : ∃ y, y = w2.heap.size := ⟨_, rfl⟩); (rw [← hy0] at hyy ⊢); (have hyB : y ≠ w.heap.size := by omega); clear hy0; (have hy := hyy); clear hyy; (have p0 := hy.cell 0); (have p1 := hy.cell 1); (have p2 := hy.cell 2); (have p3 := hy.cell 3); (have p4 := hy.cell 4); (have p5 := hy.cell 5); (have p6 := hy.cell 6); (have p7 := hy.cell 7); (have p8 := hy.cell 8); simp at p0 p1 p2 p3 p4 p5 p6 p7 p8)
    | (go_at_call 6; refine (tag.specForm_any a0 a1 a2 a3 a4 a5 a6 a7 a8 key n _ (by omega)).mono ?_; rintro e w4 ⟨rfl, hb4⟩; (obtain ⟨S0, hS0⟩ : ∃ S0, S0 = tag.formStr a0 a1 a2 a3 a4 a5 a6 a7 a8 key n := ⟨_, rfl⟩); (have hS1 := form_size a0 a1 a2 a3 a4 a5 a6 a7 a8 key n); (rw [← hS0] at hS1 ⊢); clear hS0; (replace hy := hy.keep hb4); (replace hr := hr.keep hb4); (replace hb := kpb hb hb4 hb.size); clear p0 p1 p2 p3 p4 p5 p6 p7 p8; (have p0 := hy.cell 0); (have p1 := hy.cell 1); (have p2 := hy.cell 2); (have p3 := hy.cell 3); (have p4 := hy.cell 4); (have p5 := hy.cell 5); (have p6 := hy.cell 6); (have p7 := hy.cell 7); (have p8 := hy.cell 8); simp at p0 p1 p2 p3 p4 p5 p6 p7 p8)
    | (go_at_call 13; refine (pick_any _ _ _ _ hr (by omega) (by omega)).mono ?_; rintro e w5 ⟨⟨z, rfl, z0, z1⟩, hr5, hb5⟩; (replace hr := hr5); clear hr5; (replace hy := hy.but hb5 (by omega)); (replace hb : Below w.heap.size w w5 := hb.trans (hb5.low (Nat.le_refl _) hb.size)); clear p0 p1 p2 p3 p4 p5 p6 p7 p8; (have p0 := hy.cell 0); (have p1 := hy.cell 1); (have p2 := hy.cell 2); (have p3 := hy.cell 3); (have p4 := hy.cell 4); (have p5 := hy.cell 5); (have p6 := hy.cell 6); (have p7 := hy.cell 7); (have p8 := hy.cell 8); simp at p0 p1 p2 p3 p4 p5 p6 p7 p8)
    | (go_at_call 21; refine (HBo.out _).mono ?_; rintro e w6 ⟨⟨bo, rfl, hbo⟩, hb6⟩; (replace hy := hy.keep hb6); (replace hr := hr.keep hb6); (replace hb := kpb hb hb6 hb.size); clear p0 p1 p2 p3 p4 p5 p6 p7 p8; (have p0 := hy.cell 0); (have p1 := hy.cell 1); (have p2 := hy.cell 2); (have p3 := hy.cell 3); (have p4 := hy.cell 4); (have p5 := hy.cell 5); (have p6 := hy.cell 6); (have p7 := hy.cell 7); (have p8 := hy.cell 8); simp at p0 p1 p2 p3 p4 p5 p6 p7 p8)
    | (go_at_call 27; refine (bend_any _ _ _ _ hr (by omega) (by omega)).mono ?_; rintro e w7 ⟨⟨bt, rfl, hbt⟩, ⟨k7, hr7, hk7⟩, hb7⟩; (replace hr := hr7); clear hr7; (replace hy := hy.but hb7 (by omega)); (replace hb : Below w.heap.size w w7 := hb.trans (hb7.low (Nat.le_refl _) hb.size)); clear p0 p1 p2 p3 p4 p5 p6 p7 p8; (have p0 := hy.cell 0); (have p1 := hy.cell 1); (have p2 := hy.cell 2); (have p3 := hy.cell 3); (have p4 := hy.cell 4); (have p5 := hy.cell 5); (have p6 := hy.cell 6); (have p7 := hy.cell 7); (have p8 := hy.cell 8); simp at p0 p1 p2 p3 p4 p5 p6 p7 p8)
    | (go_at_call 20; refine (tag.specTag_any bt key n _ (by omega) (by omega)).mono ?_; rintro e w8 ⟨rfl, hb8⟩; (obtain ⟨T0, hT0⟩ : ∃ T0, T0 = tag.tagOf bt key n := ⟨_, rfl⟩); (have hT1 := tag.tagOf_size bt key n); (rw [← hT0] at hT1 ⊢); clear hT0; (replace hy := hy.keep hb8); (replace hr := hr.keep hb8); (replace hb := kpb hb hb8 hb.size); clear p0 p1 p2 p3 p4 p5 p6 p7 p8; (have p0 := hy.cell 0); (have p1 := hy.cell 1); (have p2 := hy.cell 2); (have p3 := hy.cell 3); (have p4 := hy.cell 4); (have p5 := hy.cell 5); (have p6 := hy.cell 6); (have p7 := hy.cell 7); (have p8 := hy.cell 8); simp at p0 p1 p2 p3 p4 p5 p6 p7 p8)
    | fail)
  · exact bodyPost_ret (v := .tuple #[.string bt, .string key, .int .i64 n]) (by simp [results, Tryd.results10, go_sem]) rfl ⟨⟨_, _, _, rfl, by omega, by omega⟩, hb⟩
  · exact bodyPost_ret (v := .tuple #[.string bt, .string key, .int .i64 n]) (by simp [results, Tryd.results10, go_sem]) rfl ⟨⟨_, _, _, rfl, by omega, by omega⟩, hb⟩
  · exact bodyPost_ret (v := .tuple #[.string (T0 ++ bt), .string key, .int .i64 n]) (by simp [results, Tryd.results10, go_sem]) rfl ⟨⟨_, _, _, rfl, by rw [ByteArray.size_append]; omega, by omega⟩, hb⟩
  · exact bodyPost_ret (v := .tuple #[.string S0, .string ⟨#[111, 116, 104, 101, 114]⟩, .int .i64 n]) (by simp [results, Tryd.results10, go_sem]) rfl ⟨⟨_, _, _, rfl, by omega, by decide⟩, hb⟩
  · exact bodyPost_ret (v := .tuple #[.string S0, .string key, .int .i64 n]) (by simp [results, Tryd.results10, go_sem]) rfl ⟨⟨_, _, _, rfl, by omega, by omega⟩, hb⟩
end Go.Proofs.YtfeknhopjgpbfaaDoor.draw
