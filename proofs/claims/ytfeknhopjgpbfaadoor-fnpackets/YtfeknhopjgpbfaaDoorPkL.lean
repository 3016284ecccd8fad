/-
  THE LAW laws.FnPackets: its walk.
-/
import Derived.Test.YtfeknhopjgpbfaaDoorDrawR
import Derived.Test.YtfeknhopjgpbfaaDoorReadH
import Derived.Test.YtfeknhopjgpbfaaDoorFormE
import Derived.Test.YtfeknhopjgpbfaaDoorBase
namespace Go.Proofs.YtfeknhopjgpbfaaDoor.draw
open Go.RowKit mk
set_option linter.unusedVariables false

set_option maxRecDepth 100000 in
set_option maxHeartbeats 4000000 in
theorem law (v : Option Addr) (len cap : Nat) (w : World) (h : Code v len w) (hc : len ≤ cap) (hm : cap ≤ 9223372036854775807) (hl : (len : Int) ≤ 1048576) (hG : tag.Gl w) :
    Calls Tryd.prog 3 #[.slice v len cap] w fun e w' => e = .returned (.bool true) ∧ Below w.heap.size w w' := by
  have HCo : Hid (Code v len w) := h
  have HG : Hid (tag.Gl w) := hG
  clear h hG
  go_enter Tryd.func3, Tryd.ntmps3
  go_wp2_with (go_at_call 4; refine (formIn_any v len cap _ HCo.out hc hm).mono ?_; rintro e w1 ⟨⟨a0, a1, a2, a3, a4, a5, a6, a7, a8, key, n, rfl, h8, hk⟩, hb1⟩)
  have hy := Bk.new w1 24 #[.int .i64 a0, .int .i64 a1, .int .i64 a2, .int .i64 a3, .int .i64 a4, .int .i64 a5, .int .i64 a6, .bool a7, .string a8]
  have hb : Below w.heap.size w (w1.alloc (.cells #[.int .i64 a0, .int .i64 a1, .int .i64 a2, .int .i64 a3, .int .i64 a4, .int .i64 a5, .int .i64 a6, .bool a7, .string a8] 24)) := hb1.alloc hb1.size _
  clear hb1
  obtain ⟨W1, hW1⟩ : ∃ W1, W1 = w1.alloc (.cells #[.int .i64 a0, .int .i64 a1, .int .i64 a2, .int .i64 a3, .int .i64 a4, .int .i64 a5, .int .i64 a6, .bool a7, .string a8] 24) := ⟨_, rfl⟩
  obtain ⟨y0, hy0⟩ : ∃ y, y = w1.heap.size := ⟨_, rfl⟩
  rw [← hW1, ← hy0] at hy
  rw [← hW1] at hb
  rw [← hW1, ← hy0]
  clear hW1 hy0
  (have p0 := hy.cell 0)
  (have p1 := hy.cell 1)
  (have p2 := hy.cell 2)
  (have p3 := hy.cell 3)
  (have p4 := hy.cell 4)
  (have p5 := hy.cell 5)
  (have p6 := hy.cell 6)
  (have p7 := hy.cell 7)
  (have p8 := hy.cell 8)
  simp at p0 p1 p2 p3 p4 p5 p6 p7 p8
  cases hv : (tag.pkOk a0 a1 a2 a3 a4 a5 a6 a7 a8 && tag.sealOk key.size n)
  · have hF : tag.formStr a0 a1 a2 a3 a4 a5 a6 a7 a8 key n = ⟨#[]⟩ := by unfold tag.formStr; rw [hv]; rfl
    have HF1 : Hid (∀ u : World, Calls Tryd.prog 5 #[.agg #[.int .i64 a0, .int .i64 a1, .int .i64 a2, .int .i64 a3, .int .i64 a4, .int .i64 a5, .int .i64 a6, .bool a7, .string a8], .string key, .int .i64 n] u fun e w' => e = .returned (.string ⟨#[]⟩) ∧ Below u.heap.size u w') := fun u => by have := tag.implForm_any a0 a1 a2 a3 a4 a5 a6 a7 a8 key n u (by omega); rw [hF] at this; exact this
    have HF2 : Hid (∀ u : World, Calls Tryd.prog 6 #[.agg #[.int .i64 a0, .int .i64 a1, .int .i64 a2, .int .i64 a3, .int .i64 a4, .int .i64 a5, .int .i64 a6, .bool a7, .string a8], .string key, .int .i64 n] u fun e w' => e = .returned (.string ⟨#[]⟩) ∧ Below u.heap.size u w') := fun u => by have := tag.specForm_any a0 a1 a2 a3 a4 a5 a6 a7 a8 key n u (by omega); rw [hF] at this; exact this
    clear hF hv
    go_wp2_with (first
      | (go_at_call 5; refine (HF1.out _).mono ?_; rintro e w2 ⟨rfl, hb2⟩; (replace hy := hy.keep hb2); (replace hb := kpb hb hb2 hb.size); clear p0 p1 p2 p3 p4 p5 p6 p7 p8; (have p0 := hy.cell 0); (have p1 := hy.cell 1); (have p2 := hy.cell 2); (have p3 := hy.cell 3); (have p4 := hy.cell 4); (have p5 := hy.cell 5); (have p6 := hy.cell 6); (have p7 := hy.cell 7); (have p8 := hy.cell 8); simp at p0 p1 p2 p3 p4 p5 p6 p7 p8)
      | (go_at_call 6; refine (HF2.out _).mono ?_; rintro e w3 ⟨rfl, hb3⟩; (replace hy := hy.keep hb3); (replace hb := kpb hb hb3 hb.size); clear p0 p1 p2 p3 p4 p5 p6 p7 p8; (have p0 := hy.cell 0); (have p1 := hy.cell 1); (have p2 := hy.cell 2); (have p3 := hy.cell 3); (have p4 := hy.cell 4); (have p5 := hy.cell 5); (have p6 := hy.cell 6); (have p7 := hy.cell 7); (have p8 := hy.cell 8); simp at p0 p1 p2 p3 p4 p5 p6 p7 p8)
      | fail)
    go_wp2_with (go_at_call 10; refine (readIn_any v len cap _ (HCo.out.keep hb) hc hm).mono ?_; rintro e w8 ⟨⟨t, kk, nn, rfl, ht, hkk⟩, hb8⟩; (replace hb := kpb hb hb8 hb.size); clear hb8)
    obtain ⟨d0, d1, d2, d3, d4, d5, d6, d7, d8, ok, hS, hI, hY, -⟩ := tag.read2 t kk nn (by omega) (by omega)
    have HSS : Hid (∀ u : World, Calls Tryd.prog 8 #[.string t, .string kk, .int .i64 nn] u fun e w' => e = .returned (.tuple #[.agg #[.int .i64 d0, .int .i64 d1, .int .i64 d2, .int .i64 d3, .int .i64 d4, .int .i64 d5, .int .i64 d6, .bool d7, .string d8], .bool ok]) ∧ Below u.heap.size u w') := hS
    have HII : Hid (∀ u : World, Below w.heap.size w u → Calls Tryd.prog 7 #[.string t, .string kk, .int .i64 nn] u fun e w' => e = .returned (.tuple #[.agg #[.int .i64 d0, .int .i64 d1, .int .i64 d2, .int .i64 d3, .int .i64 d4, .int .i64 d5, .int .i64 d6, .bool d7, .string d8], .bool ok]) ∧ Below u.heap.size u w') := fun u q => hI u (HG.out.mono q)
    have HYY : Hid (∀ u : World, ok = true → Calls Tryd.prog 5 #[.agg #[.int .i64 d0, .int .i64 d1, .int .i64 d2, .int .i64 d3, .int .i64 d4, .int .i64 d5, .int .i64 d6, .bool d7, .string d8], .string kk, .int .i64 nn] u fun e w' => e = .returned (.string t) ∧ Below u.heap.size u w') := fun u q => by have := tag.implForm_any d0 d1 d2 d3 d4 d5 d6 d7 d8 kk nn u (by omega); rw [hY q] at this; exact this
    clear hS hI hY
    cases ok
    · go_wp2_with (first
        | (go_at_call 7; refine (HII.out _ hb).mono ?_; rintro e w9 ⟨rfl, hb9⟩; (replace hb := (kpb hb hb9 hb.size).alloc (kpb hb hb9 hb.size).size (.cells #[.int .i64 d0, .int .i64 d1, .int .i64 d2, .int .i64 d3, .int .i64 d4, .int .i64 d5, .int .i64 d6, .bool d7, .string d8] 24)); (have hq := Bk.new w9 24 #[.int .i64 d0, .int .i64 d1, .int .i64 d2, .int .i64 d3, .int .i64 d4, .int .i64 d5, .int .i64 d6, .bool d7, .string d8]); clear hb9)
        | (go_at_call 8; refine (HSS.out _).mono ?_; rintro e w10 ⟨rfl, hb10⟩; (replace hb := kpb hb hb10 hb.size); (replace hq := hq.keep hb10); clear hb10; (have q0 := hq.cell 0); (have q1 := hq.cell 1); (have q2 := hq.cell 2); (have q3 := hq.cell 3); (have q4 := hq.cell 4); (have q5 := hq.cell 5); (have q6 := hq.cell 6); (have q7 := hq.cell 7); (have q8 := hq.cell 8); simp at q0 q1 q2 q3 q4 q5 q6 q7 q8)
        | fail)
      go_ret
      exact ⟨rfl, hb.alloc hb.size _⟩
    · go_wp2_with (first
        | (go_at_call 7; refine (HII.out _ hb).mono ?_; rintro e w9 ⟨rfl, hb9⟩; (replace hb := (kpb hb hb9 hb.size).alloc (kpb hb hb9 hb.size).size (.cells #[.int .i64 d0, .int .i64 d1, .int .i64 d2, .int .i64 d3, .int .i64 d4, .int .i64 d5, .int .i64 d6, .bool d7, .string d8] 24)); (have hq := Bk.new w9 24 #[.int .i64 d0, .int .i64 d1, .int .i64 d2, .int .i64 d3, .int .i64 d4, .int .i64 d5, .int .i64 d6, .bool d7, .string d8]); clear hb9)
        | (go_at_call 8; refine (HSS.out _).mono ?_; rintro e w10 ⟨rfl, hb10⟩; (replace hb := kpb hb hb10 hb.size); (replace hq := hq.keep hb10); clear hb10; (have hql := hq.lt); (have q0 := hq.cell 0); (have q1 := hq.cell 1); (have q2 := hq.cell 2); (have q3 := hq.cell 3); (have q4 := hq.cell 4); (have q5 := hq.cell 5); (have q6 := hq.cell 6); (have q7 := hq.cell 7); (have q8 := hq.cell 8); simp at q0 q1 q2 q3 q4 q5 q6 q7 q8)
        | (go_at_call 5; refine (HYY.out _ (by first | rfl | trivial)).mono ?_; rintro e w11 ⟨rfl, hb11⟩)
        | fail)
      go_ret
      exact ⟨rfl, kpb (hb.alloc hb.size _) hb11 (hb.alloc hb.size _).size⟩
  · have hpv : tag.pkOk a0 a1 a2 a3 a4 a5 a6 a7 a8 = true := by cases q : tag.pkOk a0 a1 a2 a3 a4 a5 a6 a7 a8; (rw [q] at hv; cases hv); rfl
    have hse : tag.sealOk key.size n = true := by cases q : tag.sealOk key.size n; (rw [q, Bool.and_false] at hv; cases hv); rfl
    clear hv
    obtain ⟨s, hs⟩ : ∃ s, tag.formStr a0 a1 a2 a3 a4 a5 a6 a7 a8 key n = s := ⟨_, rfl⟩
    have hsz : s.size ≤ 100 := by rw [← hs]; exact form_size a0 a1 a2 a3 a4 a5 a6 a7 a8 key n
    obtain ⟨hs1, hs2, hs3, hs4⟩ := tag.form_split hpv hse hs
    have hbb := tag.body_big hpv
    have hsn := tag.sealOk_yes hse
    have hn1 : 1 ≤ n ∧ n ≤ 8 := by omega
    have HF1 : Hid (∀ u : World, Calls Tryd.prog 5 #[.agg #[.int .i64 a0, .int .i64 a1, .int .i64 a2, .int .i64 a3, .int .i64 a4, .int .i64 a5, .int .i64 a6, .bool a7, .string a8], .string key, .int .i64 n] u fun e w' => e = .returned (.string s) ∧ Below u.heap.size u w') := fun u => by have := tag.implForm_any a0 a1 a2 a3 a4 a5 a6 a7 a8 key n u (by omega); rw [hs] at this; exact this
    have HF2 : Hid (∀ u : World, Calls Tryd.prog 6 #[.agg #[.int .i64 a0, .int .i64 a1, .int .i64 a2, .int .i64 a3, .int .i64 a4, .int .i64 a5, .int .i64 a6, .bool a7, .string a8], .string key, .int .i64 n] u fun e w' => e = .returned (.string s) ∧ Below u.heap.size u w') := fun u => by have := tag.specForm_any a0 a1 a2 a3 a4 a5 a6 a7 a8 key n u (by omega); rw [hs] at this; exact this
    have HR1 : Hid (∀ u : World, Below w.heap.size w u → Calls Tryd.prog 7 #[.string s, .string key, .int .i64 n] u fun e w' => e = .returned (.tuple #[.agg #[.int .i64 a0, .int .i64 a1, .int .i64 a2, .int .i64 a3, .int .i64 a4, .int .i64 a5, .int .i64 a6, .bool a7, .string a8], .bool true]) ∧ Below u.heap.size u w') := fun u q => by
      obtain ⟨c0, c1, c2, c3, c4, c5, c6, c7, c8, ok, -, hI, hY, hN⟩ := tag.read2 s key n (by omega) (by omega)
      cases ok
      · exact absurd hs (hN rfl _ _ _ _ _ _ _ _ _ hpv hse)
      · have hf := hY rfl
        have hcv : tag.pkOk c0 c1 c2 c3 c4 c5 c6 c7 c8 = true := by
          cases q : tag.pkOk c0 c1 c2 c3 c4 c5 c6 c7 c8
          · rw [tag.formStr_nopk q] at hf
            rw [← hf] at hs4
            have : (⟨#[]⟩ : ByteArray).size = 0 := rfl
            omega
          · rfl
        obtain ⟨rfl, rfl, rfl, rfl, rfl, rfl, rfl, rfl, rfl⟩ := tag.form_inj hpv hcv hse (hs.trans hf.symm)
        exact hI u (HG.out.mono q)
    obtain ⟨c0, c1, c2, c3, c4, c5, c6, c7, c8, okz, hS2, hI2, -, -⟩ := tag.read2 s (key ++ ⟨#[122]⟩) n (by omega) (by rw [ByteArray.size_append]; have : (⟨#[122]⟩ : ByteArray).size = 1 := rfl; omega)
    have HR2 : Hid (∀ u : World, Below w.heap.size w u → Calls Tryd.prog 7 #[.string s, .string (key ++ ⟨#[122]⟩), .int .i64 n] u fun e w' => e = .returned (.tuple #[.agg #[.int .i64 c0, .int .i64 c1, .int .i64 c2, .int .i64 c3, .int .i64 c4, .int .i64 c5, .int .i64 c6, .bool c7, .string c8], .bool okz]) ∧ Below u.heap.size u w') := fun u q => hI2 u (HG.out.mono q)
    have HR3 : Hid (∀ u : World, Calls Tryd.prog 8 #[.string s, .string (key ++ ⟨#[122]⟩), .int .i64 n] u fun e w' => e = .returned (.tuple #[.agg #[.int .i64 c0, .int .i64 c1, .int .i64 c2, .int .i64 c3, .int .i64 c4, .int .i64 c5, .int .i64 c6, .bool c7, .string c8], .bool okz]) ∧ Below u.heap.size u w') := hS2
    have HTG : Hid (∀ u : World, Calls Tryd.prog 9 #[.string (s.extract n.toNat s.size), .string key, .int .i64 n] u fun e w' => e = .returned (.string (s.extract 0 n.toNat)) ∧ Below u.heap.size u w') := fun u => by have := tag.implTag_any (s.extract n.toNat s.size) key n u (by rw [ByteArray.size_extract]; omega) (by omega); rw [← hs2] at this; exact this
    have hne : ¬ s = ⟨#[]⟩ := fun e => by rw [e] at hs4; have : (⟨#[]⟩ : ByteArray).size = 0 := rfl; omega
    have hem : s.toList.isEmpty = false := by
      cases q : s.toList.isEmpty
      · rfl
      · exfalso
        have e1 := List.isEmpty_iff.1 q
        apply hne
        apply ByteArray.ext
        rw [ByteArray.toList_eq] at e1
        exact Array.toList_inj.1 e1
    have hns : n ≤ (s.size : Int) := by omega
    have hn0 : 0 ≤ n := by omega
    clear hs hs1 hs2 hs3 hs4 hsn hne hS2 hI2 hpv hse hbb
    go_wp2_with (first
      | (go_at_call 5; refine (HF1.out _).mono ?_; rintro e w2 ⟨rfl, hb2⟩; (replace hy := hy.keep hb2); (replace hb := kpb hb hb2 hb.size); clear p0 p1 p2 p3 p4 p5 p6 p7 p8; (have p0 := hy.cell 0); (have p1 := hy.cell 1); (have p2 := hy.cell 2); (have p3 := hy.cell 3); (have p4 := hy.cell 4); (have p5 := hy.cell 5); (have p6 := hy.cell 6); (have p7 := hy.cell 7); (have p8 := hy.cell 8); simp at p0 p1 p2 p3 p4 p5 p6 p7 p8)
      | (go_at_call 6; refine (HF2.out _).mono ?_; rintro e w3 ⟨rfl, hb3⟩; (replace hy := hy.keep hb3); (replace hb := kpb hb hb3 hb.size); clear p0 p1 p2 p3 p4 p5 p6 p7 p8; (have p0 := hy.cell 0); (have p1 := hy.cell 1); (have p2 := hy.cell 2); (have p3 := hy.cell 3); (have p4 := hy.cell 4); (have p5 := hy.cell 5); (have p6 := hy.cell 6); (have p7 := hy.cell 7); (have p8 := hy.cell 8); simp at p0 p1 p2 p3 p4 p5 p6 p7 p8)
      | (go_at_call_of 7 (Value.string key); refine (HR1.out _ hb).mono ?_; rintro e w4 ⟨rfl, hb4⟩; (replace hy := hy.keep hb4); (replace hb := kpb hb hb4 hb.size); (replace hb := hb.alloc hb.size (.cells #[.int .i64 a0, .int .i64 a1, .int .i64 a2, .int .i64 a3, .int .i64 a4, .int .i64 a5, .int .i64 a6, .bool a7, .string a8] 24)); (replace hy := hy.alloc (.cells #[.int .i64 a0, .int .i64 a1, .int .i64 a2, .int .i64 a3, .int .i64 a4, .int .i64 a5, .int .i64 a6, .bool a7, .string a8] 24)); (have hq := Bk.new w4 24 #[.int .i64 a0, .int .i64 a1, .int .i64 a2, .int .i64 a3, .int .i64 a4, .int .i64 a5, .int .i64 a6, .bool a7, .string a8]))
      | (go_at_call 7; refine (HR2.out _ hb).mono ?_; rintro e w5 ⟨rfl, hb5⟩; (replace hy := hy.keep hb5); (replace hq := hq.keep hb5); (replace hb := kpb hb hb5 hb.size); (replace hb := hb.alloc hb.size (.cells #[.int .i64 c0, .int .i64 c1, .int .i64 c2, .int .i64 c3, .int .i64 c4, .int .i64 c5, .int .i64 c6, .bool c7, .string c8] 24)); (replace hy := hy.alloc (.cells #[.int .i64 c0, .int .i64 c1, .int .i64 c2, .int .i64 c3, .int .i64 c4, .int .i64 c5, .int .i64 c6, .bool c7, .string c8] 24)); (replace hq := hq.alloc (.cells #[.int .i64 c0, .int .i64 c1, .int .i64 c2, .int .i64 c3, .int .i64 c4, .int .i64 c5, .int .i64 c6, .bool c7, .string c8] 24)); (have hx := Bk.new w5 24 #[.int .i64 c0, .int .i64 c1, .int .i64 c2, .int .i64 c3, .int .i64 c4, .int .i64 c5, .int .i64 c6, .bool c7, .string c8]))
      | (go_at_call 8; refine (HR3.out _).mono ?_; rintro e w6 ⟨rfl, hb6⟩; (replace hy := hy.keep hb6); (replace hq := hq.keep hb6); (replace hx := hx.keep hb6); (replace hb := kpb hb hb6 hb.size); (replace hb := hb.alloc hb.size (.cells #[.int .i64 c0, .int .i64 c1, .int .i64 c2, .int .i64 c3, .int .i64 c4, .int .i64 c5, .int .i64 c6, .bool c7, .string c8] 24)); (replace hy := hy.alloc (.cells #[.int .i64 c0, .int .i64 c1, .int .i64 c2, .int .i64 c3, .int .i64 c4, .int .i64 c5, .int .i64 c6, .bool c7, .string c8] 24)); (replace hq := hq.alloc (.cells #[.int .i64 c0, .int .i64 c1, .int .i64 c2, .int .i64 c3, .int .i64 c4, .int .i64 c5, .int .i64 c6, .bool c7, .string c8] 24)); (replace hx := hx.alloc (.cells #[.int .i64 c0, .int .i64 c1, .int .i64 c2, .int .i64 c3, .int .i64 c4, .int .i64 c5, .int .i64 c6, .bool c7, .string c8] 24)); (have hx2 := Bk.new w6 24 #[.int .i64 c0, .int .i64 c1, .int .i64 c2, .int .i64 c3, .int .i64 c4, .int .i64 c5, .int .i64 c6, .bool c7, .string c8]))
      | fail)
    obtain ⟨V, hV⟩ : ∃ V, V = w6.alloc (.cells #[.int .i64 c0, .int .i64 c1, .int .i64 c2, .int .i64 c3, .int .i64 c4, .int .i64 c5, .int .i64 c6, .bool c7, .string c8] 24) := ⟨_, rfl⟩
    rw [← hV] at hb hy hq hx hx2
    rw [← hV]
    clear hV
    refine wp_region_held_drew (S := fun w' => Below V.heap.size V w') (by kernel_rfl) (Below.refl _ _).drew (fun hHeld => ?_)
    refine tkF 0 (some 64) ?_
    refine tkF 1 (some 65) ?_
    refine tkF 2 (some 66) ?_
    refine tkE 3 (some 67) ?_ ?_ ?_
    rotate_left
    · (intro w hSw; (have hz := hq.keep hSw); (have z0 := hz.cell 0); (have z1 := hz.cell 1); (have z2 := hz.cell 2); (have z3 := hz.cell 3); (have z4 := hz.cell 4); (have z5 := hz.cell 5); (have z6 := hz.cell 6); (have z7 := hz.cell 7); (have z8 := hz.cell 8); simp at z0 z1 z2 z3 z4 z5 z6 z7 z8; go_simp <;> with_reducible rfl)
    refine tkE 4 (some 68) ?_ ?_ ?_
    rotate_left
    · (intro w hSw; (have hz := hy.keep hSw); (have z0 := hz.cell 0); (have z1 := hz.cell 1); (have z2 := hz.cell 2); (have z3 := hz.cell 3); (have z4 := hz.cell 4); (have z5 := hz.cell 5); (have z6 := hz.cell 6); (have z7 := hz.cell 7); (have z8 := hz.cell 8); simp at z0 z1 z2 z3 z4 z5 z6 z7 z8; go_simp <;> with_reducible rfl)
    refine tkF 5 (some 69) ?_
    refine tkF 6 (some 70) ?_
    refine tkF 7 (some 71) ?_
    refine tkF 8 (some 72) ?_
    refine tkF 9 (some 73) ?_
    refine tkF 10 (some 74) ?_
    refine tkF 11 (some 75) ?_
    refine tkF 12 (some 76) ?_
    refine tkE 13 (some 77) ?_ ?_ ?_
    rotate_left
    · (intro w hSw; (have hz := hx.keep hSw); (have z0 := hz.cell 0); (have z1 := hz.cell 1); (have z2 := hz.cell 2); (have z3 := hz.cell 3); (have z4 := hz.cell 4); (have z5 := hz.cell 5); (have z6 := hz.cell 6); (have z7 := hz.cell 7); (have z8 := hz.cell 8); simp at z0 z1 z2 z3 z4 z5 z6 z7 z8; go_simp <;> with_reducible rfl)
    refine tkE 14 (some 78) ?_ ?_ ?_
    rotate_left
    · (intro w hSw; (have hz := hx2.keep hSw); (have z0 := hz.cell 0); (have z1 := hz.cell 1); (have z2 := hz.cell 2); (have z3 := hz.cell 3); (have z4 := hz.cell 4); (have z5 := hz.cell 5); (have z6 := hz.cell 6); (have z7 := hz.cell 7); (have z8 := hz.cell 8); simp at z0 z1 z2 z3 z4 z5 z6 z7 z8; go_simp <;> with_reducible rfl)
    refine tkF 15 (some 79) ?_
    refine tkF 16 (some 80) ?_
    refine tkF 17 (some 81) ?_
    refine tkF 18 (some 82) ?_
    refine tkF 19 (some 83) ?_
    refine tkF 20 (some 84) ?_
    refine tkF 21 (some 85) ?_
    refine tkF 22 (some 86) ?_
    refine tkF 24 (some 88) ?_
    refine tkF 25 (some 89) ?_
    refine tkF 26 (some 90) ?_
    refine wpAnyH_ready (rs := [23]) (by kernel_rfl) (by simp) ?_
    refine AllReadyH.cons rfl (fun K hK => ?_) AllReadyH.nil
    go_simp
    refine (HTG.out _).mono ?_
    rintro e w7 ⟨rfl, hb7⟩
    go_wp2_with fail
    refine hK.out _ _ (kpb hHeld hb7 hHeld.size) (fun hHeld => ?_)
    clear hK K
    try simp only [Act.put, List.setIfInBounds_toArray, List.set_cons_zero, List.set_cons_succ]
    refine tkF 27 (some 91) ?_
    refine tkF 28 (some 92) ?_
    refine wpAnyH_done (by kernel_rfl) ?_ _
    replace hb := kpb hb hHeld hb.size
    go_wp2_with (go_at_call 10; refine (readIn_any v len cap _ (HCo.out.keep hb) hc hm).mono ?_; rintro e w8 ⟨⟨t, kk, nn, rfl, ht, hkk⟩, hb8⟩; (replace hb := kpb hb hb8 hb.size); clear hb8)
    obtain ⟨d0, d1, d2, d3, d4, d5, d6, d7, d8, ok, hS, hI, hY, -⟩ := tag.read2 t kk nn (by omega) (by omega)
    have HSS : Hid (∀ u : World, Calls Tryd.prog 8 #[.string t, .string kk, .int .i64 nn] u fun e w' => e = .returned (.tuple #[.agg #[.int .i64 d0, .int .i64 d1, .int .i64 d2, .int .i64 d3, .int .i64 d4, .int .i64 d5, .int .i64 d6, .bool d7, .string d8], .bool ok]) ∧ Below u.heap.size u w') := hS
    have HII : Hid (∀ u : World, Below w.heap.size w u → Calls Tryd.prog 7 #[.string t, .string kk, .int .i64 nn] u fun e w' => e = .returned (.tuple #[.agg #[.int .i64 d0, .int .i64 d1, .int .i64 d2, .int .i64 d3, .int .i64 d4, .int .i64 d5, .int .i64 d6, .bool d7, .string d8], .bool ok]) ∧ Below u.heap.size u w') := fun u q => hI u (HG.out.mono q)
    have HYY : Hid (∀ u : World, ok = true → Calls Tryd.prog 5 #[.agg #[.int .i64 d0, .int .i64 d1, .int .i64 d2, .int .i64 d3, .int .i64 d4, .int .i64 d5, .int .i64 d6, .bool d7, .string d8], .string kk, .int .i64 nn] u fun e w' => e = .returned (.string t) ∧ Below u.heap.size u w') := fun u q => by have := tag.implForm_any d0 d1 d2 d3 d4 d5 d6 d7 d8 kk nn u (by omega); rw [hY q] at this; exact this
    clear hS hI hY
    cases ok
    · go_wp2_with (first
        | (go_at_call 7; refine (HII.out _ hb).mono ?_; rintro e w9 ⟨rfl, hb9⟩; (replace hb := (kpb hb hb9 hb.size).alloc (kpb hb hb9 hb.size).size (.cells #[.int .i64 d0, .int .i64 d1, .int .i64 d2, .int .i64 d3, .int .i64 d4, .int .i64 d5, .int .i64 d6, .bool d7, .string d8] 24)); (have hq := Bk.new w9 24 #[.int .i64 d0, .int .i64 d1, .int .i64 d2, .int .i64 d3, .int .i64 d4, .int .i64 d5, .int .i64 d6, .bool d7, .string d8]); clear hb9)
        | (go_at_call 8; refine (HSS.out _).mono ?_; rintro e w10 ⟨rfl, hb10⟩; (replace hb := kpb hb hb10 hb.size); (replace hq := hq.keep hb10); clear hb10; (have q0 := hq.cell 0); (have q1 := hq.cell 1); (have q2 := hq.cell 2); (have q3 := hq.cell 3); (have q4 := hq.cell 4); (have q5 := hq.cell 5); (have q6 := hq.cell 6); (have q7 := hq.cell 7); (have q8 := hq.cell 8); simp at q0 q1 q2 q3 q4 q5 q6 q7 q8)
        | fail)
      go_ret
      exact ⟨rfl, hb.alloc hb.size _⟩
    · go_wp2_with (first
        | (go_at_call 7; refine (HII.out _ hb).mono ?_; rintro e w9 ⟨rfl, hb9⟩; (replace hb := (kpb hb hb9 hb.size).alloc (kpb hb hb9 hb.size).size (.cells #[.int .i64 d0, .int .i64 d1, .int .i64 d2, .int .i64 d3, .int .i64 d4, .int .i64 d5, .int .i64 d6, .bool d7, .string d8] 24)); (have hq := Bk.new w9 24 #[.int .i64 d0, .int .i64 d1, .int .i64 d2, .int .i64 d3, .int .i64 d4, .int .i64 d5, .int .i64 d6, .bool d7, .string d8]); clear hb9)
        | (go_at_call 8; refine (HSS.out _).mono ?_; rintro e w10 ⟨rfl, hb10⟩; (replace hb := kpb hb hb10 hb.size); (replace hq := hq.keep hb10); clear hb10; (have hql := hq.lt); (have q0 := hq.cell 0); (have q1 := hq.cell 1); (have q2 := hq.cell 2); (have q3 := hq.cell 3); (have q4 := hq.cell 4); (have q5 := hq.cell 5); (have q6 := hq.cell 6); (have q7 := hq.cell 7); (have q8 := hq.cell 8); simp at q0 q1 q2 q3 q4 q5 q6 q7 q8)
        | (go_at_call 5; refine (HYY.out _ (by first | rfl | trivial)).mono ?_; rintro e w11 ⟨rfl, hb11⟩)
        | fail)
      go_ret
      exact ⟨rfl, kpb (hb.alloc hb.size _) hb11 (hb.alloc hb.size _).size⟩
end Go.Proofs.YtfeknhopjgpbfaaDoor.draw
