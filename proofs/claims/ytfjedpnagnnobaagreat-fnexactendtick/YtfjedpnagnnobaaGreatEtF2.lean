/-
  A TICK of an end with a peer, at the limit: spec.EndTick.
-/
import Derived.Test.YtfjedpnagnnobaaGreatEtFd
namespace Go.Proofs.YtfjedpnagnnobaaGreat.mk
open Go.RowKit
set_option linter.unusedVariables false

set_option maxRecDepth 100000 in
set_option maxHeartbeats 8000000 in
theorem specEt_upB (num : Int) (life peer since : Int) (owes : Bool) (b : Nat) (xs : List It) (nx : Nat) (hs : List Hd) (o : ByteArray) (rs : List ByteArray) (g : Nat) (ho so : Option Addr) (ci ch cs : Nat) (w : World) (hm : Se 1048576 (⟨num, true, life, peer, since, owes, (b : Int), xs, (nx : Int), hs, o, rs⟩ : En)) (hr : Rs w (some ⟨g, 0, none⟩) xs.length (is xs)) (hr2 : Rt w ho so hs rs) (hn1 : ho = none → hs.length = 0 ∧ ch = 0) (hn2 : so = none → rs.length = 0 ∧ cs = 0) (hV : enOk num true life peer since owes (b : Int) xs (nx : Int) hs o rs = true) (hpe : ¬ peer = 0) (hsi : 1000000 ≤ since) :
    Calls Tryz.prog 6 #[.agg #[.int .i64 num, .bool true, .int .i64 life, .int .i64 peer, .int .i64 since, .bool owes, .int .i64 (b : Int), .slice (some ⟨g, 0, none⟩) xs.length ci, .int .i64 (nx : Int), .slice ho hs.length ch, .string o, .slice so rs.length cs]] w fun x w' => (∃ a1 c1 a2 c2 a3 c3 a4 c4, x = .returned (.agg #[.int .i64 0, .int .i64 num, .bool true, .int .i64 life, .int .i64 peer, .int .i64 (beatS since owes), .bool (beatO since owes), .int .i64 (b : Int), .slice a1 (tkn (min 8 xs.length) xs).length c1, .int .i64 (nx : Int), .slice a2 hs.length c2, .string o, .slice a3 rs.length c3, .slice a4 (beatP num life peer since owes b xs nx hs).length c4, .string ⟨#[]⟩]) ∧ w'.ownsRow w.heap.size 67 4 (.slice a1 (tkn (min 8 xs.length) xs).length c1) (tkn (min 8 xs.length) xs).length (is (tkn (min 8 xs.length) xs)) ∧ w'.ownsRow w.heap.size 95 3 (.slice a2 hs.length c2) hs.length (mk.hs hs) ∧ w'.ownsRow w.heap.size 9 1 (.slice a3 rs.length c3) rs.length (ss rs) ∧ w'.ownsRow w.heap.size 54 9 (.slice a4 (beatP num life peer since owes b xs nx hs).length c4) (beatP num life peer since owes b xs nx hs).length (pks (beatP num life peer since owes b xs nx hs))) ∧ Below w.heap.size w w' := by
  have hp := enOk_parts (e := (⟨num, true, life, peer, since, owes, (b : Int), xs, (nx : Int), hs, o, rs⟩ : En)) hV
  have hsd : SdOk (b : Int) xs := sdOk_of hp.1
  have hsi0 : 0 ≤ since ∧ since ≤ 1000000 := by have := hV; simp only [enOk, Bool.and_eq_true, decide_eq_true_eq] at this; omega
  obtain ⟨Y, hY⟩ : ∃ Y, Y = tkn (min 8 xs.length) xs := ⟨_, rfl⟩
  obtain ⟨Q, hQ⟩ : ∃ Q, Q = snt b xs (min 8 xs.length) := ⟨_, rfl⟩
  have hTk : tickOf (b : Int) xs = ((b : Int), Y, Q) := by unfold tickOf; rw [hY, hQ, hp.1]; simp
  have HV : Hid (∀ u : World, Rs u (some ⟨g, 0, none⟩) xs.length (is xs) ∧ Rt u ho so hs rs → Calls Tryz.prog 20 #[.agg #[.int .i64 num, .bool true, .int .i64 life, .int .i64 peer, .int .i64 since, .bool owes, .int .i64 (b : Int), .slice (some ⟨g, 0, none⟩) xs.length ci, .int .i64 (nx : Int), .slice ho hs.length ch, .string o, .slice so rs.length cs]] u fun x w' => x = .returned (.bool true) ∧ Below u.heap.size u w') := fun u h => by have := specValidEnd_any num true life peer since owes (b : Int) xs (nx : Int) hs o rs (some ⟨g, 0, none⟩) ho so ci ch cs u hm.n hm.t hm.tk.n hm.tk.t hm.tk.o hm.tk.k hm.tk.r h.1 h.2; rw [hV] at this; exact this
  have B0 : Hid (Below w.heap.size w ((w.alloc (.cells #[.int .i64 num, .bool true, .int .i64 life, .int .i64 peer, .int .i64 since, .bool owes, .int .i64 (b : Int), .slice (some ⟨g, 0, none⟩) xs.length ci, .int .i64 (nx : Int), .slice ho hs.length ch, .string o, .slice so rs.length cs] 39)).alloc (.cells #[.int .i64 0, .int .i64 0, .bool false, .int .i64 0, .int .i64 0, .int .i64 0, .bool false, .int .i64 0, .slice none 0 0, .int .i64 0, .slice none 0 0, .string ⟨#[]⟩, .slice none 0 0, .slice none 0 0, .string ⟨#[]⟩] 42))) := ((Below.refl _ _).alloc (Nat.le_refl _) _).alloc (by simp) _
  have R0 : Hid (Rs ((w.alloc (.cells #[.int .i64 num, .bool true, .int .i64 life, .int .i64 peer, .int .i64 since, .bool owes, .int .i64 (b : Int), .slice (some ⟨g, 0, none⟩) xs.length ci, .int .i64 (nx : Int), .slice ho hs.length ch, .string o, .slice so rs.length cs] 39)).alloc (.cells #[.int .i64 0, .int .i64 0, .bool false, .int .i64 0, .int .i64 0, .int .i64 0, .bool false, .int .i64 0, .slice none 0 0, .int .i64 0, .slice none 0 0, .string ⟨#[]⟩, .slice none 0 0, .slice none 0 0, .string ⟨#[]⟩] 42)) (some ⟨g, 0, none⟩) xs.length (is xs) ∧ Rt ((w.alloc (.cells #[.int .i64 num, .bool true, .int .i64 life, .int .i64 peer, .int .i64 since, .bool owes, .int .i64 (b : Int), .slice (some ⟨g, 0, none⟩) xs.length ci, .int .i64 (nx : Int), .slice ho hs.length ch, .string o, .slice so rs.length cs] 39)).alloc (.cells #[.int .i64 0, .int .i64 0, .bool false, .int .i64 0, .int .i64 0, .int .i64 0, .bool false, .int .i64 0, .slice none 0 0, .int .i64 0, .slice none 0 0, .string ⟨#[]⟩, .slice none 0 0, .slice none 0 0, .string ⟨#[]⟩] 42)) ho so hs rs) := ⟨hr.keep B0.out, hr2.keep B0.out⟩
  have X0 : Hid (Ex ((w.alloc (.cells #[.int .i64 num, .bool true, .int .i64 life, .int .i64 peer, .int .i64 since, .bool owes, .int .i64 (b : Int), .slice (some ⟨g, 0, none⟩) xs.length ci, .int .i64 (nx : Int), .slice ho hs.length ch, .string o, .slice so rs.length cs] 39)).alloc (.cells #[.int .i64 0, .int .i64 0, .bool false, .int .i64 0, .int .i64 0, .int .i64 0, .bool false, .int .i64 0, .slice none 0 0, .int .i64 0, .slice none 0 0, .string ⟨#[]⟩, .slice none 0 0, .slice none 0 0, .string ⟨#[]⟩] 42)) w.heap.size #[.int .i64 num, .bool true, .int .i64 life, .int .i64 peer, .int .i64 since, .bool owes, .int .i64 (b : Int), .slice (some ⟨g, 0, none⟩) xs.length ci, .int .i64 (nx : Int), .slice ho hs.length ch, .string o, .slice so rs.length cs]) := (Ex.new w _ _).alloc _
  have Z0 : Hid (Bx ((w.alloc (.cells #[.int .i64 num, .bool true, .int .i64 life, .int .i64 peer, .int .i64 since, .bool owes, .int .i64 (b : Int), .slice (some ⟨g, 0, none⟩) xs.length ci, .int .i64 (nx : Int), .slice ho hs.length ch, .string o, .slice so rs.length cs] 39)).alloc (.cells #[.int .i64 0, .int .i64 0, .bool false, .int .i64 0, .int .i64 0, .int .i64 0, .bool false, .int .i64 0, .slice none 0 0, .int .i64 0, .slice none 0 0, .string ⟨#[]⟩, .slice none 0 0, .slice none 0 0, .string ⟨#[]⟩] 42)) (w.heap.size + 1) 42 #[.int .i64 0, .int .i64 0, .bool false, .int .i64 0, .int .i64 0, .int .i64 0, .bool false, .int .i64 0, .slice none 0 0, .int .i64 0, .slice none 0 0, .string ⟨#[]⟩, .slice none 0 0, .slice none 0 0, .string ⟨#[]⟩]) := (by have := Bx.new (w.alloc (.cells #[.int .i64 num, .bool true, .int .i64 life, .int .i64 peer, .int .i64 since, .bool owes, .int .i64 (b : Int), .slice (some ⟨g, 0, none⟩) xs.length ci, .int .i64 (nx : Int), .slice ho hs.length ch, .string o, .slice so rs.length cs] 39)) 42 #[.int .i64 0, .int .i64 0, .bool false, .int .i64 0, .int .i64 0, .int .i64 0, .bool false, .int .i64 0, .slice none 0 0, .int .i64 0, .slice none 0 0, .string ⟨#[]⟩, .slice none 0 0, .slice none 0 0, .string ⟨#[]⟩]; rw [World.size_alloc] at this; exact this : Bx ((w.alloc (.cells #[.int .i64 num, .bool true, .int .i64 life, .int .i64 peer, .int .i64 since, .bool owes, .int .i64 (b : Int), .slice (some ⟨g, 0, none⟩) xs.length ci, .int .i64 (nx : Int), .slice ho hs.length ch, .string o, .slice so rs.length cs] 39)).alloc (.cells #[.int .i64 0, .int .i64 0, .bool false, .int .i64 0, .int .i64 0, .int .i64 0, .bool false, .int .i64 0, .slice none 0 0, .int .i64 0, .slice none 0 0, .string ⟨#[]⟩, .slice none 0 0, .slice none 0 0, .string ⟨#[]⟩] 42)) (w.heap.size + 1) 42 #[.int .i64 0, .int .i64 0, .bool false, .int .i64 0, .int .i64 0, .int .i64 0, .bool false, .int .i64 0, .slice none 0 0, .int .i64 0, .slice none 0 0, .string ⟨#[]⟩, .slice none 0 0, .slice none 0 0, .string ⟨#[]⟩])
  have HCP : Hid (∀ u : World, Rs u (some ⟨g, 0, none⟩) xs.length (is xs) ∧ Rt u ho so hs rs → Calls Tryz.prog 21 #[.agg #[.int .i64 num, .bool true, .int .i64 life, .int .i64 peer, .int .i64 since, .bool owes, .int .i64 (b : Int), .slice (some ⟨g, 0, none⟩) xs.length ci, .int .i64 (nx : Int), .slice ho hs.length ch, .string o, .slice so rs.length cs]] u fun x w' => (∃ a1 c1 a2 c2 a3 c3, (∃ g1 : Nat, a1 = some (⟨g1, 0, none⟩ : Addr)) ∧ x = .returned (.agg #[.int .i64 num, .bool true, .int .i64 life, .int .i64 peer, .int .i64 since, .bool owes, .int .i64 (b : Int), .slice a1 xs.length c1, .int .i64 (nx : Int), .slice a2 hs.length c2, .string o, .slice a3 rs.length c3]) ∧ w'.ownsRow u.heap.size 67 4 (.slice a1 xs.length c1) xs.length (is xs) ∧ w'.ownsRow u.heap.size 95 3 (.slice a2 hs.length c2) hs.length (mk.hs hs) ∧ w'.ownsRow u.heap.size 9 1 (.slice a3 rs.length c3) rs.length (ss rs)) ∧ Below u.heap.size u w') := fun u h => l6Copy_g (⟨num, true, life, peer, since, owes, (b : Int), xs, (nx : Int), hs, o, rs⟩ : En) g ho so ci ch cs u hm ⟨h.1, h.2⟩ hn1 hn2
  have HST : Hid (∀ (u : World) (g1 c1 : Nat), Rs u (some ⟨g1, 0, none⟩) xs.length (is xs) → Calls Tryz.prog 22 #[.agg #[.int .i64 (b : Int), .slice (some ⟨g1, 0, none⟩) xs.length c1]] u fun x w' => (∃ t1 d1 t2 d2, x = .returned (.tuple #[.agg #[.int .i64 (b : Int), .slice t1 Y.length d1], .slice t2 Q.length d2]) ∧ w'.ownsRow u.heap.size 67 4 (.slice t1 Y.length d1) Y.length (is Y) ∧ w'.ownsRow u.heap.size 3 1 (.slice t2 Q.length d2) Q.length (ns Q)) ∧ Below u.heap.size u w') := fun u g1 c1 h => by have := specTick_any (b : Int) g1 c1 xs u hm.n hm.t h; unfold TickPost at this; rw [hTk] at this; exact this
  have htk0 : tkOk (nx : Int) hs o rs = true := hp.2.1
  obtain ⟨V, hVt⟩ : ∃ V, V = tells nx hs := ⟨_, rfl⟩
  have HTW : Hid (∀ (u : World) (a2 a3 : Option Addr) (c2 c3 : Nat), Rt u a2 a3 hs rs → Calls Tryz.prog 23 #[.agg #[.int .i64 (nx : Int), .slice a2 hs.length c2, .string o, .slice a3 rs.length c3]] u fun x w' => x = .returned (.tuple #[.int .i64 (nx : Int), .int .i64 (V : Int)]) ∧ Below u.heap.size u w') := fun u a2 a3 c2 c3 h => by have := specTell_any (nx : Int) a2 a3 c2 c3 hs o rs u hm.tk.n hm.tk.t hm.tk.o hm.tk.k hm.tk.r h; rw [tellOf_yes htk0] at this; rw [hVt]; exact this
  have hso : sinceOf since = since := by unfold sinceOf; omega
  have HBW : Hid (owes = true ∨ 6 ≤ since → beatP num life peer since owes b xs nx hs = Q.map (datOf num life peer b xs) ++ [wordOf num life peer (nx : Int) V] ∧ beatS since owes = 0 ∧ beatO since owes = false) := fun h => (by unfold beatP beatS beatO; rw [hso, if_pos h, if_pos h, if_pos h, hQ, hVt]; exact ⟨rfl, rfl, rfl⟩)
  have HBN : Hid (¬ (owes = true ∨ 6 ≤ since) → beatP num life peer since owes b xs nx hs = Q.map (datOf num life peer b xs) ∧ beatS since owes = since ∧ beatO since owes = owes) := fun h => (by unfold beatP beatS beatO; rw [hso, if_neg h, if_neg h, if_neg h, hQ]; exact ⟨rfl, rfl, rfl⟩)
  have HY : Hid (Y = tkn (min 8 xs.length) xs) := hY
  have HQ : Hid (Q = snt b xs (min 8 xs.length)) := hQ
  clear hm hr hr2 hn1 hn2 hV hp hTk hY hQ hso htk0 hVt
  go_enter Tryz.func6, Tryz.ntmps6
  go_wp2_with (first | (go_at_call 20; refine (HV.out _ R0.out).mono ?_; rintro x w1 ⟨rfl, hb1⟩; (have Z1 := Z0.out.keep hb1); (have X1 := X0.out.keep hb1); (obtain ⟨d0, d1, d2, d3, d4, d5, d6, d7, d8, d9, d10, d11⟩ := X1.cells); (have y0 := (Z1).cell 0); (have y1 := (Z1).cell 1); (have y2 := (Z1).cell 2); (have y3 := (Z1).cell 3); (have y4 := (Z1).cell 4); (have y5 := (Z1).cell 5); (have y6 := (Z1).cell 6); (have y7 := (Z1).cell 7); (have y8 := (Z1).cell 8); (have y9 := (Z1).cell 9); (have y10 := (Z1).cell 10); (have y11 := (Z1).cell 11); (have y12 := (Z1).cell 12); (have y13 := (Z1).cell 13); (have y14 := (Z1).cell 14); simp at y0 y1 y2 y3 y4 y5 y6 y7 y8 y9 y10 y11 y12 y13 y14; (have u0 := (Z1).frozen 0); (have u1 := (Z1).frozen 1); (have u2 := (Z1).frozen 2); (have u3 := (Z1).frozen 3); (have u4 := (Z1).frozen 4); (have u5 := (Z1).frozen 5); (have u6 := (Z1).frozen 6); (have u7 := (Z1).frozen 7); (have u8 := (Z1).frozen 8); (have u9 := (Z1).frozen 9); (have u10 := (Z1).frozen 10); (have u11 := (Z1).frozen 11); (have u12 := (Z1).frozen 12); (have u13 := (Z1).frozen 13); (have u14 := (Z1).frozen 14)) | (go_at_call 21; refine (HCP.out _ ⟨R0.out.1.keep hb1, R0.out.2.keep hb1⟩).mono ?_; rintro x w2 ⟨⟨a1, c1, a2, c2, a3, c3, ⟨g1, rfl⟩, rfl, o1, o2, o3⟩, hb2⟩; (have Z2 := Z1.keep hb2); (have l2 := Z2.lt)) | (go_at_call 22; refine (HST.out _ g1 c1 (owns_rs ((o1.alloc _).alloc _))).mono ?_; rintro x w3 ⟨⟨t1, d1, t2, d2, rfl, pY, pQ⟩, hb3⟩; (have XB3 := ((Bx.new w2 39 #[.int .i64 num, .bool true, .int .i64 life, .int .i64 peer, .int .i64 since, .bool owes, .int .i64 (b : Int), .slice (some ⟨g1, 0, none⟩) xs.length c1, .int .i64 (nx : Int), .slice a2 hs.length c2, .string o, .slice a3 rs.length c3]).alloc (.cells #[] 54)).keep hb3); (have l3 := XB3.lt); (have x0 := (XB3).cell 0); (have x1 := (XB3).cell 1); (have x2 := (XB3).cell 2); (have x3 := (XB3).cell 3); (have x4 := (XB3).cell 4); (have x5 := (XB3).cell 5); (have x6 := (XB3).cell 6); (have x7 := (XB3).cell 7); (have x8 := (XB3).cell 8); (have x9 := (XB3).cell 9); (have x10 := (XB3).cell 10); (have x11 := (XB3).cell 11); simp at x0 x1 x2 x3 x4 x5 x6 x7 x8 x9 x10 x11; (have v0 := (XB3).frozen 0); (have v1 := (XB3).frozen 1); (have v2 := (XB3).frozen 2); (have v3 := (XB3).frozen 3); (have v4 := (XB3).frozen 4); (have v5 := (XB3).frozen 5); (have v6 := (XB3).frozen 6); (have v7 := (XB3).frozen 7); (have v8 := (XB3).frozen 8); (have v9 := (XB3).frozen 9); (have v10 := (XB3).frozen 10); (have v11 := (XB3).frozen 11); (have Z3 := ((Z2.alloc (.cells #[.int .i64 num, .bool true, .int .i64 life, .int .i64 peer, .int .i64 since, .bool owes, .int .i64 (b : Int), .slice (some ⟨g1, 0, none⟩) xs.length c1, .int .i64 (nx : Int), .slice a2 hs.length c2, .string o, .slice a3 rs.length c3] 39)).alloc (.cells #[] 54)).keep hb3); (have n1 : ¬ w2.heap.size = w3.heap.size := by omega); (have n2 : ¬ w3.heap.size = w2.heap.size := by omega)) | fail)
  have W4w : Hid (((w3.setCell ⟨w2.heap.size, 6, none⟩ (.int .i64 (b : Int))).setCell ⟨w2.heap.size, 7, none⟩ (.slice t1 Y.length d1)).alloc (.cells #[.int .i64 (b : Int), .slice t1 Y.length d1] 34) = ((w3.setCell ⟨w2.heap.size, 6, none⟩ (.int .i64 (b : Int))).setCell ⟨w2.heap.size, 7, none⟩ (.slice t1 Y.length d1)).alloc (.cells #[.int .i64 (b : Int), .slice t1 Y.length d1] 34)) := rfl
  have XB4 : Bx (((w3.setCell ⟨w2.heap.size, 6, none⟩ (.int .i64 (b : Int))).setCell ⟨w2.heap.size, 7, none⟩ (.slice t1 Y.length d1)).alloc (.cells #[.int .i64 (b : Int), .slice t1 Y.length d1] 34)) w2.heap.size 39 #[.int .i64 num, .bool true, .int .i64 life, .int .i64 peer, .int .i64 since, .bool owes, .int .i64 (b : Int), .slice t1 Y.length d1, .int .i64 (nx : Int), .slice a2 hs.length c2, .string o, .slice a3 rs.length c3] := by
    have h1 := ((XB3.put 6 (.int .i64 (b : Int))).put 7 (.slice t1 Y.length d1)).alloc (.cells #[.int .i64 (b : Int), .slice t1 Y.length d1] 34)
    simpa only [List.setIfInBounds_toArray, List.set_cons_zero, List.set_cons_succ] using h1
  have SB4 : Bx (((w3.setCell ⟨w2.heap.size, 6, none⟩ (.int .i64 (b : Int))).setCell ⟨w2.heap.size, 7, none⟩ (.slice t1 Y.length d1)).alloc (.cells #[.int .i64 (b : Int), .slice t1 Y.length d1] 34)) w3.heap.size 34 #[.int .i64 (b : Int), .slice t1 Y.length d1] := by
    have h1 := Bx.new ((w3.setCell ⟨w2.heap.size, 6, none⟩ (.int .i64 (b : Int))).setCell ⟨w2.heap.size, 7, none⟩ (.slice t1 Y.length d1)) 34 #[.int .i64 (b : Int), .slice t1 Y.length d1]
    simpa only [World.size_setCell] using h1
  have s3 := hb3.size
  have s2 := hb2.size
  have z1 : w.heap.size + 1 < w1.heap.size := Z1.lt
  simp only [World.size_alloc] at s3 pY pQ
  have Z4 : Bx (((w3.setCell ⟨w2.heap.size, 6, none⟩ (.int .i64 (b : Int))).setCell ⟨w2.heap.size, 7, none⟩ (.slice t1 Y.length d1)).alloc (.cells #[.int .i64 (b : Int), .slice t1 Y.length d1] 34)) (w.heap.size + 1) 42 #[.int .i64 0, .int .i64 0, .bool false, .int .i64 0, .int .i64 0, .int .i64 0, .bool false, .int .i64 0, .slice none 0 0, .int .i64 0, .slice none 0 0, .string ⟨#[]⟩, .slice none 0 0, .slice none 0 0, .string ⟨#[]⟩] := ((Z3.kept (grow_set w3 ⟨w2.heap.size, 6, none⟩ (.int .i64 (b : Int))) (by simp; omega)).kept (grow_set _ ⟨w2.heap.size, 7, none⟩ (.slice t1 Y.length d1)) (by simp; omega)).alloc _
  have nY : (Value.slice t1 Y.length d1).ownBlock ≠ some w2.heap.size := fun e => by have := (pY.lt _ e).1; omega
  have nQ : (Value.slice t2 Q.length d2).ownBlock ≠ some w2.heap.size := fun e => by have := (pQ.lt _ e).1; omega
  have nH : (Value.slice a2 hs.length c2).ownBlock ≠ some w2.heap.size := fun e => by have := (o2.lt _ e).2; omega
  have nS : (Value.slice a3 rs.length c3).ownBlock ≠ some w2.heap.size := fun e => by have := (o3.lt _ e).2; omega
  have pY4 : (((w3.setCell ⟨w2.heap.size, 6, none⟩ (.int .i64 (b : Int))).setCell ⟨w2.heap.size, 7, none⟩ (.slice t1 Y.length d1)).alloc (.cells #[.int .i64 (b : Int), .slice t1 Y.length d1] 34)).ownsRow w.heap.size 67 4 (.slice t1 Y.length d1) Y.length (is Y) := owns_mono3 ((ownsRow_setCell_other (ownsRow_setCell_other pY (a := ⟨w2.heap.size, 6, none⟩) nY (.int .i64 (b : Int))) (a := ⟨w2.heap.size, 7, none⟩) nY (.slice t1 Y.length d1)).alloc _) (by omega)
  have pQ4 : (((w3.setCell ⟨w2.heap.size, 6, none⟩ (.int .i64 (b : Int))).setCell ⟨w2.heap.size, 7, none⟩ (.slice t1 Y.length d1)).alloc (.cells #[.int .i64 (b : Int), .slice t1 Y.length d1] 34)).ownsRow w.heap.size 3 1 (.slice t2 Q.length d2) Q.length (ns Q) := owns_mono3 ((ownsRow_setCell_other (ownsRow_setCell_other pQ (a := ⟨w2.heap.size, 6, none⟩) nQ (.int .i64 (b : Int))) (a := ⟨w2.heap.size, 7, none⟩) nQ (.slice t1 Y.length d1)).alloc _) (by omega)
  have o2' := owns_keep ((o2.alloc (.cells #[.int .i64 num, .bool true, .int .i64 life, .int .i64 peer, .int .i64 since, .bool owes, .int .i64 (b : Int), .slice (some ⟨g1, 0, none⟩) xs.length c1, .int .i64 (nx : Int), .slice a2 hs.length c2, .string o, .slice a3 rs.length c3] 39)).alloc (.cells #[] 54)) hb3
  have o3' := owns_keep ((o3.alloc (.cells #[.int .i64 num, .bool true, .int .i64 life, .int .i64 peer, .int .i64 since, .bool owes, .int .i64 (b : Int), .slice (some ⟨g1, 0, none⟩) xs.length c1, .int .i64 (nx : Int), .slice a2 hs.length c2, .string o, .slice a3 rs.length c3] 39)).alloc (.cells #[] 54)) hb3
  have pH4 : (((w3.setCell ⟨w2.heap.size, 6, none⟩ (.int .i64 (b : Int))).setCell ⟨w2.heap.size, 7, none⟩ (.slice t1 Y.length d1)).alloc (.cells #[.int .i64 (b : Int), .slice t1 Y.length d1] 34)).ownsRow w.heap.size 95 3 (.slice a2 hs.length c2) hs.length (mk.hs hs) := owns_mono3 ((ownsRow_setCell_other (ownsRow_setCell_other o2' (a := ⟨w2.heap.size, 6, none⟩) nH (.int .i64 (b : Int))) (a := ⟨w2.heap.size, 7, none⟩) nH (.slice t1 Y.length d1)).alloc _) (by omega)
  have pS4 : (((w3.setCell ⟨w2.heap.size, 6, none⟩ (.int .i64 (b : Int))).setCell ⟨w2.heap.size, 7, none⟩ (.slice t1 Y.length d1)).alloc (.cells #[.int .i64 (b : Int), .slice t1 Y.length d1] 34)).ownsRow w.heap.size 9 1 (.slice a3 rs.length c3) rs.length (ss rs) := owns_mono3 ((ownsRow_setCell_other (ownsRow_setCell_other o3' (a := ⟨w2.heap.size, 6, none⟩) nS (.int .i64 (b : Int))) (a := ⟨w2.heap.size, 7, none⟩) nS (.slice t1 Y.length d1)).alloc _) (by omega)
  have hJ0 := pks_lit (w2.alloc (.cells #[.int .i64 num, .bool true, .int .i64 life, .int .i64 peer, .int .i64 since, .bool owes, .int .i64 (b : Int), .slice (some ⟨g1, 0, none⟩) xs.length c1, .int .i64 (nx : Int), .slice a2 hs.length c2, .string o, .slice a3 rs.length c3] 39)) (w2.heap.size + 1) (by simp) w.heap.size (by simp; omega)
  have hJ3 := owns_keep hJ0 hb3
  have pP4 : (((w3.setCell ⟨w2.heap.size, 6, none⟩ (.int .i64 (b : Int))).setCell ⟨w2.heap.size, 7, none⟩ (.slice t1 Y.length d1)).alloc (.cells #[.int .i64 (b : Int), .slice t1 Y.length d1] 34)).ownsRow w.heap.size 54 9 (.slice (some ⟨w2.heap.size + 1, 0, none⟩) 0 0) 0 [] := (ownsRow_setCell_other (ownsRow_setCell_other hJ3 (a := ⟨w2.heap.size, 6, none⟩) (by simp [Value.ownBlock]) (.int .i64 (b : Int))) (a := ⟨w2.heap.size, 7, none⟩) (by simp [Value.ownBlock]) (.slice t1 Y.length d1)).alloc _
  have B2 := kb (kb B0.out hb1 (Nat.le_refl _)) hb2 (Nat.le_refl _)
  have B3 := kb ((B2.alloc B2.size (.cells #[.int .i64 num, .bool true, .int .i64 life, .int .i64 peer, .int .i64 since, .bool owes, .int .i64 (b : Int), .slice (some ⟨g1, 0, none⟩) xs.length c1, .int .i64 (nx : Int), .slice a2 hs.length c2, .string o, .slice a3 rs.length c3] 39)).alloc (by simp; omega) (.cells #[] 54)) hb3 (Nat.le_refl _)
  have B4 : Below w.heap.size w (((w3.setCell ⟨w2.heap.size, 6, none⟩ (.int .i64 (b : Int))).setCell ⟨w2.heap.size, 7, none⟩ (.slice t1 Y.length d1)).alloc (.cells #[.int .i64 (b : Int), .slice t1 Y.length d1] 34)) := ((B3.setCell (p := ⟨w2.heap.size, 6, none⟩) (by show w.heap.size ≤ w2.heap.size; omega) (.int .i64 (b : Int))).setCell (p := ⟨w2.heap.size, 7, none⟩) (by show w.heap.size ≤ w2.heap.size; omega) (.slice t1 Y.length d1)).alloc (by simp; omega) _
  clear x0 v0 x1 v1 x2 v2 x3 v3 x4 v4 x5 v5 x6 v6 x7 v7 x8 v8 x9 v9 x10 v10 x11 v11 y0 u0 y1 u1 y2 u2 y3 u3 y4 u4 y5 u5 y6 u6 y7 u7 y8 u8 y9 u9 y10 u10 y11 u11 y12 u12 y13 u13 y14 u14 d0 d3 d4 d5 d6 d7 d8 d9 d10 d11 XB3 Z3 hJ0 hJ3 o2' o3' B2 B3 o1 o2 o3 pY pQ hb3 hb2 hb1 X1 Z1 Z2 W4w n1 n2 nY nQ nH nS
  generalize (((w3.setCell ⟨w2.heap.size, 6, none⟩ (.int .i64 (b : Int))).setCell ⟨w2.heap.size, 7, none⟩ (.slice t1 Y.length d1)).alloc (.cells #[.int .i64 (b : Int), .slice t1 Y.length d1] 34)) = W4 at *
  have EI4 : EtI w 34 w2.heap.size w3.heap.size (w.heap.size + 1) #[.int .i64 num, .bool true, .int .i64 life, .int .i64 peer, .int .i64 since, .bool owes, .int .i64 (b : Int), .slice t1 Y.length d1, .int .i64 (nx : Int), .slice a2 hs.length c2, .string o, .slice a3 rs.length c3] #[.int .i64 (b : Int), .slice t1 Y.length d1] #[.int .i64 0, .int .i64 0, .bool false, .int .i64 0, .int .i64 0, .int .i64 0, .bool false, .int .i64 0, .slice none 0 0, .int .i64 0, .slice none 0 0, .string ⟨#[]⟩, .slice none 0 0, .slice none 0 0, .string ⟨#[]⟩] (.slice t1 Y.length d1) Y.length (is Y) (.slice t2 Q.length d2) Q.length (ns Q) (.slice a2 hs.length c2) hs.length (mk.hs hs) (.slice a3 rs.length c3) rs.length (ss rs) W4 := ⟨XB4, SB4, Z4, pY4, pQ4, pH4, pS4, B4, by decide⟩
  have l3' : w3.heap.size < W4.heap.size := SB4.lt
  clear XB4 SB4 Z4 pY4 pQ4 pH4 pS4 B4
  have HF : Hid (∀ i (h : i < Q.length), ∃ k, k < xs.length ∧ Q[i] = ((b + k : Nat) : Int)) := (by have hQ := HQ.out; subst hQ; intro i h; obtain ⟨k, h1, _, h3⟩ := snt_form b xs _ i h; exact ⟨k, h1, h3⟩ : ∀ i (h : i < Q.length), ∃ k, k < xs.length ∧ Q[i] = ((b + k : Nat) : Int))
  have HYT : Hid (Y.length = xs.length ∧ ∀ i (h : i < xs.length) (h' : i < Y.length), Y[i].text = xs[i].text ∧ Y[i].last = xs[i].last) := (by have hY := HY.out; subst hY; exact ⟨tkn_length _ _, fun i h h' => tkn_text _ xs i h⟩ : Y.length = xs.length ∧ ∀ i (h : i < xs.length) (h' : i < Y.length), Y[i].text = xs[i].text ∧ Y[i].last = xs[i].last)
  obtain ⟨P, hP⟩ : ∃ P, P = Q.map (datOf num life peer b xs) := ⟨_, rfl⟩
  have hPl : P.length = Q.length := by rw [hP, List.length_map]
  have HP : Hid (P = Q.map (datOf num life peer b xs)) := hP
  have hQl : Q.length ≤ 8 := by rw [HQ.out]; have := snt_length b xs (min 8 xs.length); omega
  have hbb : b ≤ 1000000 ∧ xs.length ≤ 60 := by have := hsd.1; unfold HdOk at this; omega
  obtain ⟨i0, hi, hz0, hz1, hz2⟩ := info_parts info_pk
  clear hP hsd
  go_loopw [4, 7] (fun ov i wr => ∃ (k : Nat) (a4 : Option Addr) (c4 : Nat), k ≤ Q.length ∧ i = .int .i64 k ∧ ov = .slice a4 k c4 ∧ wr.ownsRow w.heap.size 54 9 (.slice a4 k c4) k (pks (P.take k)) ∧ EtI w 34 w2.heap.size w3.heap.size (w.heap.size + 1) #[.int .i64 num, .bool true, .int .i64 life, .int .i64 peer, .int .i64 since, .bool owes, .int .i64 (b : Int), .slice t1 Y.length d1, .int .i64 (nx : Int), .slice a2 hs.length c2, .string o, .slice a3 rs.length c3] #[.int .i64 (b : Int), .slice t1 Y.length d1] #[.int .i64 0, .int .i64 0, .bool false, .int .i64 0, .int .i64 0, .int .i64 0, .bool false, .int .i64 0, .slice none 0 0, .int .i64 0, .slice none 0 0, .string ⟨#[]⟩, .slice none 0 0, .slice none 0 0, .string ⟨#[]⟩] (.slice t1 Y.length d1) Y.length (is Y) (.slice t2 Q.length d2) Q.length (ns Q) (.slice a2 hs.length c2) hs.length (mk.hs hs) (.slice a3 rs.length c3) rs.length (ss rs) wr ∧ w3.heap.size < wr.heap.size) (fun _ i _ => Q.length - (intOf i).toNat)
  case atStart => exact ⟨0, _, _, Nat.zero_le _, rfl, rfl, pP4, EI4, l3'⟩
  case round =>
    clear EI4 l3' pP4
    obtain ⟨k, a4, c4, hk, rfl, rfl, hown, EI, l4⟩ := hrel
    by_cases hlt : k < Q.length
    · obtain ⟨k', hk', hqk⟩ := HF.out k hlt
      have hYl := HYT.out.1
      rcases (owns_rs EI.q).ex with h | ⟨gq, rfl, hgq, hgqc⟩
      · omega
      rcases (owns_rs EI.y).ex with h | ⟨gy, rfl, hgy, hgyc⟩
      · omega
      have a0 : wr.cell? ⟨gq, k, none⟩ = some (.int .i64 ((b + k' : Nat) : Int)) := (hgqc k (by rw [ns_length]; exact hlt)).trans (by simp [ns, hlt, hqk])
      obtain ⟨i1, i2, -, -⟩ := is_at Y k' (by omega)
      have hil := is_length Y
      have y0 : wr.cell? ⟨gy, k' * 4, none⟩ = some (.string xs[k'].text) := (hgyc (k' * 4) (by omega)).trans (by rw [i1, (HYT.out.2 k' hk' (by omega)).1])
      have y1 : wr.cell? ⟨gy, k' * 4 + 1, none⟩ = some (.bool xs[k'].last) := (hgyc (k' * 4 + 1) (by omega)).trans (by rw [i2, (HYT.out.2 k' hk' (by omega)).2])
      have HT : Hid (pks (P.take (k + 1)) = pks (P.take k) ++ [.int .i64 2, .int .i64 num, .int .i64 life, .int .i64 peer, .int .i64 0, .int .i64 0, .int .i64 ((b + k' : Nat) : Int), .bool xs[k'].last, .string xs[k'].text]) := (by
        have hkP : k < P.length := by omega
        have hPk : P[k] = ⟨2, num, life, peer, 0, 0, ((b + k' : Nat) : Int), xs[k'].last, xs[k'].text⟩ := by
          have := HP.out
          subst this
          rw [List.getElem_map, hqk]
          exact datOf_at num life peer b k' xs hk'
        rw [List.take_succ_eq_append_getElem hkP, pks_append, hPk]
        rfl : pks (P.take (k + 1)) = pks (P.take k) ++ [.int .i64 2, .int .i64 num, .int .i64 life, .int .i64 peer, .int .i64 0, .int .i64 0, .int .i64 ((b + k' : Nat) : Int), .bool xs[k'].last, .string xs[k'].text])
      have e0 := EI.s.cell 0
      have e1 := EI.s.cell 1
      have x0 := EI.x.cell 0
      have x2 := EI.x.cell 2
      have x3 := EI.x.cell 3
      simp at e0 e1 x0 x2 x3
      have hkY : k' < Y.length := by omega
      obtain ⟨q, hq⟩ : ∃ q, q = b + k' := ⟨_, rfl⟩
      rw [← hq] at a0 HT
      have hsub : IntKind.i64.wrap ((q : Int) - (b : Int)) = (k' : Int) := by rw [IntKind.wrap_i64]; omega
      have hqb : q ≤ 2000000 := by omega
      generalize xs[k'].text = s at *
      generalize xs[k'].last = l at *
      have HEI : Hid (EtI w 34 w2.heap.size w3.heap.size (w.heap.size + 1) #[.int .i64 num, .bool true, .int .i64 life, .int .i64 peer, .int .i64 since, .bool owes, .int .i64 (b : Int), .slice (some ⟨gy, 0, none⟩) Y.length d1, .int .i64 (nx : Int), .slice a2 hs.length c2, .string o, .slice a3 rs.length c3] #[.int .i64 (b : Int), .slice (some ⟨gy, 0, none⟩) Y.length d1] #[.int .i64 0, .int .i64 0, .bool false, .int .i64 0, .int .i64 0, .int .i64 0, .bool false, .int .i64 0, .slice none 0 0, .int .i64 0, .slice none 0 0, .string ⟨#[]⟩, .slice none 0 0, .slice none 0 0, .string ⟨#[]⟩] (.slice (some ⟨gy, 0, none⟩) Y.length d1) Y.length (is Y) (.slice (some ⟨gq, 0, none⟩) Q.length d2) Q.length (ns Q) (.slice a2 hs.length c2) hs.length (mk.hs hs) (.slice a3 rs.length c3) rs.length (ss rs) wr) := EI
      have HOWN : Hid (wr.ownsRow w.heap.size 54 9 (.slice a4 k c4) k (pks (P.take k))) := hown
      clear hgqc hgyc i1 i2 hil hq hqk EI hown hYl
      go_wp2
      refine wp_region_held_drew (S := (fun w' => Below wr.heap.size wr w')) (by kernel_rfl) ?_ (fun hHeld => ?_)
      · exact (Below.refl _ _).drew
      refine takeD (i := 0) (d := some 48) (v := ?_) rfl rfl (by kernel_rfl) (by kernel_rfl) (by kernel_rfl) (fun _ _ _ h => h) (Or.inl ⟨by rfl, ?_⟩) (by assumption) ?_
      rotate_left
      · (intro w hSw; go_simp <;> with_reducible rfl)
      simp only [Act.put, List.setIfInBounds_toArray, List.set_cons_zero, List.set_cons_succ]
      refine takeD (i := 1) (d := some 49) (v := ?_) rfl rfl (by kernel_rfl) (by kernel_rfl) (by kernel_rfl) (fun _ _ _ h => h) (Or.inl ⟨by rfl, ?_⟩) (by assumption) ?_
      rotate_left
      · (intro w hSw; (have he0 := cell_keep e0 hSw); (have he1 := cell_keep e1 hSw); (have ha0 := cell_keep a0 hSw); (have hy0 := cell_keep y0 hSw); (have hy1 := cell_keep y1 hSw); go_simp <;> with_reducible rfl)
      simp only [Act.put, List.setIfInBounds_toArray, List.set_cons_zero, List.set_cons_succ]
      refine takeD (i := 2) (d := some 50) (v := ?_) rfl rfl (by kernel_rfl) (by kernel_rfl) (by kernel_rfl) (fun _ _ _ h => h) (Or.inl ⟨by rfl, ?_⟩) (by assumption) ?_
      rotate_left
      · (intro w hSw; go_simp <;> with_reducible rfl)
      simp only [Act.put, List.setIfInBounds_toArray, List.set_cons_zero, List.set_cons_succ]
      refine takeD (i := 3) (d := some 51) (v := ?_) rfl rfl (by kernel_rfl) (by kernel_rfl) (by kernel_rfl) (fun _ _ _ h => h) (Or.inl ⟨by rfl, ?_⟩) (by assumption) ?_
      rotate_left
      · (intro w hSw; go_simp <;> with_reducible rfl)
      simp only [Act.put, List.setIfInBounds_toArray, List.set_cons_zero, List.set_cons_succ]
      refine takeD (i := 4) (d := some 52) (v := ?_) rfl rfl (by kernel_rfl) (by kernel_rfl) (by kernel_rfl) (fun _ _ _ h => h) (Or.inl ⟨by rfl, ?_⟩) (by assumption) ?_
      rotate_left
      · (intro w hSw; go_simp <;> with_reducible rfl)
      simp only [Act.put, List.setIfInBounds_toArray, List.set_cons_zero, List.set_cons_succ]
      refine takeD (i := 5) (d := some 53) (v := ?_) rfl rfl (by kernel_rfl) (by kernel_rfl) (by kernel_rfl) (fun _ _ _ h => h) (Or.inl ⟨by rfl, ?_⟩) (by assumption) ?_
      rotate_left
      · (intro w hSw; (have he0 := cell_keep e0 hSw); (have he1 := cell_keep e1 hSw); (have ha0 := cell_keep a0 hSw); (have hy0 := cell_keep y0 hSw); (have hy1 := cell_keep y1 hSw); go_simp <;> with_reducible rfl)
      simp only [Act.put, List.setIfInBounds_toArray, List.set_cons_zero, List.set_cons_succ]
      refine takeD (i := 6) (d := some 54) (v := ?_) rfl rfl (by kernel_rfl) (by kernel_rfl) (by kernel_rfl) (fun _ _ _ h => h) (Or.inl ⟨by rfl, ?_⟩) (by assumption) ?_
      rotate_left
      · (intro w hSw; go_simp <;> with_reducible rfl)
      simp only [Act.put, List.setIfInBounds_toArray, List.set_cons_zero, List.set_cons_succ]
      refine takeD (i := 7) (d := some 55) (v := ?_) rfl rfl (by kernel_rfl) (by kernel_rfl) (by kernel_rfl) (fun _ _ _ h => h) (Or.inl ⟨by rfl, ?_⟩) (by assumption) ?_
      rotate_left
      · (intro w hSw; (have he0 := cell_keep e0 hSw); (have he1 := cell_keep e1 hSw); (have ha0 := cell_keep a0 hSw); (have hy0 := cell_keep y0 hSw); (have hy1 := cell_keep y1 hSw); go_simp <;> with_reducible rfl)
      simp only [Act.put, List.setIfInBounds_toArray, List.set_cons_zero, List.set_cons_succ]
      refine takeD (i := 8) (d := some 56) (v := .int .i64 (k' : Int)) rfl rfl (by kernel_rfl) (by kernel_rfl) (by kernel_rfl) (fun _ _ _ h => h) (Or.inl ⟨by rfl, ?_⟩) (by assumption) ?_
      · (intro w hSw; go_simp <;> simp [hsub])
      simp only [Act.put, List.setIfInBounds_toArray, List.set_cons_zero, List.set_cons_succ]
      refine takeD (i := 9) (d := some 57) (v := ?_) rfl rfl (by kernel_rfl) (by kernel_rfl) (by kernel_rfl) (fun _ _ _ h => h) (Or.inl ⟨by rfl, ?_⟩) (by assumption) ?_
      rotate_left
      · (intro w hSw; go_simp <;> with_reducible rfl)
      simp only [Act.put, List.setIfInBounds_toArray, List.set_cons_zero, List.set_cons_succ]
      refine takeD (i := 10) (d := some 58) (v := ?_) rfl rfl (by kernel_rfl) (by kernel_rfl) (by kernel_rfl) (fun _ _ _ h => h) (Or.inl ⟨by rfl, ?_⟩) (by assumption) ?_
      rotate_left
      · (intro w hSw; go_simp <;> with_reducible rfl)
      simp only [Act.put, List.setIfInBounds_toArray, List.set_cons_zero, List.set_cons_succ]
      refine takeD (i := 11) (d := some 59) (v := ?_) rfl rfl (by kernel_rfl) (by kernel_rfl) (by kernel_rfl) (fun _ _ _ h => h) (Or.inl ⟨by rfl, ?_⟩) (by assumption) ?_
      rotate_left
      · (intro w hSw; (have he0 := cell_keep e0 hSw); (have he1 := cell_keep e1 hSw); (have ha0 := cell_keep a0 hSw); (have hy0 := cell_keep y0 hSw); (have hy1 := cell_keep y1 hSw); go_simp <;> with_reducible rfl)
      simp only [Act.put, List.setIfInBounds_toArray, List.set_cons_zero, List.set_cons_succ]
      refine wpAnyH_ready (rs := [12]) (by kernel_rfl) (by simp) ?_
      refine AllReadyH.cons rfl (fun K hK => ?_) AllReadyH.nil
      go_simp
      refine hK.out _ _ ?_ (fun hHeld => ?_)
      · exact Below.alloc (by assumption) (by assumption : Below wr.heap.size wr _).size _
      clear hK K
      try simp only [Act.put, List.setIfInBounds_toArray, List.set_cons_zero, List.set_cons_succ]
      refine wpAnyH_ready (rs := [13]) (by kernel_rfl) (by simp) ?_
      refine AllReadyH.cons rfl (fun K hK => ?_) AllReadyH.nil
      go_simp
      refine hK.out _ _ ?_ (fun hHeld => ?_)
      · exact ((Below.refl _ _).alloc (Nat.le_refl _) _).drew
      clear hK K
      try simp only [Act.put, List.setIfInBounds_toArray, List.set_cons_zero, List.set_cons_succ]
      refine wpAnyH_done (by kernel_rfl) ?_ _
      obtain ⟨W5, hW5⟩ : ∃ W5, (wr.alloc (.cells #[.string s, .bool l] 65)).drew = W5 := ⟨_, rfl⟩
      have A5 : Below wr.heap.size wr W5 := by rw [← hW5]; exact ((Below.refl _ _).alloc (Nat.le_refl _) _).drew
      have P5 : Bx W5 wr.heap.size 65 #[.string s, .bool l] := by rw [← hW5]; exact Bx.new wr _ _
      rw [hW5]
      have p0 := P5.cell 0
      have p1 := P5.cell 1
      simp at p0 p1
      have u0 := cell_keep x0 A5
      have u2 := cell_keep x2 A5
      have u3 := cell_keep x3 A5
      have ua := cell_keep a0 A5
      have own5 := owns_keep HOWN.out A5
      have EI5 := HEI.out.keep A5
      have hbw5 := EI5.b.size
      have AL : Below W5.heap.size W5 (W5.alloc (.cells #[.int .i64 2, .int .i64 num, .int .i64 life, .int .i64 peer, .int .i64 0, .int .i64 0, .int .i64 (q : Int), .bool l, .string s] 54)).drew := ((Below.refl _ _).alloc (Nat.le_refl _) _).drew
      have nX := (EI5.keep AL).x.ne (by decide) (owns_keep own5 AL)
      have nP := (P5.keep AL).ne (by decide) (owns_keep own5 AL)
      have nG := ne_row (EI5.keep AL).q (owns_keep own5 AL) (by decide)
      have HEI5 : Hid _ := EI5
      have sA5 := A5.size
      clear hW5 x0 x2 x3 a0 e0 e1 y0 y1 P5 EI5 A5
      go_wp2
      refine wp_region_held_drew (S := (fun w' => w'.cell? ⟨w2.heap.size, 0, none⟩ = some (.int .i64 num) ∧ w'.cell? ⟨w2.heap.size, 2, none⟩ = some (.int .i64 life) ∧ w'.cell? ⟨w2.heap.size, 3, none⟩ = some (.int .i64 peer) ∧ w'.cell? ⟨gq, k, none⟩ = some (.int .i64 (q : Int)) ∧ w'.cell? ⟨wr.heap.size, 1, none⟩ = some (.bool l) ∧ w'.cell? ⟨wr.heap.size, 0, none⟩ = some (.string s))) (by kernel_rfl) ?_ (fun hHeld => ?_)
      · exact ⟨u0, u2, u3, ua, p1, p0⟩
      refine takeD (i := 0) (d := some 60) (v := ?_) rfl rfl (by kernel_rfl) (by kernel_rfl) (by kernel_rfl) (fun _ _ _ h => h) (Or.inl ⟨by rfl, ?_⟩) (by assumption) ?_
      rotate_left
      · (intro w hSw; go_simp <;> with_reducible rfl)
      simp only [Act.put, List.setIfInBounds_toArray, List.set_cons_zero, List.set_cons_succ]
      refine takeD (i := 1) (d := some 61) (v := ?_) rfl rfl (by kernel_rfl) (by kernel_rfl) (by kernel_rfl) (fun _ _ _ h => h) (Or.inl ⟨by rfl, ?_⟩) (by assumption) ?_
      rotate_left
      · (intro w hSw; go_simp <;> with_reducible rfl)
      simp only [Act.put, List.setIfInBounds_toArray, List.set_cons_zero, List.set_cons_succ]
      refine takeD (i := 2) (d := some 62) (v := ?_) rfl rfl (by kernel_rfl) (by kernel_rfl) (by kernel_rfl) (fun _ _ _ h => h) (Or.inl ⟨by rfl, ?_⟩) (by assumption) ?_
      rotate_left
      · (intro w hSw; (obtain ⟨h1, h2, h3, h4, h5, h6⟩ := hSw); go_simp <;> with_reducible rfl)
      simp only [Act.put, List.setIfInBounds_toArray, List.set_cons_zero, List.set_cons_succ]
      refine takeD (i := 3) (d := some 63) (v := ?_) rfl rfl (by kernel_rfl) (by kernel_rfl) (by kernel_rfl) (fun _ _ _ h => h) (Or.inl ⟨by rfl, ?_⟩) (by assumption) ?_
      rotate_left
      · (intro w hSw; go_simp <;> with_reducible rfl)
      simp only [Act.put, List.setIfInBounds_toArray, List.set_cons_zero, List.set_cons_succ]
      refine takeD (i := 4) (d := some 64) (v := ?_) rfl rfl (by kernel_rfl) (by kernel_rfl) (by kernel_rfl) (fun _ _ _ h => h) (Or.inl ⟨by rfl, ?_⟩) (by assumption) ?_
      rotate_left
      · (intro w hSw; (obtain ⟨h1, h2, h3, h4, h5, h6⟩ := hSw); go_simp <;> with_reducible rfl)
      simp only [Act.put, List.setIfInBounds_toArray, List.set_cons_zero, List.set_cons_succ]
      refine takeD (i := 5) (d := some 65) (v := ?_) rfl rfl (by kernel_rfl) (by kernel_rfl) (by kernel_rfl) (fun _ _ _ h => h) (Or.inl ⟨by rfl, ?_⟩) (by assumption) ?_
      rotate_left
      · (intro w hSw; go_simp <;> with_reducible rfl)
      simp only [Act.put, List.setIfInBounds_toArray, List.set_cons_zero, List.set_cons_succ]
      refine takeD (i := 6) (d := some 66) (v := ?_) rfl rfl (by kernel_rfl) (by kernel_rfl) (by kernel_rfl) (fun _ _ _ h => h) (Or.inl ⟨by rfl, ?_⟩) (by assumption) ?_
      rotate_left
      · (intro w hSw; (obtain ⟨h1, h2, h3, h4, h5, h6⟩ := hSw); go_simp <;> with_reducible rfl)
      simp only [Act.put, List.setIfInBounds_toArray, List.set_cons_zero, List.set_cons_succ]
      refine takeD (i := 7) (d := some 67) (v := ?_) rfl rfl (by kernel_rfl) (by kernel_rfl) (by kernel_rfl) (fun _ _ _ h => h) (Or.inl ⟨by rfl, ?_⟩) (by assumption) ?_
      rotate_left
      · (intro w hSw; go_simp <;> with_reducible rfl)
      simp only [Act.put, List.setIfInBounds_toArray, List.set_cons_zero, List.set_cons_succ]
      refine takeD (i := 8) (d := some 68) (v := ?_) rfl rfl (by kernel_rfl) (by kernel_rfl) (by kernel_rfl) (fun _ _ _ h => h) (Or.inl ⟨by rfl, ?_⟩) (by assumption) ?_
      rotate_left
      · (intro w hSw; go_simp <;> with_reducible rfl)
      simp only [Act.put, List.setIfInBounds_toArray, List.set_cons_zero, List.set_cons_succ]
      refine takeD (i := 9) (d := some 69) (v := ?_) rfl rfl (by kernel_rfl) (by kernel_rfl) (by kernel_rfl) (fun _ _ _ h => h) (Or.inl ⟨by rfl, ?_⟩) (by assumption) ?_
      rotate_left
      · (intro w hSw; go_simp <;> with_reducible rfl)
      simp only [Act.put, List.setIfInBounds_toArray, List.set_cons_zero, List.set_cons_succ]
      refine takeD (i := 10) (d := some 70) (v := ?_) rfl rfl (by kernel_rfl) (by kernel_rfl) (by kernel_rfl) (fun _ _ _ h => h) (Or.inl ⟨by rfl, ?_⟩) (by assumption) ?_
      rotate_left
      · (intro w hSw; (obtain ⟨h1, h2, h3, h4, h5, h6⟩ := hSw); go_simp <;> with_reducible rfl)
      simp only [Act.put, List.setIfInBounds_toArray, List.set_cons_zero, List.set_cons_succ]
      refine takeD (i := 11) (d := some 71) (v := ?_) rfl rfl (by kernel_rfl) (by kernel_rfl) (by kernel_rfl) (fun _ _ _ h => h) (Or.inl ⟨by rfl, ?_⟩) (by assumption) ?_
      rotate_left
      · (intro w hSw; go_simp <;> with_reducible rfl)
      simp only [Act.put, List.setIfInBounds_toArray, List.set_cons_zero, List.set_cons_succ]
      refine takeD (i := 12) (d := some 72) (v := ?_) rfl rfl (by kernel_rfl) (by kernel_rfl) (by kernel_rfl) (fun _ _ _ h => h) (Or.inl ⟨by rfl, ?_⟩) (by assumption) ?_
      rotate_left
      · (intro w hSw; (obtain ⟨h1, h2, h3, h4, h5, h6⟩ := hSw); go_simp <;> with_reducible rfl)
      simp only [Act.put, List.setIfInBounds_toArray, List.set_cons_zero, List.set_cons_succ]
      refine takeD (i := 13) (d := some 73) (v := ?_) rfl rfl (by kernel_rfl) (by kernel_rfl) (by kernel_rfl) (fun _ _ _ h => h) (Or.inl ⟨by rfl, ?_⟩) (by assumption) ?_
      rotate_left
      · (intro w hSw; go_simp <;> with_reducible rfl)
      simp only [Act.put, List.setIfInBounds_toArray, List.set_cons_zero, List.set_cons_succ]
      refine takeD (i := 14) (d := some 74) (v := ?_) rfl rfl (by kernel_rfl) (by kernel_rfl) (by kernel_rfl) (fun _ _ _ h => h) (Or.inl ⟨by rfl, ?_⟩) (by assumption) ?_
      rotate_left
      · (intro w hSw; (obtain ⟨h1, h2, h3, h4, h5, h6⟩ := hSw); go_simp <;> with_reducible rfl)
      simp only [Act.put, List.setIfInBounds_toArray, List.set_cons_zero, List.set_cons_succ]
      refine takeD (i := 15) (d := some 75) (v := ?_) rfl rfl (by kernel_rfl) (by kernel_rfl) (by kernel_rfl) (fun _ _ _ h => h) (Or.inl ⟨by rfl, ?_⟩) (by assumption) ?_
      rotate_left
      · (intro w hSw; go_simp <;> with_reducible rfl)
      simp only [Act.put, List.setIfInBounds_toArray, List.set_cons_zero, List.set_cons_succ]
      refine wpAnyH_ready (rs := [16]) (by kernel_rfl) (by simp) ?_
      refine AllReadyH.cons rfl (fun K hK => ?_) AllReadyH.nil
      go_simp
      refine hK.out _ _ ?_ (fun hHeld => ?_)
      · exact ⟨cell_keep u0 AL, cell_keep u2 AL, cell_keep u3 AL, cell_keep ua AL, cell_keep p1 AL, cell_keep p0 AL⟩
      clear hK K
      try simp only [Act.put, List.setIfInBounds_toArray, List.set_cons_zero, List.set_cons_succ]
      refine wpAnyH_ready (rs := [17]) (by kernel_rfl) (by simp) ?_
      refine AllReadyH.cons rfl (fun K hK => ?_) AllReadyH.nil
      refine step_append_lies _ rfl _ _ 40 rfl w.heap.size 54 i0 (.agg #[.int .i64 0, .int .i64 0, .int .i64 0, .int .i64 0, .int .i64 0, .int .i64 0, .int .i64 0, .bool false, .string ⟨#[]⟩]) 9 80 Tryz.underlying40 hi hz0 hz1 hz2 rfl (by decide) (.slice a4 k c4) k _ rfl (owns_keep own5 AL) ⟨W5.heap.size, 0, none⟩ 1 1 [.int .i64 2, .int .i64 num, .int .i64 life, .int .i64 peer, .int .i64 0, .int .i64 0, .int .i64 (q : Int), .bool l, .string s] rfl rfl (pk_news W5 _ _ _ _ _ _ _ _ _) (pk_one _ _ _ _ _ _ _ _ _) (by omega) (by unfold maxLen; omega) (by omega) (Nat.le_trans hbw5 AL.size) (W5.heap.size + 1) (by simp) ?_
      intro g5 c5 w6 hown6 hgrow hat6 hlt6
      refine hK.out _ _ ?_ (fun hHeld => ?_)
      · exact ⟨farc hgrow (cell_keep u0 AL) nX, farc hgrow (cell_keep u2 AL) nX, farc hgrow (cell_keep u3 AL) nX, farc hgrow (cell_keep ua AL) nG, farc hgrow (cell_keep p1 AL) nP, farc hgrow (cell_keep p0 AL) nP⟩
      clear hK K
      try simp only [Act.put, List.setIfInBounds_toArray]
      refine takeD (i := 18) (d := some 4) (v := ?_) rfl rfl (by kernel_rfl) (by kernel_rfl) (by kernel_rfl) (fun _ _ _ h => h) (Or.inl ⟨by rfl, ?_⟩) (by assumption) ?_
      rotate_left
      · (intro w hSw; go_simp <;> with_reducible rfl)
      simp only [Act.put]
      refine wpAnyH_done (by kernel_rfl) ?_ _
      have EI6 := (HEI5.out.keep AL).grown (owns_keep own5 AL) hgrow
      have hs6 := hgrow.size
      have hal := AL.size
      clear hat6 hlt6 nX nP nG p0 p1 u0 u2 u3 ua
      go_wp2
      go_roundw
      case rel => exact ⟨k + 1, _, c5, by omega, by go_num, rfl, by rw [HT.out]; exact hown6, EI6, by omega⟩
      case measure => simp [intOf]; omega
    · obtain rfl : k = Q.length := by omega
      rw [← hPl, List.take_length] at hown
      have HOWN : Hid (wr.ownsRow w.heap.size 54 9 (.slice a4 Q.length c4) Q.length (pks P)) := (by rw [← hPl]; exact hown : wr.ownsRow w.heap.size 54 9 (.slice a4 Q.length c4) Q.length (pks P))
      clear hown HF HYT hlt hk
      (have x0 := (EI.x).cell 0); (have x1 := (EI.x).cell 1); (have x2 := (EI.x).cell 2); (have x3 := (EI.x).cell 3); (have x4 := (EI.x).cell 4); (have x5 := (EI.x).cell 5); (have x6 := (EI.x).cell 6); (have x7 := (EI.x).cell 7); (have x8 := (EI.x).cell 8); (have x9 := (EI.x).cell 9); (have x10 := (EI.x).cell 10); (have x11 := (EI.x).cell 11); simp at x0 x1 x2 x3 x4 x5 x6 x7 x8 x9 x10 x11; (have v0 := (EI.x).frozen 0); (have v1 := (EI.x).frozen 1); (have v2 := (EI.x).frozen 2); (have v3 := (EI.x).frozen 3); (have v4 := (EI.x).frozen 4); (have v5 := (EI.x).frozen 5); (have v6 := (EI.x).frozen 6); (have v7 := (EI.x).frozen 7); (have v8 := (EI.x).frozen 8); (have v9 := (EI.x).frozen 9); (have v10 := (EI.x).frozen 10); (have v11 := (EI.x).frozen 11); (have y0 := (EI.z).cell 0); (have y1 := (EI.z).cell 1); (have y2 := (EI.z).cell 2); (have y3 := (EI.z).cell 3); (have y4 := (EI.z).cell 4); (have y5 := (EI.z).cell 5); (have y6 := (EI.z).cell 6); (have y7 := (EI.z).cell 7); (have y8 := (EI.z).cell 8); (have y9 := (EI.z).cell 9); (have y10 := (EI.z).cell 10); (have y11 := (EI.z).cell 11); (have y12 := (EI.z).cell 12); (have y13 := (EI.z).cell 13); (have y14 := (EI.z).cell 14); simp at y0 y1 y2 y3 y4 y5 y6 y7 y8 y9 y10 y11 y12 y13 y14; (have u0 := (EI.z).frozen 0); (have u1 := (EI.z).frozen 1); (have u2 := (EI.z).frozen 2); (have u3 := (EI.z).frozen 3); (have u4 := (EI.z).frozen 4); (have u5 := (EI.z).frozen 5); (have u6 := (EI.z).frozen 6); (have u7 := (EI.z).frozen 7); (have u8 := (EI.z).frozen 8); (have u9 := (EI.z).frozen 9); (have u10 := (EI.z).frozen 10); (have u11 := (EI.z).frozen 11); (have u12 := (EI.z).frozen 12); (have u13 := (EI.z).frozen 13); (have u14 := (EI.z).frozen 14)
      cases owes with
      | true =>
        have HZ : Hid _ := HBW.out (.inl rfl)
        clear HBW HBN
        go_wp2_with (first | (go_at_call 23; refine (HTW.out _ a2 a3 c2 c3 ⟨owns_rs EI.h, owns_rs EI.t⟩).mono ?_; rintro x w7 ⟨rfl, hb7⟩; (have EI7 := EI.keep hb7); clear y0 u0 y1 u1 y2 u2 y3 u3 y4 u4 y5 u5 y6 u6 y7 u7 y8 u8 y9 u9 y10 u10 y11 u11 y12 u12 y13 u13 y14 u14 x0 v0 x1 v1 x2 v2 x3 v3 x4 v4 x5 v5 x6 v6 x7 v7 x8 v8 x9 v9 x10 v10 x11 v11; (have x0 := (EI7.x).cell 0); (have x1 := (EI7.x).cell 1); (have x2 := (EI7.x).cell 2); (have x3 := (EI7.x).cell 3); (have x4 := (EI7.x).cell 4); (have x5 := (EI7.x).cell 5); (have x6 := (EI7.x).cell 6); (have x7 := (EI7.x).cell 7); (have x8 := (EI7.x).cell 8); (have x9 := (EI7.x).cell 9); (have x10 := (EI7.x).cell 10); (have x11 := (EI7.x).cell 11); simp at x0 x1 x2 x3 x4 x5 x6 x7 x8 x9 x10 x11; (have v0 := (EI7.x).frozen 0); (have v1 := (EI7.x).frozen 1); (have v2 := (EI7.x).frozen 2); (have v3 := (EI7.x).frozen 3); (have v4 := (EI7.x).frozen 4); (have v5 := (EI7.x).frozen 5); (have v6 := (EI7.x).frozen 6); (have v7 := (EI7.x).frozen 7); (have v8 := (EI7.x).frozen 8); (have v9 := (EI7.x).frozen 9); (have v10 := (EI7.x).frozen 10); (have v11 := (EI7.x).frozen 11); (have y0 := (EI7.z).cell 0); (have y1 := (EI7.z).cell 1); (have y2 := (EI7.z).cell 2); (have y3 := (EI7.z).cell 3); (have y4 := (EI7.z).cell 4); (have y5 := (EI7.z).cell 5); (have y6 := (EI7.z).cell 6); (have y7 := (EI7.z).cell 7); (have y8 := (EI7.z).cell 8); (have y9 := (EI7.z).cell 9); (have y10 := (EI7.z).cell 10); (have y11 := (EI7.z).cell 11); (have y12 := (EI7.z).cell 12); (have y13 := (EI7.z).cell 13); (have y14 := (EI7.z).cell 14); simp at y0 y1 y2 y3 y4 y5 y6 y7 y8 y9 y10 y11 y12 y13 y14; (have u0 := (EI7.z).frozen 0); (have u1 := (EI7.z).frozen 1); (have u2 := (EI7.z).frozen 2); (have u3 := (EI7.z).frozen 3); (have u4 := (EI7.z).frozen 4); (have u5 := (EI7.z).frozen 5); (have u6 := (EI7.z).frozen 6); (have u7 := (EI7.z).frozen 7); (have u8 := (EI7.z).frozen 8); (have u9 := (EI7.z).frozen 9); (have u10 := (EI7.z).frozen 10); (have u11 := (EI7.z).frozen 11); (have u12 := (EI7.z).frozen 12); (have u13 := (EI7.z).frozen 13); (have u14 := (EI7.z).frozen 14)) | (at_builtin; refine wpList_append_own _ rfl _ _ 40 rfl w.heap.size 54 i0 (.agg #[.int .i64 0, .int .i64 0, .int .i64 0, .int .i64 0, .int .i64 0, .int .i64 0, .int .i64 0, .bool false, .string ⟨#[]⟩]) 9 80 Tryz.underlying40 hi hz0 hz1 hz2 rfl (by decide) _ _ _ rfl ((owns_keep HOWN.out hb7).alloc _) ⟨w7.heap.size, 0, none⟩ 1 1 [.int .i64 1, .int .i64 num, .int .i64 life, .int .i64 peer, .int .i64 (nx : Int), .int .i64 (V : Int), .int .i64 0, .bool false, .string ⟨#[]⟩] rfl rfl (pk_news _ _ _ _ _ _ _ _ _ _) (pk_one _ _ _ _ _ _ _ _ _) (by unfold maxLen; omega) (by omega) (by have := EI7.b.size; simp; omega) ?_; intro v' w8 hown' hgrow _; obtain ⟨a5, c5, rfl, _, _, _⟩ := rs_of_owns hown'; (have EI8 := EtI.grown (EI7.keep ((Below.refl _ _).alloc (Nat.le_refl _) (.cells #[.int .i64 1, .int .i64 num, .int .i64 life, .int .i64 peer, .int .i64 (nx : Int), .int .i64 (V : Int), .int .i64 0, .bool false, .string ⟨#[]⟩] 54))) ((owns_keep HOWN.out hb7).alloc (.cells #[.int .i64 1, .int .i64 num, .int .i64 life, .int .i64 peer, .int .i64 (nx : Int), .int .i64 (V : Int), .int .i64 0, .bool false, .string ⟨#[]⟩] 54)) hgrow); clear y0 u0 y1 u1 y2 u2 y3 u3 y4 u4 y5 u5 y6 u6 y7 u7 y8 u8 y9 u9 y10 u10 y11 u11 y12 u12 y13 u13 y14 u14 x0 v0 x1 v1 x2 v2 x3 v3 x4 v4 x5 v5 x6 v6 x7 v7 x8 v8 x9 v9 x10 v10 x11 v11; (have x0 := (EI8.x).cell 0); (have x1 := (EI8.x).cell 1); (have x2 := (EI8.x).cell 2); (have x3 := (EI8.x).cell 3); (have x4 := (EI8.x).cell 4); (have x5 := (EI8.x).cell 5); (have x6 := (EI8.x).cell 6); (have x7 := (EI8.x).cell 7); (have x8 := (EI8.x).cell 8); (have x9 := (EI8.x).cell 9); (have x10 := (EI8.x).cell 10); (have x11 := (EI8.x).cell 11); simp at x0 x1 x2 x3 x4 x5 x6 x7 x8 x9 x10 x11; (have v0 := (EI8.x).frozen 0); (have v1 := (EI8.x).frozen 1); (have v2 := (EI8.x).frozen 2); (have v3 := (EI8.x).frozen 3); (have v4 := (EI8.x).frozen 4); (have v5 := (EI8.x).frozen 5); (have v6 := (EI8.x).frozen 6); (have v7 := (EI8.x).frozen 7); (have v8 := (EI8.x).frozen 8); (have v9 := (EI8.x).frozen 9); (have v10 := (EI8.x).frozen 10); (have v11 := (EI8.x).frozen 11); (have y0 := (EI8.z).cell 0); (have y1 := (EI8.z).cell 1); (have y2 := (EI8.z).cell 2); (have y3 := (EI8.z).cell 3); (have y4 := (EI8.z).cell 4); (have y5 := (EI8.z).cell 5); (have y6 := (EI8.z).cell 6); (have y7 := (EI8.z).cell 7); (have y8 := (EI8.z).cell 8); (have y9 := (EI8.z).cell 9); (have y10 := (EI8.z).cell 10); (have y11 := (EI8.z).cell 11); (have y12 := (EI8.z).cell 12); (have y13 := (EI8.z).cell 13); (have y14 := (EI8.z).cell 14); simp at y0 y1 y2 y3 y4 y5 y6 y7 y8 y9 y10 y11 y12 y13 y14; (have u0 := (EI8.z).frozen 0); (have u1 := (EI8.z).frozen 1); (have u2 := (EI8.z).frozen 2); (have u3 := (EI8.z).frozen 3); (have u4 := (EI8.z).frozen 4); (have u5 := (EI8.z).frozen 5); (have u6 := (EI8.z).frozen 6); (have u7 := (EI8.z).frozen 7); (have u8 := (EI8.z).frozen 8); (have u9 := (EI8.z).frozen 9); (have u10 := (EI8.z).frozen 10); (have u11 := (EI8.z).frozen 11); (have u12 := (EI8.z).frozen 12); (have u13 := (EI8.z).frozen 13); (have u14 := (EI8.z).frozen 14)) | fail)
        have EI9 := (EI8.put 4 (.int .i64 0) (by omega) (by omega) (by omega)).put 5 (.bool false) (by omega) (by omega) (by omega)
        have own9 := ownsRow_setCell_other (ownsRow_setCell_other hown' (a := ⟨w2.heap.size, 4, none⟩) (Ne.symm (EI8.x.ne (by decide) hown')) (.int .i64 0)) (a := ⟨w2.heap.size, 5, none⟩) (Ne.symm (EI8.x.ne (by decide) hown')) (.bool false)
        have hpk : pks (P ++ [wordOf num life peer (nx : Int) V]) = pks P ++ [.int .i64 1, .int .i64 num, .int .i64 life, .int .i64 peer, .int .i64 (nx : Int), .int .i64 (V : Int), .int .i64 0, .bool false, .string ⟨#[]⟩] := by rw [pks_append]; rfl
        have hln : (P ++ [wordOf num life peer (nx : Int) V]).length = Q.length + 1 := by simp [hPl]
        have Z5 := bx15 EI9.z (.int .i64 0) (.int .i64 num) (.bool true) (.int .i64 life) (.int .i64 peer) (.int .i64 0) (.bool false) (.int .i64 (b : Int)) (.slice t1 Y.length d1) (.int .i64 (nx : Int)) (.slice a2 hs.length c2) (.string o) (.slice a3 rs.length c3) (.slice a5 (Q.length + 1) c5) (.string ⟨#[]⟩)
        have B5 := below15 EI9.b (w.heap.size + 1) (by omega) (.int .i64 0) (.int .i64 num) (.bool true) (.int .i64 life) (.int .i64 peer) (.int .i64 0) (.bool false) (.int .i64 (b : Int)) (.slice t1 Y.length d1) (.int .i64 (nx : Int)) (.slice a2 hs.length c2) (.string o) (.slice a3 rs.length c3) (.slice a5 (Q.length + 1) c5) (.string ⟨#[]⟩)
        have r1 := own15o EI9.y (w.heap.size + 1) (Ne.symm (EI9.z.ne (by decide) EI9.y)) (.int .i64 0) (.int .i64 num) (.bool true) (.int .i64 life) (.int .i64 peer) (.int .i64 0) (.bool false) (.int .i64 (b : Int)) (.slice t1 Y.length d1) (.int .i64 (nx : Int)) (.slice a2 hs.length c2) (.string o) (.slice a3 rs.length c3) (.slice a5 (Q.length + 1) c5) (.string ⟨#[]⟩)
        have r2 := own15o EI9.h (w.heap.size + 1) (Ne.symm (EI9.z.ne (by decide) EI9.h)) (.int .i64 0) (.int .i64 num) (.bool true) (.int .i64 life) (.int .i64 peer) (.int .i64 0) (.bool false) (.int .i64 (b : Int)) (.slice t1 Y.length d1) (.int .i64 (nx : Int)) (.slice a2 hs.length c2) (.string o) (.slice a3 rs.length c3) (.slice a5 (Q.length + 1) c5) (.string ⟨#[]⟩)
        have r3 := own15o EI9.t (w.heap.size + 1) (Ne.symm (EI9.z.ne (by decide) EI9.t)) (.int .i64 0) (.int .i64 num) (.bool true) (.int .i64 life) (.int .i64 peer) (.int .i64 0) (.bool false) (.int .i64 (b : Int)) (.slice t1 Y.length d1) (.int .i64 (nx : Int)) (.slice a2 hs.length c2) (.string o) (.slice a3 rs.length c3) (.slice a5 (Q.length + 1) c5) (.string ⟨#[]⟩)
        have r4 := own15o own9 (w.heap.size + 1) (Ne.symm (EI9.z.ne (by decide) own9)) (.int .i64 0) (.int .i64 num) (.bool true) (.int .i64 life) (.int .i64 peer) (.int .i64 0) (.bool false) (.int .i64 (b : Int)) (.slice t1 Y.length d1) (.int .i64 (nx : Int)) (.slice a2 hs.length c2) (.string o) (.slice a3 rs.length c3) (.slice a5 (Q.length + 1) c5) (.string ⟨#[]⟩)
        clear EI9 EI8 EI7 own9 hown' hgrow
        generalize (((((((((((((((((w8.setCell ⟨w2.heap.size, 4, none⟩ (.int .i64 0)).setCell ⟨w2.heap.size, 5, none⟩ (.bool false)).setCell ⟨w.heap.size + 1, 0, none⟩ (.int .i64 0)).setCell ⟨w.heap.size + 1, 1, none⟩ (.int .i64 num)).setCell ⟨w.heap.size + 1, 2, none⟩ (.bool true)).setCell ⟨w.heap.size + 1, 3, none⟩ (.int .i64 life)).setCell ⟨w.heap.size + 1, 4, none⟩ (.int .i64 peer)).setCell ⟨w.heap.size + 1, 5, none⟩ (.int .i64 0)).setCell ⟨w.heap.size + 1, 6, none⟩ (.bool false)).setCell ⟨w.heap.size + 1, 7, none⟩ (.int .i64 (b : Int))).setCell ⟨w.heap.size + 1, 8, none⟩ (.slice t1 Y.length d1)).setCell ⟨w.heap.size + 1, 9, none⟩ (.int .i64 (nx : Int))).setCell ⟨w.heap.size + 1, 10, none⟩ (.slice a2 hs.length c2)).setCell ⟨w.heap.size + 1, 11, none⟩ (.string o)).setCell ⟨w.heap.size + 1, 12, none⟩ (.slice a3 rs.length c3)).setCell ⟨w.heap.size + 1, 13, none⟩ (.slice a5 (Q.length + 1) c5)).setCell ⟨w.heap.size + 1, 14, none⟩ (.string ⟨#[]⟩)) = U at Z5 B5 r1 r2 r3 r4 ⊢
        obtain ⟨k0, k1, k2, k3, k4, k5, k6, k7, k8, k9, k10, k11, k12, k13, k14⟩ := Z5.cells15
        refine bodyPost_ret (v := .agg #[.int .i64 0, .int .i64 num, .bool true, .int .i64 life, .int .i64 peer, .int .i64 0, .bool false, .int .i64 (b : Int), .slice t1 Y.length d1, .int .i64 (nx : Int), .slice a2 hs.length c2, .string o, .slice a3 rs.length c3, .slice a5 (Q.length + 1) c5, .string ⟨#[]⟩]) (by simp [results, Tryz.results6, go_sem, k0, k1, k2, k3, k4, k5, k6, k7, k8, k9, k10, k11, k12, k13, k14]) rfl ?_
        rw [HZ.out.1, HZ.out.2.1, HZ.out.2.2, ← HP.out, ← HY.out, hln, hpk]
        exact ⟨⟨t1, d1, a2, c2, a3, c3, a5, c5, rfl, r1, r2, r3, r4⟩, B5⟩
      | false =>
        by_cases h6 : 6 ≤ since
        · have HZ : Hid _ := HBW.out (.inr h6)
          clear HBW HBN
          go_wp2_with (first | (go_at_call 23; refine (HTW.out _ a2 a3 c2 c3 ⟨owns_rs EI.h, owns_rs EI.t⟩).mono ?_; rintro x w7 ⟨rfl, hb7⟩; (have EI7 := EI.keep hb7); clear y0 u0 y1 u1 y2 u2 y3 u3 y4 u4 y5 u5 y6 u6 y7 u7 y8 u8 y9 u9 y10 u10 y11 u11 y12 u12 y13 u13 y14 u14 x0 v0 x1 v1 x2 v2 x3 v3 x4 v4 x5 v5 x6 v6 x7 v7 x8 v8 x9 v9 x10 v10 x11 v11; (have x0 := (EI7.x).cell 0); (have x1 := (EI7.x).cell 1); (have x2 := (EI7.x).cell 2); (have x3 := (EI7.x).cell 3); (have x4 := (EI7.x).cell 4); (have x5 := (EI7.x).cell 5); (have x6 := (EI7.x).cell 6); (have x7 := (EI7.x).cell 7); (have x8 := (EI7.x).cell 8); (have x9 := (EI7.x).cell 9); (have x10 := (EI7.x).cell 10); (have x11 := (EI7.x).cell 11); simp at x0 x1 x2 x3 x4 x5 x6 x7 x8 x9 x10 x11; (have v0 := (EI7.x).frozen 0); (have v1 := (EI7.x).frozen 1); (have v2 := (EI7.x).frozen 2); (have v3 := (EI7.x).frozen 3); (have v4 := (EI7.x).frozen 4); (have v5 := (EI7.x).frozen 5); (have v6 := (EI7.x).frozen 6); (have v7 := (EI7.x).frozen 7); (have v8 := (EI7.x).frozen 8); (have v9 := (EI7.x).frozen 9); (have v10 := (EI7.x).frozen 10); (have v11 := (EI7.x).frozen 11); (have y0 := (EI7.z).cell 0); (have y1 := (EI7.z).cell 1); (have y2 := (EI7.z).cell 2); (have y3 := (EI7.z).cell 3); (have y4 := (EI7.z).cell 4); (have y5 := (EI7.z).cell 5); (have y6 := (EI7.z).cell 6); (have y7 := (EI7.z).cell 7); (have y8 := (EI7.z).cell 8); (have y9 := (EI7.z).cell 9); (have y10 := (EI7.z).cell 10); (have y11 := (EI7.z).cell 11); (have y12 := (EI7.z).cell 12); (have y13 := (EI7.z).cell 13); (have y14 := (EI7.z).cell 14); simp at y0 y1 y2 y3 y4 y5 y6 y7 y8 y9 y10 y11 y12 y13 y14; (have u0 := (EI7.z).frozen 0); (have u1 := (EI7.z).frozen 1); (have u2 := (EI7.z).frozen 2); (have u3 := (EI7.z).frozen 3); (have u4 := (EI7.z).frozen 4); (have u5 := (EI7.z).frozen 5); (have u6 := (EI7.z).frozen 6); (have u7 := (EI7.z).frozen 7); (have u8 := (EI7.z).frozen 8); (have u9 := (EI7.z).frozen 9); (have u10 := (EI7.z).frozen 10); (have u11 := (EI7.z).frozen 11); (have u12 := (EI7.z).frozen 12); (have u13 := (EI7.z).frozen 13); (have u14 := (EI7.z).frozen 14)) | (at_builtin; refine wpList_append_own _ rfl _ _ 40 rfl w.heap.size 54 i0 (.agg #[.int .i64 0, .int .i64 0, .int .i64 0, .int .i64 0, .int .i64 0, .int .i64 0, .int .i64 0, .bool false, .string ⟨#[]⟩]) 9 80 Tryz.underlying40 hi hz0 hz1 hz2 rfl (by decide) _ _ _ rfl ((owns_keep HOWN.out hb7).alloc _) ⟨w7.heap.size, 0, none⟩ 1 1 [.int .i64 1, .int .i64 num, .int .i64 life, .int .i64 peer, .int .i64 (nx : Int), .int .i64 (V : Int), .int .i64 0, .bool false, .string ⟨#[]⟩] rfl rfl (pk_news _ _ _ _ _ _ _ _ _ _) (pk_one _ _ _ _ _ _ _ _ _) (by unfold maxLen; omega) (by omega) (by have := EI7.b.size; simp; omega) ?_; intro v' w8 hown' hgrow _; obtain ⟨a5, c5, rfl, _, _, _⟩ := rs_of_owns hown'; (have EI8 := EtI.grown (EI7.keep ((Below.refl _ _).alloc (Nat.le_refl _) (.cells #[.int .i64 1, .int .i64 num, .int .i64 life, .int .i64 peer, .int .i64 (nx : Int), .int .i64 (V : Int), .int .i64 0, .bool false, .string ⟨#[]⟩] 54))) ((owns_keep HOWN.out hb7).alloc (.cells #[.int .i64 1, .int .i64 num, .int .i64 life, .int .i64 peer, .int .i64 (nx : Int), .int .i64 (V : Int), .int .i64 0, .bool false, .string ⟨#[]⟩] 54)) hgrow); clear y0 u0 y1 u1 y2 u2 y3 u3 y4 u4 y5 u5 y6 u6 y7 u7 y8 u8 y9 u9 y10 u10 y11 u11 y12 u12 y13 u13 y14 u14 x0 v0 x1 v1 x2 v2 x3 v3 x4 v4 x5 v5 x6 v6 x7 v7 x8 v8 x9 v9 x10 v10 x11 v11; (have x0 := (EI8.x).cell 0); (have x1 := (EI8.x).cell 1); (have x2 := (EI8.x).cell 2); (have x3 := (EI8.x).cell 3); (have x4 := (EI8.x).cell 4); (have x5 := (EI8.x).cell 5); (have x6 := (EI8.x).cell 6); (have x7 := (EI8.x).cell 7); (have x8 := (EI8.x).cell 8); (have x9 := (EI8.x).cell 9); (have x10 := (EI8.x).cell 10); (have x11 := (EI8.x).cell 11); simp at x0 x1 x2 x3 x4 x5 x6 x7 x8 x9 x10 x11; (have v0 := (EI8.x).frozen 0); (have v1 := (EI8.x).frozen 1); (have v2 := (EI8.x).frozen 2); (have v3 := (EI8.x).frozen 3); (have v4 := (EI8.x).frozen 4); (have v5 := (EI8.x).frozen 5); (have v6 := (EI8.x).frozen 6); (have v7 := (EI8.x).frozen 7); (have v8 := (EI8.x).frozen 8); (have v9 := (EI8.x).frozen 9); (have v10 := (EI8.x).frozen 10); (have v11 := (EI8.x).frozen 11); (have y0 := (EI8.z).cell 0); (have y1 := (EI8.z).cell 1); (have y2 := (EI8.z).cell 2); (have y3 := (EI8.z).cell 3); (have y4 := (EI8.z).cell 4); (have y5 := (EI8.z).cell 5); (have y6 := (EI8.z).cell 6); (have y7 := (EI8.z).cell 7); (have y8 := (EI8.z).cell 8); (have y9 := (EI8.z).cell 9); (have y10 := (EI8.z).cell 10); (have y11 := (EI8.z).cell 11); (have y12 := (EI8.z).cell 12); (have y13 := (EI8.z).cell 13); (have y14 := (EI8.z).cell 14); simp at y0 y1 y2 y3 y4 y5 y6 y7 y8 y9 y10 y11 y12 y13 y14; (have u0 := (EI8.z).frozen 0); (have u1 := (EI8.z).frozen 1); (have u2 := (EI8.z).frozen 2); (have u3 := (EI8.z).frozen 3); (have u4 := (EI8.z).frozen 4); (have u5 := (EI8.z).frozen 5); (have u6 := (EI8.z).frozen 6); (have u7 := (EI8.z).frozen 7); (have u8 := (EI8.z).frozen 8); (have u9 := (EI8.z).frozen 9); (have u10 := (EI8.z).frozen 10); (have u11 := (EI8.z).frozen 11); (have u12 := (EI8.z).frozen 12); (have u13 := (EI8.z).frozen 13); (have u14 := (EI8.z).frozen 14)) | fail)
          have EI9 := (EI8.put 4 (.int .i64 0) (by omega) (by omega) (by omega)).put 5 (.bool false) (by omega) (by omega) (by omega)
          have own9 := ownsRow_setCell_other (ownsRow_setCell_other hown' (a := ⟨w2.heap.size, 4, none⟩) (Ne.symm (EI8.x.ne (by decide) hown')) (.int .i64 0)) (a := ⟨w2.heap.size, 5, none⟩) (Ne.symm (EI8.x.ne (by decide) hown')) (.bool false)
          have hpk : pks (P ++ [wordOf num life peer (nx : Int) V]) = pks P ++ [.int .i64 1, .int .i64 num, .int .i64 life, .int .i64 peer, .int .i64 (nx : Int), .int .i64 (V : Int), .int .i64 0, .bool false, .string ⟨#[]⟩] := by rw [pks_append]; rfl
          have hln : (P ++ [wordOf num life peer (nx : Int) V]).length = Q.length + 1 := by simp [hPl]
          have Z5 := bx15 EI9.z (.int .i64 0) (.int .i64 num) (.bool true) (.int .i64 life) (.int .i64 peer) (.int .i64 0) (.bool false) (.int .i64 (b : Int)) (.slice t1 Y.length d1) (.int .i64 (nx : Int)) (.slice a2 hs.length c2) (.string o) (.slice a3 rs.length c3) (.slice a5 (Q.length + 1) c5) (.string ⟨#[]⟩)
          have B5 := below15 EI9.b (w.heap.size + 1) (by omega) (.int .i64 0) (.int .i64 num) (.bool true) (.int .i64 life) (.int .i64 peer) (.int .i64 0) (.bool false) (.int .i64 (b : Int)) (.slice t1 Y.length d1) (.int .i64 (nx : Int)) (.slice a2 hs.length c2) (.string o) (.slice a3 rs.length c3) (.slice a5 (Q.length + 1) c5) (.string ⟨#[]⟩)
          have r1 := own15o EI9.y (w.heap.size + 1) (Ne.symm (EI9.z.ne (by decide) EI9.y)) (.int .i64 0) (.int .i64 num) (.bool true) (.int .i64 life) (.int .i64 peer) (.int .i64 0) (.bool false) (.int .i64 (b : Int)) (.slice t1 Y.length d1) (.int .i64 (nx : Int)) (.slice a2 hs.length c2) (.string o) (.slice a3 rs.length c3) (.slice a5 (Q.length + 1) c5) (.string ⟨#[]⟩)
          have r2 := own15o EI9.h (w.heap.size + 1) (Ne.symm (EI9.z.ne (by decide) EI9.h)) (.int .i64 0) (.int .i64 num) (.bool true) (.int .i64 life) (.int .i64 peer) (.int .i64 0) (.bool false) (.int .i64 (b : Int)) (.slice t1 Y.length d1) (.int .i64 (nx : Int)) (.slice a2 hs.length c2) (.string o) (.slice a3 rs.length c3) (.slice a5 (Q.length + 1) c5) (.string ⟨#[]⟩)
          have r3 := own15o EI9.t (w.heap.size + 1) (Ne.symm (EI9.z.ne (by decide) EI9.t)) (.int .i64 0) (.int .i64 num) (.bool true) (.int .i64 life) (.int .i64 peer) (.int .i64 0) (.bool false) (.int .i64 (b : Int)) (.slice t1 Y.length d1) (.int .i64 (nx : Int)) (.slice a2 hs.length c2) (.string o) (.slice a3 rs.length c3) (.slice a5 (Q.length + 1) c5) (.string ⟨#[]⟩)
          have r4 := own15o own9 (w.heap.size + 1) (Ne.symm (EI9.z.ne (by decide) own9)) (.int .i64 0) (.int .i64 num) (.bool true) (.int .i64 life) (.int .i64 peer) (.int .i64 0) (.bool false) (.int .i64 (b : Int)) (.slice t1 Y.length d1) (.int .i64 (nx : Int)) (.slice a2 hs.length c2) (.string o) (.slice a3 rs.length c3) (.slice a5 (Q.length + 1) c5) (.string ⟨#[]⟩)
          clear EI9 EI8 EI7 own9 hown' hgrow
          generalize (((((((((((((((((w8.setCell ⟨w2.heap.size, 4, none⟩ (.int .i64 0)).setCell ⟨w2.heap.size, 5, none⟩ (.bool false)).setCell ⟨w.heap.size + 1, 0, none⟩ (.int .i64 0)).setCell ⟨w.heap.size + 1, 1, none⟩ (.int .i64 num)).setCell ⟨w.heap.size + 1, 2, none⟩ (.bool true)).setCell ⟨w.heap.size + 1, 3, none⟩ (.int .i64 life)).setCell ⟨w.heap.size + 1, 4, none⟩ (.int .i64 peer)).setCell ⟨w.heap.size + 1, 5, none⟩ (.int .i64 0)).setCell ⟨w.heap.size + 1, 6, none⟩ (.bool false)).setCell ⟨w.heap.size + 1, 7, none⟩ (.int .i64 (b : Int))).setCell ⟨w.heap.size + 1, 8, none⟩ (.slice t1 Y.length d1)).setCell ⟨w.heap.size + 1, 9, none⟩ (.int .i64 (nx : Int))).setCell ⟨w.heap.size + 1, 10, none⟩ (.slice a2 hs.length c2)).setCell ⟨w.heap.size + 1, 11, none⟩ (.string o)).setCell ⟨w.heap.size + 1, 12, none⟩ (.slice a3 rs.length c3)).setCell ⟨w.heap.size + 1, 13, none⟩ (.slice a5 (Q.length + 1) c5)).setCell ⟨w.heap.size + 1, 14, none⟩ (.string ⟨#[]⟩)) = U at Z5 B5 r1 r2 r3 r4 ⊢
          obtain ⟨k0, k1, k2, k3, k4, k5, k6, k7, k8, k9, k10, k11, k12, k13, k14⟩ := Z5.cells15
          refine bodyPost_ret (v := .agg #[.int .i64 0, .int .i64 num, .bool true, .int .i64 life, .int .i64 peer, .int .i64 0, .bool false, .int .i64 (b : Int), .slice t1 Y.length d1, .int .i64 (nx : Int), .slice a2 hs.length c2, .string o, .slice a3 rs.length c3, .slice a5 (Q.length + 1) c5, .string ⟨#[]⟩]) (by simp [results, Tryz.results6, go_sem, k0, k1, k2, k3, k4, k5, k6, k7, k8, k9, k10, k11, k12, k13, k14]) rfl ?_
          rw [HZ.out.1, HZ.out.2.1, HZ.out.2.2, ← HP.out, ← HY.out, hln, hpk]
          exact ⟨⟨t1, d1, a2, c2, a3, c3, a5, c5, rfl, r1, r2, r3, r4⟩, B5⟩
        · exfalso; omega
end Go.Proofs.YtfjedpnagnnobaaGreat.mk
