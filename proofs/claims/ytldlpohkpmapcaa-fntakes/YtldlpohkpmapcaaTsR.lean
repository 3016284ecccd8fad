/-
  PARTS TAKEN IN WHATEVER ORDER: the law's region with two appends.
-/
import Derived.Test.YtldlpohkpmapcaaTsB
import Derived.Test.YtldlpohkpmapcaaBase
namespace Go.Proofs.Ytldlpohkpmapcaa.mk.f
open Go.RowKit
set_option linter.unusedVariables false

noncomputable def ops26 : Array Oper := match Try.f3.body with
  | some (.seq _ (.seq _ (.seq _ (.seq _ (.seq _ (.seq _ (.seq _ (.seq (.seq _ (.block _ (.loop (.seq _ (.seq (.block _ (.seq _ (.seq _ (.seq _ (.seq _ (.seq _ (.seq _ (.seq _ (.seq (.region _ o _) _))))))))) _))))) _)))))))) => o
  | _ => #[]
theorem ops26_size : ops26.size = 9 := by kernel_rfl
theorem ss_one (xs : List ByteArray) : ∀ u ∈ ss xs, u.oneCell' = true := by
  intro u hu
  unfold ss at hu
  obtain ⟨s, _, rfl⟩ := List.mem_map.1 hu
  rfl
theorem rr_news {w : World} {ao : Option Addr} {xs : List ByteArray} (h : Rr w ao xs.length (ss xs)) : ∀ ad, ao = some ad → ∀ j u, (ss xs)[j]? = some u → w.cell? (ad.add j) = some u := by
  rintro ad rfl j u hj
  have hl : j < (ss xs).length := (List.getElem?_eq_some_iff.1 hj).1
  rcases h.ex with e | ⟨g, k, e, hg, hc⟩
  · rw [ss_length] at hl; omega
  · cases e
    have := hc j hl
    rw [hj] at this
    rw [show (⟨g, k, none⟩ : Addr).add j = ⟨g, k + j, none⟩ by unfold Addr.add; split <;> simp_all]
    exact this
set_option maxRecDepth 100000 in
set_option maxHeartbeats 1000000 in
theorem region26 (w1 w : World) (y gc m d1 d2 wc : Nat) (ga a1 a2 wo : Option Addr) (got ts M : List ByteArray) (zs : List Hd) (o2 : ByteArray) (u0 u1 u2 u3 u4 u5 u7 u8 u9 u10 u11 u14 u15 u16 u17 u18 u19 u20 u21 u22 u23 u24 u25 u26 u27 u28 u29 u30 u31 u32 u33 u34 u35 u36 u37 u38 u39 u40 u41 u42 u43 u44 u45 u46 u47 u48 u49 u50 u51 u52 u53 u54 u55 u56 u57 u58 u59 u60 u61 u62 u63 u64 u65 u66 u67 u68 u69 u70 u71 u72 u73 u74 u75 u76 u77 u78 u79 u80 u81 u82 u83 u84 u85 u86 u87 u88 u89 u90 u91 u92 u93 u94 u95 u96 u97 u98 u99 u100 u101 u102 u103 u104 u105 u106 u107 u108 u109 u110 u111 u112 u113 u114 u115 u116 u117 u118 u119 u120 u121 u122 u123 u124 u125 u126 u127 u128 u129 u130 u131 u132 u133 u134 u135 u136 u137 u138 u139 u140 u141 u142 u143 u144 u145 u146 u147 u148 u149 u150 u151 u152 u153 u154 u155 u156 u157 u158 u159 u160 u161 u162 u163 u164 u165 u166 u167 u168 u169 u170 u171 u172 u173 u174 u175 u176 u177 u178 u179 u180 : Value) (hL : Lt w1 w y (.slice ga got.length gc) got m zs o2 ts a1 d1 a2 d2) (hW : Rr w wo M.length (ss M)) (hpre : got ++ ts <+: M) (hM : M.length ≤ 1000) (hwc : M.length ≤ wc) (hwm : wc ≤ 9223372036854775807) :
    (Code.region 26 ops26 true).wp Try.prog (fun x a w' => match x with
      | .normal => ∃ (v122 v123 v124 v125 v126 v127 v128 v129 v130 : Value), a = ⟨#[u0, u1, u2, u3, u4, u5, .slice wo M.length wc, u7, u8, u9, u10, u11, .pointer (some ⟨y, 0, none⟩), .slice ga got.length gc, u14, u15, u16, u17, u18, u19, u20, u21, u22, u23, u24, u25, u26, u27, u28, u29, u30, u31, u32, u33, u34, u35, u36, u37, u38, u39, u40, u41, u42, u43, u44, u45, u46, u47, u48, u49, u50, u51, u52, u53, u54, u55, u56, u57, u58, u59, u60, u61, u62, u63, u64, u65, u66, u67, u68, u69, u70, u71, u72, u73, u74, u75, u76, u77, u78, u79, u80, u81, u82, u83, u84, u85, u86, u87, u88, u89, u90, u91, u92, u93, u94, u95, u96, u97, u98, u99, u100, u101, u102, u103, u104, u105, u106, u107, u108, u109, u110, u111, u112, u113, u114, u115, u116, u117, u118, u119, u120, u121, v122, v123, v124, v125, v126, v127, v128, v129, v130, u131, u132, u133, u134, u135, u136, u137, u138, u139, u140, u141, u142, u143, u144, u145, u146, u147, u148, u149, u150, u151, u152, u153, u154, u155, u156, u157, u158, u159, u160, u161, u162, u163, u164, u165, u166, u167, u168, u169, u170, u171, u172, u173, u174, u175, u176, u177, u178, u179, u180], []⟩ ∧ v130 = .bool false ∧ Below w.heap.size w w'
      | _ => False) ⟨#[u0, u1, u2, u3, u4, u5, .slice wo M.length wc, u7, u8, u9, u10, u11, .pointer (some ⟨y, 0, none⟩), .slice ga got.length gc, u14, u15, u16, u17, u18, u19, u20, u21, u22, u23, u24, u25, u26, u27, u28, u29, u30, u31, u32, u33, u34, u35, u36, u37, u38, u39, u40, u41, u42, u43, u44, u45, u46, u47, u48, u49, u50, u51, u52, u53, u54, u55, u56, u57, u58, u59, u60, u61, u62, u63, u64, u65, u66, u67, u68, u69, u70, u71, u72, u73, u74, u75, u76, u77, u78, u79, u80, u81, u82, u83, u84, u85, u86, u87, u88, u89, u90, u91, u92, u93, u94, u95, u96, u97, u98, u99, u100, u101, u102, u103, u104, u105, u106, u107, u108, u109, u110, u111, u112, u113, u114, u115, u116, u117, u118, u119, u120, u121, u122, u123, u124, u125, u126, u127, u128, u129, u130, u131, u132, u133, u134, u135, u136, u137, u138, u139, u140, u141, u142, u143, u144, u145, u146, u147, u148, u149, u150, u151, u152, u153, u154, u155, u156, u157, u158, u159, u160, u161, u162, u163, u164, u165, u166, u167, u168, u169, u170, u171, u172, u173, u174, u175, u176, u177, u178, u179, u180], []⟩ w := by
  unfold ops26 Try.f3
  dsimp only
  obtain ⟨i0, hi, hz0, hz1, hz2⟩ := info_parts info_str
  have hgt : got.length + ts.length ≤ 1000 := by have := hpre.length_le; rw [List.length_append] at this; omega
  obtain ⟨ga', gc', eg, hgc, hgm, hgr⟩ := rs_of_owns hL.got
  cases eg
  have hgn : ga = none → got.length = 0 ∧ gc = 0 := by
    rintro rfl
    rcases hL.got.2 with ⟨e, h0⟩ | ⟨g, c, cur, e, _⟩
    · injection e with _ e2 e3
      exact ⟨e2, e3⟩
    · cases e
  have htn : a2 = none → ts.length = 0 ∧ d2 = 0 := by
    rintro rfl
    rcases hL.ready with ⟨e, h0, _⟩ | ⟨g, k, c, pre, tot, _, _, e, _⟩
    · injection e with _ e2 e3
      exact ⟨e2, e3⟩
    · cases e
  have p3 := hL.cells.2.2.2.1
  have ly := hL.cells.2.2.2.2.2.2.2.2
  refine wp_region_held_drew (S := (fun u => u.cell? ⟨y, 3, none⟩ = some (.slice a2 ts.length d2))) (by kernel_rfl) ?_ (fun hHeld => ?_)
  · exact p3
  refine tkF 1 (some 123) ?_
  refine tkF 3 (some 125) ?_
  refine tkE 4 (some 126) ?_ ?_ ?_
  rotate_left
  · (intro w hSw; (have hSw2 : w.cell? ⟨y, 3, none⟩ = some (.slice a2 ts.length d2) := hSw); go_simp <;> with_reducible rfl)
  refine tkF 6 (some 128) ?_
  refine wpAnyH_ready (rs := [0]) (by kernel_rfl) (by simp) ?_
  refine AllReadyH.cons rfl (fun K hK => ?_) AllReadyH.nil
  go_simp
  refine hK.out _ _ ?_ (fun hHeld => ?_)
  · exact (hL.alloc _).drew.cells.2.2.2.1
  clear hK K
  try simp only [Act.put, List.setIfInBounds_toArray, List.set_cons_zero, List.set_cons_succ]
  have own0 := World.ownsRow.drew (World.ownsRow_lit (base := w.heap.size) (e := 9) (size := 1) w #[] 0 (Nat.le_refl _) (Nat.zero_le _) rfl)
  have b1 : Below w.heap.size w (w.alloc (.cells #[] 9)).drew := ((Below.refl _ _).alloc (Nat.le_refl _) _).drew
  refine wpAnyH_ready (rs := [2]) (by kernel_rfl) (by simp) ?_
  refine AllReadyH.cons rfl (fun K hK => ?_) AllReadyH.nil
  refine step_append_any _ rfl _ _ 25 rfl w.heap.size 9 i0 (.string ⟨#[]⟩) 1 16 Try.underlying25 hi hz0 hz1 hz2 rfl (by decide) (.slice (some ⟨w.heap.size, 0, none⟩) 0 0) 0 [] rfl own0 ga got.length gc (ss got) rfl (by rw [ss_length]; omega) hgn (rr_news (hgr.rr.keep b1)) (ss_one got) (by unfold maxLen; omega) (by omega) b1.size ?_
  intro v3 w3 hown3 hg3
  obtain ⟨a3, c3, rfl, _, _, _⟩ := rs_of_owns hown3
  have b3 : Below w.heap.size w w3 := b1.grown hg3 b1.size (fun k hk => by simp [Value.ownBlock] at hk; omega)
  refine hK.out _ _ ?_ (fun hHeld => ?_)
  · exact (hL.keep b3).cells.2.2.2.1
  clear hK K
  try simp only [Act.put, List.setIfInBounds_toArray]
  refine wpAnyH_ready (rs := [5]) (by kernel_rfl) (by simp) ?_
  refine AllReadyH.cons rfl (fun K hK => ?_) AllReadyH.nil
  refine step_append_any _ rfl _ _ 25 rfl w.heap.size 9 i0 (.string ⟨#[]⟩) 1 16 Try.underlying25 hi hz0 hz1 hz2 rfl (by decide) (.slice a3 (0 + got.length) c3) (0 + got.length) ([] ++ ss got) rfl hown3 a2 ts.length d2 (ss ts) rfl (by rw [ss_length]; omega) htn (rr_news (hL.keep b3).ready.rr) (ss_one ts) (by unfold maxLen; omega) (by omega) b3.size ?_
  intro v5 w5 hown5 hg5
  obtain ⟨a5, c5, rfl, _, _, hr5⟩ := rs_of_owns hown5
  have b5 : Below w.heap.size w w5 := b3.grown hg5 b3.size (fun k hk => (hown3.lt k hk).1)
  refine hK.out _ _ ?_ (fun hHeld => ?_)
  · exact (hL.keep b5).cells.2.2.2.1
  clear hK K
  try simp only [Act.put]
  have e5 : 0 + got.length + ts.length = (got ++ ts).length := by simp
  have hr6 : Rr w5 a5 (got ++ ts).length (ss (got ++ ts)) := by
    have := hr5.rr
    rw [e5, List.nil_append, ← ss_append] at this
    exact this
  have HWB : Hid (Calls Try.prog 11 #[.slice a5 (got.length + ts.length) c5, .slice wo M.length wc] w5 fun e w' => e = .returned (.bool true) ∧ Below w5.heap.size w5 w') := (by rw [← List.length_append]; exact wBegins_yes a5 wo c5 wc (got ++ ts) M w5 (by omega) hwc hwm hpre hr6 (hW.keep b5))
  refine wpAnyH_ready (rs := [7]) (by kernel_rfl) (by simp) ?_
  refine AllReadyH.cons rfl (fun K hK => ?_) AllReadyH.nil
  clear e5 hr6 hr5 hown5 hown3 hg3 hg5 own0
  go_simp
  refine HWB.out.mono ?_
  rintro e w7 ⟨rfl, hb7⟩
  go_wp2_with fail
  refine hK.out _ _ ?_ (fun hHeld => ?_)
  · exact ((hL.keep b5).keep hb7).cells.2.2.2.1
  clear hK K
  try simp only [Act.put, List.setIfInBounds_toArray, List.set_cons_zero, List.set_cons_succ]
  refine tkF 8 (some 130) ?_
  refine wpAnyH_done (by kernel_rfl) ?_ _
  exact ⟨_, _, _, _, _, _, _, _, _, rfl, rfl, kb b5 hb7 (Nat.le_refl _)⟩
end Go.Proofs.Ytldlpohkpmapcaa.mk.f
