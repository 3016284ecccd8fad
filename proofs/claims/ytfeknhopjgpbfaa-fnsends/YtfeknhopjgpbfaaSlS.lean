/-
  TWELVE TICKS: the law's region with guards.
-/
import Derived.Test.YtfeknhopjgpbfaaSlR
namespace Go.Proofs.Ytfeknhopjgpbfaa.mk
open Go.RowKit
set_option linter.unusedVariables false

set_option maxRecDepth 100000 in
set_option maxHeartbeats 8000000 in
theorem region22_yes (y6 g g3 n n3 c c3 p r : Nat) (d e : Int) (w : World) (u0 u1 u2 u3 u4 u5 u7 u8 u9 u10 u11 u12 u16 u17 u18 u19 u20 u21 u22 u23 u24 u25 u26 u27 u28 u29 u30 u31 u32 u33 u34 u35 u36 u37 u38 u39 u40 u41 u42 u43 u44 u45 u46 u47 u48 u49 u50 u51 u52 u53 u54 u55 u56 u57 u58 u59 u60 u61 u62 u63 u64 u65 u66 u67 u68 u69 u70 u71 u72 u73 u74 u75 u76 u77 u78 u79 u80 u81 u82 u83 u84 u85 u86 u87 u88 u89 u90 u91 u92 u93 u94 u95 u96 u97 u98 u99 u100 u101 u102 u103 u104 u105 u106 u107 u108 u109 u110 u111 u112 u113 u114 u115 u116 u117 u118 u119 u120 u121 u122 u123 u124 u125 u126 u127 u128 u129 u130 u131 u132 u133 u134 u135 u136 u137 u138 u139 u140 u141 u142 u143 u144 u145 u146 u147 u148 u149 u150 u151 u152 u153 u154 u155 u156 u157 u158 u159 u160 u161 u162 u163 u164 u165 u166 u167 u168 u169 u170 u171 u172 u173 u174 u175 u176 u177 u178 u179 u180 u181 u182 u183 u184 u185 u186 u187 u188 u189 u190 : Value) (hp8 : p < 8) (hpn : p < n) (hr : r + 1 < n3) (hn3 : n3 ≤ 100) (hde : d < e) (x3 : w.cell? ⟨g3, r, none⟩ = some (.int .i64 d)) (x4 : w.cell? ⟨g3, r + 1, none⟩ = some (.int .i64 e)) (x1 : w.cell? ⟨y6, 1, none⟩ = some (.slice (some ⟨g, 0, none⟩) n c)) (x2 : w.cell? ⟨g, p * 4 + 2, none⟩ = some (.bool false)) :
    (Code.region 22 ops22 true).wp Try.prog (fun x a w' => match x with
      | .normal => ∃ (v102 v103 v104 v105 v106 v107 v108 v109 v110 v111 v112 v113 v114 v115 v116 v117 v118 v119 v120 v121 v122 v123 v124 v125 v126 v127 v128 v129 v130 v131 v132 v133 v134 v135 v136 v137 v138 : Value), a = ⟨#[u0, u1, u2, u3, u4, u5, .pointer (some ⟨y6, 0, none⟩), u7, u8, u9, u10, u11, u12, .slice (some ⟨g3, 0, none⟩) n3 c3, .int .i64 ((r : Int) + 1), .int .i64 (p : Int), u16, u17, u18, u19, u20, u21, u22, u23, u24, u25, u26, u27, u28, u29, u30, u31, u32, u33, u34, u35, u36, u37, u38, u39, u40, u41, u42, u43, u44, u45, u46, u47, u48, u49, u50, u51, u52, u53, u54, u55, u56, u57, u58, u59, u60, u61, u62, u63, u64, u65, u66, u67, u68, u69, u70, u71, u72, u73, u74, u75, u76, u77, u78, u79, u80, u81, u82, u83, u84, u85, u86, u87, u88, u89, u90, u91, u92, u93, u94, u95, u96, u97, u98, u99, u100, u101, v102, v103, v104, v105, v106, v107, v108, v109, v110, v111, v112, v113, v114, v115, v116, v117, v118, v119, v120, v121, v122, v123, v124, v125, v126, v127, v128, v129, v130, v131, v132, v133, v134, v135, v136, v137, v138, u139, u140, u141, u142, u143, u144, u145, u146, u147, u148, u149, u150, u151, u152, u153, u154, u155, u156, u157, u158, u159, u160, u161, u162, u163, u164, u165, u166, u167, u168, u169, u170, u171, u172, u173, u174, u175, u176, u177, u178, u179, u180, u181, u182, u183, u184, u185, u186, u187, u188, u189, u190], []⟩ ∧ v138 = .bool false ∧ w' = w.drew
      | _ => False) ⟨#[u0, u1, u2, u3, u4, u5, .pointer (some ⟨y6, 0, none⟩), u7, u8, u9, u10, u11, u12, .slice (some ⟨g3, 0, none⟩) n3 c3, .int .i64 ((r : Int) + 1), .int .i64 (p : Int), u16, u17, u18, u19, u20, u21, u22, u23, u24, u25, u26, u27, u28, u29, u30, u31, u32, u33, u34, u35, u36, u37, u38, u39, u40, u41, u42, u43, u44, u45, u46, u47, u48, u49, u50, u51, u52, u53, u54, u55, u56, u57, u58, u59, u60, u61, u62, u63, u64, u65, u66, u67, u68, u69, u70, u71, u72, u73, u74, u75, u76, u77, u78, u79, u80, u81, u82, u83, u84, u85, u86, u87, u88, u89, u90, u91, u92, u93, u94, u95, u96, u97, u98, u99, u100, u101, u102, u103, u104, u105, u106, u107, u108, u109, u110, u111, u112, u113, u114, u115, u116, u117, u118, u119, u120, u121, u122, u123, u124, u125, u126, u127, u128, u129, u130, u131, u132, u133, u134, u135, u136, u137, u138, u139, u140, u141, u142, u143, u144, u145, u146, u147, u148, u149, u150, u151, u152, u153, u154, u155, u156, u157, u158, u159, u160, u161, u162, u163, u164, u165, u166, u167, u168, u169, u170, u171, u172, u173, u174, u175, u176, u177, u178, u179, u180, u181, u182, u183, u184, u185, u186, u187, u188, u189, u190], []⟩ w := by
  unfold ops22 Try.f3
  dsimp only
  have hpn0 : ¬ ((p : Int) < 0) := by omega
  have hpn8 : ¬ (8 ≤ (p : Int)) := by omega
  have hpnl : ¬ ((n : Int) ≤ (p : Int)) := by omega
  have hpl : (p : Int) < (n : Int) := by omega
  have hrn : (r : Int) < (n3 : Int) := by omega
  have hrn1 : (r : Int) + 1 < (n3 : Int) := by omega
  have hr0 : (0 : Int) < (r : Int) + 1 := by omega
  have hr00 : (r : Int) + 1 > 0 := by omega
  have hr01 : (0 : Int) ≤ (r : Int) + 1 := by omega
  have hw3 : IntKind.i64.wrap ((r : Int) + 1 - 1) = (r : Int) := by rw [IntKind.wrap_i64]; omega
  have hw4 : IntKind.i64.wrap (r : Int) = (r : Int) := by rw [IntKind.wrap_i64]; omega
  have htn : ((r : Int) + 1).toNat = r + 1 := by omega
  have hne : ¬ (e ≤ d) := by omega
  refine wp_region_held_drew (S := (fun u => u.cell? ⟨y6, 1, none⟩ = some (.slice (some ⟨g, 0, none⟩) n c) ∧ u.cell? ⟨g, p * 4 + 2, none⟩ = some (.bool false) ∧ u.cell? ⟨g3, r, none⟩ = some (.int .i64 d) ∧ u.cell? ⟨g3, r + 1, none⟩ = some (.int .i64 e))) (by kernel_rfl) ?_ (fun hHeld => ?_)
  · exact ⟨x1, x2, x3, x4⟩
  refine tkF 0 (some 102) ?_
  refine tkF 1 (some 103) ?_
  refine tkF 2 (some 104) ?_
  refine tkF 3 (some 105) ?_
  refine tkF 4 (some 106) ?_
  refine tkF 5 (some 107) ?_
  refine tkF 6 (some 108) ?_
  refine tkF 7 (some 109) ?_
  refine tkF 8 (some 110) ?_
  refine tkE 9 (some 111) ?_ ?_ ?_
  rotate_left
  · (intro w hSw; obtain ⟨s0, s1, s2, s3⟩ := hSw; go_simp <;> with_reducible rfl)
  refine tkF 10 (some 112) ?_
  refine tkF 11 (some 113) ?_
  refine tkF 12 (some 114) ?_
  refine tkF 13 (some 115) ?_
  refine tkF 14 (some 116) ?_
  refine tkE 15 (some 117) ?_ ?_ ?_
  rotate_left
  · (intro w hSw; obtain ⟨s0, s1, s2, s3⟩ := hSw; go_simp <;> with_reducible rfl)
  refine tkF 16 (some 118) ?_
  refine tkF 17 (some 119) ?_
  refine tkF 18 (some 120) ?_
  refine tkE 19 (some 121) ?_ ?_ ?_
  rotate_left
  · (intro w hSw; obtain ⟨s0, s1, s2, s3⟩ := hSw; go_simp <;> with_reducible rfl)
  refine tkF 20 (some 122) ?_
  refine tkF 21 (some 123) ?_
  refine tkF 22 (some 124) ?_
  refine tkF 23 (some 125) ?_
  refine tkF 24 (some 126) ?_
  refine tkF 25 (some 127) ?_
  refine tkF 26 (some 128) ?_
  refine tkF 27 (some 129) ?_
  refine tkF 28 (some 130) ?_
  refine tkE 29 (some 131) ?_ ?_ ?_
  rotate_left
  · (intro w hSw; obtain ⟨s0, s1, s2, s3⟩ := hSw; go_simp <;> with_reducible rfl)
  refine tkF 30 (some 132) ?_
  refine tkF 31 (some 133) ?_
  refine tkF 32 (some 134) ?_
  refine tkE 33 (some 135) ?_ ?_ ?_
  rotate_left
  · (intro w hSw; obtain ⟨s0, s1, s2, s3⟩ := hSw; go_simp <;> with_reducible rfl)
  refine tkF 34 (some 136) ?_
  refine tkF 35 (some 137) ?_
  refine tkF 36 (some 138) ?_
  refine wpAnyH_done (by kernel_rfl) ?_ _
  exact ⟨_, _, _, _, _, _, _, _, _, _, _, _, _, _, _, _, _, _, _, _, _, _, _, _, _, _, _, _, _, _, _, _, _, _, _, _, _, rfl, rfl, rfl⟩
end Go.Proofs.Ytfeknhopjgpbfaa.mk
