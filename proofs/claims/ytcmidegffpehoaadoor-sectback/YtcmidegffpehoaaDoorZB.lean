/- SectBack: a round of the loop over what was split. -/
import Derived.Test.YtcmidegffpehoaaDoorG1
import Derived.Test.YtcmidegffpehoaaDoorConv
import Derived.Deep.RegionHeld3

/- SectBack: a round of the loop over what was split. -/
namespace Go.Proofs.YtcmidegffpehoaaDoor
open Go.RowKit
namespace Sc
set_option linter.unusedVariables false
set_option linter.unusedSimpArgs false
set_option maxRecDepth 1000000 in
set_option maxHeartbeats 6400000 in
theorem bk3_b {u1 u2 u3 u4 u5 u6 u7 u8 u10 u12 u13 u16 u17 u18 u19 u20 u21 u22 u23 u24 u25 u26 u27 u28 u29 u30 u31 u32 u33 u34 u35 u36 u37 u38 u39 u40 u41 u42 u43 u44 u45 u46 u47 u48 u49 u50 u51 u52 u53 u54 u55 u56 u57 u58 u59 u60 u61 u62 u63 u64 u65 u66 u67 u68 u69 u70 u71 u72 u73 u74 u75 u76 u77 u78 u79 u80 u81 u82 u83 u84 u85 u86 u87 u88 u89 u90 u91 u92 u93 u94 u95 u96 u97 u98 u99 u100 u101 u102 u103 u104 u105 u106 u107 u108 u109 u110 u111 u112 u113 u114 u115 u116 u117 u118 u119 u120 u121 u122 u123 u124 u125 u126 u127 u128 u129 u130 u131 u132 u133 u134 u135 u136 u137 u138 u139 u140 u141 u142 u143 u144 u145 u146 u147 u148 u149 u150 u151 u152 u153 u154 u155 u156 u157 u158 u159 u160 u161 u162 u163 u164 u165 u166 u167 u168 u169 u170 u171 u172 u173 u174 u175 u176 u177 u178 u179 u180 u181 u182 u183 u184 u185 u186 u187 u188 u189 u190 u191 u192 u193 u194 u195 u196 u197 u198 u199 u200 u201 u202 u203 u204 u205 u206 u207 u208 u209 u210 u211 u212 u213 u214 u215 u216 u217 u218 u219 u220 u221 u222 u223 u224 u225 u226 u227 u228 u229 u230 u231 u232 u233 u234 u235 u236 u237 u238 u239 u240 : Value} {b1 o1 b2 o2 bb ob n2 vc mc cb k q L y1 y2 : Nat} {x1 x2 : Option Addr} {id top : Int} {St : ByteArray} {wr : World} {Q0 : Exit → Act → World → Prop}
    (hk : (k : Int) < (n2 : Int)) (hkn : k < n2) (hmc : n2 ≤ mc) (hvc : n2 ≤ vc) (hcb : cb ≤ cb) (hcb : cb ≤ 50000) (hn2 : n2 ≤ 50) (hq : 10 ≤ cb) (hqL : cb ≤ cb) 
    (d0 : wr.cell? ⟨b1, o1 + k * 3, none⟩ = some (.int .u8 id)) (d1 : wr.cell? ⟨b1, o1 + k * 3 + 1, none⟩ = some (.int .i64 cb)) (d2 : wr.cell? ⟨b1, o1 + k * 3 + 2, none⟩ = some (.slice x1 0 y1)) (e0 : wr.cell? ⟨b2, o2 + k * 3, none⟩ = some (.int .u8 id)) (e2 : wr.cell? ⟨b2, o2 + k * 3 + 2, none⟩ = some (.slice x2 0 y2))
    (k1 : Sem.run Tryd.prog (convert 22 9 (.slice x1 0 y1)) wr.drew = .ok (.string St) wr.drew) (k2 : Sem.run Tryd.prog (convert 22 9 (.slice x2 0 y2)) wr.drew = .ok (.string St) wr.drew) (k3 : Sem.run Tryd.prog (convert 22 9 (.slice (some ⟨bb, ob, none⟩) 0 0)) wr.drew = .ok (.string St) wr.drew)
    (hnorm : ∀ (v91 v92 v93 v94 v95 v96 v97 v98 v99 v100 v101 v102 v103 v104 v105 v106 v107 v108 v109 v110 v111 v112 v113 v114 v115 v116 v117 v118 v119 v120 v121 v122 v123 v124 v125 v126 v127 v128 v129 v130 v131 v132 v133 v134 v135 v136 v137 v138 v139 v140 v141 v142 v143 v144 v145 v146 v147 v148 v149 v150 v151 v152 v153 v154 v155 v156 v157 v158 v159 v160 v161 v162 v163 v164 v165 v166 v167 v168 v169 v170 v171 v172 v173 v174 v175 v176 v177 v178 v179 v180 v181 v182 v183 : Value), Q0 .normal ⟨#[.slice (some ⟨b2, o2, none⟩) n2 vc, u1, u2, u3, u4, u5, u6, u7, u8, .slice (some ⟨bb, ob, none⟩) cb cb, u10, .slice (some ⟨b1, o1, none⟩) n2 mc, u12, u13, .int .u8 (max top id), .int .i64 ((k : Int) + 1), u16, u17, u18, u19, u20, u21, u22, u23, u24, u25, u26, u27, u28, u29, u30, u31, u32, u33, u34, u35, u36, u37, u38, u39, u40, u41, u42, u43, u44, u45, u46, u47, u48, u49, u50, u51, u52, u53, u54, u55, u56, u57, u58, u59, u60, u61, u62, u63, u64, u65, u66, u67, u68, u69, u70, u71, u72, u73, u74, u75, u76, u77, u78, u79, u80, u81, u82, u83, u84, u85, u86, u87, u88, u89, u90, v91, v92, v93, v94, v95, v96, v97, v98, v99, v100, v101, v102, v103, v104, v105, v106, v107, v108, v109, v110, v111, v112, v113, v114, v115, v116, v117, v118, v119, v120, v121, v122, v123, v124, v125, v126, v127, v128, v129, v130, v131, v132, v133, v134, v135, v136, v137, v138, v139, v140, v141, v142, v143, v144, v145, v146, v147, v148, v149, v150, v151, v152, v153, v154, v155, v156, v157, v158, v159, v160, v161, v162, v163, v164, v165, v166, v167, v168, v169, v170, v171, v172, v173, v174, v175, v176, v177, v178, v179, v180, v181, v182, v183, u184, u185, u186, u187, u188, u189, u190, u191, u192, u193, u194, u195, u196, u197, u198, u199, u200, u201, u202, u203, u204, u205, u206, u207, u208, u209, u210, u211, u212, u213, u214, u215, u216, u217, u218, u219, u220, u221, u222, u223, u224, u225, u226, u227, u228, u229, u230, u231, u232, u233, u234, u235, u236, u237, u238, u239, u240], []⟩ wr.drew) :
    Code.wp Tryd.prog bbody Q0 ⟨#[.slice (some ⟨b2, o2, none⟩) n2 vc, u1, u2, u3, u4, u5, u6, u7, u8, .slice (some ⟨bb, ob, none⟩) cb cb, u10, .slice (some ⟨b1, o1, none⟩) n2 mc, u12, u13, .int .u8 top, .int .i64 k, u16, u17, u18, u19, u20, u21, u22, u23, u24, u25, u26, u27, u28, u29, u30, u31, u32, u33, u34, u35, u36, u37, u38, u39, u40, u41, u42, u43, u44, u45, u46, u47, u48, u49, u50, u51, u52, u53, u54, u55, u56, u57, u58, u59, u60, u61, u62, u63, u64, u65, u66, u67, u68, u69, u70, u71, u72, u73, u74, u75, u76, u77, u78, u79, u80, u81, u82, u83, u84, u85, u86, u87, u88, u89, u90, u91, u92, u93, u94, u95, u96, u97, u98, u99, u100, u101, u102, u103, u104, u105, u106, u107, u108, u109, u110, u111, u112, u113, u114, u115, u116, u117, u118, u119, u120, u121, u122, u123, u124, u125, u126, u127, u128, u129, u130, u131, u132, u133, u134, u135, u136, u137, u138, u139, u140, u141, u142, u143, u144, u145, u146, u147, u148, u149, u150, u151, u152, u153, u154, u155, u156, u157, u158, u159, u160, u161, u162, u163, u164, u165, u166, u167, u168, u169, u170, u171, u172, u173, u174, u175, u176, u177, u178, u179, u180, u181, u182, u183, u184, u185, u186, u187, u188, u189, u190, u191, u192, u193, u194, u195, u196, u197, u198, u199, u200, u201, u202, u203, u204, u205, u206, u207, u208, u209, u210, u211, u212, u213, u214, u215, u216, u217, u218, u219, u220, u221, u222, u223, u224, u225, u226, u227, u228, u229, u230, u231, u232, u233, u234, u235, u236, u237, u238, u239, u240], []⟩ wr := by
  have HN := hide hnorm
  clear hnorm
  have w1 : IntKind.i64.wrap ((cb : Int) + (0 : Int)) = (cb : Int) + (0 : Int) := by rw [IntKind.wrap_i64]; omega
  have w2' : IntKind.i64.wrap ((cb : Int) - (0 : Int)) = (cb : Int) - (0 : Int) := by rw [IntKind.wrap_i64]; omega
  have w3 : IntKind.i64.wrap (cb : Int) = (cb : Int) := by rw [IntKind.wrap_i64]; omega
  have t1 : ¬ ((cb : Int) < 10) := by omega
  have t1a : ¬ (cb < 10) := by omega
  have t1b : decide ((cb : Int) < 10) = false := decide_eq_false t1
  have t1c : decide (cb < 10) = false := decide_eq_false t1a
  have t2 : ¬ ((cb : Int) - (0 : Int) < (cb : Int)) := by omega
  have t2b : decide ((cb : Int) - (0 : Int) < (cb : Int)) = false := decide_eq_false t2
  have t3 : (cb : Int) ≤ (cb : Int) + (0 : Int) := by omega
  have t4 : (cb : Int) + (0 : Int) ≤ (cb : Int) := by omega
  have t5 : ((cb : Int) + (0 : Int)).toNat = cb + 0 := by omega
  have t6 : cb + 0 ≤ cb := by omega
  conv => arg 2; whnf
  go_wp2_with fail
  go_region_held3 (fun w' => w'.cell? ⟨b1, o1 + k * 3, none⟩ = some (.int .u8 id) ∧ w'.cell? ⟨b1, o1 + k * 3 + 1, none⟩ = some (.int .i64 cb) ∧ w'.cell? ⟨b1, o1 + k * 3 + 2, none⟩ = some (.slice x1 0 y1) ∧ w'.cell? ⟨b2, o2 + k * 3, none⟩ = some (.int .u8 id) ∧ w'.cell? ⟨b2, o2 + k * 3 + 2, none⟩ = some (.slice x2 0 y2) ∧ Sem.run Tryd.prog (convert 22 9 (.slice x1 0 y1)) w' = .ok (.string St) w' ∧ Sem.run Tryd.prog (convert 22 9 (.slice x2 0 y2)) w' = .ok (.string St) w' ∧ Sem.run Tryd.prog (convert 22 9 (.slice (some ⟨bb, ob, none⟩) 0 0)) w' = .ok (.string St) w')
    (first | go_keep) (fail)
  go_wp2
  first
    | exact (unhide HN) _ _ _ _ _ _ _ _ _ _ _ _ _ _ _ _ _ _ _ _ _ _ _ _ _ _ _ _ _ _ _ _ _ _ _ _ _ _ _ _ _ _ _ _ _ _ _ _ _ _ _ _ _ _ _ _ _ _ _ _ _ _ _ _ _ _ _ _ _ _ _ _ _ _ _ _ _ _ _ _ _ _ _ _ _ _ _ _ _ _ _ _ _
    | (have h9 := (unhide HN) _ _ _ _ _ _ _ _ _ _ _ _ _ _ _ _ _ _ _ _ _ _ _ _ _ _ _ _ _ _ _ _ _ _ _ _ _ _ _ _ _ _ _ _ _ _ _ _ _ _ _ _ _ _ _ _ _ _ _ _ _ _ _ _ _ _ _ _ _ _ _ _ _ _ _ _ _ _ _ _ _ _ _ _ _ _ _ _ _ _ _ _ _; simpa using h9)
end Sc
end Go.Proofs.YtcmidegffpehoaaDoor
