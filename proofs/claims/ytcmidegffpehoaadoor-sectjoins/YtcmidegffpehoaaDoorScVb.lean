/- unicode/utf8.Valid: a round at a character of 2 bytes. -/
import Derived.Test.YtcmidegffpehoaaDoorScVa
namespace Go.Proofs.YtcmidegffpehoaaDoor
open Go.RowKit
namespace Sc
set_option linter.unusedVariables false
set_option linter.unusedSimpArgs false

set_option maxHeartbeats 16000000 in
set_option maxRecDepth 1000000 in
theorem round_2 {u1 u2 u3 u4 u5 u6 u7 u8 u9 u10 u11 u12 u13 u14 u15 u16 u17 u18 u19 u20 u21 u22 u23 u24 u25 u26 u27 u28 u29 u30 u31 u32 u33 u34 u35 u36 u37 u38 u39 u40 u41 u42 u43 u44 u45 u46 u47 u48 u49 u50 u51 u52 u53 u54 u55 u56 u57 u58 u59 u60 u61 u62 u63 u64 u65 u66 u67 u68 u69 u70 u71 u72 u73 u74 u75 u76 u77 u78 u79 u80 u81 u82 u83 u84 u85 u86 u87 u88 u89 u90 u91 u92 u93 u94 u95 u96 u97 u98 u99 u100 u101 u102 u103 u104 u105 u106 u107 u108 u109 u110 u111 u112 u113 u114 u115 u116 u117 u118 u119 u120 u121 u122 u123 u124 u125 u126 u127 u128 u129 u130 u131 u132 u133 u134 u135 u136 u137 u138 u139 u140 u141 u142 u143 u144 u145 u146 u147 u148 u149 u150 u151 u152 u153 u154 u155 u156 u157 u158 u159 u160 u161 u162 u163 u164 u165 u166 u167 u168 u169 u170 u171 u172 u173 u174 u175 u176 u177 u178 u179 u180 u181 u182 u183 u184 u185 u186 u187 : Value} {b o m x0 X LO HI : Nat} {y1 y2 y3 : Int} {t : List Int} {wr : World} {ANS : Bool} {Q0 : Exit → Act → World → Prop} (HRr : Hid (Row wr (some ⟨b, o, none⟩) m t)) (HV : Hid (vd t = ANS)) (HLn : Hid (t.length = m))
    (h0z : (0 : Int) < (m : Int)) (hm : m ≤ 1099511627776) (hbl : b < wr.heap.size) (c0 : wr.cell? ⟨b, o, none⟩ = some (.int .u8 x0)) (hascz : ¬ ((x0 : Int) < 128)) (hx0lt : x0 < 256) (hc0 : wr.cell? ⟨1, x0, none⟩ = some (.int .u8 X)) (hXlt : X < 256)
    (ha0 : wr.cell? ⟨2, X / 16 * 2, none⟩ = some (.int .u8 LO)) (ha1 : wr.cell? ⟨2, X / 16 * 2 + 1, none⟩ = some (.int .u8 HI)) (h7 : bits .and .u8 (X : Int) 7 = ((X % 8 : Nat) : Int)) (s2 : X % 8 = 2) (hSZ : (X : Int) % 8 = 2)
    (HY1 : Hid (t.getD 1 0 = y1)) (HY2 : Hid (t.getD 2 0 = y2)) (HY3 : Hid (t.getD 3 0 = y3)) (HNo : Hid ((m < 2 ∨ y1 < LO ∨ HI < y1) → wid t = 0)) (HYes : Hid (¬ (m < 2 ∨ y1 < LO ∨ HI < y1) → wid t = 2))
    (hnorm : ∀ (v2 v3 v4 v5 v6 v13 v14 v15 v16 v17 v18 v19 v20 v21 v22 v23 v24 v25 v26 v27 v28 v29 v30 v31 v32 v33 v34 v35 v36 v37 v38 v39 v40 v41 v42 v43 v44 v45 v46 v47 v48 v49 v50 v51 v52 v53 v54 v55 v56 v57 v58 v59 v60 v61 v62 v63 v64 v65 v66 v67 v68 v69 v70 v71 v72 v73 v74 v75 v76 v77 v78 v79 v80 v81 v82 v83 v84 v85 v86 v87 v88 v89 v90 v91 v92 v93 v94 v95 v96 v97 v98 v99 v100 v101 v102 v103 v104 v105 v106 v107 v108 v109 v110 v111 v112 v113 v114 v115 v116 v117 v118 v119 v120 v121 v122 v123 v124 v125 v126 v127 v128 v129 v130 v131 v132 v133 v134 v135 v136 v137 v138 v139 v140 v141 v142 v143 v144 v145 v146 v147 v148 v149 v150 v151 v152 v153 v154 v155 v156 v157 v158 v159 v160 v161 v162 v163 v164 v165 v166 v167 v168 v169 v170 v171 v172 v173 v174 v175 v176 v177 v178 v179 v180 v181 v182 v183 v184 v185 v186 v187 : Value) (a2 : Option Addr) (t2 : List Int) (m2 : Nat) (w2 : World), Below wr.heap.size wr w2 → Row w2 a2 m2 t2 → vd t2 = ANS → m2 < m → Q0 .normal ⟨#[.slice a2 m2 m2, u1, v2, v3, v4, v5, v6, u7, u8, u9, u10, u11, u12, v13, v14, v15, v16, v17, v18, v19, v20, v21, v22, v23, v24, v25, v26, v27, v28, v29, v30, v31, v32, v33, v34, v35, v36, v37, v38, v39, v40, v41, v42, v43, v44, v45, v46, v47, v48, v49, v50, v51, v52, v53, v54, v55, v56, v57, v58, v59, v60, v61, v62, v63, v64, v65, v66, v67, v68, v69, v70, v71, v72, v73, v74, v75, v76, v77, v78, v79, v80, v81, v82, v83, v84, v85, v86, v87, v88, v89, v90, v91, v92, v93, v94, v95, v96, v97, v98, v99, v100, v101, v102, v103, v104, v105, v106, v107, v108, v109, v110, v111, v112, v113, v114, v115, v116, v117, v118, v119, v120, v121, v122, v123, v124, v125, v126, v127, v128, v129, v130, v131, v132, v133, v134, v135, v136, v137, v138, v139, v140, v141, v142, v143, v144, v145, v146, v147, v148, v149, v150, v151, v152, v153, v154, v155, v156, v157, v158, v159, v160, v161, v162, v163, v164, v165, v166, v167, v168, v169, v170, v171, v172, v173, v174, v175, v176, v177, v178, v179, v180, v181, v182, v183, v184, v185, v186, v187], []⟩ w2)
    (hret : ∀ (v0 v1 v3 v4 v5 v6 v7 v8 v9 v10 v11 v12 v13 v14 v15 v16 v17 v18 v19 v20 v21 v22 v23 v24 v25 v26 v27 v28 v29 v30 v31 v32 v33 v34 v35 v36 v37 v38 v39 v40 v41 v42 v43 v44 v45 v46 v47 v48 v49 v50 v51 v52 v53 v54 v55 v56 v57 v58 v59 v60 v61 v62 v63 v64 v65 v66 v67 v68 v69 v70 v71 v72 v73 v74 v75 v76 v77 v78 v79 v80 v81 v82 v83 v84 v85 v86 v87 v88 v89 v90 v91 v92 v93 v94 v95 v96 v97 v98 v99 v100 v101 v102 v103 v104 v105 v106 v107 v108 v109 v110 v111 v112 v113 v114 v115 v116 v117 v118 v119 v120 v121 v122 v123 v124 v125 v126 v127 v128 v129 v130 v131 v132 v133 v134 v135 v136 v137 v138 v139 v140 v141 v142 v143 v144 v145 v146 v147 v148 v149 v150 v151 v152 v153 v154 v155 v156 v157 v158 v159 v160 v161 v162 v163 v164 v165 v166 v167 v168 v169 v170 v171 v172 v173 v174 v175 v176 v177 v178 v179 v180 v181 v182 v183 v184 v185 v186 v187 : Value) (w2 : World), Below wr.heap.size wr w2 → ANS = false → Q0 .ret ⟨#[v0, v1, .bool false, v3, v4, v5, v6, v7, v8, v9, v10, v11, v12, v13, v14, v15, v16, v17, v18, v19, v20, v21, v22, v23, v24, v25, v26, v27, v28, v29, v30, v31, v32, v33, v34, v35, v36, v37, v38, v39, v40, v41, v42, v43, v44, v45, v46, v47, v48, v49, v50, v51, v52, v53, v54, v55, v56, v57, v58, v59, v60, v61, v62, v63, v64, v65, v66, v67, v68, v69, v70, v71, v72, v73, v74, v75, v76, v77, v78, v79, v80, v81, v82, v83, v84, v85, v86, v87, v88, v89, v90, v91, v92, v93, v94, v95, v96, v97, v98, v99, v100, v101, v102, v103, v104, v105, v106, v107, v108, v109, v110, v111, v112, v113, v114, v115, v116, v117, v118, v119, v120, v121, v122, v123, v124, v125, v126, v127, v128, v129, v130, v131, v132, v133, v134, v135, v136, v137, v138, v139, v140, v141, v142, v143, v144, v145, v146, v147, v148, v149, v150, v151, v152, v153, v154, v155, v156, v157, v158, v159, v160, v161, v162, v163, v164, v165, v166, v167, v168, v169, v170, v171, v172, v173, v174, v175, v176, v177, v178, v179, v180, v181, v182, v183, v184, v185, v186, v187], []⟩ w2) :
    Code.wp Tryd.prog vbody Q0 ⟨#[.slice (some ⟨b, o, none⟩) m m, u1, u2, u3, u4, u5, u6, u7, u8, u9, u10, u11, u12, u13, u14, u15, u16, u17, u18, u19, u20, u21, u22, u23, u24, u25, u26, u27, u28, u29, u30, u31, u32, u33, u34, u35, u36, u37, u38, u39, u40, u41, u42, u43, u44, u45, u46, u47, u48, u49, u50, u51, u52, u53, u54, u55, u56, u57, u58, u59, u60, u61, u62, u63, u64, u65, u66, u67, u68, u69, u70, u71, u72, u73, u74, u75, u76, u77, u78, u79, u80, u81, u82, u83, u84, u85, u86, u87, u88, u89, u90, u91, u92, u93, u94, u95, u96, u97, u98, u99, u100, u101, u102, u103, u104, u105, u106, u107, u108, u109, u110, u111, u112, u113, u114, u115, u116, u117, u118, u119, u120, u121, u122, u123, u124, u125, u126, u127, u128, u129, u130, u131, u132, u133, u134, u135, u136, u137, u138, u139, u140, u141, u142, u143, u144, u145, u146, u147, u148, u149, u150, u151, u152, u153, u154, u155, u156, u157, u158, u159, u160, u161, u162, u163, u164, u165, u166, u167, u168, u169, u170, u171, u172, u173, u174, u175, u176, u177, u178, u179, u180, u181, u182, u183, u184, u185, u186, u187], []⟩ wr := by
  have HN := hide hnorm; have HRt := hide hret
  clear hnorm hret
  have h0 : 0 < m := by omega
  conv => arg 2; whnf
  go_upto_region 18 with fail
  go_cut [103] from 85 to 103 (fun c wx => c = .bool (decide (m < 2 ∨ y1 < LO ∨ HI < y1)) ∧ Below wr.heap.size wr wx)
  case first =>
    by_cases q0 : ((m : Int) < 2)
    · clear HNo HYes
      go_big_quiet (fail)
      go_wp2
      go_meet
      exact ⟨congrArg Value.bool (decide_eq_true (p := m < 2 ∨ y1 < LO ∨ HI < y1) (by omega)).symm, bdN ((Below.refl _ _).alloc (Nat.le_refl _) _) _⟩
    · have HRw := unhide HRr
      obtain ⟨c1, _, l1, g1⟩ := row_at HRw (show 1 < m by omega)
      rw [unhide HY1] at c1 l1 g1
      have z1 : (1 : Int) < (m : Int) := by omega
      have p1 : 1 < m := by omega
      clear HRw
      by_cases q1 : (y1 < (LO : Int))
      · clear HNo HYes
        go_big_quiet (fail)
        go_wp2
        go_meet
        exact ⟨congrArg Value.bool (decide_eq_true (p := m < 2 ∨ y1 < LO ∨ HI < y1) (by omega)).symm, bdN ((Below.refl _ _).alloc (Nat.le_refl _) _) _⟩
      · skip
        by_cases q2 : ((HI : Int) < y1)
        · clear HNo HYes
          go_big_quiet (fail)
          go_wp2
          go_meet
          exact ⟨congrArg Value.bool (decide_eq_true (p := m < 2 ∨ y1 < LO ∨ HI < y1) (by omega)).symm, bdN ((Below.refl _ _).alloc (Nat.le_refl _) _) _⟩
        · skip
          clear HNo HYes
          go_big_quiet (fail)
          go_wp2
          go_meet
          exact ⟨congrArg Value.bool (decide_eq_false (p := m < 2 ∨ y1 < LO ∨ HI < y1) (by omega)).symm, bdN ((Below.refl _ _).alloc (Nat.le_refl _) _) _⟩
  case rest =>
    obtain ⟨rfl, hbc⟩ := hcut
    have hbw2 := hbc
    have HBc := hide hbc; clear hbc
    by_cases hb : m < 2 ∨ y1 < LO ∨ HI < y1
    · have hbd : decide (m < 2 ∨ y1 < LO ∨ HI < y1) = true := decide_eq_true hb
      have hv0 : ANS = false := (unhide HV).symm.trans (vd_no (by rw [unhide HLn]; omega) (unhide HNo hb))
      subst hv0
      go_wp2
      all_goals (exact (unhide HRt) _ _ _ _ _ _ _ _ _ _ _ _ _ _ _ _ _ _ _ _ _ _ _ _ _ _ _ _ _ _ _ _ _ _ _ _ _ _ _ _ _ _ _ _ _ _ _ _ _ _ _ _ _ _ _ _ _ _ _ _ _ _ _ _ _ _ _ _ _ _ _ _ _ _ _ _ _ _ _ _ _ _ _ _ _ _ _ _ _ _ _ _ _ _ _ _ _ _ _ _ _ _ _ _ _ _ _ _ _ _ _ _ _ _ _ _ _ _ _ _ _ _ _ _ _ _ _ _ _ _ _ _ _ _ _ _ _ _ _ _ _ _ _ _ _ _ _ _ _ _ _ _ _ _ _ _ _ _ _ _ _ _ _ _ _ _ _ _ _ _ _ _ _ _ _ _ _ _ _ _ _ _ _ _ _ _ _ _ (unhide HBc) (by first | rfl | trivial))
    · have hbd : decide (m < 2 ∨ y1 < LO ∨ HI < y1) = false := decide_eq_false hb
      have hw := unhide HYes hb
      have hv2 : vd (t.drop 2) = ANS := ((vd_on (zs := t) (by rw [unhide HLn]; omega) (by rw [hw]; decide)).trans (by rw [hw])).symm.trans (unhide HV)
      have hrw := (unhide HRr).below (Nat.le_refl _) (unhide HBc)
      have HV2 := hide hv2; have HRw := hide hrw
      clear hv2 hrw hw HYes HNo
      by_cases mk : m = 2
      · subst mk
        go_wp2
        exact (unhide HN) _ _ _ _ _ _ _ _ _ _ _ _ _ _ _ _ _ _ _ _ _ _ _ _ _ _ _ _ _ _ _ _ _ _ _ _ _ _ _ _ _ _ _ _ _ _ _ _ _ _ _ _ _ _ _ _ _ _ _ _ _ _ _ _ _ _ _ _ _ _ _ _ _ _ _ _ _ _ _ _ _ _ _ _ _ _ _ _ _ _ _ _ _ _ _ _ _ _ _ _ _ _ _ _ _ _ _ _ _ _ _ _ _ _ _ _ _ _ _ _ _ _ _ _ _ _ _ _ _ _ _ _ _ _ _ _ _ _ _ _ _ _ _ _ _ _ _ _ _ _ _ _ _ _ _ _ _ _ _ _ _ _ _ _ _ _ _ _ _ _ _ _ _ _ _ _ _ _ _ _ _ (t.drop 2) (0) _ (unhide HBc) (row_full (unhide HRw) 2 (by omega)) (unhide HV2) (by omega)
      · have mz : (2 : Int) ≤ (m : Int) := by omega
        have mk2 : 2 < m := by omega
        obtain ⟨d, rfl⟩ : ∃ d, m = d + 2 := ⟨m - 2, by omega⟩
        have hr2 := row_drop (unhide HRw) 2 (by omega)
        rw [Nat.add_sub_cancel] at hr2
        have HR2 := hide hr2; clear hr2
        have hd : 1 ≤ d := by omega
        go_wp2
        exact (unhide HN) _ _ _ _ _ _ _ _ _ _ _ _ _ _ _ _ _ _ _ _ _ _ _ _ _ _ _ _ _ _ _ _ _ _ _ _ _ _ _ _ _ _ _ _ _ _ _ _ _ _ _ _ _ _ _ _ _ _ _ _ _ _ _ _ _ _ _ _ _ _ _ _ _ _ _ _ _ _ _ _ _ _ _ _ _ _ _ _ _ _ _ _ _ _ _ _ _ _ _ _ _ _ _ _ _ _ _ _ _ _ _ _ _ _ _ _ _ _ _ _ _ _ _ _ _ _ _ _ _ _ _ _ _ _ _ _ _ _ _ _ _ _ _ _ _ _ _ _ _ _ _ _ _ _ _ _ _ _ _ _ _ _ _ _ _ _ _ _ _ _ _ _ _ _ _ _ _ _ _ _ _ (t.drop 2) (d) _ (unhide HBc) (unhide HR2) (unhide HV2) (by omega)
end Sc
end Go.Proofs.YtcmidegffpehoaaDoor
