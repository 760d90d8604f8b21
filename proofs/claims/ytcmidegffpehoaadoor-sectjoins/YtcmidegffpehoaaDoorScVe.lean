/- unicode/utf8.Valid: a round at a byte below 128. -/
import Derived.Test.YtcmidegffpehoaaDoorScVa
namespace Go.Proofs.YtcmidegffpehoaaDoor
open Go.RowKit
namespace Sc
set_option linter.unusedVariables false
set_option linter.unusedSimpArgs false

set_option maxHeartbeats 16000000 in
set_option maxRecDepth 1000000 in
theorem round_1 {u1 u2 u3 u4 u5 u6 u7 u8 u9 u10 u11 u12 u13 u14 u15 u16 u17 u18 u19 u20 u21 u22 u23 u24 u25 u26 u27 u28 u29 u30 u31 u32 u33 u34 u35 u36 u37 u38 u39 u40 u41 u42 u43 u44 u45 u46 u47 u48 u49 u50 u51 u52 u53 u54 u55 u56 u57 u58 u59 u60 u61 u62 u63 u64 u65 u66 u67 u68 u69 u70 u71 u72 u73 u74 u75 u76 u77 u78 u79 u80 u81 u82 u83 u84 u85 u86 u87 u88 u89 u90 u91 u92 u93 u94 u95 u96 u97 u98 u99 u100 u101 u102 u103 u104 u105 u106 u107 u108 u109 u110 u111 u112 u113 u114 u115 u116 u117 u118 u119 u120 u121 u122 u123 u124 u125 u126 u127 u128 u129 u130 u131 u132 u133 u134 u135 u136 u137 u138 u139 u140 u141 u142 u143 u144 u145 u146 u147 u148 u149 u150 u151 u152 u153 u154 u155 u156 u157 u158 u159 u160 u161 u162 u163 u164 u165 u166 u167 u168 u169 u170 u171 u172 u173 u174 u175 u176 u177 u178 u179 u180 u181 u182 u183 u184 u185 u186 u187 : Value} {b o m x0 : Nat} {t : List Int} {wr0 : World} {ANS : Bool} {Q0 : Exit → Act → World → Prop} (HRr : Hid (Row wr0 (some ⟨b, o, none⟩) m t)) (HV : Hid (vd t = ANS)) (HTl : Hid (t.length = m)) (HX : Hid (t.getD 0 0 = (x0 : Int)))
    (h0 : 0 < m) (h0z : (0 : Int) < (m : Int)) (hm : m ≤ 1099511627776) (hbl : b < wr0.heap.size) (c0 : wr0.cell? ⟨b, o, none⟩ = some (.int .u8 x0)) (hascz : (x0 : Int) < 128) (hx0lt : x0 < 256)
    (hnorm : ∀ (v2 v3 v4 v5 v6 v13 v14 v15 v16 v17 v18 v19 v20 v21 v22 v23 v24 v25 v26 v27 v28 v29 v30 v31 v32 v33 v34 v35 v36 v37 v38 v39 v40 v41 v42 v43 v44 v45 v46 v47 v48 v49 v50 v51 v52 v53 v54 v55 v56 v57 v58 v59 v60 v61 v62 v63 v64 v65 v66 v67 v68 v69 v70 v71 v72 v73 v74 v75 v76 v77 v78 v79 v80 v81 v82 v83 v84 v85 v86 v87 v88 v89 v90 v91 v92 v93 v94 v95 v96 v97 v98 v99 v100 v101 v102 v103 v104 v105 v106 v107 v108 v109 v110 v111 v112 v113 v114 v115 v116 v117 v118 v119 v120 v121 v122 v123 v124 v125 v126 v127 v128 v129 v130 v131 v132 v133 v134 v135 v136 v137 v138 v139 v140 v141 v142 v143 v144 v145 v146 v147 v148 v149 v150 v151 v152 v153 v154 v155 v156 v157 v158 v159 v160 v161 v162 v163 v164 v165 v166 v167 v168 v169 v170 v171 v172 v173 v174 v175 v176 v177 v178 v179 v180 v181 v182 v183 v184 v185 v186 v187 : Value) (a2 : Option Addr) (t2 : List Int) (m2 : Nat) (w2 : World), Below wr0.heap.size wr0 w2 → Row w2 a2 m2 t2 → vd t2 = ANS → m2 < m → Q0 .normal ⟨#[.slice a2 m2 m2, u1, v2, v3, v4, v5, v6, u7, u8, u9, u10, u11, u12, v13, v14, v15, v16, v17, v18, v19, v20, v21, v22, v23, v24, v25, v26, v27, v28, v29, v30, v31, v32, v33, v34, v35, v36, v37, v38, v39, v40, v41, v42, v43, v44, v45, v46, v47, v48, v49, v50, v51, v52, v53, v54, v55, v56, v57, v58, v59, v60, v61, v62, v63, v64, v65, v66, v67, v68, v69, v70, v71, v72, v73, v74, v75, v76, v77, v78, v79, v80, v81, v82, v83, v84, v85, v86, v87, v88, v89, v90, v91, v92, v93, v94, v95, v96, v97, v98, v99, v100, v101, v102, v103, v104, v105, v106, v107, v108, v109, v110, v111, v112, v113, v114, v115, v116, v117, v118, v119, v120, v121, v122, v123, v124, v125, v126, v127, v128, v129, v130, v131, v132, v133, v134, v135, v136, v137, v138, v139, v140, v141, v142, v143, v144, v145, v146, v147, v148, v149, v150, v151, v152, v153, v154, v155, v156, v157, v158, v159, v160, v161, v162, v163, v164, v165, v166, v167, v168, v169, v170, v171, v172, v173, v174, v175, v176, v177, v178, v179, v180, v181, v182, v183, v184, v185, v186, v187], []⟩ w2) :
    Code.wp Tryd.prog vbody Q0 ⟨#[.slice (some ⟨b, o, none⟩) m m, u1, u2, u3, u4, u5, u6, u7, u8, u9, u10, u11, u12, u13, u14, u15, u16, u17, u18, u19, u20, u21, u22, u23, u24, u25, u26, u27, u28, u29, u30, u31, u32, u33, u34, u35, u36, u37, u38, u39, u40, u41, u42, u43, u44, u45, u46, u47, u48, u49, u50, u51, u52, u53, u54, u55, u56, u57, u58, u59, u60, u61, u62, u63, u64, u65, u66, u67, u68, u69, u70, u71, u72, u73, u74, u75, u76, u77, u78, u79, u80, u81, u82, u83, u84, u85, u86, u87, u88, u89, u90, u91, u92, u93, u94, u95, u96, u97, u98, u99, u100, u101, u102, u103, u104, u105, u106, u107, u108, u109, u110, u111, u112, u113, u114, u115, u116, u117, u118, u119, u120, u121, u122, u123, u124, u125, u126, u127, u128, u129, u130, u131, u132, u133, u134, u135, u136, u137, u138, u139, u140, u141, u142, u143, u144, u145, u146, u147, u148, u149, u150, u151, u152, u153, u154, u155, u156, u157, u158, u159, u160, u161, u162, u163, u164, u165, u166, u167, u168, u169, u170, u171, u172, u173, u174, u175, u176, u177, u178, u179, u180, u181, u182, u183, u184, u185, u186, u187], []⟩ wr0 := by
  have HN := hide hnorm
  clear hnorm
  conv => arg 2; whnf
  have hx1 : ∀ i, i < 1 → t.getD i 0 < 128 := fun i hi => by
    obtain rfl : i = 0 := by omega
    rw [unhide HX]; exact hascz
  have hv1 : vd (t.drop 1) = ANS := (vd_asc 1 t (by have := unhide HTl; omega) hx1).symm.trans (unhide HV)
  clear hx1
  by_cases m1 : m = 1
  · subst m1
    go_wp2
    exact (unhide HN) _ _ _ _ _ _ _ _ _ _ _ _ _ _ _ _ _ _ _ _ _ _ _ _ _ _ _ _ _ _ _ _ _ _ _ _ _ _ _ _ _ _ _ _ _ _ _ _ _ _ _ _ _ _ _ _ _ _ _ _ _ _ _ _ _ _ _ _ _ _ _ _ _ _ _ _ _ _ _ _ _ _ _ _ _ _ _ _ _ _ _ _ _ _ _ _ _ _ _ _ _ _ _ _ _ _ _ _ _ _ _ _ _ _ _ _ _ _ _ _ _ _ _ _ _ _ _ _ _ _ _ _ _ _ _ _ _ _ _ _ _ _ _ _ _ _ _ _ _ _ _ _ _ _ _ _ _ _ _ _ _ _ _ _ _ _ _ _ _ _ _ _ _ _ _ _ _ _ _ _ _ (t.drop 1) (0) _ (Below.refl _ _) (row_full (unhide HRr) 1 (by omega)) (hv1) (by omega)
  · have hr1 : Row wr0 (some ⟨b, o + 1, none⟩) (m - 1) (t.drop 1) := row_drop (unhide HRr) 1 (by omega)
    obtain ⟨k, rfl⟩ : ∃ k, m = k + 1 := ⟨m - 1, by omega⟩
    rw [Nat.add_sub_cancel] at hr1
    have HV1 := hide hv1; have HR1 := hide hr1
    have hby := hr1.2.1
    obtain ⟨t1, ht1⟩ : ∃ t1, t.drop 1 = t1 := ⟨_, rfl⟩
    rw [ht1] at HV1 HR1 hby
    clear hv1 hr1 ht1 HX HV HRr HTl
    have hk1 : 1 ≤ k := by omega
    by_cases c8 : 8 < k
    · have c8z : (8 : Int) < (k : Int) := by omega
      obtain ⟨A1, Z1, eA1, eZ1, kZ1⟩ := w8 hby
      have cW1 := word_any (cap := k) (unhide HR1) (show 8 ≤ k by omega)
      rw [eA1] at cW1
      have HW1 := hide cW1; clear cW1
      have HK1 := hide kZ1; clear kZ1
      by_cases hz1 : Z1 = 0
      · subst hz1
        have hv2 : vd (t1.drop 8) = ANS := (vd_asc 8 t1 (by have := (unhide HR1).1; omega) (unhide HK1 rfl)).symm.trans (unhide HV1)
        obtain ⟨j, rfl⟩ : ∃ j, k = j + 8 := ⟨k - 8, by omega⟩
        have hr2 : Row wr0 (some ⟨b, o + 1 + 8, none⟩) j (t1.drop 8) := by have := row_drop (unhide HR1) 8 (by omega); rwa [Nat.add_sub_cancel] at this
        have hby2 := hr2.2.1
        obtain ⟨t2, ht2⟩ : ∃ t2, t1.drop 8 = t2 := ⟨_, rfl⟩
        rw [ht2] at hv2 hr2 hby2
        have HV2 := hide hv2; have HR2 := hide hr2; have HBy2 := hide hby2
        clear hv2 hr2 hby2 ht2 HK1 HV1 HR1 hby eA1
        go_wp2_with (go_at_call 38; refine (unhide HW1).mono ?_; rintro e W1 ⟨rfl, q1, rfl⟩)
        have hb1 : Below wr0.heap.size wr0 (wr0.drewN q1) := bdN (Below.refl _ _) q1
        have hr2 : Row (wr0.drewN q1) (some ⟨b, o + 1 + 8, none⟩) j t2 := (unhide HR2).below (Nat.le_refl _) (bdN (Below.refl _ _) q1)
        have HB1 := hide hb1; have HR2b := hide hr2
        clear HR2 HW1 hb1 hr2
        generalize wr0.drewN q1 = wq at HB1 HR2b ⊢
        by_cases c16 : 16 < j
        · have c16z : (16 : Int) < (j : Int) := by omega
          have s8z : (8 : Int) ≤ (j : Int) := by omega
          have c16b : decide ((16 : Int) < (j : Int)) = true := decide_eq_true c16z
          obtain ⟨A2, A3, O2, Z2, eA2, eA3, eO2, eZ2, kZ2⟩ := w16 (unhide HBy2)
          have cW2 := word_at (cap := j) (unhide HR2b) (show 8 ≤ j by omega)
          have cW3 := word_at (cap := j - 8) (row_drop (unhide HR2b) 8 (by omega)) (show 8 ≤ j - 8 by omega)
          rw [eA2] at cW2; rw [eA3] at cW3
          have HW2 := hide cW2; have HW3 := hide cW3; have HK2 := hide kZ2
          clear cW2 cW3 kZ2 eA2 eA3
          by_cases hz2 : Z2 = 0
          · subst hz2
            have hv3 : vd (t2.drop 16) = ANS := (vd_asc 16 t2 (by have := (unhide HR2b).1; omega) (unhide HK2 rfl)).symm.trans (unhide HV2)
            have hr3 : Row wq (some ⟨b, o + 1 + 8 + 16, none⟩) (j - 16) (t2.drop 16) := row_drop (unhide HR2b) 16 (by omega)
            obtain ⟨t3, ht3⟩ : ∃ t3, t2.drop 16 = t3 := ⟨_, rfl⟩
            rw [ht3] at hv3 hr3
            have HV3 := hide hv3; have HR3 := hide hr3
            clear hv3 hr3 ht3 HK2 HV2
            go_big_quiet (first | (go_at_call 38; with_reducible refine Calls.quiet_of (unhide HW2 _)) | (go_at_call 38; with_reducible refine Calls.quiet_of (unhide HW3 _)))
            have hb2 : Below wr0.heap.size wr0 (wq.drewN nq) := bdN (unhide HB1) nq
            have hr4 : Row (wq.drewN nq) (some ⟨b, o + 1 + 8 + 16, none⟩) (j - 16) t3 := (unhide HR3).below (Nat.le_refl _) (bdN (Below.refl _ _) nq)
            have HB2 := hide hb2; have HR4 := hide hr4
            clear HR3 HR2b HW2 HW3 HB1 hb2 hr4
            generalize wq.drewN nq = wq2 at HB2 HR4 ⊢
            go_wp2
            go_loopg [0] (j - 16 + 1) (fun g2 s0 wx => Below wr0.heap.size wr0 wx ∧ ∃ (a2 : Option Addr) (u : List Int) (l : Nat), s0 = .slice a2 l l ∧ Row wx a2 l u ∧ vd u = ANS ∧ l < g2 ∧ l ≤ j - 16)
            case atStart => exact ⟨unhide HB2, _, t3, j - 16, rfl, unhide HR4, unhide HV3, by omega, Nat.le_refl _⟩
            case round =>
              obtain ⟨hbu, a2, u, l, rfl, hru, hvu, hgu, hli⟩ := hrel
              have HBu := hide hbu; have HRu := hide hru; have HVu := hide hvu
              clear hbu hvu
              by_cases c32 : 32 < l
              · obtain ⟨g3, rfl⟩ : ∃ g3, gk = g3 + 1 := ⟨gk - 1, by omega⟩
                obtain ⟨b2, o2, rfl, hbl2, _⟩ := row_byte hru (show 0 < l by omega)
                have hbyu := hru.2.1
                clear hru
                have c32b : decide ((32 : Int) < (l : Int)) = true := decide_eq_true (by omega)
                have c32z : (32 : Int) < (l : Int) := by omega
                have s8u : (8 : Int) ≤ (l : Int) := by omega
                have s16u : (16 : Int) ≤ (l : Int) := by omega
                have s24u : (24 : Int) ≤ (l : Int) := by omega
                obtain ⟨A, B, C, D, O1, O2, O3, Z3, eA, eB, eC, eD, eO1, eO2, eO3, eZ3, kZ3⟩ := w32 hbyu
                have cB0 := word_at (cap := l) (unhide HRu) (show 8 ≤ l by omega)
                have cB1 := word_at (cap := l - 8) (row_drop (unhide HRu) 8 (by omega)) (show 8 ≤ l - 8 by omega)
                have cB2 := word_at (cap := l - 16) (row_drop (unhide HRu) 16 (by omega)) (show 8 ≤ l - 16 by omega)
                have cB3 := word_at (cap := l - 24) (row_drop (unhide HRu) 24 (by omega)) (show 8 ≤ l - 24 by omega)
                rw [eA] at cB0; rw [eB] at cB1; rw [eC] at cB2; rw [eD] at cB3
                have HB0 := hide cB0; have HB1 := hide cB1; have HB2 := hide cB2; have HB3 := hide cB3; have HK3 := hide kZ3
                clear cB0 cB1 cB2 cB3 kZ3 eA eB eC eD hbyu
                by_cases hz3 : Z3 = 0
                · subst hz3
                  have hvu2 : vd (u.drop 32) = ANS := (vd_asc 32 u (by have := (unhide HRu).1; omega) (unhide HK3 rfl)).symm.trans (unhide HVu)
                  have hru2 : Row wr (some ⟨b2, o2 + 32, none⟩) (l - 32) (u.drop 32) := row_drop (unhide HRu) 32 (by omega)
                  have HVu2 := hide hvu2; have HRu2 := hide hru2
                  clear hvu2 hru2
                  go_wp2_with fail
                  go_big_quiet (first | (go_at_call 38; with_reducible refine Calls.quiet_of (unhide HB0 _)) | (go_at_call 38; with_reducible refine Calls.quiet_of (unhide HB1 _)) | (go_at_call 38; with_reducible refine Calls.quiet_of (unhide HB2 _)) | (go_at_call 38; with_reducible refine Calls.quiet_of (unhide HB3 _)))
                  go_wp2
                  go_roundg g3
                  case measure => omega
                  case rel => exact ⟨bdN (unhide HBu) nq, _, u.drop 32, l - 32, rfl, (unhide HRu2).below (Nat.le_refl _) (bdN (Below.refl _ _) nq), unhide HVu2, by omega, by omega⟩
                · have hz3b : ((Z3 : Int) == 0) = false := by simp; omega
                  go_wp2_with fail
                  go_big_quiet (first | (go_at_call 38; with_reducible refine Calls.quiet_of (unhide HB0 _)) | (go_at_call 38; with_reducible refine Calls.quiet_of (unhide HB1 _)) | (go_at_call 38; with_reducible refine Calls.quiet_of (unhide HB2 _)) | (go_at_call 38; with_reducible refine Calls.quiet_of (unhide HB3 _)))
                  go_wp2
                  exact (unhide HN) _ _ _ _ _ _ _ _ _ _ _ _ _ _ _ _ _ _ _ _ _ _ _ _ _ _ _ _ _ _ _ _ _ _ _ _ _ _ _ _ _ _ _ _ _ _ _ _ _ _ _ _ _ _ _ _ _ _ _ _ _ _ _ _ _ _ _ _ _ _ _ _ _ _ _ _ _ _ _ _ _ _ _ _ _ _ _ _ _ _ _ _ _ _ _ _ _ _ _ _ _ _ _ _ _ _ _ _ _ _ _ _ _ _ _ _ _ _ _ _ _ _ _ _ _ _ _ _ _ _ _ _ _ _ _ _ _ _ _ _ _ _ _ _ _ _ _ _ _ _ _ _ _ _ _ _ _ _ _ _ _ _ _ _ _ _ _ _ _ _ _ _ _ _ _ _ _ _ _ _ _ (u) (l) _ (bdN (unhide HBu) nq) ((unhide HRu).below (Nat.le_refl _) (bdN (Below.refl _ _) nq)) (unhide HVu) (by omega)
              · have c32z : ¬ ((32 : Int) < (l : Int)) := by omega
                have c32b : decide ((32 : Int) < (l : Int)) = false := decide_eq_false c32z
                clear hru
                go_wp2_with fail
                go_big_quiet (fail)
                go_wp2
                exact (unhide HN) _ _ _ _ _ _ _ _ _ _ _ _ _ _ _ _ _ _ _ _ _ _ _ _ _ _ _ _ _ _ _ _ _ _ _ _ _ _ _ _ _ _ _ _ _ _ _ _ _ _ _ _ _ _ _ _ _ _ _ _ _ _ _ _ _ _ _ _ _ _ _ _ _ _ _ _ _ _ _ _ _ _ _ _ _ _ _ _ _ _ _ _ _ _ _ _ _ _ _ _ _ _ _ _ _ _ _ _ _ _ _ _ _ _ _ _ _ _ _ _ _ _ _ _ _ _ _ _ _ _ _ _ _ _ _ _ _ _ _ _ _ _ _ _ _ _ _ _ _ _ _ _ _ _ _ _ _ _ _ _ _ _ _ _ _ _ _ _ _ _ _ _ _ _ _ _ _ _ _ _ _ (u) (l) _ (bdN (unhide HBu) nq) ((unhide HRu).below (Nat.le_refl _) (bdN (Below.refl _ _) nq)) (unhide HVu) (by omega)
          · have hz2b : ((Z2 : Int) == 0) = false := by simp; omega
            go_big_quiet (first | (go_at_call 38; with_reducible refine Calls.quiet_of (unhide HW2 _)) | (go_at_call 38; with_reducible refine Calls.quiet_of (unhide HW3 _)))
            go_wp2
            exact (unhide HN) _ _ _ _ _ _ _ _ _ _ _ _ _ _ _ _ _ _ _ _ _ _ _ _ _ _ _ _ _ _ _ _ _ _ _ _ _ _ _ _ _ _ _ _ _ _ _ _ _ _ _ _ _ _ _ _ _ _ _ _ _ _ _ _ _ _ _ _ _ _ _ _ _ _ _ _ _ _ _ _ _ _ _ _ _ _ _ _ _ _ _ _ _ _ _ _ _ _ _ _ _ _ _ _ _ _ _ _ _ _ _ _ _ _ _ _ _ _ _ _ _ _ _ _ _ _ _ _ _ _ _ _ _ _ _ _ _ _ _ _ _ _ _ _ _ _ _ _ _ _ _ _ _ _ _ _ _ _ _ _ _ _ _ _ _ _ _ _ _ _ _ _ _ _ _ _ _ _ _ _ _ (t2) (j) _ (bdN (unhide HB1) nq) ((unhide HR2b).below (Nat.le_refl _) (bdN (Below.refl _ _) nq)) (unhide HV2) (by omega)
        · have c16z : ¬ ((16 : Int) < (j : Int)) := by omega
          have c16b : decide ((16 : Int) < (j : Int)) = false := decide_eq_false c16z
          go_big_quiet (fail)
          go_wp2
          exact (unhide HN) _ _ _ _ _ _ _ _ _ _ _ _ _ _ _ _ _ _ _ _ _ _ _ _ _ _ _ _ _ _ _ _ _ _ _ _ _ _ _ _ _ _ _ _ _ _ _ _ _ _ _ _ _ _ _ _ _ _ _ _ _ _ _ _ _ _ _ _ _ _ _ _ _ _ _ _ _ _ _ _ _ _ _ _ _ _ _ _ _ _ _ _ _ _ _ _ _ _ _ _ _ _ _ _ _ _ _ _ _ _ _ _ _ _ _ _ _ _ _ _ _ _ _ _ _ _ _ _ _ _ _ _ _ _ _ _ _ _ _ _ _ _ _ _ _ _ _ _ _ _ _ _ _ _ _ _ _ _ _ _ _ _ _ _ _ _ _ _ _ _ _ _ _ _ _ _ _ _ _ _ _ (t2) (j) _ (bdN (unhide HB1) nq) ((unhide HR2b).below (Nat.le_refl _) (bdN (Below.refl _ _) nq)) (unhide HV2) (by omega)
      · have hz1b : ((Z1 : Int) == 0) = false := by simp; omega
        go_wp2_with (go_at_call 38; refine (unhide HW1).mono ?_; rintro e W1 ⟨rfl, q1, rfl⟩)
        exact (unhide HN) _ _ _ _ _ _ _ _ _ _ _ _ _ _ _ _ _ _ _ _ _ _ _ _ _ _ _ _ _ _ _ _ _ _ _ _ _ _ _ _ _ _ _ _ _ _ _ _ _ _ _ _ _ _ _ _ _ _ _ _ _ _ _ _ _ _ _ _ _ _ _ _ _ _ _ _ _ _ _ _ _ _ _ _ _ _ _ _ _ _ _ _ _ _ _ _ _ _ _ _ _ _ _ _ _ _ _ _ _ _ _ _ _ _ _ _ _ _ _ _ _ _ _ _ _ _ _ _ _ _ _ _ _ _ _ _ _ _ _ _ _ _ _ _ _ _ _ _ _ _ _ _ _ _ _ _ _ _ _ _ _ _ _ _ _ _ _ _ _ _ _ _ _ _ _ _ _ _ _ _ _ (t1) (k) _ (bdN (Below.refl _ _) q1) ((unhide HR1).below (Nat.le_refl _) (bdN (Below.refl _ _) q1)) (unhide HV1) (by omega)
    · have c8z : ¬ ((8 : Int) < (k : Int)) := by omega
      go_wp2
      exact (unhide HN) _ _ _ _ _ _ _ _ _ _ _ _ _ _ _ _ _ _ _ _ _ _ _ _ _ _ _ _ _ _ _ _ _ _ _ _ _ _ _ _ _ _ _ _ _ _ _ _ _ _ _ _ _ _ _ _ _ _ _ _ _ _ _ _ _ _ _ _ _ _ _ _ _ _ _ _ _ _ _ _ _ _ _ _ _ _ _ _ _ _ _ _ _ _ _ _ _ _ _ _ _ _ _ _ _ _ _ _ _ _ _ _ _ _ _ _ _ _ _ _ _ _ _ _ _ _ _ _ _ _ _ _ _ _ _ _ _ _ _ _ _ _ _ _ _ _ _ _ _ _ _ _ _ _ _ _ _ _ _ _ _ _ _ _ _ _ _ _ _ _ _ _ _ _ _ _ _ _ _ _ _ (t1) (k) _ (Below.refl _ _) (unhide HR1) (unhide HV1) (by omega)
end Sc
end Go.Proofs.YtcmidegffpehoaaDoor
