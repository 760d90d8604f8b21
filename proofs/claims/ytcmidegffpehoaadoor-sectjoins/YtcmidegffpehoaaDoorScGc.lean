/- The document's Text: a round at a first byte of 3. -/
import Derived.Test.YtcmidegffpehoaaDoorScGa
namespace Go.Proofs.YtcmidegffpehoaaDoor
open Go.RowKit
namespace Sc
set_option linter.unusedVariables false
set_option linter.unusedSimpArgs false

set_option maxHeartbeats 8000000 in
set_option maxRecDepth 1000000 in
theorem tround_2 {u1 u2 u4 u5 u6 u7 u8 u9 u10 u11 u12 u13 u14 u15 u16 u17 u18 u19 u20 u21 u22 u23 u24 u25 u26 u27 u28 u29 u30 u31 u32 u33 u34 u35 u36 u37 u38 u39 u40 u41 u42 u43 u44 u45 u46 u47 u48 u49 u50 u51 u52 u53 u54 u55 u56 u57 u58 u59 u60 u61 u62 u63 u64 u65 u66 u67 u68 u69 u70 u71 u72 u73 u74 u75 u76 u77 u78 u79 u80 u81 u82 u83 u84 u85 u86 u87 u88 u89 u90 u91 u92 u93 u94 u95 u96 u97 u98 u99 u100 u101 u102 u103 u104 u105 u106 u107 u108 u109 u110 u111 u112 u113 u114 u115 u116 u117 u118 u119 u120 u121 u122 u123 u124 u125 u126 u127 u128 u129 u130 u131 u132 u133 u134 u135 u136 u137 u138 u139 u140 u141 u142 u143 u144 u145 u146 u147 u148 u149 u150 u151 u152 u153 : Value} {b o n cap p : Nat} {z : Int} {zs : List Int} {wr0 : World} {ANS : Bool} {Q0 : Exit → Act → World → Prop} (HRr : Hid (Row wr0 (some ⟨b, o, none⟩) n zs)) (HV : Hid (vd (zs.drop p) = ANS)) (HLn : Hid ((zs.drop p).length = n - p)) (HZ : Hid ((zs.drop p).getD 0 0 = z))
    (hpn : (p : Int) < (n : Int)) (hn : n ≤ 50000) (hbl : b < wr0.heap.size) (c0 : wr0.cell? ⟨b, o + p, none⟩ = some (.int .u8 z)) (h1 : 224 ≤ z) (h2 : z < 240)
    (hnorm : ∀ (v2 v4 v5 v6 v7 v8 v9 v10 v11 v12 v13 v14 v15 v16 v17 v18 v19 v20 v21 v22 v23 v24 v25 v26 v27 v28 v29 v30 v31 v32 v33 v34 v35 v36 v37 v38 v39 v40 v41 v42 v43 v44 v45 v46 v47 v48 v49 v50 v51 v52 v53 v54 v55 v56 v57 v58 v59 v60 v61 v62 v63 v64 v65 v66 v67 v68 v69 v70 v71 v72 v73 v74 v75 v76 v77 v78 v79 v80 v81 v82 v83 v84 v85 v86 v87 v88 v89 v90 v91 v92 v93 v94 v95 v96 v97 v98 v99 v100 v101 v102 v103 v104 v105 v106 v107 v108 v109 v110 v111 v112 v113 v114 v115 v116 v117 v118 v119 v120 v121 v122 v123 v124 v125 v126 v127 v128 v129 v130 v131 v132 v133 v134 v135 v136 v137 v138 v139 v140 v141 v142 v143 v144 v145 v146 v147 v148 v149 v150 v151 v152 v153 : Value) (m : Nat) (w2 : World), Below wr0.heap.size wr0 w2 → vd (zs.drop m) = ANS → p < m → m ≤ n → Q0 .normal ⟨#[.slice (some ⟨b, o, none⟩) n cap, u1, v2, .int .i64 m, v4, v5, v6, v7, v8, v9, v10, v11, v12, v13, v14, v15, v16, v17, v18, v19, v20, v21, v22, v23, v24, v25, v26, v27, v28, v29, v30, v31, v32, v33, v34, v35, v36, v37, v38, v39, v40, v41, v42, v43, v44, v45, v46, v47, v48, v49, v50, v51, v52, v53, v54, v55, v56, v57, v58, v59, v60, v61, v62, v63, v64, v65, v66, v67, v68, v69, v70, v71, v72, v73, v74, v75, v76, v77, v78, v79, v80, v81, v82, v83, v84, v85, v86, v87, v88, v89, v90, v91, v92, v93, v94, v95, v96, v97, v98, v99, v100, v101, v102, v103, v104, v105, v106, v107, v108, v109, v110, v111, v112, v113, v114, v115, v116, v117, v118, v119, v120, v121, v122, v123, v124, v125, v126, v127, v128, v129, v130, v131, v132, v133, v134, v135, v136, v137, v138, v139, v140, v141, v142, v143, v144, v145, v146, v147, v148, v149, v150, v151, v152, v153], []⟩ w2)
    (hret : ∀ (v4 v5 v6 v7 v8 v9 v10 v11 v12 v13 v14 v15 v16 v17 v18 v19 v20 v21 v22 v23 v24 v25 v26 v27 v28 v29 v30 v31 v32 v33 v34 v35 v36 v37 v38 v39 v40 v41 v42 v43 v44 v45 v46 v47 v48 v49 v50 v51 v52 v53 v54 v55 v56 v57 v58 v59 v60 v61 v62 v63 v64 v65 v66 v67 v68 v69 v70 v71 v72 v73 v74 v75 v76 v77 v78 v79 v80 v81 v82 v83 v84 v85 v86 v87 v88 v89 v90 v91 v92 v93 v94 v95 v96 v97 v98 v99 v100 v101 v102 v103 v104 v105 v106 v107 v108 v109 v110 v111 v112 v113 v114 v115 v116 v117 v118 v119 v120 v121 v122 v123 v124 v125 v126 v127 v128 v129 v130 v131 v132 v133 v134 v135 v136 v137 v138 v139 v140 v141 v142 v143 v144 v145 v146 v147 v148 v149 v150 v151 v152 v153 : Value) (v3 : Value) (w2 : World), Below wr0.heap.size wr0 w2 → ANS = false → Q0 .ret ⟨#[.slice (some ⟨b, o, none⟩) n cap, u1, .bool false, v3, v4, v5, v6, v7, v8, v9, v10, v11, v12, v13, v14, v15, v16, v17, v18, v19, v20, v21, v22, v23, v24, v25, v26, v27, v28, v29, v30, v31, v32, v33, v34, v35, v36, v37, v38, v39, v40, v41, v42, v43, v44, v45, v46, v47, v48, v49, v50, v51, v52, v53, v54, v55, v56, v57, v58, v59, v60, v61, v62, v63, v64, v65, v66, v67, v68, v69, v70, v71, v72, v73, v74, v75, v76, v77, v78, v79, v80, v81, v82, v83, v84, v85, v86, v87, v88, v89, v90, v91, v92, v93, v94, v95, v96, v97, v98, v99, v100, v101, v102, v103, v104, v105, v106, v107, v108, v109, v110, v111, v112, v113, v114, v115, v116, v117, v118, v119, v120, v121, v122, v123, v124, v125, v126, v127, v128, v129, v130, v131, v132, v133, v134, v135, v136, v137, v138, v139, v140, v141, v142, v143, v144, v145, v146, v147, v148, v149, v150, v151, v152, v153], []⟩ w2) :
    Code.wp Tryd.prog tbody Q0 ⟨#[.slice (some ⟨b, o, none⟩) n cap, u1, u2, .int .i64 p, u4, u5, u6, u7, u8, u9, u10, u11, u12, u13, u14, u15, u16, u17, u18, u19, u20, u21, u22, u23, u24, u25, u26, u27, u28, u29, u30, u31, u32, u33, u34, u35, u36, u37, u38, u39, u40, u41, u42, u43, u44, u45, u46, u47, u48, u49, u50, u51, u52, u53, u54, u55, u56, u57, u58, u59, u60, u61, u62, u63, u64, u65, u66, u67, u68, u69, u70, u71, u72, u73, u74, u75, u76, u77, u78, u79, u80, u81, u82, u83, u84, u85, u86, u87, u88, u89, u90, u91, u92, u93, u94, u95, u96, u97, u98, u99, u100, u101, u102, u103, u104, u105, u106, u107, u108, u109, u110, u111, u112, u113, u114, u115, u116, u117, u118, u119, u120, u121, u122, u123, u124, u125, u126, u127, u128, u129, u130, u131, u132, u133, u134, u135, u136, u137, u138, u139, u140, u141, u142, u143, u144, u145, u146, u147, u148, u149, u150, u151, u152, u153], []⟩ wr0 := by
  have HN := hide hnorm; have HRt := hide hret
  clear hnorm hret
  have d0 : ¬ (z < 128) := by omega
  have d1 : ¬ (z < 224) := by omega
  have hTb := @tb_2 (zs.drop p) z (unhide HZ) h1 h2
  have hTv := fun V f => @tv_2 (zs.drop p) z V f (unhide HZ) h1 h2
  have HTb := hide hTb; have HTvs := hide hTv
  clear hTb hTv
  conv => arg 2; whnf
  go_wp2_with fail
  go_quiet (fail)
  go_wp2
  go_loopg [5, 6] 3 (fun g2 sv sk wx => ∃ (j : Nat) (V : Int), sk = .int .i64 ((j : Int) + 1) ∧ sv = .int .i64 V ∧ Hid (V = vv (z - 224) (fun i => (zs.drop p).getD i 0) j) ∧ 0 ≤ V ∧ V < 32 * 64 ^ j ∧ j ≤ 2 ∧ 2 - j < g2 ∧ Hid (Below wr0.heap.size wr0 wx) ∧ Hid (∀ i, 1 ≤ i → i ≤ j → p + i < n ∧ 128 ≤ (zs.drop p).getD i 0 ∧ (zs.drop p).getD i 0 ≤ 191))
  case atStart => exact ⟨0, z - 224, rfl, rfl, hide rfl, by omega, by omega, by omega, by omega, hide (bdN (Below.refl _ _) _), hide (fun i hi1 hi2 => by omega)⟩
  case round =>
    obtain ⟨j, V, rfl, rfl, HVV, hV0, hV1, hjk, hg2, HBx, HAll⟩ := hrel
    have hV2 : V < 9000000 := by
      have : (64 : Int) ^ j ≤ 64 ^ 2 := by
        rcases (by omega : j = 0 ∨ j = 1 ∨ j = 2) with rfl | rfl | rfl <;> decide
      have h64 : (64 : Int) ^ 2 = 4096 := by decide
      omega
    by_cases hjl : j < 2
    · obtain ⟨g', rfl⟩ : ∃ g', gk = g' + 1 := ⟨gk - 1, by omega⟩
      have hjz : (j : Int) + 1 ≤ 2 := by omega
      by_cases hend : p + (j + 1) < n
      · obtain ⟨cj, _, y0, y255⟩ := row_at ((unhide HRr).below (Nat.le_refl _) (unhide HBx)) hend
        have hyd : (zs.drop p).getD (j + 1) 0 = zs.getD (p + (j + 1)) 0 := drop_get zs p (j + 1)
        obtain ⟨y, hy⟩ : ∃ y, zs.getD (p + (j + 1)) 0 = y := ⟨_, rfl⟩
        rw [hy] at cj y0 y255 hyd
        have HYd := hide hyd; clear hyd hy
        have hez : (p : Int) + ((j : Int) + 1) < (n : Int) := by omega
        have hez2 : ¬ ((n : Int) ≤ (p : Int) + ((j : Int) + 1)) := by omega
        by_cases q1 : y < 128
        · have hw := unhide HTb (tbj_2 hjl (unhide HYd) (by omega))
          have hA : ANS = false := (unhide HV).symm.trans (vd_no (by rw [unhide HLn]; omega) hw)
          subst hA
          clear hw HTb HTvs
          go_wp2
          exact (unhide HRt) _ _ _ _ _ _ _ _ _ _ _ _ _ _ _ _ _ _ _ _ _ _ _ _ _ _ _ _ _ _ _ _ _ _ _ _ _ _ _ _ _ _ _ _ _ _ _ _ _ _ _ _ _ _ _ _ _ _ _ _ _ _ _ _ _ _ _ _ _ _ _ _ _ _ _ _ _ _ _ _ _ _ _ _ _ _ _ _ _ _ _ _ _ _ _ _ _ _ _ _ _ _ _ _ _ _ _ _ _ _ _ _ _ _ _ _ _ _ _ _ _ _ _ _ _ _ _ _ _ _ _ _ _ _ _ _ _ _ _ _ _ _ _ _ _ _ _ _ _ _ _ _ (unhide HBx) (by first | rfl | trivial)
        · by_cases q2 : 191 < y
          · have hw := unhide HTb (tbj_2 hjl (unhide HYd) (by omega))
            have hA : ANS = false := (unhide HV).symm.trans (vd_no (by rw [unhide HLn]; omega) hw)
            subst hA
            clear hw HTb HTvs
            go_wp2
            exact (unhide HRt) _ _ _ _ _ _ _ _ _ _ _ _ _ _ _ _ _ _ _ _ _ _ _ _ _ _ _ _ _ _ _ _ _ _ _ _ _ _ _ _ _ _ _ _ _ _ _ _ _ _ _ _ _ _ _ _ _ _ _ _ _ _ _ _ _ _ _ _ _ _ _ _ _ _ _ _ _ _ _ _ _ _ _ _ _ _ _ _ _ _ _ _ _ _ _ _ _ _ _ _ _ _ _ _ _ _ _ _ _ _ _ _ _ _ _ _ _ _ _ _ _ _ _ _ _ _ _ _ _ _ _ _ _ _ _ _ _ _ _ _ _ _ _ _ _ _ _ _ _ _ _ _ (unhide HBx) (by first | rfl | trivial)
          · have hvn : 64 * V + y - 128 = vv (z - 224) (fun i => (zs.drop p).getD i 0) (j + 1) := by show _ = 64 * vv _ _ j + (zs.drop p).getD (j + 1) 0 - 128; rw [← unhide HVV, unhide HYd]
            have hpw : (64 : Int) ^ (j + 1) = 64 ^ j * 64 := Int.pow_succ _ _
            have HVn := hide hvn; clear hvn
            have hall : ∀ i, 1 ≤ i → i ≤ j + 1 → p + i < n ∧ 128 ≤ (zs.drop p).getD i 0 ∧ (zs.drop p).getD i 0 ≤ 191 := fun i hi1 hi2 => by
              by_cases hi : i ≤ j
              · exact unhide HAll i hi1 hi
              · obtain rfl : i = j + 1 := by omega
                rw [unhide HYd]; omega
            have HAl2 := hide hall; clear hall HAll HVV
            have HPw := hide hpw; clear hpw
            go_wp2
            go_roundg g'
            case measure => omega
            case rel => exact ⟨j + 1, 64 * V + y - 128, by simp, rfl, HVn, by omega, by rw [unhide HPw]; omega, by omega, by omega, HBx, HAl2⟩
      · have hw := unhide HTb (by have e2 := unhide HLn; omega)
        have hA : ANS = false := (unhide HV).symm.trans (vd_no (by rw [unhide HLn]; omega) hw)
        subst hA
        have hez : ¬ ((p : Int) + ((j : Int) + 1) < (n : Int)) := by omega
        have hez2 : (n : Int) ≤ (p : Int) + ((j : Int) + 1) := by omega
        clear hw HTb HTvs
        go_wp2
        exact (unhide HRt) _ _ _ _ _ _ _ _ _ _ _ _ _ _ _ _ _ _ _ _ _ _ _ _ _ _ _ _ _ _ _ _ _ _ _ _ _ _ _ _ _ _ _ _ _ _ _ _ _ _ _ _ _ _ _ _ _ _ _ _ _ _ _ _ _ _ _ _ _ _ _ _ _ _ _ _ _ _ _ _ _ _ _ _ _ _ _ _ _ _ _ _ _ _ _ _ _ _ _ _ _ _ _ _ _ _ _ _ _ _ _ _ _ _ _ _ _ _ _ _ _ _ _ _ _ _ _ _ _ _ _ _ _ _ _ _ _ _ _ _ _ _ _ _ _ _ _ _ _ _ _ _ (unhide HBx) (by first | rfl | trivial)
    · obtain rfl : j = 2 := by omega
      have ha := unhide HAll
      have hTv := unhide HTvs V _ (by have e2 := unhide HLn; have a1 := ha 1 (by omega) (by omega); have a2 := ha 2 (by omega) (by omega); omega) (fun i => rfl) (unhide HVV)
      have hpk : p + 2 < n := (ha 2 (by omega) (by omega)).1
      have HTv := hide hTv
      have hV3 : V < 131072 := by
        have h64 : (64 : Int) ^ 2 = 4096 := by decide
        omega
      clear ha hTv HTb HTvs HAll HVV hV1
      by_cases g0 : V < 2048
      · skip
        have hw := (unhide HTv).1 (by omega)
        have hA : ANS = false := (unhide HV).symm.trans (vd_no (by rw [unhide HLn]; omega) hw)
        subst hA
        clear HTv
        go_wp2
        exact (unhide HRt) _ _ _ _ _ _ _ _ _ _ _ _ _ _ _ _ _ _ _ _ _ _ _ _ _ _ _ _ _ _ _ _ _ _ _ _ _ _ _ _ _ _ _ _ _ _ _ _ _ _ _ _ _ _ _ _ _ _ _ _ _ _ _ _ _ _ _ _ _ _ _ _ _ _ _ _ _ _ _ _ _ _ _ _ _ _ _ _ _ _ _ _ _ _ _ _ _ _ _ _ _ _ _ _ _ _ _ _ _ _ _ _ _ _ _ _ _ _ _ _ _ _ _ _ _ _ _ _ _ _ _ _ _ _ _ _ _ _ _ _ _ _ _ _ _ _ _ _ _ _ _ _ (unhide HBx) (by first | rfl | trivial)
      · skip
        by_cases g1 : V < 55296
        · skip
          have t0 : ¬ (1114111 < V) := by omega
          have t1 : ¬ (55296 ≤ V) := by omega
          have hw := (unhide HTv).2 (by omega)
          have hA : vd (zs.drop (p + 3)) = ANS := by
            have e := vd_on (zs := zs.drop p) (by rw [unhide HLn]; omega) (by rw [hw]; decide)
            rw [hw, List.drop_drop] at e
            exact e.symm.trans (unhide HV)
          have HA := hide hA
          clear HTv hw hA
          go_wp2
          exact (unhide HN) _ _ _ _ _ _ _ _ _ _ _ _ _ _ _ _ _ _ _ _ _ _ _ _ _ _ _ _ _ _ _ _ _ _ _ _ _ _ _ _ _ _ _ _ _ _ _ _ _ _ _ _ _ _ _ _ _ _ _ _ _ _ _ _ _ _ _ _ _ _ _ _ _ _ _ _ _ _ _ _ _ _ _ _ _ _ _ _ _ _ _ _ _ _ _ _ _ _ _ _ _ _ _ _ _ _ _ _ _ _ _ _ _ _ _ _ _ _ _ _ _ _ _ _ _ _ _ _ _ _ _ _ _ _ _ _ _ _ _ _ _ _ _ _ _ _ _ _ _ _ _ (p + 3) _ (unhide HBx) (unhide HA) (by omega) (by omega)
        · skip
          by_cases g2 : V < 57344
          · skip
            have t0 : ¬ (1114111 < V) := by omega
            have t1 : 55296 ≤ V := by omega
            have hw := (unhide HTv).1 (by omega)
            have hA : ANS = false := (unhide HV).symm.trans (vd_no (by rw [unhide HLn]; omega) hw)
            subst hA
            clear HTv
            go_wp2
            exact (unhide HRt) _ _ _ _ _ _ _ _ _ _ _ _ _ _ _ _ _ _ _ _ _ _ _ _ _ _ _ _ _ _ _ _ _ _ _ _ _ _ _ _ _ _ _ _ _ _ _ _ _ _ _ _ _ _ _ _ _ _ _ _ _ _ _ _ _ _ _ _ _ _ _ _ _ _ _ _ _ _ _ _ _ _ _ _ _ _ _ _ _ _ _ _ _ _ _ _ _ _ _ _ _ _ _ _ _ _ _ _ _ _ _ _ _ _ _ _ _ _ _ _ _ _ _ _ _ _ _ _ _ _ _ _ _ _ _ _ _ _ _ _ _ _ _ _ _ _ _ _ _ _ _ _ (unhide HBx) (by first | rfl | trivial)
          · skip
            have t0 : ¬ (1114111 < V) := by omega
            have t1 : 55296 ≤ V := by omega
            have hw := (unhide HTv).2 (by omega)
            have hA : vd (zs.drop (p + 3)) = ANS := by
              have e := vd_on (zs := zs.drop p) (by rw [unhide HLn]; omega) (by rw [hw]; decide)
              rw [hw, List.drop_drop] at e
              exact e.symm.trans (unhide HV)
            have HA := hide hA
            clear HTv hw hA
            go_wp2
            exact (unhide HN) _ _ _ _ _ _ _ _ _ _ _ _ _ _ _ _ _ _ _ _ _ _ _ _ _ _ _ _ _ _ _ _ _ _ _ _ _ _ _ _ _ _ _ _ _ _ _ _ _ _ _ _ _ _ _ _ _ _ _ _ _ _ _ _ _ _ _ _ _ _ _ _ _ _ _ _ _ _ _ _ _ _ _ _ _ _ _ _ _ _ _ _ _ _ _ _ _ _ _ _ _ _ _ _ _ _ _ _ _ _ _ _ _ _ _ _ _ _ _ _ _ _ _ _ _ _ _ _ _ _ _ _ _ _ _ _ _ _ _ _ _ _ _ _ _ _ _ _ _ _ _ (p + 3) _ (unhide HBx) (unhide HA) (by omega) (by omega)
end Sc
end Go.Proofs.YtcmidegffpehoaaDoor
