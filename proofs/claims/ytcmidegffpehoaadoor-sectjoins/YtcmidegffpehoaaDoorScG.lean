/- The document's Text. -/
import Derived.Test.YtcmidegffpehoaaDoorScGb
import Derived.Test.YtcmidegffpehoaaDoorScGc
import Derived.Test.YtcmidegffpehoaaDoorScGd
namespace Go.Proofs.YtcmidegffpehoaaDoor
open Go.RowKit
namespace Sc
set_option linter.unusedVariables false
set_option linter.unusedSimpArgs false

set_option maxHeartbeats 8000000 in
set_option maxRecDepth 1000000 in
theorem rtext_any {a : Option Addr} {n cap : Nat} {zs : List Int} {w : World} (h : Row w a n zs) (hn : n ≤ 50000) :
    Calls Tryd.prog 15 #[.slice a n cap] w fun e w' => e = .returned (.bool (vd zs)) ∧ Below w.heap.size w w' := by
  obtain ⟨ANS, hANS⟩ : ∃ ANS, vd zs = ANS := ⟨_, rfl⟩
  rw [hANS]
  have hl := h.1
  have HH := hide h; have HA := hide hANS
  clear h hANS
  go_enter Tryd.func15, Tryd.ntmps15
  go_wp2
  go_loopg [3] (n + 1) (fun gk s3 wr => ∃ p : Nat, s3 = .int .i64 p ∧ p ≤ n ∧ n - p < gk ∧ Hid (Below w.heap.size w wr) ∧ Hid (vd (zs.drop p) = ANS))
  case atStart => exact ⟨0, rfl, by omega, by omega, hide (Below.refl _ _), by rw [List.drop_zero]; exact HA⟩
  case round =>
    obtain ⟨p, rfl, hpn, hgk, HB, HV⟩ := hrel
    by_cases hp : p < n
    · obtain ⟨g', rfl⟩ : ∃ g', gk = g' + 1 := ⟨gk - 1, by omega⟩
      have hpz : (p : Int) < (n : Int) := by omega
      have hrw := (unhide HH).below (Nat.le_refl _) (unhide HB)
      obtain ⟨b, o, rfl, hx9, hx8⟩ := row_byte hrw hp
      clear hx9 hx8
      obtain ⟨c0, hbl, hz0, hz1⟩ := row_at hrw hp
      have hzd : (zs.drop p).getD 0 0 = zs.getD p 0 := drop_get zs p 0
      obtain ⟨z, hz⟩ : ∃ z, zs.getD p 0 = z := ⟨_, rfl⟩
      rw [hz] at c0 hz0 hz1 hzd
      have HRw := hide hrw; have HZ := hide hzd
      have HLn := hide (show (zs.drop p).length = n - p by rw [List.length_drop, hl])
      clear hrw hzd hz
      by_cases e1 : z < 128
      · have hx1 : ∀ i, i < 1 → (zs.drop p).getD i 0 < 128 := fun i hi => by
          obtain rfl : i = 0 := by omega
          rw [unhide HZ]; exact e1
        have hv2 : vd (zs.drop (p + 1)) = ANS := by
          have e := vd_asc 1 (zs.drop p) (by have := unhide HLn; omega) hx1
          rw [List.drop_drop] at e
          exact e.symm.trans (unhide HV)
        clear hx1
        have HV2 := hide hv2; clear hv2
        go_wp2
        go_roundg g'
        case measure => omega
        case rel => exact ⟨p + 1, by simp, by omega, by omega, HB, HV2⟩
      · by_cases e2 : z < 192
        · have hA : ANS = false := (unhide HV).symm.trans (vd_no (by rw [unhide HLn]; omega) (tw_mid (unhide HZ) (by omega) (.inl e2)))
          subst hA
          have q0 : ¬ (192 ≤ z) := by omega
          have q1 : ¬ (224 ≤ z) := by omega
          have q2 : ¬ (240 ≤ z) := by omega
          go_wp2
          all_goals (go_ret; exact ⟨rfl, unhide HB⟩)
        · by_cases e3 : z < 224
          · exact tround_1 HRw HV HLn HZ hpz hn hbl c0 (by omega) e3 (fun v2 v4 v5 v6 v7 v8 v9 v10 v11 v12 v13 v14 v15 v16 v17 v18 v19 v20 v21 v22 v23 v24 v25 v26 v27 v28 v29 v30 v31 v32 v33 v34 v35 v36 v37 v38 v39 v40 v41 v42 v43 v44 v45 v46 v47 v48 v49 v50 v51 v52 v53 v54 v55 v56 v57 v58 v59 v60 v61 v62 v63 v64 v65 v66 v67 v68 v69 v70 v71 v72 v73 v74 v75 v76 v77 v78 v79 v80 v81 v82 v83 v84 v85 v86 v87 v88 v89 v90 v91 v92 v93 v94 v95 v96 v97 v98 v99 v100 v101 v102 v103 v104 v105 v106 v107 v108 v109 v110 v111 v112 v113 v114 v115 v116 v117 v118 v119 v120 v121 v122 v123 v124 v125 v126 v127 v128 v129 v130 v131 v132 v133 v134 v135 v136 v137 v138 v139 v140 v141 v142 v143 v144 v145 v146 v147 v148 v149 v150 v151 v152 v153 m w2 hb2 hv2 hm2 hm3 => by
            dsimp only
            go_wp2
            go_roundg g'
            case measure => omega
            case rel => exact ⟨m, rfl, hm3, by omega, hide ((unhide HB).trans (hb2.mono (unhide HB).size)), hide hv2⟩) (fun v4 v5 v6 v7 v8 v9 v10 v11 v12 v13 v14 v15 v16 v17 v18 v19 v20 v21 v22 v23 v24 v25 v26 v27 v28 v29 v30 v31 v32 v33 v34 v35 v36 v37 v38 v39 v40 v41 v42 v43 v44 v45 v46 v47 v48 v49 v50 v51 v52 v53 v54 v55 v56 v57 v58 v59 v60 v61 v62 v63 v64 v65 v66 v67 v68 v69 v70 v71 v72 v73 v74 v75 v76 v77 v78 v79 v80 v81 v82 v83 v84 v85 v86 v87 v88 v89 v90 v91 v92 v93 v94 v95 v96 v97 v98 v99 v100 v101 v102 v103 v104 v105 v106 v107 v108 v109 v110 v111 v112 v113 v114 v115 v116 v117 v118 v119 v120 v121 v122 v123 v124 v125 v126 v127 v128 v129 v130 v131 v132 v133 v134 v135 v136 v137 v138 v139 v140 v141 v142 v143 v144 v145 v146 v147 v148 v149 v150 v151 v152 v153 v3 w2 hb2 ha2 => by
            subst ha2
            dsimp only
            go_wp2
            go_ret
            exact ⟨rfl, (unhide HB).trans (hb2.mono (unhide HB).size)⟩)
          · by_cases e4 : z < 240
            · exact tround_2 HRw HV HLn HZ hpz hn hbl c0 (by omega) e4 (fun v2 v4 v5 v6 v7 v8 v9 v10 v11 v12 v13 v14 v15 v16 v17 v18 v19 v20 v21 v22 v23 v24 v25 v26 v27 v28 v29 v30 v31 v32 v33 v34 v35 v36 v37 v38 v39 v40 v41 v42 v43 v44 v45 v46 v47 v48 v49 v50 v51 v52 v53 v54 v55 v56 v57 v58 v59 v60 v61 v62 v63 v64 v65 v66 v67 v68 v69 v70 v71 v72 v73 v74 v75 v76 v77 v78 v79 v80 v81 v82 v83 v84 v85 v86 v87 v88 v89 v90 v91 v92 v93 v94 v95 v96 v97 v98 v99 v100 v101 v102 v103 v104 v105 v106 v107 v108 v109 v110 v111 v112 v113 v114 v115 v116 v117 v118 v119 v120 v121 v122 v123 v124 v125 v126 v127 v128 v129 v130 v131 v132 v133 v134 v135 v136 v137 v138 v139 v140 v141 v142 v143 v144 v145 v146 v147 v148 v149 v150 v151 v152 v153 m w2 hb2 hv2 hm2 hm3 => by
            dsimp only
            go_wp2
            go_roundg g'
            case measure => omega
            case rel => exact ⟨m, rfl, hm3, by omega, hide ((unhide HB).trans (hb2.mono (unhide HB).size)), hide hv2⟩) (fun v4 v5 v6 v7 v8 v9 v10 v11 v12 v13 v14 v15 v16 v17 v18 v19 v20 v21 v22 v23 v24 v25 v26 v27 v28 v29 v30 v31 v32 v33 v34 v35 v36 v37 v38 v39 v40 v41 v42 v43 v44 v45 v46 v47 v48 v49 v50 v51 v52 v53 v54 v55 v56 v57 v58 v59 v60 v61 v62 v63 v64 v65 v66 v67 v68 v69 v70 v71 v72 v73 v74 v75 v76 v77 v78 v79 v80 v81 v82 v83 v84 v85 v86 v87 v88 v89 v90 v91 v92 v93 v94 v95 v96 v97 v98 v99 v100 v101 v102 v103 v104 v105 v106 v107 v108 v109 v110 v111 v112 v113 v114 v115 v116 v117 v118 v119 v120 v121 v122 v123 v124 v125 v126 v127 v128 v129 v130 v131 v132 v133 v134 v135 v136 v137 v138 v139 v140 v141 v142 v143 v144 v145 v146 v147 v148 v149 v150 v151 v152 v153 v3 w2 hb2 ha2 => by
            subst ha2
            dsimp only
            go_wp2
            go_ret
            exact ⟨rfl, (unhide HB).trans (hb2.mono (unhide HB).size)⟩)
            · by_cases e5 : z < 248
              · exact tround_3 HRw HV HLn HZ hpz hn hbl c0 (by omega) e5 (fun v2 v4 v5 v6 v7 v8 v9 v10 v11 v12 v13 v14 v15 v16 v17 v18 v19 v20 v21 v22 v23 v24 v25 v26 v27 v28 v29 v30 v31 v32 v33 v34 v35 v36 v37 v38 v39 v40 v41 v42 v43 v44 v45 v46 v47 v48 v49 v50 v51 v52 v53 v54 v55 v56 v57 v58 v59 v60 v61 v62 v63 v64 v65 v66 v67 v68 v69 v70 v71 v72 v73 v74 v75 v76 v77 v78 v79 v80 v81 v82 v83 v84 v85 v86 v87 v88 v89 v90 v91 v92 v93 v94 v95 v96 v97 v98 v99 v100 v101 v102 v103 v104 v105 v106 v107 v108 v109 v110 v111 v112 v113 v114 v115 v116 v117 v118 v119 v120 v121 v122 v123 v124 v125 v126 v127 v128 v129 v130 v131 v132 v133 v134 v135 v136 v137 v138 v139 v140 v141 v142 v143 v144 v145 v146 v147 v148 v149 v150 v151 v152 v153 m w2 hb2 hv2 hm2 hm3 => by
            dsimp only
            go_wp2
            go_roundg g'
            case measure => omega
            case rel => exact ⟨m, rfl, hm3, by omega, hide ((unhide HB).trans (hb2.mono (unhide HB).size)), hide hv2⟩) (fun v4 v5 v6 v7 v8 v9 v10 v11 v12 v13 v14 v15 v16 v17 v18 v19 v20 v21 v22 v23 v24 v25 v26 v27 v28 v29 v30 v31 v32 v33 v34 v35 v36 v37 v38 v39 v40 v41 v42 v43 v44 v45 v46 v47 v48 v49 v50 v51 v52 v53 v54 v55 v56 v57 v58 v59 v60 v61 v62 v63 v64 v65 v66 v67 v68 v69 v70 v71 v72 v73 v74 v75 v76 v77 v78 v79 v80 v81 v82 v83 v84 v85 v86 v87 v88 v89 v90 v91 v92 v93 v94 v95 v96 v97 v98 v99 v100 v101 v102 v103 v104 v105 v106 v107 v108 v109 v110 v111 v112 v113 v114 v115 v116 v117 v118 v119 v120 v121 v122 v123 v124 v125 v126 v127 v128 v129 v130 v131 v132 v133 v134 v135 v136 v137 v138 v139 v140 v141 v142 v143 v144 v145 v146 v147 v148 v149 v150 v151 v152 v153 v3 w2 hb2 ha2 => by
            subst ha2
            dsimp only
            go_wp2
            go_ret
            exact ⟨rfl, (unhide HB).trans (hb2.mono (unhide HB).size)⟩)
              · have hA : ANS = false := (unhide HV).symm.trans (vd_no (by rw [unhide HLn]; omega) (tw_mid (unhide HZ) (by omega) (.inr (by omega))))
                subst hA
                go_wp2
                all_goals (go_ret; exact ⟨rfl, unhide HB⟩)
    · obtain rfl : p = n := by omega
      have hA : true = ANS := by have := unhide HV; rw [List.drop_eq_nil_of_le (by omega), vd_nil] at this; exact this
      subst hA
      go_wp2
      go_ret
      exact ⟨rfl, unhide HB⟩
end Sc
end Go.Proofs.YtcmidegffpehoaaDoor
