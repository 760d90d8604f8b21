/- unicode/utf8.Valid: are bytes a text? -/
import Derived.Test.YtcmidegffpehoaaDoorScVb
import Derived.Test.YtcmidegffpehoaaDoorScVc
import Derived.Test.YtcmidegffpehoaaDoorScVd
import Derived.Test.YtcmidegffpehoaaDoorScVe
namespace Go.Proofs.YtcmidegffpehoaaDoor
open Go.RowKit
namespace Sc
set_option linter.unusedVariables false
set_option linter.unusedSimpArgs false

set_option maxHeartbeats 16000000 in
set_option maxRecDepth 1000000 in
theorem valid_any {a : Option Addr} {n cap : Nat} {zs : List Int} {w : World} (h : Row w a n zs) (hc : n ≤ cap) (hn : n ≤ 1099511627776) (hT : Lib.Utf8Tabs 1 2 w) :
    Calls Tryd.prog 27 #[.slice a n cap] w fun e w' => e = .returned (.bool (vd zs)) ∧ Below w.heap.size w w' := by
  obtain ⟨ANS, hANS⟩ : ∃ ANS, vd zs = ANS := ⟨_, rfl⟩
  rw [hANS]
  have HR := hide h; have HA := hide hANS; have HT := hide hT; have hzl := h.1; clear h hANS hT
  go_enter Tryd.func27, Tryd.ntmps27
  go_wp2
  go_loopg [0] (n + 1) (fun gk s0 wx => Below w.heap.size w wx ∧ ∃ (a' : Option Addr) (t : List Int) (m : Nat), s0 = .slice a' m m ∧ Row wx a' m t ∧ vd t = ANS ∧ m < gk ∧ m ≤ 1099511627776)
  case atStart => exact ⟨Below.refl _ _, a, zs, n, rfl, unhide HR, unhide HA, by omega, hn⟩
  case round =>
    obtain ⟨hbw, a', t, m, rfl, hr, hv, hg, hm⟩ := hrel
    have htl := hr.1
    have hTr := Utf8Tabs_below (unhide HT) hbw
    by_cases h0 : 0 < m
    · obtain ⟨g', rfl⟩ : ∃ g', gk = g' + 1 := ⟨gk - 1, by omega⟩
      obtain ⟨b, o, rfl, hbl, c0⟩ := row_byte hr h0
      rw [Nat.add_zero] at c0
      have hz0 := (row_at hr h0).2.2
      obtain ⟨x0, hx0⟩ : ∃ x0 : Nat, t.getD 0 0 = (x0 : Int) := ⟨(t.getD 0 0).toNat, by omega⟩
      rw [hx0] at c0 hz0
      have hx0lt : x0 < 256 := by omega
      have h0z : (0 : Int) < (m : Int) := by omega
      have HRr := hide hr; have HBw := hide hbw; have HV := hide hv; have HTl := hide htl; have HX := hide hx0
      by_cases hasc : x0 < 128
      · have hascz : (x0 : Int) < 128 := by omega
        clear hTr hv hr hbw htl hx0
        exact round_1 HRr HV HTl HX h0 h0z hm hbl c0 hascz hx0lt (fun v2 v3 v4 v5 v6 v13 v14 v15 v16 v17 v18 v19 v20 v21 v22 v23 v24 v25 v26 v27 v28 v29 v30 v31 v32 v33 v34 v35 v36 v37 v38 v39 v40 v41 v42 v43 v44 v45 v46 v47 v48 v49 v50 v51 v52 v53 v54 v55 v56 v57 v58 v59 v60 v61 v62 v63 v64 v65 v66 v67 v68 v69 v70 v71 v72 v73 v74 v75 v76 v77 v78 v79 v80 v81 v82 v83 v84 v85 v86 v87 v88 v89 v90 v91 v92 v93 v94 v95 v96 v97 v98 v99 v100 v101 v102 v103 v104 v105 v106 v107 v108 v109 v110 v111 v112 v113 v114 v115 v116 v117 v118 v119 v120 v121 v122 v123 v124 v125 v126 v127 v128 v129 v130 v131 v132 v133 v134 v135 v136 v137 v138 v139 v140 v141 v142 v143 v144 v145 v146 v147 v148 v149 v150 v151 v152 v153 v154 v155 v156 v157 v158 v159 v160 v161 v162 v163 v164 v165 v166 v167 v168 v169 v170 v171 v172 v173 v174 v175 v176 v177 v178 v179 v180 v181 v182 v183 v184 v185 v186 v187 a2 t2 m2 w2 hb2 hr2 hv2 hm2 => by
          dsimp only
          go_wp2
          go_roundg g'
          case measure => omega
          case rel => exact ⟨(unhide HBw).trans (hb2.mono (unhide HBw).size), a2, t2, m2, rfl, hr2, hv2, by omega, by omega⟩)
      · have hge : 128 ≤ x0 := by omega
        have hascz : ¬ ((x0 : Int) < 128) := by omega
        have hc0 := hTr.1 x0 hx0lt
        have hXlt : Lib.firstT x0 < 256 := by rcases first_ranges x0 hge hx0lt with h | h | h | h | h | h | h | h | h | h <;> omega
        have W2 := @wid_2 t x0 hx0 hge hx0lt; have W3 := @wid_3 t x0 hx0 hge hx0lt; have W4 := @wid_4 t x0 hx0 hge hx0lt; have W0 := @wid_0 t x0 hx0 hge hx0lt
        have ha0 : wr.cell? ⟨2, Lib.firstT x0 / 16 * 2, none⟩ = some (.int .u8 (Lib.accLo (Lib.firstT x0 / 16))) := by rw [Nat.mul_comm]; exact (hTr.2 (Lib.firstT x0 / 16) (by omega)).1
        have ha1 : wr.cell? ⟨2, Lib.firstT x0 / 16 * 2 + 1, none⟩ = some (.int .u8 (Lib.accHi (Lib.firstT x0 / 16))) := by rw [Nat.mul_comm]; exact (hTr.2 (Lib.firstT x0 / 16) (by omega)).2
        obtain ⟨LO, hLO⟩ : ∃ LO, Lib.accLo (Lib.firstT x0 / 16) = LO := ⟨_, rfl⟩
        obtain ⟨HI, hHI⟩ : ∃ HI, Lib.accHi (Lib.firstT x0 / 16) = HI := ⟨_, rfl⟩
        rw [hLO] at ha0 W2 W3 W4
        rw [hHI] at ha1 W2 W3 W4
        obtain ⟨X, hX⟩ : ∃ X, Lib.firstT x0 = X := ⟨_, rfl⟩
        rw [hX] at hc0 hXlt ha0 ha1 W2 W3 W4 W0
        have h7 := and7 ⟨X, hXlt⟩
        simp only at h7
        have hlen : t.length = m := htl
        clear hTr hX hLO hHI hv hr hbw htl hx0
        obtain ⟨y1, hy1⟩ : ∃ y, t.getD 1 0 = y := ⟨_, rfl⟩
        obtain ⟨y2, hy2⟩ : ∃ y, t.getD 2 0 = y := ⟨_, rfl⟩
        obtain ⟨y3, hy3⟩ : ∃ y, t.getD 3 0 = y := ⟨_, rfl⟩
        simp only [hlen, hy1, hy2, hy3] at W2 W3 W4
        have HW0 := hide W0; have HW2 := hide W2; have HW3 := hide W3; have HW4 := hide W4
        clear W0 W2 W3 W4
        have HY1 := hide hy1; have HY2 := hide hy2; have HY3 := hide hy3; have HLn := hide hlen
        clear hy1 hy2 hy3 hlen
        by_cases s2 : X % 8 = 2
        · have hSZ : (X : Int) % 8 = 2 := by omega
          obtain ⟨kno, kyes⟩ := unhide HW2 s2
          have HNo := hide kno; have HYes := hide kyes
          clear kno kyes HW0 HW2 HW3 HW4
          exact round_2 HRr HV HLn h0z hm hbl c0 hascz hx0lt hc0 hXlt ha0 ha1 h7 s2 hSZ HY1 HY2 HY3 HNo HYes (fun v2 v3 v4 v5 v6 v13 v14 v15 v16 v17 v18 v19 v20 v21 v22 v23 v24 v25 v26 v27 v28 v29 v30 v31 v32 v33 v34 v35 v36 v37 v38 v39 v40 v41 v42 v43 v44 v45 v46 v47 v48 v49 v50 v51 v52 v53 v54 v55 v56 v57 v58 v59 v60 v61 v62 v63 v64 v65 v66 v67 v68 v69 v70 v71 v72 v73 v74 v75 v76 v77 v78 v79 v80 v81 v82 v83 v84 v85 v86 v87 v88 v89 v90 v91 v92 v93 v94 v95 v96 v97 v98 v99 v100 v101 v102 v103 v104 v105 v106 v107 v108 v109 v110 v111 v112 v113 v114 v115 v116 v117 v118 v119 v120 v121 v122 v123 v124 v125 v126 v127 v128 v129 v130 v131 v132 v133 v134 v135 v136 v137 v138 v139 v140 v141 v142 v143 v144 v145 v146 v147 v148 v149 v150 v151 v152 v153 v154 v155 v156 v157 v158 v159 v160 v161 v162 v163 v164 v165 v166 v167 v168 v169 v170 v171 v172 v173 v174 v175 v176 v177 v178 v179 v180 v181 v182 v183 v184 v185 v186 v187 a2 t2 m2 w2 hb2 hr2 hv2 hm2 => by
          dsimp only
          go_wp2
          go_roundg g'
          case measure => omega
          case rel => exact ⟨(unhide HBw).trans (hb2.mono (unhide HBw).size), a2, t2, m2, rfl, hr2, hv2, by omega, by omega⟩) (fun v0 v1 v3 v4 v5 v6 v7 v8 v9 v10 v11 v12 v13 v14 v15 v16 v17 v18 v19 v20 v21 v22 v23 v24 v25 v26 v27 v28 v29 v30 v31 v32 v33 v34 v35 v36 v37 v38 v39 v40 v41 v42 v43 v44 v45 v46 v47 v48 v49 v50 v51 v52 v53 v54 v55 v56 v57 v58 v59 v60 v61 v62 v63 v64 v65 v66 v67 v68 v69 v70 v71 v72 v73 v74 v75 v76 v77 v78 v79 v80 v81 v82 v83 v84 v85 v86 v87 v88 v89 v90 v91 v92 v93 v94 v95 v96 v97 v98 v99 v100 v101 v102 v103 v104 v105 v106 v107 v108 v109 v110 v111 v112 v113 v114 v115 v116 v117 v118 v119 v120 v121 v122 v123 v124 v125 v126 v127 v128 v129 v130 v131 v132 v133 v134 v135 v136 v137 v138 v139 v140 v141 v142 v143 v144 v145 v146 v147 v148 v149 v150 v151 v152 v153 v154 v155 v156 v157 v158 v159 v160 v161 v162 v163 v164 v165 v166 v167 v168 v169 v170 v171 v172 v173 v174 v175 v176 v177 v178 v179 v180 v181 v182 v183 v184 v185 v186 v187 w2 hb2 ha2 => by
          subst ha2
          dsimp only
          go_wp2
          go_ret
          exact ⟨rfl, (unhide HBw).trans (hb2.mono (unhide HBw).size)⟩)
        by_cases s3 : X % 8 = 3
        · have hSZ : (X : Int) % 8 = 3 := by omega
          obtain ⟨kno, kyes⟩ := unhide HW3 s3
          have HNo := hide kno; have HYes := hide kyes
          clear kno kyes HW0 HW2 HW3 HW4
          exact round_3 HRr HV HLn h0z hm hbl c0 hascz hx0lt hc0 hXlt ha0 ha1 h7 s3 hSZ HY1 HY2 HY3 HNo HYes (fun v2 v3 v4 v5 v6 v13 v14 v15 v16 v17 v18 v19 v20 v21 v22 v23 v24 v25 v26 v27 v28 v29 v30 v31 v32 v33 v34 v35 v36 v37 v38 v39 v40 v41 v42 v43 v44 v45 v46 v47 v48 v49 v50 v51 v52 v53 v54 v55 v56 v57 v58 v59 v60 v61 v62 v63 v64 v65 v66 v67 v68 v69 v70 v71 v72 v73 v74 v75 v76 v77 v78 v79 v80 v81 v82 v83 v84 v85 v86 v87 v88 v89 v90 v91 v92 v93 v94 v95 v96 v97 v98 v99 v100 v101 v102 v103 v104 v105 v106 v107 v108 v109 v110 v111 v112 v113 v114 v115 v116 v117 v118 v119 v120 v121 v122 v123 v124 v125 v126 v127 v128 v129 v130 v131 v132 v133 v134 v135 v136 v137 v138 v139 v140 v141 v142 v143 v144 v145 v146 v147 v148 v149 v150 v151 v152 v153 v154 v155 v156 v157 v158 v159 v160 v161 v162 v163 v164 v165 v166 v167 v168 v169 v170 v171 v172 v173 v174 v175 v176 v177 v178 v179 v180 v181 v182 v183 v184 v185 v186 v187 a2 t2 m2 w2 hb2 hr2 hv2 hm2 => by
          dsimp only
          go_wp2
          go_roundg g'
          case measure => omega
          case rel => exact ⟨(unhide HBw).trans (hb2.mono (unhide HBw).size), a2, t2, m2, rfl, hr2, hv2, by omega, by omega⟩) (fun v0 v1 v3 v4 v5 v6 v7 v8 v9 v10 v11 v12 v13 v14 v15 v16 v17 v18 v19 v20 v21 v22 v23 v24 v25 v26 v27 v28 v29 v30 v31 v32 v33 v34 v35 v36 v37 v38 v39 v40 v41 v42 v43 v44 v45 v46 v47 v48 v49 v50 v51 v52 v53 v54 v55 v56 v57 v58 v59 v60 v61 v62 v63 v64 v65 v66 v67 v68 v69 v70 v71 v72 v73 v74 v75 v76 v77 v78 v79 v80 v81 v82 v83 v84 v85 v86 v87 v88 v89 v90 v91 v92 v93 v94 v95 v96 v97 v98 v99 v100 v101 v102 v103 v104 v105 v106 v107 v108 v109 v110 v111 v112 v113 v114 v115 v116 v117 v118 v119 v120 v121 v122 v123 v124 v125 v126 v127 v128 v129 v130 v131 v132 v133 v134 v135 v136 v137 v138 v139 v140 v141 v142 v143 v144 v145 v146 v147 v148 v149 v150 v151 v152 v153 v154 v155 v156 v157 v158 v159 v160 v161 v162 v163 v164 v165 v166 v167 v168 v169 v170 v171 v172 v173 v174 v175 v176 v177 v178 v179 v180 v181 v182 v183 v184 v185 v186 v187 w2 hb2 ha2 => by
          subst ha2
          dsimp only
          go_wp2
          go_ret
          exact ⟨rfl, (unhide HBw).trans (hb2.mono (unhide HBw).size)⟩)
        by_cases s4 : X % 8 = 4
        · have hSZ : (X : Int) % 8 = 4 := by omega
          obtain ⟨kno, kyes⟩ := unhide HW4 s4
          have HNo := hide kno; have HYes := hide kyes
          clear kno kyes HW0 HW2 HW3 HW4
          exact round_4 HRr HV HLn h0z hm hbl c0 hascz hx0lt hc0 hXlt ha0 ha1 h7 s4 hSZ HY1 HY2 HY3 HNo HYes (fun v2 v3 v4 v5 v6 v13 v14 v15 v16 v17 v18 v19 v20 v21 v22 v23 v24 v25 v26 v27 v28 v29 v30 v31 v32 v33 v34 v35 v36 v37 v38 v39 v40 v41 v42 v43 v44 v45 v46 v47 v48 v49 v50 v51 v52 v53 v54 v55 v56 v57 v58 v59 v60 v61 v62 v63 v64 v65 v66 v67 v68 v69 v70 v71 v72 v73 v74 v75 v76 v77 v78 v79 v80 v81 v82 v83 v84 v85 v86 v87 v88 v89 v90 v91 v92 v93 v94 v95 v96 v97 v98 v99 v100 v101 v102 v103 v104 v105 v106 v107 v108 v109 v110 v111 v112 v113 v114 v115 v116 v117 v118 v119 v120 v121 v122 v123 v124 v125 v126 v127 v128 v129 v130 v131 v132 v133 v134 v135 v136 v137 v138 v139 v140 v141 v142 v143 v144 v145 v146 v147 v148 v149 v150 v151 v152 v153 v154 v155 v156 v157 v158 v159 v160 v161 v162 v163 v164 v165 v166 v167 v168 v169 v170 v171 v172 v173 v174 v175 v176 v177 v178 v179 v180 v181 v182 v183 v184 v185 v186 v187 a2 t2 m2 w2 hb2 hr2 hv2 hm2 => by
          dsimp only
          go_wp2
          go_roundg g'
          case measure => omega
          case rel => exact ⟨(unhide HBw).trans (hb2.mono (unhide HBw).size), a2, t2, m2, rfl, hr2, hv2, by omega, by omega⟩) (fun v0 v1 v3 v4 v5 v6 v7 v8 v9 v10 v11 v12 v13 v14 v15 v16 v17 v18 v19 v20 v21 v22 v23 v24 v25 v26 v27 v28 v29 v30 v31 v32 v33 v34 v35 v36 v37 v38 v39 v40 v41 v42 v43 v44 v45 v46 v47 v48 v49 v50 v51 v52 v53 v54 v55 v56 v57 v58 v59 v60 v61 v62 v63 v64 v65 v66 v67 v68 v69 v70 v71 v72 v73 v74 v75 v76 v77 v78 v79 v80 v81 v82 v83 v84 v85 v86 v87 v88 v89 v90 v91 v92 v93 v94 v95 v96 v97 v98 v99 v100 v101 v102 v103 v104 v105 v106 v107 v108 v109 v110 v111 v112 v113 v114 v115 v116 v117 v118 v119 v120 v121 v122 v123 v124 v125 v126 v127 v128 v129 v130 v131 v132 v133 v134 v135 v136 v137 v138 v139 v140 v141 v142 v143 v144 v145 v146 v147 v148 v149 v150 v151 v152 v153 v154 v155 v156 v157 v158 v159 v160 v161 v162 v163 v164 v165 v166 v167 v168 v169 v170 v171 v172 v173 v174 v175 v176 v177 v178 v179 v180 v181 v182 v183 v184 v185 v186 v187 w2 hb2 ha2 => by
          subst ha2
          dsimp only
          go_wp2
          go_ret
          exact ⟨rfl, (unhide HBw).trans (hb2.mono (unhide HBw).size)⟩)
        · have e2 : ¬ ((X : Int) % 8 = 2) := by omega
          have e3 : ¬ ((X : Int) % 8 = 3) := by omega
          have e4 : ¬ ((X : Int) % 8 = 4) := by omega
          have e2b : (((X : Int) % 8) == 2) = false := by simp; omega
          have e3b : (((X : Int) % 8) == 3) = false := by simp; omega
          have e4b : (((X : Int) % 8) == 4) = false := by simp; omega
          have hv0 : ANS = false := (unhide HV).symm.trans (vd_no (by rw [unhide HLn]; omega) (unhide HW0 s2 s3 s4))
          subst hv0
          go_wp2
          all_goals (go_ret; exact ⟨rfl, (unhide HBw).alloc (unhide HBw).size _⟩)
    · have h0z : ¬ ((0 : Int) < (m : Int)) := by omega
      obtain rfl : t = [] := List.eq_nil_of_length_eq_zero (by omega)
      rw [vd_nil] at hv
      subst hv
      go_wp2
      go_ret
      exact ⟨rfl, hbw⟩
end Sc
end Go.Proofs.YtcmidegffpehoaaDoor
