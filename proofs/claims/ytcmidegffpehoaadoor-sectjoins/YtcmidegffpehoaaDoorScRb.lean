/- The document's Split: a round at an ID 0. -/
import Derived.Test.YtcmidegffpehoaaDoorScRa
namespace Go.Proofs.YtcmidegffpehoaaDoor
open Go.RowKit
namespace Sc
set_option linter.unusedVariables false
set_option linter.unusedSimpArgs false

set_option maxRecDepth 1000000 in
set_option maxHeartbeats 6400000 in
theorem rz_0 {u1 u2 u3 u4 u5 u6 u9 u10 u11 u12 u13 u14 u15 u16 u17 u18 u19 u20 u21 u22 u23 u24 u25 u26 u27 u28 u29 u30 u31 u32 u33 u34 u35 u36 u37 u38 u39 u40 u41 u42 u43 u44 u45 u46 u47 u48 u49 u50 u51 u52 u53 u54 u55 u56 u57 u58 u59 u60 u61 u62 u63 u64 u65 u66 u67 u68 u69 u70 u71 u72 u73 u74 u75 u76 u77 u78 u79 u80 u81 u82 u83 u84 u85 u86 u87 u88 u89 u90 u91 u92 u93 u94 u95 u96 u97 u98 u99 u100 u101 u102 u103 u104 u105 u106 u107 u108 u109 u110 u111 u112 u113 u114 u115 u116 u117 u118 u119 u120 u121 u122 u123 u124 u125 u126 u127 u128 u129 u130 u131 u132 u133 u134 u135 u136 u137 u138 u139 u140 u141 u142 u143 u144 u145 u146 u147 u148 u149 u150 u151 u152 u153 u154 u155 u156 u157 u158 u159 u160 u161 u162 u163 : Value} {b o n cap p sc : Nat} {sa : Option Addr} {zs : List Int} {w wr0 : World} {top : Int} {acc : List Sec} {Q0 : Exit → Act → World → Prop} (hc : n ≤ cap) (hn : n ≤ 4000) (hl : zs.length = n) (hp : p < n) (hpz : (p : Int) < (n : Int)) (hap : acc.length ≤ p) (hws : w.heap.size ≤ wr0.heap.size) (hbw : b < w.heap.size)
    (c0 : wr0.cell? ⟨b, o + p, none⟩ = some (.int .u8 0)) (HRw : Hid (Row wr0 (some ⟨b, o, none⟩) n zs)) (HZ : Hid (zs.getD p 0 = 0)) (HO : Hid (OwnS 36 wr0 w.heap.size (fun _ => True) (.slice sa acc.length sc) acc)) (hL : ¬ ((0 : Int) < (acc.length : Int)))
    (hnorm : ∀ (v2 v3 v4 v9 v10 v11 v12 v13 v14 v15 v16 v17 v18 v39 v40 v41 v42 v43 v44 v45 v46 v47 v48 v49 v50 v51 v52 v53 v54 v55 v56 v57 v58 v59 v60 v61 v62 v63 v64 v65 v66 v67 v68 v69 v70 v71 v72 v73 v74 v75 v76 v77 v78 v79 v80 v81 v82 v83 v84 v85 v86 v87 v88 v89 v90 v91 v92 v93 v94 v95 v96 v97 v98 v99 v100 v101 v102 v103 v104 v105 v106 v107 v108 v109 v110 v111 v112 v113 v114 v115 v116 v117 v118 v119 v120 v121 v122 v123 v124 v125 v126 v127 v128 v129 v130 v131 v132 v133 v134 v135 v136 v137 v138 v139 v140 v141 v142 v143 v144 v145 v146 v147 v148 v149 v150 v151 v152 v153 v154 v155 v156 v157 v158 v159 v160 v161 : Value) (v : Value) (s : Sec) (q : Nat) (w2 : World), Below w.heap.size wr0 w2 → one zs p top = ⟨0, q, s⟩ → s.id = 0 → OwnS 36 w2 w.heap.size (fun _ => True) v (acc ++ [s]) → Q0 .normal ⟨#[.slice (some ⟨b, o, none⟩) n cap, u1, v2, v3, v4, u5, u6, v, .int .i64 q, v9, v10, v11, v12, v13, v14, v15, v16, v17, v18, u19, u20, u21, u22, u23, u24, u25, u26, u27, u28, u29, u30, u31, u32, u33, u34, u35, u36, u37, u38, v39, v40, v41, v42, v43, v44, v45, v46, v47, v48, v49, v50, v51, v52, v53, v54, v55, v56, v57, v58, v59, v60, v61, v62, v63, v64, v65, v66, v67, v68, v69, v70, v71, v72, v73, v74, v75, v76, v77, v78, v79, v80, v81, v82, v83, v84, v85, v86, v87, v88, v89, v90, v91, v92, v93, v94, v95, v96, v97, v98, v99, v100, v101, v102, v103, v104, v105, v106, v107, v108, v109, v110, v111, v112, v113, v114, v115, v116, v117, v118, v119, v120, v121, v122, v123, v124, v125, v126, v127, v128, v129, v130, v131, v132, v133, v134, v135, v136, v137, v138, v139, v140, v141, v142, v143, v144, v145, v146, v147, v148, v149, v150, v151, v152, v153, v154, v155, v156, v157, v158, v159, v160, v161, u162, u163], []⟩ w2)
    (hret : ∀ (v9 v10 v11 v12 v13 v14 v15 v16 v17 v18 v39 v40 v41 v42 v43 v44 v45 v46 v47 v48 v49 v50 v51 v52 v53 v54 v55 v56 v57 v58 v59 v60 v61 v62 v63 v64 v65 v66 v67 v68 v69 v70 v71 v72 v73 v74 v75 v76 v77 v78 v79 v80 v81 v82 v83 v84 v85 v86 v87 v88 v89 v90 v91 v92 v93 v94 v95 v96 v97 v98 v99 v100 v101 v102 v103 v104 v105 v106 v107 v108 v109 v110 v111 v112 v113 v114 v115 v116 v117 v118 v119 v120 v121 v122 v123 v124 v125 v126 v127 v128 v129 v130 v131 v132 v133 v134 v135 v136 v137 v138 v139 v140 v141 v142 v143 v144 v145 v146 v147 v148 v149 v150 v151 v152 v153 v154 v155 v156 v157 v158 v159 v160 v161 : Value) (s7 s8 : Value) (E : Int) (A : Nat) (w2 : World), Below w.heap.size wr0 w2 → ¬ E = 0 → one zs p top = ⟨E, A, no⟩ → Q0 .ret ⟨#[.slice (some ⟨b, o, none⟩) n cap, u1, .slice none 0 0, .int .i64 A, .int .i64 E, u5, u6, s7, s8, v9, v10, v11, v12, v13, v14, v15, v16, v17, v18, u19, u20, u21, u22, u23, u24, u25, u26, u27, u28, u29, u30, u31, u32, u33, u34, u35, u36, u37, u38, v39, v40, v41, v42, v43, v44, v45, v46, v47, v48, v49, v50, v51, v52, v53, v54, v55, v56, v57, v58, v59, v60, v61, v62, v63, v64, v65, v66, v67, v68, v69, v70, v71, v72, v73, v74, v75, v76, v77, v78, v79, v80, v81, v82, v83, v84, v85, v86, v87, v88, v89, v90, v91, v92, v93, v94, v95, v96, v97, v98, v99, v100, v101, v102, v103, v104, v105, v106, v107, v108, v109, v110, v111, v112, v113, v114, v115, v116, v117, v118, v119, v120, v121, v122, v123, v124, v125, v126, v127, v128, v129, v130, v131, v132, v133, v134, v135, v136, v137, v138, v139, v140, v141, v142, v143, v144, v145, v146, v147, v148, v149, v150, v151, v152, v153, v154, v155, v156, v157, v158, v159, v160, v161, u162, u163], []⟩ w2) :
    Code.wp Tryd.prog rbody Q0 ⟨#[.slice (some ⟨b, o, none⟩) n cap, u1, u2, u3, u4, u5, u6, .slice sa acc.length sc, .int .i64 p, u9, u10, u11, u12, u13, u14, u15, u16, u17, u18, u19, u20, u21, u22, u23, u24, u25, u26, u27, u28, u29, u30, u31, u32, u33, u34, u35, u36, u37, u38, u39, u40, u41, u42, u43, u44, u45, u46, u47, u48, u49, u50, u51, u52, u53, u54, u55, u56, u57, u58, u59, u60, u61, u62, u63, u64, u65, u66, u67, u68, u69, u70, u71, u72, u73, u74, u75, u76, u77, u78, u79, u80, u81, u82, u83, u84, u85, u86, u87, u88, u89, u90, u91, u92, u93, u94, u95, u96, u97, u98, u99, u100, u101, u102, u103, u104, u105, u106, u107, u108, u109, u110, u111, u112, u113, u114, u115, u116, u117, u118, u119, u120, u121, u122, u123, u124, u125, u126, u127, u128, u129, u130, u131, u132, u133, u134, u135, u136, u137, u138, u139, u140, u141, u142, u143, u144, u145, u146, u147, u148, u149, u150, u151, u152, u153, u154, u155, u156, u157, u158, u159, u160, u161, u162, u163], []⟩ wr0 := by
  obtain ⟨i0, hi, hz0, hz1, hz2⟩ := info_parts infoR
  have hL2 : ¬ 0 < acc.length := by omega
  have hL3 : decide (0 < acc.length) = false := decide_eq_false hL2
  have HN := hide hnorm; have HRt := hide hret
  clear hnorm hret
  have hmf : mf 0 top = true := by unfold mf; exact decide_eq_true (.inl rfl)
  have ho : one zs p top = one zs p top := rfl
  conv at ho => rhs; unfold one
  rw [unhide HZ, hmf, if_pos rfl] at ho
  have HOo := hide ho; clear ho hmf
  conv => arg 2; whnf
  go_wp2
  go_loopg [10] 1 (fun g3 s10 wx => s10 = .int .i64 0 ∧ wx = wr0)
  case atStart => exact ⟨rfl, rfl⟩
  case round =>
    obtain ⟨rfl, hwx⟩ := hrel
    subst hwx
    by_cases hq : p + 1 = n
    · have hdr : zs.drop (p + 1) = [] := List.drop_eq_nil_of_le (by omega)
      have ho := unhide HOo
      rw [hdr, tuE_nil 32 (by decide) (by decide), if_neg (by decide)] at ho
      have hv0 := tuV_no (qs := []) (n := 32) (by rw [tuE_nil 32 (by decide) (by decide)]; decide)
      have ht := fun a c => refTakeU_any a 0 c [] 32 wr (row_none _ a) (by omega)
      rw [tuE_nil 32 (by decide) (by decide), hv0.1, hv0.2] at ht
      have HTk := hide ht; have HO1 := hide ho
      clear hv0 ht hdr ho HOo
      subst hq
      by_cases hcp : cap = p + 1
      · subst hcp
        clear hc
        go_wp2_with fail
        refine (unhide HTk _ _).mono ?_
        rintro e w1 ⟨rfl, hb1⟩
        have HB1 := hide (hb1.mono hws); clear hb1
        go_wp2
        first
          | exact (unhide HRt) _ _ _ _ _ _ _ _ _ _ _ _ _ _ _ _ _ _ _ _ _ _ _ _ _ _ _ _ _ _ _ _ _ _ _ _ _ _ _ _ _ _ _ _ _ _ _ _ _ _ _ _ _ _ _ _ _ _ _ _ _ _ _ _ _ _ _ _ _ _ _ _ _ _ _ _ _ _ _ _ _ _ _ _ _ _ _ _ _ _ _ _ _ _ _ _ _ _ _ _ _ _ _ _ _ _ _ _ _ _ _ _ _ _ _ _ _ _ _ _ _ _ _ _ _ _ _ _ _ _ _ _ _ _ _ 4 (p + 1) _ (unhide HB1) (by decide) (unhide HO1)
          | (have h9 := (unhide HRt) _ _ _ _ _ _ _ _ _ _ _ _ _ _ _ _ _ _ _ _ _ _ _ _ _ _ _ _ _ _ _ _ _ _ _ _ _ _ _ _ _ _ _ _ _ _ _ _ _ _ _ _ _ _ _ _ _ _ _ _ _ _ _ _ _ _ _ _ _ _ _ _ _ _ _ _ _ _ _ _ _ _ _ _ _ _ _ _ _ _ _ _ _ _ _ _ _ _ _ _ _ _ _ _ _ _ _ _ _ _ _ _ _ _ _ _ _ _ _ _ _ _ _ _ _ _ _ _ _ _ _ _ _ (.slice sa acc.length sc) (.int .i64 p) 4 (p + 1) _ (unhide HB1) (by decide) (unhide HO1); simpa using h9)
      · have hcq : ¬ p + 1 = cap := fun e => hcp e.symm
        clear hcp
        go_wp2_with fail
        refine (unhide HTk _ _).mono ?_
        rintro e w1 ⟨rfl, hb1⟩
        have HB1 := hide (hb1.mono hws); clear hb1
        go_wp2
        first
          | exact (unhide HRt) _ _ _ _ _ _ _ _ _ _ _ _ _ _ _ _ _ _ _ _ _ _ _ _ _ _ _ _ _ _ _ _ _ _ _ _ _ _ _ _ _ _ _ _ _ _ _ _ _ _ _ _ _ _ _ _ _ _ _ _ _ _ _ _ _ _ _ _ _ _ _ _ _ _ _ _ _ _ _ _ _ _ _ _ _ _ _ _ _ _ _ _ _ _ _ _ _ _ _ _ _ _ _ _ _ _ _ _ _ _ _ _ _ _ _ _ _ _ _ _ _ _ _ _ _ _ _ _ _ _ _ _ _ _ _ 4 (p + 1) _ (unhide HB1) (by decide) (unhide HO1)
          | (have h9 := (unhide HRt) _ _ _ _ _ _ _ _ _ _ _ _ _ _ _ _ _ _ _ _ _ _ _ _ _ _ _ _ _ _ _ _ _ _ _ _ _ _ _ _ _ _ _ _ _ _ _ _ _ _ _ _ _ _ _ _ _ _ _ _ _ _ _ _ _ _ _ _ _ _ _ _ _ _ _ _ _ _ _ _ _ _ _ _ _ _ _ _ _ _ _ _ _ _ _ _ _ _ _ _ _ _ _ _ _ _ _ _ _ _ _ _ _ _ _ _ _ _ _ _ _ _ _ _ _ _ _ _ _ _ _ _ _ (.slice sa acc.length sc) (.int .i64 p) 4 (p + 1) _ (unhide HB1) (by decide) (unhide HO1); simpa using h9)
    · have hcq : ¬ p + 1 = cap := by omega
      have hr1 := row_drop (unhide HRw) (p + 1) (by omega)
      have ht := refTakeU_any _ _ (cap - (p + 1)) _ 32 _ hr1 (by omega)
      have hby := hr1.2.1
      have hln := hr1.1
      obtain ⟨qs, hqs⟩ : ∃ qs, zs.drop (p + 1) = qs := ⟨_, rfl⟩
      rw [hqs] at HOo ht hby hln
      by_cases he : Leb.tuE qs 32 = 0
      · have hv := tuV_32 hby he
        have hb := tu_bd _ _ he
        have ho := unhide HOo
        rw [if_pos he] at ho
        rw [he] at ht
        obtain ⟨N, hN⟩ : ∃ N : Nat, (Leb.tuN qs 32).toNat = N := ⟨_, rfl⟩
        have hNz : Leb.tuN qs 32 = (N : Int) := by omega
        obtain ⟨V, hV⟩ : ∃ V : Nat, (Leb.tuV qs 32).toNat = V := ⟨_, rfl⟩
        have hVz : Leb.tuV qs 32 = (V : Int) := by omega
        rw [hNz, hVz] at ht
        rw [hNz, hVz, Int.toNat_natCast, Int.toNat_natCast, hl] at ho
        have hVb : (V : Int) < 4294967296 := by omega
        have hNb : 1 ≤ N ∧ p + 1 + N ≤ n := by omega
        have hNn := hNb.2
        have hNz1 : (p : Int) + 1 + (N : Int) ≤ (n : Int) := by omega
        have hnz : (n : Int) ≤ 4000 := by omega
        have HTk := hide ht
        by_cases hs : (n : Int) - ((p : Int) + 1 + (N : Int)) < (V : Int)
        · rw [if_pos hs] at ho
          have HO1 := hide ho
          clear ht hv hb he hN hNz hV hVz hby hln hqs hr1 hNb ho HOo
          by_cases hs1 : (n : Int) < (V : Int)
          · have hs1b : decide (n < V) = true := decide_eq_true (by omega)
            go_wp2_with fail
            refine (unhide HTk).mono ?_
            rintro e w1 ⟨rfl, hb1⟩
            have HB1 := hide (hb1.mono hws); clear hb1
            go_wp2
            first
              | exact (unhide HRt) _ _ _ _ _ _ _ _ _ _ _ _ _ _ _ _ _ _ _ _ _ _ _ _ _ _ _ _ _ _ _ _ _ _ _ _ _ _ _ _ _ _ _ _ _ _ _ _ _ _ _ _ _ _ _ _ _ _ _ _ _ _ _ _ _ _ _ _ _ _ _ _ _ _ _ _ _ _ _ _ _ _ _ _ _ _ _ _ _ _ _ _ _ _ _ _ _ _ _ _ _ _ _ _ _ _ _ _ _ _ _ _ _ _ _ _ _ _ _ _ _ _ _ _ _ _ _ _ _ _ _ _ _ _ _ 4 (p + 1) _ (unhide HB1) (by decide) (unhide HO1)
              | (have h9 := (unhide HRt) _ _ _ _ _ _ _ _ _ _ _ _ _ _ _ _ _ _ _ _ _ _ _ _ _ _ _ _ _ _ _ _ _ _ _ _ _ _ _ _ _ _ _ _ _ _ _ _ _ _ _ _ _ _ _ _ _ _ _ _ _ _ _ _ _ _ _ _ _ _ _ _ _ _ _ _ _ _ _ _ _ _ _ _ _ _ _ _ _ _ _ _ _ _ _ _ _ _ _ _ _ _ _ _ _ _ _ _ _ _ _ _ _ _ _ _ _ _ _ _ _ _ _ _ _ _ _ _ _ _ _ _ _ (.slice sa acc.length sc) (.int .i64 p) 4 (p + 1) _ (unhide HB1) (by decide) (unhide HO1); simpa using h9)
          · have hs1b : decide (n < V) = false := decide_eq_false (by omega)
            go_wp2_with fail
            refine (unhide HTk).mono ?_
            rintro e w1 ⟨rfl, hb1⟩
            have HB1 := hide (hb1.mono hws); clear hb1
            go_wp2
            first
              | exact (unhide HRt) _ _ _ _ _ _ _ _ _ _ _ _ _ _ _ _ _ _ _ _ _ _ _ _ _ _ _ _ _ _ _ _ _ _ _ _ _ _ _ _ _ _ _ _ _ _ _ _ _ _ _ _ _ _ _ _ _ _ _ _ _ _ _ _ _ _ _ _ _ _ _ _ _ _ _ _ _ _ _ _ _ _ _ _ _ _ _ _ _ _ _ _ _ _ _ _ _ _ _ _ _ _ _ _ _ _ _ _ _ _ _ _ _ _ _ _ _ _ _ _ _ _ _ _ _ _ _ _ _ _ _ _ _ _ _ 4 (p + 1) _ (unhide HB1) (by decide) (unhide HO1)
              | (have h9 := (unhide HRt) _ _ _ _ _ _ _ _ _ _ _ _ _ _ _ _ _ _ _ _ _ _ _ _ _ _ _ _ _ _ _ _ _ _ _ _ _ _ _ _ _ _ _ _ _ _ _ _ _ _ _ _ _ _ _ _ _ _ _ _ _ _ _ _ _ _ _ _ _ _ _ _ _ _ _ _ _ _ _ _ _ _ _ _ _ _ _ _ _ _ _ _ _ _ _ _ _ _ _ _ _ _ _ _ _ _ _ _ _ _ _ _ _ _ _ _ _ _ _ _ _ _ _ _ _ _ _ _ _ _ _ _ _ (.slice sa acc.length sc) (.int .i64 p) 4 (p + 1) _ (unhide HB1) (by decide) (unhide HO1); simpa using h9)
        · rw [if_neg hs] at ho
          have hs0 : ¬ ((n : Int) < (V : Int)) := by omega
          have hs0b : decide (n < V) = false := decide_eq_false (by omega)
          have hVn : V ≤ 4000 := by omega
          have hfv : p + 1 + N + V ≤ n := by omega
          have hfz : (p : Int) + 1 + (N : Int) + (V : Int) ≤ (n : Int) := by omega
          have hVz9 : (V : Int) ≤ 4000 := by omega
          have HOq := hide ho
          clear ht hv hb he hN hNz hV hVz hby hln hqs hr1 hNb ho HOo hVb
          have hsb : ¬ ((n : Int) - ((p : Int) + 1 + (N : Int)) < (V : Int)) := hs
          by_cases hfq : p + 1 + N = cap
          · have hnn : cap = n := by omega
            subst hnn
            obtain rfl : V = 0 := by omega
            have hfz9 : (p : Int) + 1 + (N : Int) = (cap : Int) := by omega
            have ho := unhide HOq
            rw [hfq, show (zs.drop cap).take 0 = [] from rfl] at ho
            have hj4 : judge 0 [] = 4 := by unfold judge; rw [if_pos rfl, if_neg (by rw [tuE_nil 32 (by decide) (by decide)]; decide), tuE_nil 32 (by decide) (by decide)]
            rw [hj4, if_neg (by decide)] at ho
            have hv0 := tuV_no (qs := []) (n := 32) (by rw [tuE_nil 32 (by decide) (by decide)]; decide)
            have ht2 := fun wx => refTakeU_any (some ⟨b, o, none⟩) 0 0 [] 32 wx (row_none _ _) (by omega)
            rw [tuE_nil 32 (by decide) (by decide), hv0.1, hv0.2] at ht2
            have HTk2 := hide ht2; have HO1 := hide ho
            clear hc hfz hNz1 hsb hs0 hs0b hVz9 ho hv0 ht2 HOq hs
            go_wp2_with fail
            refine (unhide HTk).mono ?_
            rintro e w1 ⟨rfl, hb1⟩
            have HB1 := hide hb1; clear hb1
            go_wp2_with fail
            refine (unhide HTk2 _).mono ?_
            rintro e w2 ⟨rfl, hb2⟩
            have HB2 := hide ((Below.on (unhide HB1) (Below.on (one_alloc _ _) hb2)).mono hws); clear hb2
            go_wp2
            first
              | exact (unhide HRt) _ _ _ _ _ _ _ _ _ _ _ _ _ _ _ _ _ _ _ _ _ _ _ _ _ _ _ _ _ _ _ _ _ _ _ _ _ _ _ _ _ _ _ _ _ _ _ _ _ _ _ _ _ _ _ _ _ _ _ _ _ _ _ _ _ _ _ _ _ _ _ _ _ _ _ _ _ _ _ _ _ _ _ _ _ _ _ _ _ _ _ _ _ _ _ _ _ _ _ _ _ _ _ _ _ _ _ _ _ _ _ _ _ _ _ _ _ _ _ _ _ _ _ _ _ _ _ _ _ _ _ _ _ _ _ 4 (cap) _ (unhide HB2) (by decide) (unhide HO1)
              | (have h9 := (unhide HRt) _ _ _ _ _ _ _ _ _ _ _ _ _ _ _ _ _ _ _ _ _ _ _ _ _ _ _ _ _ _ _ _ _ _ _ _ _ _ _ _ _ _ _ _ _ _ _ _ _ _ _ _ _ _ _ _ _ _ _ _ _ _ _ _ _ _ _ _ _ _ _ _ _ _ _ _ _ _ _ _ _ _ _ _ _ _ _ _ _ _ _ _ _ _ _ _ _ _ _ _ _ _ _ _ _ _ _ _ _ _ _ _ _ _ _ _ _ _ _ _ _ _ _ _ _ _ _ _ _ _ _ _ _ (.slice sa acc.length sc) (.int .i64 p) 4 (cap) _ (unhide HB2) (by decide) (unhide HO1); simpa using h9)
          · have hrv0 := (row_dropc (unhide HRw) (p + 1 + N) hNn).take V (by omega)
            have hcl0 := hrv0.1
            have hby0 := hrv0.2.1
            have ho := unhide HOq
            obtain ⟨cs, hcs⟩ : ∃ cs, ((zs.drop (p + 1 + N)).take V) = cs := ⟨_, rfl⟩
            rw [hcs] at hrv0 hcl0 hby0 ho
            have HRv0 := hide hrv0
            have ht2 := fun wx (hb : Below wr.heap.size wr wx) => refTakeU_any _ _ (cap - (p + 1 + N)) _ 32 wx (hrv0.below (Nat.le_refl _) hb) (by omega)
            have hjd : judge 0 cs = judge 0 cs := rfl
            conv at hjd => rhs; unfold judge
            rw [if_pos rfl] at hjd
            clear hrv0 hcs HOq
            by_cases e2 : Leb.tuE cs 32 = 0
            · have hv := tuV_32 hby0 e2
              have hb := tu_bd _ _ e2
              rw [if_pos e2] at hjd
              rw [e2] at ht2
              obtain ⟨M, hM⟩ : ∃ M : Nat, (Leb.tuN cs 32).toNat = M := ⟨_, rfl⟩
              have hMz : Leb.tuN cs 32 = (M : Int) := by omega
              obtain ⟨W, hW⟩ : ∃ W : Nat, (Leb.tuV cs 32).toNat = W := ⟨_, rfl⟩
              have hWz : Leb.tuV cs 32 = (W : Int) := by omega
              rw [hMz, hWz] at ht2
              rw [hMz, hWz, Int.toNat_natCast, Int.toNat_natCast, hcl0] at hjd
              have hWb : (W : Int) < 4294967296 := by omega
              have hMn : M ≤ V := by omega
              have hMz1 : (M : Int) ≤ (V : Int) := by omega
              have HTk2 := hide ht2
              clear ht2 hv hb e2 hM hMz hW hWz hby0
              by_cases hs2 : (V : Int) - (M : Int) < (W : Int)
              · rw [if_pos hs2] at hjd
                rw [hjd, if_neg (by decide)] at ho
                have HO1 := hide ho
                clear ho hjd
                by_cases hs3 : (V : Int) < (W : Int)
                · have hs3b : decide (V < W) = true := decide_eq_true (by omega)
                  have G : ∃ _ : Unit, _ ∧ _ ∧ _ ∧ _ ∧ _ := ⟨(), hs2, hs3, hs3b, hMz1, hWb⟩
                  clear hs2 hs3 hs3b hMz1 hMn hWb
                  go_wp2_with fail
                  refine (unhide HTk).mono ?_
                  rintro e w1 ⟨rfl, hb1⟩
                  have HB1 := hide hb1; clear hb1
                  go_wp2_with fail
                  refine (unhide HTk2 _ (Below.on (unhide HB1) (one_alloc _ _))).mono ?_
                  rintro e w2 ⟨rfl, hb2⟩
                  have hbx := box3 hb2
                  have d0 : w2.cell? ⟨w1.heap.size, 0, none⟩ = some (.int .u8 0) := hbx.1 0
                  have d1 : w2.cell? ⟨w1.heap.size, 1, none⟩ = some (.int .i64 ((p : Int) + 1 + (N : Int))) := hbx.1 1
                  have d2 : w2.cell? ⟨w1.heap.size, 2, none⟩ = some ((.slice (some ⟨b, o + (p + 1 + N), none⟩) V (cap - (p + 1 + N)))) := hbx.1 2
                  have hlt2 := hbx.2.2
                  have HB12 := hide (Below.on (unhide HB1) (Below.on (one_alloc _ _) hb2))
                  clear hbx hb2
                  try clear hs0
                  try clear hs0b
                  try clear hVn
                  try clear hfv
                  try clear hfz
                  try clear hsb
                  try clear hs
                  try clear hNn
                  try clear hNz1
                  try clear hnz
                  try clear hc
                  try clear hn
                  try clear hp
                  try clear hpz
                  try clear hap
                  try clear hcq
                  try clear hfq
                  try clear hMn
                  try clear hl
                  try clear hcl0
                  try clear hq
                  try clear c0
                  try clear HTk
                  try clear HTk2
                  try clear hi
                  try clear hz0
                  try clear hz1
                  try clear hz2
                  obtain ⟨_, hs2, hs3, hs3b, hMz1, hWb⟩ := G
                  go_wp2
                  first
                    | exact (unhide HRt) _ _ _ _ _ _ _ _ _ _ _ _ _ _ _ _ _ _ _ _ _ _ _ _ _ _ _ _ _ _ _ _ _ _ _ _ _ _ _ _ _ _ _ _ _ _ _ _ _ _ _ _ _ _ _ _ _ _ _ _ _ _ _ _ _ _ _ _ _ _ _ _ _ _ _ _ _ _ _ _ _ _ _ _ _ _ _ _ _ _ _ _ _ _ _ _ _ _ _ _ _ _ _ _ _ _ _ _ _ _ _ _ _ _ _ _ _ _ _ _ _ _ _ _ _ _ _ _ _ _ _ _ _ _ _ 6 (p + 1 + N) _ ((unhide HB12).mono hws) (by decide) (unhide HO1)
                    | (have h9 := (unhide HRt) _ _ _ _ _ _ _ _ _ _ _ _ _ _ _ _ _ _ _ _ _ _ _ _ _ _ _ _ _ _ _ _ _ _ _ _ _ _ _ _ _ _ _ _ _ _ _ _ _ _ _ _ _ _ _ _ _ _ _ _ _ _ _ _ _ _ _ _ _ _ _ _ _ _ _ _ _ _ _ _ _ _ _ _ _ _ _ _ _ _ _ _ _ _ _ _ _ _ _ _ _ _ _ _ _ _ _ _ _ _ _ _ _ _ _ _ _ _ _ _ _ _ _ _ _ _ _ _ _ _ _ _ _ (.slice sa acc.length sc) (.int .i64 p) 6 (p + 1 + N) _ ((unhide HB12).mono hws) (by decide) (unhide HO1); simpa using h9)
                · have hs3b : decide (V < W) = false := decide_eq_false (by omega)
                  have G : ∃ _ : Unit, _ ∧ _ ∧ _ ∧ _ ∧ _ := ⟨(), hs2, hs3, hs3b, hMz1, hWb⟩
                  clear hs2 hs3 hs3b hMz1 hMn hWb
                  go_wp2_with fail
                  refine (unhide HTk).mono ?_
                  rintro e w1 ⟨rfl, hb1⟩
                  have HB1 := hide hb1; clear hb1
                  go_wp2_with fail
                  refine (unhide HTk2 _ (Below.on (unhide HB1) (one_alloc _ _))).mono ?_
                  rintro e w2 ⟨rfl, hb2⟩
                  have hbx := box3 hb2
                  have d0 : w2.cell? ⟨w1.heap.size, 0, none⟩ = some (.int .u8 0) := hbx.1 0
                  have d1 : w2.cell? ⟨w1.heap.size, 1, none⟩ = some (.int .i64 ((p : Int) + 1 + (N : Int))) := hbx.1 1
                  have d2 : w2.cell? ⟨w1.heap.size, 2, none⟩ = some ((.slice (some ⟨b, o + (p + 1 + N), none⟩) V (cap - (p + 1 + N)))) := hbx.1 2
                  have hlt2 := hbx.2.2
                  have HB12 := hide (Below.on (unhide HB1) (Below.on (one_alloc _ _) hb2))
                  clear hbx hb2
                  try clear hs0
                  try clear hs0b
                  try clear hVn
                  try clear hfv
                  try clear hfz
                  try clear hsb
                  try clear hs
                  try clear hNn
                  try clear hNz1
                  try clear hnz
                  try clear hc
                  try clear hn
                  try clear hp
                  try clear hpz
                  try clear hap
                  try clear hcq
                  try clear hfq
                  try clear hMn
                  try clear hl
                  try clear hcl0
                  try clear hq
                  try clear c0
                  try clear HTk
                  try clear HTk2
                  try clear hi
                  try clear hz0
                  try clear hz1
                  try clear hz2
                  obtain ⟨_, hs2, hs3, hs3b, hMz1, hWb⟩ := G
                  go_wp2
                  first
                    | exact (unhide HRt) _ _ _ _ _ _ _ _ _ _ _ _ _ _ _ _ _ _ _ _ _ _ _ _ _ _ _ _ _ _ _ _ _ _ _ _ _ _ _ _ _ _ _ _ _ _ _ _ _ _ _ _ _ _ _ _ _ _ _ _ _ _ _ _ _ _ _ _ _ _ _ _ _ _ _ _ _ _ _ _ _ _ _ _ _ _ _ _ _ _ _ _ _ _ _ _ _ _ _ _ _ _ _ _ _ _ _ _ _ _ _ _ _ _ _ _ _ _ _ _ _ _ _ _ _ _ _ _ _ _ _ _ _ _ _ 6 (p + 1 + N) _ ((unhide HB12).mono hws) (by decide) (unhide HO1)
                    | (have h9 := (unhide HRt) _ _ _ _ _ _ _ _ _ _ _ _ _ _ _ _ _ _ _ _ _ _ _ _ _ _ _ _ _ _ _ _ _ _ _ _ _ _ _ _ _ _ _ _ _ _ _ _ _ _ _ _ _ _ _ _ _ _ _ _ _ _ _ _ _ _ _ _ _ _ _ _ _ _ _ _ _ _ _ _ _ _ _ _ _ _ _ _ _ _ _ _ _ _ _ _ _ _ _ _ _ _ _ _ _ _ _ _ _ _ _ _ _ _ _ _ _ _ _ _ _ _ _ _ _ _ _ _ _ _ _ _ _ (.slice sa acc.length sc) (.int .i64 p) 6 (p + 1 + N) _ ((unhide HB12).mono hws) (by decide) (unhide HO1); simpa using h9)
              · rw [if_neg hs2] at hjd
                have hs3 : ¬ ((V : Int) < (W : Int)) := by omega
                have hs3b : decide (V < W) = false := decide_eq_false (by omega)
                have hMW : M + W ≤ V := by omega
                have hMWz : (M : Int) + (W : Int) ≤ (V : Int) := by omega
                have hVz8 : (V : Int) ≤ 4000 := by omega
                by_cases hMc : M = cap - (p + 1 + N)
                · obtain rfl : W = 0 := by omega
                  rw [show (cs.drop M).take 0 = [] from rfl, vd_nil, if_pos rfl] at hjd
                  rw [if_pos hjd] at ho
                  have htx := fun wx => rtext_any (n := 0) (cap := 0) (row_none wx (some ⟨b, o + (p + 1 + N), none⟩)) (by omega)
                  rw [vd_nil] at htx
                  have HTx := hide htx; have HO1 := hide ho
                  have G : ∃ _ : Unit, _ ∧ _ ∧ _ ∧ _ ∧ _ ∧ _ ∧ _ ∧ _ ∧ _ := ⟨(), hMc, hMz1, hMn, hc, hn, hp, hfv, hVz8, hap⟩
                  clear htx ho hjd hs2 hs3 hs3b hMW hMWz hMz1 hMn hWb hMc hVz8
                  go_wp2_with fail
                  refine (unhide HTk).mono ?_
                  rintro e w1 ⟨rfl, hb1⟩
                  have HB1 := hide hb1; clear hb1
                  go_wp2_with fail
                  refine (unhide HTk2 _ (Below.on (unhide HB1) (one_alloc _ _))).mono ?_
                  rintro e w2 ⟨rfl, hb2⟩
                  have hbx := box3 hb2
                  have d0 : w2.cell? ⟨w1.heap.size, 0, none⟩ = some (.int .u8 0) := hbx.1 0
                  have d1 : w2.cell? ⟨w1.heap.size, 1, none⟩ = some (.int .i64 ((p : Int) + 1 + (N : Int))) := hbx.1 1
                  have d2 : w2.cell? ⟨w1.heap.size, 2, none⟩ = some ((.slice (some ⟨b, o + (p + 1 + N), none⟩) V (cap - (p + 1 + N)))) := hbx.1 2
                  have hlt2 := hbx.2.2
                  have HB12 := hide (Below.on (unhide HB1) (Below.on (one_alloc _ _) hb2))
                  clear hbx hb2
                  try clear hs0
                  try clear hs0b
                  try clear hVn
                  try clear hfv
                  try clear hfz
                  try clear hsb
                  try clear hs
                  try clear hNn
                  try clear hNz1
                  try clear hnz
                  try clear hpz
                  try clear hap
                  try clear hcq
                  try clear hq
                  try clear c0
                  try clear HTk
                  try clear HTk2
                  obtain ⟨_, hMc, hMz1, hMn, hc9, hn9, hp9, hfv, hVz8, hap9⟩ := G
                  obtain rfl : M = V := by omega
                  have hMc2 : cap - (p + 1 + N) = M := hMc.symm
                  rw [hMc2] at d2 ⊢
                  clear hMc
                  go_wp2_with fail
                  refine (unhide HTx _).mono ?_
                  rintro e w3 ⟨rfl, hb3⟩
                  have f0 : w3.cell? ⟨w1.heap.size, 0, none⟩ = some (.int .u8 0) := (World.cell?_of_block (a := ⟨w1.heap.size, 0, none⟩) (hb3.block _ hlt2)).trans d0
                  have f1 : w3.cell? ⟨w1.heap.size, 1, none⟩ = some (.int .i64 ((p : Int) + 1 + (N : Int))) := (World.cell?_of_block (a := ⟨w1.heap.size, 1, none⟩) (hb3.block _ hlt2)).trans d1
                  have f2 : w3.cell? ⟨w1.heap.size, 2, none⟩ = some ((.slice (some ⟨b, o + (p + 1 + N), none⟩) M M)) := (World.cell?_of_block (a := ⟨w1.heap.size, 2, none⟩) (hb3.block _ hlt2)).trans d2
                  have HB13 := hide (Below.on (unhide HB12) hb3)
                  clear hb3 d0 d1 d2
                  have hb4 := one_alloc w3 (.cells #[.int .u8 0, .int .i64 ((p : Int) + 1 + (N : Int)), (.slice (some ⟨b, o + (p + 1 + N), none⟩) M M)] 36)
                  have hb34 := Below.on (unhide HB13) hb4
                  obtain ⟨xs, hxo, hit⟩ := (unhide HO).below hb34
                  have hcel : cel ⟨0, p + 1 + N, cs⟩ ((.slice (some ⟨b, o + (p + 1 + N), none⟩) M M)) = [.int .u8 0, .int .i64 ((p : Int) + 1 + (N : Int)), (.slice (some ⟨b, o + (p + 1 + N), none⟩) M M)] := by simp [cel]
                  have hbyn : Byt (w3.alloc (.cells #[.int .u8 0, .int .i64 ((p : Int) + 1 + (N : Int)), (.slice (some ⟨b, o + (p + 1 + N), none⟩) M M)] 36)) (own (fun _ => True) (.slice sa acc.length sc)) cs ((.slice (some ⟨b, o + (p + 1 + N), none⟩) M M)) := by
                    refine ⟨(some ⟨b, o + (p + 1 + N), none⟩), M, by rw [hcl0], by rw [hcl0]; omega, by simp, by rw [hcl0]; exact (unhide HRv0).below (Nat.le_refl _) hb34, fun _ => ⟨b, _, rfl, fun e => ?_, trivial⟩⟩
                    have := ((unhide HO).lt b e).1
                    omega
                  have HXo := hide hxo; have HIt := hide hit; have HByn := hide hbyn; have HB34 := hide hb34; have HCel := hide hcel
                  have hw1s := (unhide HB13).size
                  have hacc : acc.length ≤ 4000 := by omega
                  clear hcel hb4 hb34 hxo hit hbyn
                  go_wp2_with (at_builtin; refine wpList_append_lies _ rfl (.tmp 154) (.tmp 156) 29 rfl w.heap.size 36 i0 (.agg #[.int .u8 0, .int .i64 0, .slice none 0 0]) 3 40 Tryd.underlying29 hi hz0 hz1 hz2 rfl (by decide) (.slice sa acc.length sc) acc.length xs rfl (unhide HXo) ⟨w3.heap.size, 0, none⟩ 1 1 [.int .u8 0, .int .i64 ((p : Int) + 1 + (N : Int)), (.slice (some ⟨b, o + (p + 1 + N), none⟩) M M)] rfl rfl ?c1 ?c2 (by omega) ?c3 ?c4 ?c5 (w3.heap.size + 1) ?c6 ?_)
                  case c1 => intro j u hj; rw [addr_add, Nat.zero_add, box_new w3 #[.int .u8 0, .int .i64 ((p : Int) + 1 + (N : Int)), (.slice (some ⟨b, o + (p + 1 + N), none⟩) M M)] 36 j]; simpa using hj
                  case c2 => intro u hu; simp at hu; rcases hu with rfl | rfl | rfl <;> rfl
                  case c3 => unfold maxLen; omega
                  case c4 => omega
                  case c5 => simp; omega
                  case c6 => simp
                  intro g6 cap6 w6 hown6 hgrow6 hat6 hlt6
                  rw [← unhide HCel] at hown6
                  have hOn := OwnS.snoc (s := ⟨0, p + 1 + N, cs⟩) (unhide HXo) (unhide HIt) (unhide HByn) hown6 hgrow6 (by rcases hat6 with e | e; exact .inl e; exact .inr (by rw [e]; simp))
                  have hbn : Below w.heap.size wr w6 := ((unhide HB34).mono hws).trans ((Below.refl w.heap.size _).grown hgrow6 (by simp; omega) (fun k hk => ((unhide HO).lt k hk).1))
                  have HOn6 := hide hOn; have HBn := hide hbn
                  clear hOn hbn hown6 hgrow6 hat6 hlt6
                  go_wp2
                  first
                    | exact (unhide HN) _ _ _ _ _ _ _ _ _ _ _ _ _ _ _ _ _ _ _ _ _ _ _ _ _ _ _ _ _ _ _ _ _ _ _ _ _ _ _ _ _ _ _ _ _ _ _ _ _ _ _ _ _ _ _ _ _ _ _ _ _ _ _ _ _ _ _ _ _ _ _ _ _ _ _ _ _ _ _ _ _ _ _ _ _ _ _ _ _ _ _ _ _ _ _ _ _ _ _ _ _ _ _ _ _ _ _ _ _ _ _ _ _ _ _ _ _ _ _ _ _ _ _ _ _ _ _ _ _ _ _ _ _ _ _ _ _ ⟨0, p + 1 + N, cs⟩ (p + 1 + N + M) _ (unhide HBn) (unhide HO1) rfl (by simpa using unhide HOn6)
                    | (have h9 := (unhide HN) _ _ _ _ _ _ _ _ _ _ _ _ _ _ _ _ _ _ _ _ _ _ _ _ _ _ _ _ _ _ _ _ _ _ _ _ _ _ _ _ _ _ _ _ _ _ _ _ _ _ _ _ _ _ _ _ _ _ _ _ _ _ _ _ _ _ _ _ _ _ _ _ _ _ _ _ _ _ _ _ _ _ _ _ _ _ _ _ _ _ _ _ _ _ _ _ _ _ _ _ _ _ _ _ _ _ _ _ _ _ _ _ _ _ _ _ _ _ _ _ _ _ _ _ _ _ _ _ _ _ _ _ _ _ _ _ (.slice (some ⟨g6, 0, none⟩) (acc.length + 1) cap6) ⟨0, p + 1 + N, cs⟩ (p + 1 + N + M) _ (unhide HBn) (unhide HO1) rfl (by simpa using unhide HOn6); simp at h9 ⊢; exact h9)
                · have hrt := (row_dropc (unhide HRv0) M hMn).take W (by omega)
                  have htx := fun wx (hb : Below wr.heap.size wr wx) => rtext_any (cap := cap - (p + 1 + N) - M) (hrt.below (Nat.le_refl _) hb) (by omega)
                  have HTx := hide htx
                  have hMc2 : ¬ cap - (p + 1 + N) = M := fun e => hMc e.symm
                  have G : ∃ _ : Unit, _ ∧ _ ∧ _ ∧ _ ∧ _ ∧ _ ∧ _ ∧ _ ∧ _ ∧ _ ∧ _ := ⟨(), hMc, hMz1, hMWz, hs2, hs3, hs3b, hWb, hVz8, hfv, hn, hc⟩
                  clear htx hrt hs2 hs3 hs3b hMW hMWz hMz1 hMn hWb hMc hMc2 hVz8
                  cases hvd : vd ((cs.drop M).take W) with
                  | false =>
                    rw [hvd] at HTx hjd
                    rw [if_neg (by decide)] at hjd
                    rw [hjd, if_neg (by decide)] at ho
                    have HO1 := hide ho
                    clear ho hjd hvd
                    go_wp2_with fail
                    refine (unhide HTk).mono ?_
                    rintro e w1 ⟨rfl, hb1⟩
                    have HB1 := hide hb1; clear hb1
                    go_wp2_with fail
                    refine (unhide HTk2 _ (Below.on (unhide HB1) (one_alloc _ _))).mono ?_
                    rintro e w2 ⟨rfl, hb2⟩
                    have hbx := box3 hb2
                    have d0 : w2.cell? ⟨w1.heap.size, 0, none⟩ = some (.int .u8 0) := hbx.1 0
                    have d1 : w2.cell? ⟨w1.heap.size, 1, none⟩ = some (.int .i64 ((p : Int) + 1 + (N : Int))) := hbx.1 1
                    have d2 : w2.cell? ⟨w1.heap.size, 2, none⟩ = some ((.slice (some ⟨b, o + (p + 1 + N), none⟩) V (cap - (p + 1 + N)))) := hbx.1 2
                    have hlt2 := hbx.2.2
                    have HB12 := hide (Below.on (unhide HB1) (Below.on (one_alloc _ _) hb2))
                    clear hbx hb2
                    try clear hs0
                    try clear hs0b
                    try clear hVn
                    try clear hfv
                    try clear hfz
                    try clear hsb
                    try clear hs
                    try clear hNn
                    try clear hNz1
                    try clear hnz
                    try clear hc
                    try clear hn
                    try clear hp
                    try clear hpz
                    try clear hap
                    try clear hcq
                    try clear hfq
                    try clear hMn
                    try clear hl
                    try clear hcl0
                    try clear hq
                    try clear c0
                    try clear HTk
                    try clear HTk2
                    try clear hi
                    try clear hz0
                    try clear hz1
                    try clear hz2
                    obtain ⟨_, hMc, hMz1, hMWz, hs2, hs3, hs3b, hWb, hVz8, hfv9, hn9, hc9⟩ := G
                    have hVc : (V : Int) ≤ ((cap - (p + 1 + N) : Nat) : Int) := by omega
                    have hMWc : (M : Int) + (W : Int) ≤ ((cap - (p + 1 + N) : Nat) : Int) := by omega
                    have t1 : decide ((V : Int) - (M : Int) < (W : Int)) = false := decide_eq_false (by omega)
                    have t2 : IntKind.i64.wrap ((V : Int) - (M : Int)) = (V : Int) - (M : Int) := by rw [IntKind.wrap_i64]; omega
                    have t3 : IntKind.i64.wrap ((M : Int) + (W : Int)) = (M : Int) + (W : Int) := by rw [IntKind.wrap_i64]; omega
                    have t4 : IntKind.i64.wrap (W : Int) = (W : Int) := by rw [IntKind.wrap_i64]; omega
                    have t5 : (0 : Int) ≤ (M : Int) := by omega
                    have t6 : (M : Int) ≤ (M : Int) + (W : Int) := by omega
                    clear hMz1 hMWz hs3 hWb hVz8 hfv9 hn9 hc9 hs2
                    generalize cap - (p + 1 + N) = c at HTx hMc hVc hMWc d2 ⊢
                    generalize o + (p + 1 + N) = o2 at HTx d2 ⊢
                    go_wp2_with fail
                    refine (unhide HTx _ (unhide HB12)).mono ?_
                    rintro e w3 ⟨rfl, hb3⟩
                    have HB13 := hide ((Below.on (unhide HB12) hb3).mono hws)
                    clear hb3 hMc hVc hMWc t1 t2 t3 t4 t5 t6 d0 d1 d2
                    go_wp2
                    first
                      | exact (unhide HRt) _ _ _ _ _ _ _ _ _ _ _ _ _ _ _ _ _ _ _ _ _ _ _ _ _ _ _ _ _ _ _ _ _ _ _ _ _ _ _ _ _ _ _ _ _ _ _ _ _ _ _ _ _ _ _ _ _ _ _ _ _ _ _ _ _ _ _ _ _ _ _ _ _ _ _ _ _ _ _ _ _ _ _ _ _ _ _ _ _ _ _ _ _ _ _ _ _ _ _ _ _ _ _ _ _ _ _ _ _ _ _ _ _ _ _ _ _ _ _ _ _ _ _ _ _ _ _ _ _ _ _ _ _ _ _ 6 (p + 1 + N) _ (unhide HB13) (by decide) (unhide HO1)
                      | (have h9 := (unhide HRt) _ _ _ _ _ _ _ _ _ _ _ _ _ _ _ _ _ _ _ _ _ _ _ _ _ _ _ _ _ _ _ _ _ _ _ _ _ _ _ _ _ _ _ _ _ _ _ _ _ _ _ _ _ _ _ _ _ _ _ _ _ _ _ _ _ _ _ _ _ _ _ _ _ _ _ _ _ _ _ _ _ _ _ _ _ _ _ _ _ _ _ _ _ _ _ _ _ _ _ _ _ _ _ _ _ _ _ _ _ _ _ _ _ _ _ _ _ _ _ _ _ _ _ _ _ _ _ _ _ _ _ _ _ (.slice sa acc.length sc) (.int .i64 p) 6 (p + 1 + N) _ (unhide HB13) (by decide) (unhide HO1); simpa using h9)
                  | true =>
                    rw [hvd] at HTx hjd
                    rw [if_pos rfl] at hjd
                    rw [if_pos hjd] at ho
                    have HO1 := hide ho
                    have G9 : ∃ _ : Unit, _ ∧ _ := ⟨(), hap, hp⟩
                    clear ho hjd hvd
                    go_wp2_with fail
                    refine (unhide HTk).mono ?_
                    rintro e w1 ⟨rfl, hb1⟩
                    have HB1 := hide hb1; clear hb1
                    go_wp2_with fail
                    refine (unhide HTk2 _ (Below.on (unhide HB1) (one_alloc _ _))).mono ?_
                    rintro e w2 ⟨rfl, hb2⟩
                    have hbx := box3 hb2
                    have d0 : w2.cell? ⟨w1.heap.size, 0, none⟩ = some (.int .u8 0) := hbx.1 0
                    have d1 : w2.cell? ⟨w1.heap.size, 1, none⟩ = some (.int .i64 ((p : Int) + 1 + (N : Int))) := hbx.1 1
                    have d2 : w2.cell? ⟨w1.heap.size, 2, none⟩ = some ((.slice (some ⟨b, o + (p + 1 + N), none⟩) V (cap - (p + 1 + N)))) := hbx.1 2
                    have hlt2 := hbx.2.2
                    have HB12 := hide (Below.on (unhide HB1) (Below.on (one_alloc _ _) hb2))
                    clear hbx hb2
                    try clear hs0
                    try clear hs0b
                    try clear hVn
                    try clear hfv
                    try clear hfz
                    try clear hsb
                    try clear hs
                    try clear hNn
                    try clear hNz1
                    try clear hnz
                    try clear hpz
                    try clear hap
                    try clear hcq
                    try clear hq
                    try clear c0
                    try clear HTk
                    try clear HTk2
                    obtain ⟨_, hMc, hMz1, hMWz, hs2, hs3, hs3b, hWb, hVz8, hfv9, hn9, hc9⟩ := G
                    obtain ⟨_, hap9, hp9⟩ := G9
                    have hacc9 : acc.length ≤ 4000 := by omega
                    have hVc : (V : Int) ≤ ((cap - (p + 1 + N) : Nat) : Int) := by omega
                    have hMWc : (M : Int) + (W : Int) ≤ ((cap - (p + 1 + N) : Nat) : Int) := by omega
                    have t1 : decide ((V : Int) - (M : Int) < (W : Int)) = false := decide_eq_false (by omega)
                    have t2 : IntKind.i64.wrap ((V : Int) - (M : Int)) = (V : Int) - (M : Int) := by rw [IntKind.wrap_i64]; omega
                    have t3 : IntKind.i64.wrap ((M : Int) + (W : Int)) = (M : Int) + (W : Int) := by rw [IntKind.wrap_i64]; omega
                    have t4 : IntKind.i64.wrap (W : Int) = (W : Int) := by rw [IntKind.wrap_i64]; omega
                    have t5 : (0 : Int) ≤ (M : Int) := by omega
                    have t6 : (M : Int) ≤ (M : Int) + (W : Int) := by omega
                    have G2 : ∃ _ : Unit, _ ∧ _ := ⟨(), hacc9, hVc⟩
                    clear hMz1 hMWz hs3 hWb hVz8 hfv9 hn9 hc9 hs2 hacc9 hap9 hp9
                    generalize cap - (p + 1 + N) = c at HTx hMc hVc hMWc d2 HRv0 G2 ⊢
                    generalize o + (p + 1 + N) = o2 at HTx d2 HRv0 ⊢
                    go_wp2_with fail
                    refine (unhide HTx _ (unhide HB12)).mono ?_
                    rintro e w3 ⟨rfl, hb3⟩
                    obtain ⟨_, hacc9, hVc⟩ := G2
                    clear hMc hMWc t1 t2 t3 t4 t5 t6
                    have f0 : w3.cell? ⟨w1.heap.size, 0, none⟩ = some (.int .u8 0) := (World.cell?_of_block (a := ⟨w1.heap.size, 0, none⟩) (hb3.block _ hlt2)).trans d0
                    have f1 : w3.cell? ⟨w1.heap.size, 1, none⟩ = some (.int .i64 ((p : Int) + 1 + (N : Int))) := (World.cell?_of_block (a := ⟨w1.heap.size, 1, none⟩) (hb3.block _ hlt2)).trans d1
                    have f2 : w3.cell? ⟨w1.heap.size, 2, none⟩ = some ((.slice (some ⟨b, o2, none⟩) V c)) := (World.cell?_of_block (a := ⟨w1.heap.size, 2, none⟩) (hb3.block _ hlt2)).trans d2
                    have HB13 := hide (Below.on (unhide HB12) hb3)
                    clear hb3 d0 d1 d2
                    have hb4 := one_alloc w3 (.cells #[.int .u8 0, .int .i64 ((p : Int) + 1 + (N : Int)), (.slice (some ⟨b, o2, none⟩) V c)] 36)
                    have hb34 := Below.on (unhide HB13) hb4
                    obtain ⟨xs, hxo, hit⟩ := (unhide HO).below hb34
                    have hcel : cel ⟨0, p + 1 + N, cs⟩ ((.slice (some ⟨b, o2, none⟩) V c)) = [.int .u8 0, .int .i64 ((p : Int) + 1 + (N : Int)), (.slice (some ⟨b, o2, none⟩) V c)] := by simp [cel]
                    have hbyn : Byt (w3.alloc (.cells #[.int .u8 0, .int .i64 ((p : Int) + 1 + (N : Int)), (.slice (some ⟨b, o2, none⟩) V c)] 36)) (own (fun _ => True) (.slice sa acc.length sc)) cs ((.slice (some ⟨b, o2, none⟩) V c)) := by
                      refine ⟨(some ⟨b, o2, none⟩), c, by rw [hcl0], by rw [hcl0]; omega, by simp, by rw [hcl0]; exact (unhide HRv0).below (Nat.le_refl _) hb34, fun _ => ⟨b, _, rfl, fun e => ?_, trivial⟩⟩
                      have := ((unhide HO).lt b e).1
                      omega
                    have HXo := hide hxo; have HIt := hide hit; have HByn := hide hbyn; have HB34 := hide hb34; have HCel := hide hcel
                    have hw1s := (unhide HB13).size
                    have hacc : acc.length ≤ 4000 := by omega
                    clear hcel hb4 hb34 hxo hit hbyn
                    go_wp2_with (at_builtin; refine wpList_append_lies _ rfl (.tmp 154) (.tmp 156) 29 rfl w.heap.size 36 i0 (.agg #[.int .u8 0, .int .i64 0, .slice none 0 0]) 3 40 Tryd.underlying29 hi hz0 hz1 hz2 rfl (by decide) (.slice sa acc.length sc) acc.length xs rfl (unhide HXo) ⟨w3.heap.size, 0, none⟩ 1 1 [.int .u8 0, .int .i64 ((p : Int) + 1 + (N : Int)), (.slice (some ⟨b, o2, none⟩) V c)] rfl rfl ?c1 ?c2 (by omega) ?c3 ?c4 ?c5 (w3.heap.size + 1) ?c6 ?_)
                    case c1 => intro j u hj; rw [addr_add, Nat.zero_add, box_new w3 #[.int .u8 0, .int .i64 ((p : Int) + 1 + (N : Int)), (.slice (some ⟨b, o2, none⟩) V c)] 36 j]; simpa using hj
                    case c2 => intro u hu; simp at hu; rcases hu with rfl | rfl | rfl <;> rfl
                    case c3 => unfold maxLen; omega
                    case c4 => omega
                    case c5 => simp; omega
                    case c6 => simp
                    intro g6 cap6 w6 hown6 hgrow6 hat6 hlt6
                    rw [← unhide HCel] at hown6
                    have hOn := OwnS.snoc (s := ⟨0, p + 1 + N, cs⟩) (unhide HXo) (unhide HIt) (unhide HByn) hown6 hgrow6 (by rcases hat6 with e | e; exact .inl e; exact .inr (by rw [e]; simp))
                    have hbn : Below w.heap.size wr w6 := ((unhide HB34).mono hws).trans ((Below.refl w.heap.size _).grown hgrow6 (by simp; omega) (fun k hk => ((unhide HO).lt k hk).1))
                    have HOn6 := hide hOn; have HBn := hide hbn
                    clear hOn hbn hown6 hgrow6 hat6 hlt6
                    go_wp2
                    first
                      | exact (unhide HN) _ _ _ _ _ _ _ _ _ _ _ _ _ _ _ _ _ _ _ _ _ _ _ _ _ _ _ _ _ _ _ _ _ _ _ _ _ _ _ _ _ _ _ _ _ _ _ _ _ _ _ _ _ _ _ _ _ _ _ _ _ _ _ _ _ _ _ _ _ _ _ _ _ _ _ _ _ _ _ _ _ _ _ _ _ _ _ _ _ _ _ _ _ _ _ _ _ _ _ _ _ _ _ _ _ _ _ _ _ _ _ _ _ _ _ _ _ _ _ _ _ _ _ _ _ _ _ _ _ _ _ _ _ _ _ _ _ ⟨0, p + 1 + N, cs⟩ (p + 1 + N + V) _ (unhide HBn) (unhide HO1) rfl (by simpa using unhide HOn6)
                      | (have h9 := (unhide HN) _ _ _ _ _ _ _ _ _ _ _ _ _ _ _ _ _ _ _ _ _ _ _ _ _ _ _ _ _ _ _ _ _ _ _ _ _ _ _ _ _ _ _ _ _ _ _ _ _ _ _ _ _ _ _ _ _ _ _ _ _ _ _ _ _ _ _ _ _ _ _ _ _ _ _ _ _ _ _ _ _ _ _ _ _ _ _ _ _ _ _ _ _ _ _ _ _ _ _ _ _ _ _ _ _ _ _ _ _ _ _ _ _ _ _ _ _ _ _ _ _ _ _ _ _ _ _ _ _ _ _ _ _ _ _ _ (.slice (some ⟨g6, 0, none⟩) (acc.length + 1) cap6) ⟨0, p + 1 + N, cs⟩ (p + 1 + N + V) _ (unhide HBn) (unhide HO1) rfl (by simpa using unhide HOn6); simp at h9 ⊢; exact h9)
            · rw [if_neg e2] at hjd
              rw [hjd, if_neg e2] at ho
              rw [(tuV_no e2).1, (tuV_no e2).2] at ht2
              have e2b : (Leb.tuE cs 32 == 0) = false := by simp [e2]
              have HTk2 := hide ht2; have HO1 := hide ho; have HE := hide e2
              generalize Leb.tuE cs 32 = E at *
              clear ho ht2 hjd e2 hby0
              go_wp2_with fail
              refine (unhide HTk).mono ?_
              rintro e w1 ⟨rfl, hb1⟩
              have HB1 := hide hb1; clear hb1
              go_wp2_with fail
              refine (unhide HTk2 _ (Below.on (unhide HB1) (one_alloc _ _))).mono ?_
              rintro e w2 ⟨rfl, hb2⟩
              have HB2 := hide ((Below.on (unhide HB1) (Below.on (one_alloc _ _) hb2)).mono hws); clear hb2
              go_wp2
              first
                | exact (unhide HRt) _ _ _ _ _ _ _ _ _ _ _ _ _ _ _ _ _ _ _ _ _ _ _ _ _ _ _ _ _ _ _ _ _ _ _ _ _ _ _ _ _ _ _ _ _ _ _ _ _ _ _ _ _ _ _ _ _ _ _ _ _ _ _ _ _ _ _ _ _ _ _ _ _ _ _ _ _ _ _ _ _ _ _ _ _ _ _ _ _ _ _ _ _ _ _ _ _ _ _ _ _ _ _ _ _ _ _ _ _ _ _ _ _ _ _ _ _ _ _ _ _ _ _ _ _ _ _ _ _ _ _ _ _ _ _ E (p + 1 + N) _ (unhide HB2) (unhide HE) (unhide HO1)
                | (have h9 := (unhide HRt) _ _ _ _ _ _ _ _ _ _ _ _ _ _ _ _ _ _ _ _ _ _ _ _ _ _ _ _ _ _ _ _ _ _ _ _ _ _ _ _ _ _ _ _ _ _ _ _ _ _ _ _ _ _ _ _ _ _ _ _ _ _ _ _ _ _ _ _ _ _ _ _ _ _ _ _ _ _ _ _ _ _ _ _ _ _ _ _ _ _ _ _ _ _ _ _ _ _ _ _ _ _ _ _ _ _ _ _ _ _ _ _ _ _ _ _ _ _ _ _ _ _ _ _ _ _ _ _ _ _ _ _ _ (.slice sa acc.length sc) (.int .i64 p) E (p + 1 + N) _ (unhide HB2) (unhide HE) (unhide HO1); simpa using h9)
      · have ho := unhide HOo
        rw [if_neg he] at ho
        rw [(tuV_no he).1, (tuV_no he).2] at ht
        have HTk := hide ht; have HE := hide he; have HO1 := hide ho
        have heb : (Leb.tuE qs 32 == 0) = false := by simp [he]
        generalize Leb.tuE qs 32 = E at *
        clear ht he hby hln hqs hr1 ho HOo
        go_wp2_with fail
        refine (unhide HTk).mono ?_
        rintro e w1 ⟨rfl, hb1⟩
        have HB1 := hide (hb1.mono hws); clear hb1
        go_wp2
        first
          | exact (unhide HRt) _ _ _ _ _ _ _ _ _ _ _ _ _ _ _ _ _ _ _ _ _ _ _ _ _ _ _ _ _ _ _ _ _ _ _ _ _ _ _ _ _ _ _ _ _ _ _ _ _ _ _ _ _ _ _ _ _ _ _ _ _ _ _ _ _ _ _ _ _ _ _ _ _ _ _ _ _ _ _ _ _ _ _ _ _ _ _ _ _ _ _ _ _ _ _ _ _ _ _ _ _ _ _ _ _ _ _ _ _ _ _ _ _ _ _ _ _ _ _ _ _ _ _ _ _ _ _ _ _ _ _ _ _ _ _ E (p + 1) _ (unhide HB1) (unhide HE) (unhide HO1)
          | (have h9 := (unhide HRt) _ _ _ _ _ _ _ _ _ _ _ _ _ _ _ _ _ _ _ _ _ _ _ _ _ _ _ _ _ _ _ _ _ _ _ _ _ _ _ _ _ _ _ _ _ _ _ _ _ _ _ _ _ _ _ _ _ _ _ _ _ _ _ _ _ _ _ _ _ _ _ _ _ _ _ _ _ _ _ _ _ _ _ _ _ _ _ _ _ _ _ _ _ _ _ _ _ _ _ _ _ _ _ _ _ _ _ _ _ _ _ _ _ _ _ _ _ _ _ _ _ _ _ _ _ _ _ _ _ _ _ _ _ (.slice sa acc.length sc) (.int .i64 p) E (p + 1) _ (unhide HB1) (unhide HE) (unhide HO1); simpa using h9)
end Sc
end Go.Proofs.YtcmidegffpehoaaDoor
