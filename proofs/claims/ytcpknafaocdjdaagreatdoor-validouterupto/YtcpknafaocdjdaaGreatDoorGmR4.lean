/- A round of giveModule's loop 4. -/
import Derived.Test.YtcpknafaocdjdaaGreatDoorGmT
namespace Go.Proofs.YtcpknafaocdjdaaGreatDoor
open Go.RowKit
namespace Gm
set_option linter.unusedVariables false
set_option linter.unusedSimpArgs false
set_option maxRecDepth 1000000 in
set_option maxHeartbeats 6400000 in
theorem gm_4 {u0 u4 u5 u6 u7 u9 u10 u11 u12 u13 u14 u15 u16 u17 u18 u19 u20 u21 u22 u23 u24 u25 u26 u27 u28 u29 u30 u31 u32 u33 u34 u35 u36 u37 u38 u39 u40 u41 u42 u43 u44 u45 u46 u47 u48 u49 u50 u51 u52 u53 u54 u55 u56 u57 u58 u59 u60 u61 u62 u63 u64 u65 u66 u67 u68 u69 u70 u71 u72 u73 u74 u75 u76 u77 u78 u79 u80 u81 u82 u83 u84 u85 u86 u87 u88 u89 u90 u91 u92 u93 u94 u95 u96 u97 u98 u99 u100 u101 u102 u103 u104 u105 u106 u107 u108 u109 u110 u111 u112 u113 u114 u115 u116 u117 u118 u119 u120 u121 u122 u123 u124 u125 u126 u127 u128 u129 u130 u131 u132 u133 u134 u135 u136 u137 u138 u139 u140 u141 u142 u143 u144 u145 u146 u147 u148 u149 u150 u151 u152 u153 u154 u155 u156 u157 u158 u159 u160 u161 u162 u163 u164 u165 u166 u167 u168 u169 u170 u171 u172 u173 u174 u175 u176 u177 u178 u179 u180 u181 u182 u183 u184 u185 u186 u187 u188 u189 u190 u191 u192 u193 u194 u195 u196 u197 u198 u199 u200 u201 u202 u203 u204 u205 u206 u207 u208 u209 u210 u211 u212 u213 u214 u215 u216 u217 u218 : Value} {Bm Br Bo base ba oa n cp j uc : Nat} {ua : Option Addr} {kd op nn al of re : Int} {mu : Bool} {iba iea ila : Option Addr} {ibl ibc iel iec ill ilc : Nat} {PK0 : World → World → Value → Prop} {xs : List Value} {wr : World} {Q0 : Exit → Act → World → Prop}
    (hjn : (j : Int) < (n : Int)) (hnb : (n : Int) ≤ 1048576) (hmc : wr.cell? ⟨Bm, 4, none⟩ = some (.slice (some ⟨ba, oa, none⟩) n cp)) (d0 : wr.cell? ⟨ba, oa + j * 10, none⟩ = some (.int .u8 kd)) (d1 : wr.cell? ⟨ba, oa + j * 10 + 1, none⟩ = some (.bool mu)) (d2 : wr.cell? ⟨ba, oa + j * 10 + 2, none⟩ = some (.int .u8 op)) (d3 : wr.cell? ⟨ba, oa + j * 10 + 3, none⟩ = some (.int .i64 nn)) (d4 : wr.cell? ⟨ba, oa + j * 10 + 4, none⟩ = some (.int .u32 al)) (d5 : wr.cell? ⟨ba, oa + j * 10 + 5, none⟩ = some (.int .u32 of)) (d6 : wr.cell? ⟨ba, oa + j * 10 + 6, none⟩ = some (.int .u8 re)) (d7 : wr.cell? ⟨ba, oa + j * 10 + 7, none⟩ = some (.slice iba ibl ibc)) (d8 : wr.cell? ⟨ba, oa + j * 10 + 8, none⟩ = some (.slice iea iel iec)) (d9 : wr.cell? ⟨ba, oa + j * 10 + 9, none⟩ = some (.slice ila ill ilc))
    (oc : wr.cell? ⟨Bo, 4, none⟩ = some (.slice ua j uc)) (hf : ∀ j, wr.frozen? ⟨Bo, j, none⟩ = false) (hown : wr.ownsRow base 77 10 (.slice ua j uc) j xs) (hbase : base ≤ wr.heap.size)
    (lo : Bo < wr.heap.size) (lm : Bm < wr.heap.size) (la : ba < wr.heap.size) (nom : ¬ Bm = Bo) (noa : ¬ ba = Bo) (no : (Value.slice ua j uc).ownBlock ≠ some Bo) (nm : (Value.slice ua j uc).ownBlock ≠ some Bm) (na : (Value.slice ua j uc).ownBlock ≠ some ba)
    (hc0 : ∀ W, Below wr.heap.size wr W → Calls Tryz.prog 22 #[.agg #[.int .u8 op, .int .i64 nn, .int .u32 al, .int .u32 of, .int .u8 re, .slice iba ibl ibc, .slice iea iel iec, .slice ila ill ilc]] W fun e w' => ∃ xba xbl xbc xea xel xec xla xll xlc, e = .returned (.agg #[.int .u8 op, .int .i64 nn, .int .u32 al, .int .u32 of, .int .u8 re, .slice xba xbl xbc, .slice xea xel xec, .slice xla xll xlc]) ∧ PK0 W w' (.agg #[.int .u8 op, .int .i64 nn, .int .u32 al, .int .u32 of, .int .u8 re, .slice xba xbl xbc, .slice xea xel xec, .slice xla xll xlc]) ∧ Below W.heap.size W w')
    (hnorm : ∀ (v105 v106 v107 v108 v109 v110 v111 v112 v113 v114 v115 v116 v117 v118 v119 v120 v121 v122 v123 v124 v125 v126 v127 v128 v129 v130 v131 v132 v133 v134 v135 v136 : Value) (xba : Option Addr) (xbl xbc : Nat) (xea : Option Addr) (xel xec : Nat) (xla : Option Addr) (xll xlc : Nat) (w1 : World) (wx : World) (gg cap : Nat), PK0 wr.drew w1 (.agg #[.int .u8 op, .int .i64 nn, .int .u32 al, .int .u32 of, .int .u8 re, .slice xba xbl xbc, .slice xea xel xec, .slice xla xll xlc]) → Below wr.drew.heap.size wr.drew w1 → wx.ownsRow base 77 10 (.slice (some ⟨gg, 0, none⟩) (j + 1) cap) (j + 1) (xs ++ [.int .u8 kd, .bool mu, .int .u8 op, .int .i64 nn, .int .u32 al, .int .u32 of, .int .u8 re, .slice xba xbl xbc, .slice xea xel xec, .slice xla xll xlc]) → (w1.alloc (.cells #[.int .u8 kd, .bool mu, .int .u8 op, .int .i64 nn, .int .u32 al, .int .u32 of, .int .u8 re, .slice xba xbl xbc, .slice xea xel xec, .slice xla xll xlc] 77)).grownBy wx (Value.slice ua j uc).ownBlock → ((Value.slice ua j uc).ownBlock = some gg ∨ gg = w1.heap.size + 1) → gg < wx.heap.size →
      Q0 .normal ⟨#[u0, .pointer (some ⟨Bm, 0, none⟩), .pointer (some ⟨Br, 0, none⟩), .pointer (some ⟨Bo, 0, none⟩), u4, u5, u6, u7, .int .i64 ((j : Int) + 1), u9, u10, u11, u12, u13, u14, u15, u16, u17, u18, u19, u20, u21, u22, u23, u24, u25, u26, u27, u28, u29, u30, u31, u32, u33, u34, u35, u36, u37, u38, u39, u40, u41, u42, u43, u44, u45, u46, u47, u48, u49, u50, u51, u52, u53, u54, u55, u56, u57, u58, u59, u60, u61, u62, u63, u64, u65, u66, u67, u68, u69, u70, u71, u72, u73, u74, u75, u76, u77, u78, u79, u80, u81, u82, u83, u84, u85, u86, u87, u88, u89, u90, u91, u92, u93, u94, u95, u96, u97, u98, u99, u100, u101, u102, u103, u104, v105, v106, v107, v108, v109, v110, v111, v112, v113, v114, v115, v116, v117, v118, v119, v120, v121, v122, v123, v124, v125, v126, v127, v128, v129, v130, v131, v132, v133, v134, v135, v136, u137, u138, u139, u140, u141, u142, u143, u144, u145, u146, u147, u148, u149, u150, u151, u152, u153, u154, u155, u156, u157, u158, u159, u160, u161, u162, u163, u164, u165, u166, u167, u168, u169, u170, u171, u172, u173, u174, u175, u176, u177, u178, u179, u180, u181, u182, u183, u184, u185, u186, u187, u188, u189, u190, u191, u192, u193, u194, u195, u196, u197, u198, u199, u200, u201, u202, u203, u204, u205, u206, u207, u208, u209, u210, u211, u212, u213, u214, u215, u216, u217, u218], []⟩ (wx.setCell ⟨Bo, 4, none⟩ (.slice (some ⟨gg, 0, none⟩) (j + 1) cap))) :
    Code.wp Tryz.prog gbody4 Q0 ⟨#[u0, .pointer (some ⟨Bm, 0, none⟩), .pointer (some ⟨Br, 0, none⟩), .pointer (some ⟨Bo, 0, none⟩), u4, u5, u6, u7, .int .i64 j, u9, u10, u11, u12, u13, u14, u15, u16, u17, u18, u19, u20, u21, u22, u23, u24, u25, u26, u27, u28, u29, u30, u31, u32, u33, u34, u35, u36, u37, u38, u39, u40, u41, u42, u43, u44, u45, u46, u47, u48, u49, u50, u51, u52, u53, u54, u55, u56, u57, u58, u59, u60, u61, u62, u63, u64, u65, u66, u67, u68, u69, u70, u71, u72, u73, u74, u75, u76, u77, u78, u79, u80, u81, u82, u83, u84, u85, u86, u87, u88, u89, u90, u91, u92, u93, u94, u95, u96, u97, u98, u99, u100, u101, u102, u103, u104, u105, u106, u107, u108, u109, u110, u111, u112, u113, u114, u115, u116, u117, u118, u119, u120, u121, u122, u123, u124, u125, u126, u127, u128, u129, u130, u131, u132, u133, u134, u135, u136, u137, u138, u139, u140, u141, u142, u143, u144, u145, u146, u147, u148, u149, u150, u151, u152, u153, u154, u155, u156, u157, u158, u159, u160, u161, u162, u163, u164, u165, u166, u167, u168, u169, u170, u171, u172, u173, u174, u175, u176, u177, u178, u179, u180, u181, u182, u183, u184, u185, u186, u187, u188, u189, u190, u191, u192, u193, u194, u195, u196, u197, u198, u199, u200, u201, u202, u203, u204, u205, u206, u207, u208, u209, u210, u211, u212, u213, u214, u215, u216, u217, u218], []⟩ wr := by
  obtain ⟨i0, hi, hz0, hz1, hz2⟩ := info_parts gmInfo4
  have HN := hide hnorm; have HO := hide hown; have HF := hide hf
  have HC0 := hide hc0
  clear hnorm hown hc0
  have nom2 : ¬ Bo = Bm := fun e => nom e.symm
  have noa2 : ¬ Bo = ba := fun e => noa e.symm
  conv => arg 2; whnf
  go_wp2_with fail
  refine wp_region_noPanic ?_
  refine wp_region_pop (S := fun w' => w'.cell? ⟨Bm, 4, none⟩ = some (.slice (some ⟨ba, oa, none⟩) n cp) ∧ w'.cell? ⟨ba, oa + j * 10, none⟩ = some (.int .u8 kd) ∧ w'.cell? ⟨ba, oa + j * 10 + 1, none⟩ = some (.bool mu) ∧ w'.cell? ⟨ba, oa + j * 10 + 2, none⟩ = some (.int .u8 op) ∧ w'.cell? ⟨ba, oa + j * 10 + 3, none⟩ = some (.int .i64 nn) ∧ w'.cell? ⟨ba, oa + j * 10 + 4, none⟩ = some (.int .u32 al) ∧ w'.cell? ⟨ba, oa + j * 10 + 5, none⟩ = some (.int .u32 of) ∧ w'.cell? ⟨ba, oa + j * 10 + 6, none⟩ = some (.int .u8 re) ∧ w'.cell? ⟨ba, oa + j * 10 + 7, none⟩ = some (.slice iba ibl ibc) ∧ w'.cell? ⟨ba, oa + j * 10 + 8, none⟩ = some (.slice iea iel iec) ∧ w'.cell? ⟨ba, oa + j * 10 + 9, none⟩ = some (.slice ila ill ilc) ∧ w'.cell? ⟨Bo, 4, none⟩ = some (.slice ua j uc)) _ rfl rfl (by kernel_rfl) (by kernel_rfl) ⟨hmc, d0, d1, d2, d3, d4, d5, d6, d7, d8, d9, oc⟩ (fun hHeld => ?_)
  simp only [List.pop_toArray, List.dropLast_cons_cons, List.dropLast_singleton, List.size_toArray, List.length_cons, List.length_nil, Nat.reduceAdd]
  refine wpAnyH_take (i := 0) (v := ?v0) rfl (by kernel_rfl) (by kernel_rfl) (by kernel_rfl) (fun _ _ _ h => h) (Or.inl ⟨by rfl, ?y0⟩) hHeld ?r0
  case y0 => (intro w hSw; (try dsimp only at hSw); go_simp; all_goals (with_reducible rfl))
  (try simp only [Act.put, List.getElem_toArray, List.getElem_cons_succ, List.getElem_cons_zero, List.setIfInBounds_toArray, List.set_cons_zero, List.set_cons_succ])
  refine wpAnyH_take (i := 1) (v := ?v1) rfl (by kernel_rfl) (by kernel_rfl) (by kernel_rfl) (fun _ _ _ h => h) (Or.inl ⟨by rfl, ?y1⟩) hHeld ?r1
  case y1 => (intro w hSw; (try dsimp only at hSw); go_simp; all_goals (with_reducible rfl))
  (try simp only [Act.put, List.getElem_toArray, List.getElem_cons_succ, List.getElem_cons_zero, List.setIfInBounds_toArray, List.set_cons_zero, List.set_cons_succ])
  refine wpAnyH_take (i := 2) (v := ?v2) rfl (by kernel_rfl) (by kernel_rfl) (by kernel_rfl) (fun _ _ _ h => h) (Or.inl ⟨by rfl, ?y2⟩) hHeld ?r2
  case y2 => (intro w hSw; (try dsimp only at hSw); go_simp; all_goals (with_reducible rfl))
  (try simp only [Act.put, List.getElem_toArray, List.getElem_cons_succ, List.getElem_cons_zero, List.setIfInBounds_toArray, List.set_cons_zero, List.set_cons_succ])
  refine wpAnyH_take (i := 3) (v := ?v3) rfl (by kernel_rfl) (by kernel_rfl) (by kernel_rfl) (fun _ _ _ h => h) (Or.inl ⟨by rfl, ?y3⟩) hHeld ?r3
  case y3 => (intro w hSw; (try dsimp only at hSw); go_simp; all_goals (with_reducible rfl))
  (try simp only [Act.put, List.getElem_toArray, List.getElem_cons_succ, List.getElem_cons_zero, List.setIfInBounds_toArray, List.set_cons_zero, List.set_cons_succ])
  refine wpAnyH_take (i := 4) (v := ?v4) rfl (by kernel_rfl) (by kernel_rfl) (by kernel_rfl) (fun _ _ _ h => h) (Or.inl ⟨by rfl, ?y4⟩) hHeld ?r4
  case y4 => (intro w hSw; (try dsimp only at hSw); go_simp; all_goals (with_reducible rfl))
  (try simp only [Act.put, List.getElem_toArray, List.getElem_cons_succ, List.getElem_cons_zero, List.setIfInBounds_toArray, List.set_cons_zero, List.set_cons_succ])
  refine wpAnyH_take (i := 5) (v := ?v5) rfl (by kernel_rfl) (by kernel_rfl) (by kernel_rfl) (fun _ _ _ h => h) (Or.inl ⟨by rfl, ?y5⟩) hHeld ?r5
  case y5 => (intro w hSw; (try dsimp only at hSw); go_simp; all_goals (with_reducible rfl))
  (try simp only [Act.put, List.getElem_toArray, List.getElem_cons_succ, List.getElem_cons_zero, List.setIfInBounds_toArray, List.set_cons_zero, List.set_cons_succ])
  refine wpAnyH_take (i := 6) (v := ?v6) rfl (by kernel_rfl) (by kernel_rfl) (by kernel_rfl) (fun _ _ _ h => h) (Or.inl ⟨by rfl, ?y6⟩) hHeld ?r6
  case y6 => (intro w hSw; (try dsimp only at hSw); go_simp; all_goals (with_reducible rfl))
  (try simp only [Act.put, List.getElem_toArray, List.getElem_cons_succ, List.getElem_cons_zero, List.setIfInBounds_toArray, List.set_cons_zero, List.set_cons_succ])
  refine wpAnyH_take (i := 7) (v := ?v7) rfl (by kernel_rfl) (by kernel_rfl) (by kernel_rfl) (fun _ _ _ h => h) (Or.inl ⟨by rfl, ?y7⟩) hHeld ?r7
  case y7 => (intro w hSw; (try dsimp only at hSw); go_simp; all_goals (with_reducible rfl))
  (try simp only [Act.put, List.getElem_toArray, List.getElem_cons_succ, List.getElem_cons_zero, List.setIfInBounds_toArray, List.set_cons_zero, List.set_cons_succ])
  refine wpAnyH_take (i := 8) (v := ?v8) rfl (by kernel_rfl) (by kernel_rfl) (by kernel_rfl) (fun _ _ _ h => h) (Or.inl ⟨by rfl, ?y8⟩) hHeld ?r8
  case y8 => (intro w hSw; (try dsimp only at hSw); go_simp; all_goals (with_reducible rfl))
  (try simp only [Act.put, List.getElem_toArray, List.getElem_cons_succ, List.getElem_cons_zero, List.setIfInBounds_toArray, List.set_cons_zero, List.set_cons_succ])
  refine wpAnyH_take (i := 9) (v := ?v9) rfl (by kernel_rfl) (by kernel_rfl) (by kernel_rfl) (fun _ _ _ h => h) (Or.inl ⟨by rfl, ?y9⟩) hHeld ?r9
  case y9 => (intro w hSw; (try dsimp only at hSw); go_simp; all_goals (with_reducible rfl))
  (try simp only [Act.put, List.getElem_toArray, List.getElem_cons_succ, List.getElem_cons_zero, List.setIfInBounds_toArray, List.set_cons_zero, List.set_cons_succ])
  refine wpAnyH_take (i := 10) (v := ?v10) rfl (by kernel_rfl) (by kernel_rfl) (by kernel_rfl) (fun _ _ _ h => h) (Or.inl ⟨by rfl, ?y10⟩) hHeld ?r10
  case y10 => (intro w hSw; (try dsimp only at hSw); go_simp; all_goals (with_reducible rfl))
  (try simp only [Act.put, List.getElem_toArray, List.getElem_cons_succ, List.getElem_cons_zero, List.setIfInBounds_toArray, List.set_cons_zero, List.set_cons_succ])
  refine wpAnyH_take (i := 11) (v := ?v11) rfl (by kernel_rfl) (by kernel_rfl) (by kernel_rfl) (fun _ _ _ h => h) (Or.inl ⟨by rfl, ?y11⟩) hHeld ?r11
  case y11 => (intro w hSw; (try dsimp only at hSw); go_simp; all_goals (with_reducible rfl))
  (try simp only [Act.put, List.getElem_toArray, List.getElem_cons_succ, List.getElem_cons_zero, List.setIfInBounds_toArray, List.set_cons_zero, List.set_cons_succ])
  refine wpAnyH_take (i := 12) (v := ?v12) rfl (by kernel_rfl) (by kernel_rfl) (by kernel_rfl) (fun _ _ _ h => h) (Or.inl ⟨by rfl, ?y12⟩) hHeld ?r12
  case y12 => (intro w hSw; (try dsimp only at hSw); go_simp; all_goals (with_reducible rfl))
  (try simp only [Act.put, List.getElem_toArray, List.getElem_cons_succ, List.getElem_cons_zero, List.setIfInBounds_toArray, List.set_cons_zero, List.set_cons_succ])
  refine wpAnyH_take (i := 13) (v := ?v13) rfl (by kernel_rfl) (by kernel_rfl) (by kernel_rfl) (fun _ _ _ h => h) (Or.inl ⟨by rfl, ?y13⟩) hHeld ?r13
  case y13 => (intro w hSw; (try dsimp only at hSw); go_simp; all_goals (with_reducible rfl))
  (try simp only [Act.put, List.getElem_toArray, List.getElem_cons_succ, List.getElem_cons_zero, List.setIfInBounds_toArray, List.set_cons_zero, List.set_cons_succ])
  refine wpAnyH_take (i := 14) (v := ?v14) rfl (by kernel_rfl) (by kernel_rfl) (by kernel_rfl) (fun _ _ _ h => h) (Or.inl ⟨by rfl, ?y14⟩) hHeld ?r14
  case y14 => (intro w hSw; (try dsimp only at hSw); go_simp; all_goals (with_reducible rfl))
  (try simp only [Act.put, List.getElem_toArray, List.getElem_cons_succ, List.getElem_cons_zero, List.setIfInBounds_toArray, List.set_cons_zero, List.set_cons_succ])
  refine wpAnyH_take (i := 15) (v := ?v15) rfl (by kernel_rfl) (by kernel_rfl) (by kernel_rfl) (fun _ _ _ h => h) (Or.inl ⟨by rfl, ?y15⟩) hHeld ?r15
  case y15 => (intro w hSw; (try dsimp only at hSw); go_simp; all_goals (with_reducible rfl))
  (try simp only [Act.put, List.getElem_toArray, List.getElem_cons_succ, List.getElem_cons_zero, List.setIfInBounds_toArray, List.set_cons_zero, List.set_cons_succ])
  refine wpAnyH_take (i := 16) (v := ?v16) rfl (by kernel_rfl) (by kernel_rfl) (by kernel_rfl) (fun _ _ _ h => h) (Or.inl ⟨by rfl, ?y16⟩) hHeld ?r16
  case y16 => (intro w hSw; (try dsimp only at hSw); go_simp; all_goals (with_reducible rfl))
  (try simp only [Act.put, List.getElem_toArray, List.getElem_cons_succ, List.getElem_cons_zero, List.setIfInBounds_toArray, List.set_cons_zero, List.set_cons_succ])
  refine wpAnyH_take (i := 17) (v := ?v17) rfl (by kernel_rfl) (by kernel_rfl) (by kernel_rfl) (fun _ _ _ h => h) (Or.inl ⟨by rfl, ?y17⟩) hHeld ?r17
  case y17 => (intro w hSw; (try dsimp only at hSw); go_simp; all_goals (with_reducible rfl))
  (try simp only [Act.put, List.getElem_toArray, List.getElem_cons_succ, List.getElem_cons_zero, List.setIfInBounds_toArray, List.set_cons_zero, List.set_cons_succ])
  refine wpAnyH_take (i := 18) (v := ?v18) rfl (by kernel_rfl) (by kernel_rfl) (by kernel_rfl) (fun _ _ _ h => h) (Or.inl ⟨by rfl, ?y18⟩) hHeld ?r18
  case y18 => (intro w hSw; (try dsimp only at hSw); go_simp; all_goals (with_reducible rfl))
  (try simp only [Act.put, List.getElem_toArray, List.getElem_cons_succ, List.getElem_cons_zero, List.setIfInBounds_toArray, List.set_cons_zero, List.set_cons_succ])
  refine wpAnyH_take (i := 19) (v := ?v19) rfl (by kernel_rfl) (by kernel_rfl) (by kernel_rfl) (fun _ _ _ h => h) (Or.inl ⟨by rfl, ?y19⟩) hHeld ?r19
  case y19 => (intro w hSw; (try dsimp only at hSw); go_simp; all_goals (with_reducible rfl))
  (try simp only [Act.put, List.getElem_toArray, List.getElem_cons_succ, List.getElem_cons_zero, List.setIfInBounds_toArray, List.set_cons_zero, List.set_cons_succ])
  refine wpAnyH_ready (rs := [20]) (by kernel_rfl) (by simp) ?_
  refine AllReadyH.cons rfl (fun K hK => ?_) AllReadyH.nil
  go_simp
  go_at_call 22
  refine (unhide HC0 _ (drew_below9 wr)).mono ?_
  rintro e w1 ⟨xba, xbl, xbc, xea, xel, xec, xla, xll, xlc, rfl, hP0, hb⟩
  have HP0 := hide hP0; have HBB0 := hide hb
  have HB1 := hide (Below.on (drew_below9 wr) hb)
  have hk : ∀ b o, b < wr.heap.size → w1.cell? ⟨b, o, none⟩ = wr.cell? ⟨b, o, none⟩ := fun b o hlt => (unhide HB1).cell (p := ⟨b, o, none⟩) hlt
  have hoc := (hk Bo 4 lo).trans oc
  have l1 : Bo < w1.heap.size := Nat.lt_of_lt_of_le lo (unhide HB1).size
  have lm1 : Bm < w1.heap.size := Nat.lt_of_lt_of_le lm (unhide HB1).size
  have la1 : ba < w1.heap.size := Nat.lt_of_lt_of_le la (unhide HB1).size
  clear hP0 hb
  (try go_wp2_with fail)
  refine hK.out _ _ ⟨(hk _ _ lm).trans hmc, (hk _ _ la).trans d0, (hk _ _ la).trans d1, (hk _ _ la).trans d2, (hk _ _ la).trans d3, (hk _ _ la).trans d4, (hk _ _ la).trans d5, (hk _ _ la).trans d6, (hk _ _ la).trans d7, (hk _ _ la).trans d8, (hk _ _ la).trans d9, hoc⟩ (fun hHeld => ?_)
  clear hK K hk hoc
  (try simp only [Act.put, List.getElem_toArray, List.getElem_cons_succ, List.getElem_cons_zero, List.setIfInBounds_toArray, List.set_cons_zero, List.set_cons_succ])
  refine wpAnyH_take (i := 21) (v := ?v21) rfl (by kernel_rfl) (by kernel_rfl) (by kernel_rfl) (fun _ _ _ h => h) (Or.inl ⟨by rfl, ?y21⟩) hHeld ?r21
  case y21 => (intro w hSw; (try dsimp only at hSw); go_simp; all_goals (with_reducible rfl))
  (try simp only [Act.put, List.getElem_toArray, List.getElem_cons_succ, List.getElem_cons_zero, List.setIfInBounds_toArray, List.set_cons_zero, List.set_cons_succ])
  refine wpAnyH_ready (rs := [22]) (by kernel_rfl) (by simp) ?_
  refine AllReadyH.cons rfl (fun K hK => ?_) AllReadyH.nil
  go_simp
  refine hK.out _ _ ?_ (fun hHeld => ?_)
  · (try dsimp only); go_keep
  clear hK K
  (try simp only [Act.put, List.getElem_toArray, List.getElem_cons_succ, List.getElem_cons_zero, List.setIfInBounds_toArray, List.set_cons_zero, List.set_cons_succ])
  refine wpAnyH_ready (rs := [23]) (by kernel_rfl) (by simp) ?_
  refine AllReadyH.cons rfl (fun K hK => ?_) AllReadyH.nil
  refine step_append_lies _ rfl (.tmp 113) (.tmp 134) 36 rfl base 77 i0 (.agg #[.int .u8 0, .bool false, .int .u8 0, .int .i64 0, .int .u32 0, .int .u32 0, .int .u8 0, .slice none 0 0, .slice none 0 0, .slice none 0 0]) 10 112 Tryz.underlying36 hi hz0 hz1 hz2 rfl (by decide) (.slice ua j uc) j xs rfl (ownsRow_below (unhide HO) (Below.on (unhide HB1) (one_alloc w1 (.cells #[.int .u8 kd, .bool mu, .int .u8 op, .int .i64 nn, .int .u32 al, .int .u32 of, .int .u8 re, .slice xba xbl xbc, .slice xea xel xec, .slice xla xll xlc] 77)))) ⟨w1.heap.size, 0, none⟩ 1 1 [.int .u8 kd, .bool mu, .int .u8 op, .int .i64 nn, .int .u32 al, .int .u32 of, .int .u8 re, .slice xba xbl xbc, .slice xea xel xec, .slice xla xll xlc] rfl rfl (new_cells _ _ _) (by intro u hu; simp only [List.mem_cons, List.not_mem_nil, or_false] at hu; rcases hu with rfl | rfl | rfl | rfl | rfl | rfl | rfl | rfl | rfl | rfl <;> rfl) (by omega) (by unfold maxLen; omega) (by omega) (Nat.le_trans hbase (Nat.le_trans (unhide HB1).size (one_alloc w1 (.cells #[.int .u8 kd, .bool mu, .int .u8 op, .int .i64 nn, .int .u32 al, .int .u32 of, .int .u8 re, .slice xba xbl xbc, .slice xea xel xec, .slice xla xll xlc] 77)).size)) (w1.heap.size + 1) (by simp) ?_
  intro gg cap wx hown5 hgrow hat hlt5
  have hk2 : ∀ b o, b < wr.heap.size → (Value.slice ua j uc).ownBlock ≠ some b → wx.cell? ⟨b, o, none⟩ = wr.cell? ⟨b, o, none⟩ := fun b o hlt hne => (World.cell?_of_block (a := ⟨b, o, none⟩) (hgrow.block b (Nat.lt_of_lt_of_le hlt (Nat.le_trans (unhide HB1).size (one_alloc w1 (.cells #[.int .u8 kd, .bool mu, .int .u8 op, .int .i64 nn, .int .u32 al, .int .u32 of, .int .u8 re, .slice xba xbl xbc, .slice xea xel xec, .slice xla xll xlc] 77)).size)) (fun e => hne e.symm))).trans ((Below.on (unhide HB1) (one_alloc w1 (.cells #[.int .u8 kd, .bool mu, .int .u8 op, .int .i64 nn, .int .u32 al, .int .u32 of, .int .u8 re, .slice xba xbl xbc, .slice xea xel xec, .slice xla xll xlc] 77))).cell (p := ⟨b, o, none⟩) hlt)
  have hx : wx.heap[Bo]? = wr.heap[Bo]? := (hgrow.block Bo (Nat.lt_of_lt_of_le lo (Nat.le_trans (unhide HB1).size (one_alloc w1 (.cells #[.int .u8 kd, .bool mu, .int .u8 op, .int .i64 nn, .int .u32 al, .int .u32 of, .int .u8 re, .slice xba xbl xbc, .slice xea xel xec, .slice xla xll xlc] 77)).size)) (fun e => no e.symm)).trans ((Below.on (unhide HB1) (one_alloc w1 (.cells #[.int .u8 kd, .bool mu, .int .u8 op, .int .i64 nn, .int .u32 al, .int .u32 of, .int .u8 re, .slice xba xbl xbc, .slice xea xel xec, .slice xla xll xlc] 77))).block Bo lo)
  have xo : wx.cell? ⟨Bo, 4, none⟩ = some (.slice ua j uc) := (World.cell?_of_block (a := ⟨Bo, 4, none⟩) hx).trans oc
  have xf : ∀ j, wx.frozen? ⟨Bo, j, none⟩ = false := fun j => by have := unhide HF j; simp only [World.frozen?, hx] at this ⊢; exact this
  have xm := (hk2 Bm 4 lm nm).trans hmc
  have x0 := (hk2 ba (oa + j * 10) la na).trans d0
  have x1 := (hk2 ba (oa + j * 10 + 1) la na).trans d1
  have x2 := (hk2 ba (oa + j * 10 + 2) la na).trans d2
  have x3 := (hk2 ba (oa + j * 10 + 3) la na).trans d3
  have x4 := (hk2 ba (oa + j * 10 + 4) la na).trans d4
  have x5 := (hk2 ba (oa + j * 10 + 5) la na).trans d5
  have x6 := (hk2 ba (oa + j * 10 + 6) la na).trans d6
  have x7 := (hk2 ba (oa + j * 10 + 7) la na).trans d7
  have x8 := (hk2 ba (oa + j * 10 + 8) la na).trans d8
  have x9 := (hk2 ba (oa + j * 10 + 9) la na).trans d9
  have H5 := hide hown5; have HG5 := hide hgrow; have HA5 := hide hat; have HL5 := hide hlt5
  clear hown5 hgrow hat hlt5 hx
  refine hK.out _ _ ⟨xm, x0, x1, x2, x3, x4, x5, x6, x7, x8, x9, xo⟩ (fun hHeld => ?_)
  clear hK K
  (try simp only [Act.put, List.getElem_toArray, List.getElem_cons_succ, List.getElem_cons_zero, List.setIfInBounds_toArray, List.set_cons_zero, List.set_cons_succ])
  refine wpAnyH_take (i := 24) (v := ?v24) rfl (by kernel_rfl) (by kernel_rfl) (by kernel_rfl) (fun _ _ _ h => h) (Or.inl ⟨by rfl, ?y24⟩) hHeld ?r24
  case y24 => (intro w hSw; (try dsimp only at hSw); go_simp; all_goals (with_reducible rfl))
  (try simp only [Act.put, List.getElem_toArray, List.getElem_cons_succ, List.getElem_cons_zero, List.setIfInBounds_toArray, List.set_cons_zero, List.set_cons_succ])
  refine wpAnyH_done (by kernel_rfl) ?_ _
  simp only [lastQ]
  refine wpOp_step rfl (fun K hK => ?_)
  go_simp
  refine hK _ _ ?_
  refine NoPanic.normal ?_
  go_wp2
  exact (unhide HN) _ _ _ _ _ _ _ _ _ _ _ _ _ _ _ _ _ _ _ _ _ _ _ _ _ _ _ _ _ _ _ _ xba xbl xbc xea xel xec xla xll xlc w1 wx gg cap (unhide HP0) (unhide HBB0) (unhide H5) (unhide HG5) (unhide HA5) (unhide HL5)
end Gm
end Go.Proofs.YtcpknafaocdjdaaGreatDoor
