/- GP: what follows, part by part: each part tells what it holds. -/
import Derived.Test.YtheopjcmhclgdaaGreatDoorGmT

/- A round of giveModule's loop 0. -/
namespace Go.Proofs.YtheopjcmhclgdaaGreatDoor
open Go.RowKit
namespace Gm
set_option linter.unusedVariables false
set_option linter.unusedSimpArgs false
set_option maxRecDepth 1000000 in
set_option maxHeartbeats 6400000 in
theorem gm_0 {u0 u5 u6 u7 u8 u9 u10 u11 u12 u13 u14 u15 u16 u17 u18 u19 u20 u21 u22 u23 u24 u25 u26 u27 u28 u29 u30 u31 u32 u33 u34 u35 u36 u37 u38 u39 u40 u41 u42 u43 u44 u45 u46 u47 u48 u49 u50 u51 u52 u53 u54 u55 u56 u57 u58 u59 u60 u61 u62 u63 u64 u65 u66 u67 u68 u69 u70 u71 u72 u73 u74 u75 u76 u77 u78 u79 u80 u81 u82 u83 u84 u85 u86 u87 u88 u89 u90 u91 u92 u93 u94 u95 u96 u97 u98 u99 u100 u101 u102 u103 u104 u105 u106 u107 u108 u109 u110 u111 u112 u113 u114 u115 u116 u117 u118 u119 u120 u121 u122 u123 u124 u125 u126 u127 u128 u129 u130 u131 u132 u133 u134 u135 u136 u137 u138 u139 u140 u141 u142 u143 u144 u145 u146 u147 u148 u149 u150 u151 u152 u153 u154 u155 u156 u157 u158 u159 u160 u161 u162 u163 u164 u165 u166 u167 u168 u169 u170 u171 u172 u173 u174 u175 u176 u177 u178 u179 u180 u181 u182 u183 u184 u185 u186 u187 u188 u189 u190 u191 u192 u193 u194 u195 u196 u197 u198 u199 u200 u201 u202 u203 u204 u205 u206 u207 u208 u209 u210 u211 u212 u213 u214 u215 u216 u217 u218 : Value} {Bm Br Bo base ba oa n cp j uc : Nat} {ua : Option Addr} {re : Int} {pa : Option Addr} {pl pc : Nat} {PK0 : World → World → Value → Prop} {xs : List Value} {wr : World} {Q0 : Exit → Act → World → Prop}
    (hjn : (j : Int) < (n : Int)) (hnb : (n : Int) ≤ 1048576) (hmc : wr.cell? ⟨Bm, 0, none⟩ = some (.slice (some ⟨ba, oa, none⟩) n cp)) (d0 : wr.cell? ⟨ba, oa + j * 2, none⟩ = some (.slice pa pl pc)) (d1 : wr.cell? ⟨ba, oa + j * 2 + 1, none⟩ = some (.int .u8 re))
    (oc : wr.cell? ⟨Bo, 0, none⟩ = some (.slice ua j uc)) (hf : ∀ j, wr.frozen? ⟨Bo, j, none⟩ = false) (hown : wr.ownsRow base 97 2 (.slice ua j uc) j xs) (hbase : base ≤ wr.heap.size)
    (lo : Bo < wr.heap.size) (lm : Bm < wr.heap.size) (la : ba < wr.heap.size) (nom : ¬ Bm = Bo) (noa : ¬ ba = Bo) (no : (Value.slice ua j uc).ownBlock ≠ some Bo) (nm : (Value.slice ua j uc).ownBlock ≠ some Bm) (na : (Value.slice ua j uc).ownBlock ≠ some ba)
    (hc0 : ∀ W, Below wr.heap.size wr W → Calls Tryz.prog 21 #[.slice pa pl pc] W fun e w' => ∃ xpa xpl xpc, e = .returned (.slice xpa xpl xpc) ∧ PK0 W w' (.slice xpa xpl xpc) ∧ Below W.heap.size W w')
    (hnorm : ∀ (v12 v13 v14 v15 v16 v17 v18 v19 v20 v21 v22 v23 v24 v25 v26 v27 v28 v29 v30 v31 v32 v33 v34 v35 v36 v37 : Value) (xpa : Option Addr) (xpl xpc : Nat) (w1 : World) (wx : World) (gg cap : Nat), PK0 wr.drew w1 (.slice xpa xpl xpc) → Below wr.drew.heap.size wr.drew w1 → wx.ownsRow base 97 2 (.slice (some ⟨gg, 0, none⟩) (j + 1) cap) (j + 1) (xs ++ [.slice xpa xpl xpc, .int .u8 re]) → (w1.alloc (.cells #[.slice xpa xpl xpc, .int .u8 re] 97)).grownBy wx (Value.slice ua j uc).ownBlock → ((Value.slice ua j uc).ownBlock = some gg ∨ gg = w1.heap.size + 1) → gg < wx.heap.size →
      Q0 .normal ⟨#[u0, .pointer (some ⟨Bm, 0, none⟩), .pointer (some ⟨Br, 0, none⟩), .pointer (some ⟨Bo, 0, none⟩), .int .i64 ((j : Int) + 1), u5, u6, u7, u8, u9, u10, u11, v12, v13, v14, v15, v16, v17, v18, v19, v20, v21, v22, v23, v24, v25, v26, v27, v28, v29, v30, v31, v32, v33, v34, v35, v36, v37, u38, u39, u40, u41, u42, u43, u44, u45, u46, u47, u48, u49, u50, u51, u52, u53, u54, u55, u56, u57, u58, u59, u60, u61, u62, u63, u64, u65, u66, u67, u68, u69, u70, u71, u72, u73, u74, u75, u76, u77, u78, u79, u80, u81, u82, u83, u84, u85, u86, u87, u88, u89, u90, u91, u92, u93, u94, u95, u96, u97, u98, u99, u100, u101, u102, u103, u104, u105, u106, u107, u108, u109, u110, u111, u112, u113, u114, u115, u116, u117, u118, u119, u120, u121, u122, u123, u124, u125, u126, u127, u128, u129, u130, u131, u132, u133, u134, u135, u136, u137, u138, u139, u140, u141, u142, u143, u144, u145, u146, u147, u148, u149, u150, u151, u152, u153, u154, u155, u156, u157, u158, u159, u160, u161, u162, u163, u164, u165, u166, u167, u168, u169, u170, u171, u172, u173, u174, u175, u176, u177, u178, u179, u180, u181, u182, u183, u184, u185, u186, u187, u188, u189, u190, u191, u192, u193, u194, u195, u196, u197, u198, u199, u200, u201, u202, u203, u204, u205, u206, u207, u208, u209, u210, u211, u212, u213, u214, u215, u216, u217, u218], []⟩ (wx.setCell ⟨Bo, 0, none⟩ (.slice (some ⟨gg, 0, none⟩) (j + 1) cap))) :
    Code.wp Tryz.prog gbody0 Q0 ⟨#[u0, .pointer (some ⟨Bm, 0, none⟩), .pointer (some ⟨Br, 0, none⟩), .pointer (some ⟨Bo, 0, none⟩), .int .i64 j, u5, u6, u7, u8, u9, u10, u11, u12, u13, u14, u15, u16, u17, u18, u19, u20, u21, u22, u23, u24, u25, u26, u27, u28, u29, u30, u31, u32, u33, u34, u35, u36, u37, u38, u39, u40, u41, u42, u43, u44, u45, u46, u47, u48, u49, u50, u51, u52, u53, u54, u55, u56, u57, u58, u59, u60, u61, u62, u63, u64, u65, u66, u67, u68, u69, u70, u71, u72, u73, u74, u75, u76, u77, u78, u79, u80, u81, u82, u83, u84, u85, u86, u87, u88, u89, u90, u91, u92, u93, u94, u95, u96, u97, u98, u99, u100, u101, u102, u103, u104, u105, u106, u107, u108, u109, u110, u111, u112, u113, u114, u115, u116, u117, u118, u119, u120, u121, u122, u123, u124, u125, u126, u127, u128, u129, u130, u131, u132, u133, u134, u135, u136, u137, u138, u139, u140, u141, u142, u143, u144, u145, u146, u147, u148, u149, u150, u151, u152, u153, u154, u155, u156, u157, u158, u159, u160, u161, u162, u163, u164, u165, u166, u167, u168, u169, u170, u171, u172, u173, u174, u175, u176, u177, u178, u179, u180, u181, u182, u183, u184, u185, u186, u187, u188, u189, u190, u191, u192, u193, u194, u195, u196, u197, u198, u199, u200, u201, u202, u203, u204, u205, u206, u207, u208, u209, u210, u211, u212, u213, u214, u215, u216, u217, u218], []⟩ wr := by
  obtain ⟨i0, hi, hz0, hz1, hz2⟩ := info_parts gmInfo0
  have HN := hide hnorm; have HO := hide hown; have HF := hide hf
  have HC0 := hide hc0
  clear hnorm hown hc0
  have nom2 : ¬ Bo = Bm := fun e => nom e.symm
  have noa2 : ¬ Bo = ba := fun e => noa e.symm
  conv => arg 2; whnf
  go_wp2_with fail
  refine wp_region_noPanic ?_
  refine wp_region_pop (S := fun w' => w'.cell? ⟨Bm, 0, none⟩ = some (.slice (some ⟨ba, oa, none⟩) n cp) ∧ w'.cell? ⟨ba, oa + j * 2, none⟩ = some (.slice pa pl pc) ∧ w'.cell? ⟨ba, oa + j * 2 + 1, none⟩ = some (.int .u8 re) ∧ w'.cell? ⟨Bo, 0, none⟩ = some (.slice ua j uc)) _ rfl rfl (by kernel_rfl) (by kernel_rfl) ⟨hmc, d0, d1, oc⟩ (fun hHeld => ?_)
  simp only [List.pop_toArray, List.dropLast_cons_cons, List.dropLast_singleton, List.size_toArray, List.length_cons, List.length_nil, Nat.reduceAdd]
  refine wpAnyH_take (i := 0) (v := ?v0) rfl (by kernel_rfl) (by kernel_rfl) (by kernel_rfl) (fun _ _ _ h => h) (Or.inl ⟨by rfl, ?y0⟩) hHeld ?r0
  case y0 => (intro w hSw; (try dsimp only at hSw); go_simp; all_goals (with_reducible rfl))
  (try simp only [Act.put, List.getElem_toArray, List.getElem_cons_succ, List.getElem_cons_zero, List.setIfInBounds_toArray, List.set_cons_zero, List.set_cons_succ])
  refine wpAnyH_take (i := 1) (v := ?v1) rfl (by kernel_rfl) (by kernel_rfl) (by kernel_rfl) (fun _ _ _ h => h) (Or.inl ⟨by rfl, ?y1⟩) hHeld ?r1
  case y1 => (intro w hSw; (try dsimp only at hSw); go_simp; all_goals (with_reducible rfl))
  (try simp only [Act.put, List.getElem_toArray, List.getElem_cons_succ, List.getElem_cons_zero, List.setIfInBounds_toArray, List.set_cons_zero, List.set_cons_succ])
  refine wpAnyH_take (i := 2) (v := ?v2) rfl (by kernel_rfl) (by kernel_rfl) (by kernel_rfl) (fun _ _ _ h => h) (Or.inl ⟨by rfl, ?y2⟩) hHeld ?r2
  case y2 => (intro w hSw; (try dsimp only at hSw); go_simp; all_goals (with_reducible rfl))
  (try simp only [Act.put, List.getElem_toArray, List.getElem_cons_succ, List.getElem_cons_zero, List.setIfInBounds_toArray, List.set_cons_zero, List.set_cons_succ])
  refine wpAnyH_take (i := 3) (v := ?v3) rfl (by kernel_rfl) (by kernel_rfl) (by kernel_rfl) (fun _ _ _ h => h) (Or.inl ⟨by rfl, ?y3⟩) hHeld ?r3
  case y3 => (intro w hSw; (try dsimp only at hSw); go_simp; all_goals (with_reducible rfl))
  (try simp only [Act.put, List.getElem_toArray, List.getElem_cons_succ, List.getElem_cons_zero, List.setIfInBounds_toArray, List.set_cons_zero, List.set_cons_succ])
  refine wpAnyH_take (i := 4) (v := ?v4) rfl (by kernel_rfl) (by kernel_rfl) (by kernel_rfl) (fun _ _ _ h => h) (Or.inl ⟨by rfl, ?y4⟩) hHeld ?r4
  case y4 => (intro w hSw; (try dsimp only at hSw); go_simp; all_goals (with_reducible rfl))
  (try simp only [Act.put, List.getElem_toArray, List.getElem_cons_succ, List.getElem_cons_zero, List.setIfInBounds_toArray, List.set_cons_zero, List.set_cons_succ])
  refine wpAnyH_take (i := 5) (v := ?v5) rfl (by kernel_rfl) (by kernel_rfl) (by kernel_rfl) (fun _ _ _ h => h) (Or.inl ⟨by rfl, ?y5⟩) hHeld ?r5
  case y5 => (intro w hSw; (try dsimp only at hSw); go_simp; all_goals (with_reducible rfl))
  (try simp only [Act.put, List.getElem_toArray, List.getElem_cons_succ, List.getElem_cons_zero, List.setIfInBounds_toArray, List.set_cons_zero, List.set_cons_succ])
  refine wpAnyH_take (i := 6) (v := ?v6) rfl (by kernel_rfl) (by kernel_rfl) (by kernel_rfl) (fun _ _ _ h => h) (Or.inl ⟨by rfl, ?y6⟩) hHeld ?r6
  case y6 => (intro w hSw; (try dsimp only at hSw); go_simp; all_goals (with_reducible rfl))
  (try simp only [Act.put, List.getElem_toArray, List.getElem_cons_succ, List.getElem_cons_zero, List.setIfInBounds_toArray, List.set_cons_zero, List.set_cons_succ])
  refine wpAnyH_take (i := 7) (v := ?v7) rfl (by kernel_rfl) (by kernel_rfl) (by kernel_rfl) (fun _ _ _ h => h) (Or.inl ⟨by rfl, ?y7⟩) hHeld ?r7
  case y7 => (intro w hSw; (try dsimp only at hSw); go_simp; all_goals (with_reducible rfl))
  (try simp only [Act.put, List.getElem_toArray, List.getElem_cons_succ, List.getElem_cons_zero, List.setIfInBounds_toArray, List.set_cons_zero, List.set_cons_succ])
  refine wpAnyH_take (i := 9) (v := ?v9) rfl (by kernel_rfl) (by kernel_rfl) (by kernel_rfl) (fun _ _ _ h => h) (Or.inl ⟨by rfl, ?y9⟩) hHeld ?r9
  case y9 => (intro w hSw; (try dsimp only at hSw); go_simp; all_goals (with_reducible rfl))
  (try simp only [Act.put, List.getElem_toArray, List.getElem_cons_succ, List.getElem_cons_zero, List.setIfInBounds_toArray, List.set_cons_zero, List.set_cons_succ])
  refine wpAnyH_take (i := 10) (v := ?v10) rfl (by kernel_rfl) (by kernel_rfl) (by kernel_rfl) (fun _ _ _ h => h) (Or.inl ⟨by rfl, ?y10⟩) hHeld ?r10
  case y10 => (intro w hSw; (try dsimp only at hSw); go_simp; all_goals (with_reducible rfl))
  (try simp only [Act.put, List.getElem_toArray, List.getElem_cons_succ, List.getElem_cons_zero, List.setIfInBounds_toArray, List.set_cons_zero, List.set_cons_succ])
  refine wpAnyH_take (i := 11) (v := ?v11) rfl (by kernel_rfl) (by kernel_rfl) (by kernel_rfl) (fun _ _ _ h => h) (Or.inl ⟨by rfl, ?y11⟩) hHeld ?r11
  case y11 => (intro w hSw; (try dsimp only at hSw); go_simp; all_goals (with_reducible rfl))
  (try simp only [Act.put, List.getElem_toArray, List.getElem_cons_succ, List.getElem_cons_zero, List.setIfInBounds_toArray, List.set_cons_zero, List.set_cons_succ])
  refine wpAnyH_take (i := 12) (v := ?v12) rfl (by kernel_rfl) (by kernel_rfl) (by kernel_rfl) (fun _ _ _ h => h) (Or.inl ⟨by rfl, ?y12⟩) hHeld ?r12
  case y12 => (intro w hSw; (try dsimp only at hSw); go_simp; all_goals (with_reducible rfl))
  (try simp only [Act.put, List.getElem_toArray, List.getElem_cons_succ, List.getElem_cons_zero, List.setIfInBounds_toArray, List.set_cons_zero, List.set_cons_succ])
  refine wpAnyH_take (i := 13) (v := ?v13) rfl (by kernel_rfl) (by kernel_rfl) (by kernel_rfl) (fun _ _ _ h => h) (Or.inl ⟨by rfl, ?y13⟩) hHeld ?r13
  case y13 => (intro w hSw; (try dsimp only at hSw); go_simp; all_goals (with_reducible rfl))
  (try simp only [Act.put, List.getElem_toArray, List.getElem_cons_succ, List.getElem_cons_zero, List.setIfInBounds_toArray, List.set_cons_zero, List.set_cons_succ])
  refine wpAnyH_take (i := 14) (v := ?v14) rfl (by kernel_rfl) (by kernel_rfl) (by kernel_rfl) (fun _ _ _ h => h) (Or.inl ⟨by rfl, ?y14⟩) hHeld ?r14
  case y14 => (intro w hSw; (try dsimp only at hSw); go_simp; all_goals (with_reducible rfl))
  (try simp only [Act.put, List.getElem_toArray, List.getElem_cons_succ, List.getElem_cons_zero, List.setIfInBounds_toArray, List.set_cons_zero, List.set_cons_succ])
  refine wpAnyH_ready (rs := [8]) (by kernel_rfl) (by simp) ?_
  refine AllReadyH.cons rfl (fun K hK => ?_) AllReadyH.nil
  go_simp
  go_at_call 21
  refine (unhide HC0 _ (drew_below9 wr)).mono ?_
  rintro e w1 ⟨xpa, xpl, xpc, rfl, hP0, hb⟩
  have HP0 := hide hP0; have HBB0 := hide hb
  have HB1 := hide (Below.on (drew_below9 wr) hb)
  have hk : ∀ b o, b < wr.heap.size → w1.cell? ⟨b, o, none⟩ = wr.cell? ⟨b, o, none⟩ := fun b o hlt => (unhide HB1).cell (p := ⟨b, o, none⟩) hlt
  have hoc := (hk Bo 0 lo).trans oc
  have l1 : Bo < w1.heap.size := Nat.lt_of_lt_of_le lo (unhide HB1).size
  have lm1 : Bm < w1.heap.size := Nat.lt_of_lt_of_le lm (unhide HB1).size
  have la1 : ba < w1.heap.size := Nat.lt_of_lt_of_le la (unhide HB1).size
  clear hP0 hb
  (try go_wp2_with fail)
  refine hK.out _ _ ⟨(hk _ _ lm).trans hmc, (hk _ _ la).trans d0, (hk _ _ la).trans d1, hoc⟩ (fun hHeld => ?_)
  clear hK K hk hoc
  (try simp only [Act.put, List.getElem_toArray, List.getElem_cons_succ, List.getElem_cons_zero, List.setIfInBounds_toArray, List.set_cons_zero, List.set_cons_succ])
  refine wpAnyH_take (i := 15) (v := ?v15) rfl (by kernel_rfl) (by kernel_rfl) (by kernel_rfl) (fun _ _ _ h => h) (Or.inl ⟨by rfl, ?y15⟩) hHeld ?r15
  case y15 => (intro w hSw; (try dsimp only at hSw); go_simp; all_goals (with_reducible rfl))
  (try simp only [Act.put, List.getElem_toArray, List.getElem_cons_succ, List.getElem_cons_zero, List.setIfInBounds_toArray, List.set_cons_zero, List.set_cons_succ])
  refine wpAnyH_ready (rs := [16]) (by kernel_rfl) (by simp) ?_
  refine AllReadyH.cons rfl (fun K hK => ?_) AllReadyH.nil
  go_simp
  refine hK.out _ _ ?_ (fun hHeld => ?_)
  · (try dsimp only); go_keep
  clear hK K
  (try simp only [Act.put, List.getElem_toArray, List.getElem_cons_succ, List.getElem_cons_zero, List.setIfInBounds_toArray, List.set_cons_zero, List.set_cons_succ])
  refine wpAnyH_ready (rs := [17]) (by kernel_rfl) (by simp) ?_
  refine AllReadyH.cons rfl (fun K hK => ?_) AllReadyH.nil
  refine step_append_lies _ rfl (.tmp 20) (.tmp 35) 41 rfl base 97 i0 (.agg #[.slice none 0 0, .int .u8 0]) 2 32 Tryz.underlying41 hi hz0 hz1 hz2 rfl (by decide) (.slice ua j uc) j xs rfl (ownsRow_below (unhide HO) (Below.on (unhide HB1) (one_alloc w1 (.cells #[.slice xpa xpl xpc, .int .u8 re] 97)))) ⟨w1.heap.size, 0, none⟩ 1 1 [.slice xpa xpl xpc, .int .u8 re] rfl rfl (new_cells _ _ _) (by intro u hu; simp only [List.mem_cons, List.not_mem_nil, or_false] at hu; rcases hu with rfl | rfl <;> rfl) (by omega) (by unfold maxLen; omega) (by omega) (Nat.le_trans hbase (Nat.le_trans (unhide HB1).size (one_alloc w1 (.cells #[.slice xpa xpl xpc, .int .u8 re] 97)).size)) (w1.heap.size + 1) (by simp) ?_
  intro gg cap wx hown5 hgrow hat hlt5
  have hk2 : ∀ b o, b < wr.heap.size → (Value.slice ua j uc).ownBlock ≠ some b → wx.cell? ⟨b, o, none⟩ = wr.cell? ⟨b, o, none⟩ := fun b o hlt hne => (World.cell?_of_block (a := ⟨b, o, none⟩) (hgrow.block b (Nat.lt_of_lt_of_le hlt (Nat.le_trans (unhide HB1).size (one_alloc w1 (.cells #[.slice xpa xpl xpc, .int .u8 re] 97)).size)) (fun e => hne e.symm))).trans ((Below.on (unhide HB1) (one_alloc w1 (.cells #[.slice xpa xpl xpc, .int .u8 re] 97))).cell (p := ⟨b, o, none⟩) hlt)
  have hx : wx.heap[Bo]? = wr.heap[Bo]? := (hgrow.block Bo (Nat.lt_of_lt_of_le lo (Nat.le_trans (unhide HB1).size (one_alloc w1 (.cells #[.slice xpa xpl xpc, .int .u8 re] 97)).size)) (fun e => no e.symm)).trans ((Below.on (unhide HB1) (one_alloc w1 (.cells #[.slice xpa xpl xpc, .int .u8 re] 97))).block Bo lo)
  have xo : wx.cell? ⟨Bo, 0, none⟩ = some (.slice ua j uc) := (World.cell?_of_block (a := ⟨Bo, 0, none⟩) hx).trans oc
  have xf : ∀ j, wx.frozen? ⟨Bo, j, none⟩ = false := fun j => by have := unhide HF j; simp only [World.frozen?, hx] at this ⊢; exact this
  have xm := (hk2 Bm 0 lm nm).trans hmc
  have x0 := (hk2 ba (oa + j * 2) la na).trans d0
  have x1 := (hk2 ba (oa + j * 2 + 1) la na).trans d1
  have H5 := hide hown5; have HG5 := hide hgrow; have HA5 := hide hat; have HL5 := hide hlt5
  clear hown5 hgrow hat hlt5 hx
  refine hK.out _ _ ⟨xm, x0, x1, xo⟩ (fun hHeld => ?_)
  clear hK K
  (try simp only [Act.put, List.getElem_toArray, List.getElem_cons_succ, List.getElem_cons_zero, List.setIfInBounds_toArray, List.set_cons_zero, List.set_cons_succ])
  refine wpAnyH_take (i := 18) (v := ?v18) rfl (by kernel_rfl) (by kernel_rfl) (by kernel_rfl) (fun _ _ _ h => h) (Or.inl ⟨by rfl, ?y18⟩) hHeld ?r18
  case y18 => (intro w hSw; (try dsimp only at hSw); go_simp; all_goals (with_reducible rfl))
  (try simp only [Act.put, List.getElem_toArray, List.getElem_cons_succ, List.getElem_cons_zero, List.setIfInBounds_toArray, List.set_cons_zero, List.set_cons_succ])
  refine wpAnyH_done (by kernel_rfl) ?_ _
  simp only [lastQ]
  refine wpOp_step rfl (fun K hK => ?_)
  go_simp
  refine hK _ _ ?_
  refine NoPanic.normal ?_
  go_wp2
  exact (unhide HN) _ _ _ _ _ _ _ _ _ _ _ _ _ _ _ _ _ _ _ _ _ _ _ _ _ _ xpa xpl xpc w1 wx gg cap (unhide HP0) (unhide HBB0) (unhide H5) (unhide HG5) (unhide HA5) (unhide HL5)
end Gm
end Go.Proofs.YtheopjcmhclgdaaGreatDoor

/- A round of giveModule's loop 1. -/
namespace Go.Proofs.YtheopjcmhclgdaaGreatDoor
open Go.RowKit
namespace Gm
set_option linter.unusedVariables false
set_option linter.unusedSimpArgs false
set_option maxRecDepth 1000000 in
set_option maxHeartbeats 6400000 in
theorem gm_1 {u0 u4 u6 u7 u8 u9 u10 u11 u12 u13 u14 u15 u16 u17 u18 u19 u20 u21 u22 u23 u24 u25 u26 u27 u28 u29 u30 u31 u32 u33 u34 u35 u36 u37 u38 u39 u40 u41 u42 u43 u44 u45 u46 u47 u48 u49 u50 u51 u52 u53 u54 u55 u56 u57 u58 u59 u60 u61 u62 u63 u64 u65 u66 u67 u68 u69 u70 u71 u72 u73 u74 u75 u76 u77 u78 u79 u80 u81 u82 u83 u84 u85 u86 u87 u88 u89 u90 u91 u92 u93 u94 u95 u96 u97 u98 u99 u100 u101 u102 u103 u104 u105 u106 u107 u108 u109 u110 u111 u112 u113 u114 u115 u116 u117 u118 u119 u120 u121 u122 u123 u124 u125 u126 u127 u128 u129 u130 u131 u132 u133 u134 u135 u136 u137 u138 u139 u140 u141 u142 u143 u144 u145 u146 u147 u148 u149 u150 u151 u152 u153 u154 u155 u156 u157 u158 u159 u160 u161 u162 u163 u164 u165 u166 u167 u168 u169 u170 u171 u172 u173 u174 u175 u176 u177 u178 u179 u180 u181 u182 u183 u184 u185 u186 u187 u188 u189 u190 u191 u192 u193 u194 u195 u196 u197 u198 u199 u200 u201 u202 u203 u204 u205 u206 u207 u208 u209 u210 u211 u212 u213 u214 u215 u216 u217 u218 : Value} {Bm Br Bo base ba oa n cp j uc : Nat} {ua : Option Addr} {ty : Int} {pa qa : Option Addr} {pl pc ql qc : Nat} {PK0 : World → World → Value → Prop} {PK1 : World → World → Value → Prop} {xs : List Value} {wr : World} {Q0 : Exit → Act → World → Prop}
    (hjn : (j : Int) < (n : Int)) (hnb : (n : Int) ≤ 1048576) (hmc : wr.cell? ⟨Bm, 1, none⟩ = some (.slice (some ⟨ba, oa, none⟩) n cp)) (d0 : wr.cell? ⟨ba, oa + j * 3, none⟩ = some (.int .u32 ty)) (d1 : wr.cell? ⟨ba, oa + j * 3 + 1, none⟩ = some (.slice pa pl pc)) (d2 : wr.cell? ⟨ba, oa + j * 3 + 2, none⟩ = some (.slice qa ql qc))
    (oc : wr.cell? ⟨Bo, 1, none⟩ = some (.slice ua j uc)) (hf : ∀ j, wr.frozen? ⟨Bo, j, none⟩ = false) (hown : wr.ownsRow base 106 3 (.slice ua j uc) j xs) (hbase : base ≤ wr.heap.size)
    (lo : Bo < wr.heap.size) (lm : Bm < wr.heap.size) (la : ba < wr.heap.size) (nom : ¬ Bm = Bo) (noa : ¬ ba = Bo) (no : (Value.slice ua j uc).ownBlock ≠ some Bo) (nm : (Value.slice ua j uc).ownBlock ≠ some Bm) (na : (Value.slice ua j uc).ownBlock ≠ some ba)
    (hc0 : ∀ W, Below wr.heap.size wr W → Calls Tryz.prog 21 #[.slice pa pl pc] W fun e w' => ∃ xpa xpl xpc, e = .returned (.slice xpa xpl xpc) ∧ PK0 W w' (.slice xpa xpl xpc) ∧ Below W.heap.size W w')
    (hc1 : ∀ W, Below wr.heap.size wr W → Calls Tryz.prog 22 #[.slice qa ql qc] W fun e w' => ∃ xqa xql xqc, e = .returned (.slice xqa xql xqc) ∧ PK1 W w' (.slice xqa xql xqc) ∧ Below W.heap.size W w')
    (hnorm : ∀ (v38 v39 v40 v41 v42 v43 v44 v45 v46 v47 v48 v49 v50 v51 v52 v53 v54 v55 v56 v57 v58 v59 v60 v61 v62 v63 v64 v65 v66 v67 v68 v69 v70 : Value) (xpa : Option Addr) (xpl xpc : Nat) (xqa : Option Addr) (xql xqc : Nat) (w1 : World) (w2 : World) (wx : World) (gg cap : Nat), PK0 wr.drew w1 (.slice xpa xpl xpc) → Below wr.drew.heap.size wr.drew w1 → PK1 w1 w2 (.slice xqa xql xqc) → Below w1.heap.size w1 w2 → wx.ownsRow base 106 3 (.slice (some ⟨gg, 0, none⟩) (j + 1) cap) (j + 1) (xs ++ [.int .u32 ty, .slice xpa xpl xpc, .slice xqa xql xqc]) → (w2.alloc (.cells #[.int .u32 ty, .slice xpa xpl xpc, .slice xqa xql xqc] 106)).grownBy wx (Value.slice ua j uc).ownBlock → ((Value.slice ua j uc).ownBlock = some gg ∨ gg = w2.heap.size + 1) → gg < wx.heap.size →
      Q0 .normal ⟨#[u0, .pointer (some ⟨Bm, 0, none⟩), .pointer (some ⟨Br, 0, none⟩), .pointer (some ⟨Bo, 0, none⟩), u4, .int .i64 ((j : Int) + 1), u6, u7, u8, u9, u10, u11, u12, u13, u14, u15, u16, u17, u18, u19, u20, u21, u22, u23, u24, u25, u26, u27, u28, u29, u30, u31, u32, u33, u34, u35, u36, u37, v38, v39, v40, v41, v42, v43, v44, v45, v46, v47, v48, v49, v50, v51, v52, v53, v54, v55, v56, v57, v58, v59, v60, v61, v62, v63, v64, v65, v66, v67, v68, v69, v70, u71, u72, u73, u74, u75, u76, u77, u78, u79, u80, u81, u82, u83, u84, u85, u86, u87, u88, u89, u90, u91, u92, u93, u94, u95, u96, u97, u98, u99, u100, u101, u102, u103, u104, u105, u106, u107, u108, u109, u110, u111, u112, u113, u114, u115, u116, u117, u118, u119, u120, u121, u122, u123, u124, u125, u126, u127, u128, u129, u130, u131, u132, u133, u134, u135, u136, u137, u138, u139, u140, u141, u142, u143, u144, u145, u146, u147, u148, u149, u150, u151, u152, u153, u154, u155, u156, u157, u158, u159, u160, u161, u162, u163, u164, u165, u166, u167, u168, u169, u170, u171, u172, u173, u174, u175, u176, u177, u178, u179, u180, u181, u182, u183, u184, u185, u186, u187, u188, u189, u190, u191, u192, u193, u194, u195, u196, u197, u198, u199, u200, u201, u202, u203, u204, u205, u206, u207, u208, u209, u210, u211, u212, u213, u214, u215, u216, u217, u218], []⟩ (wx.setCell ⟨Bo, 1, none⟩ (.slice (some ⟨gg, 0, none⟩) (j + 1) cap))) :
    Code.wp Tryz.prog gbody1 Q0 ⟨#[u0, .pointer (some ⟨Bm, 0, none⟩), .pointer (some ⟨Br, 0, none⟩), .pointer (some ⟨Bo, 0, none⟩), u4, .int .i64 j, u6, u7, u8, u9, u10, u11, u12, u13, u14, u15, u16, u17, u18, u19, u20, u21, u22, u23, u24, u25, u26, u27, u28, u29, u30, u31, u32, u33, u34, u35, u36, u37, u38, u39, u40, u41, u42, u43, u44, u45, u46, u47, u48, u49, u50, u51, u52, u53, u54, u55, u56, u57, u58, u59, u60, u61, u62, u63, u64, u65, u66, u67, u68, u69, u70, u71, u72, u73, u74, u75, u76, u77, u78, u79, u80, u81, u82, u83, u84, u85, u86, u87, u88, u89, u90, u91, u92, u93, u94, u95, u96, u97, u98, u99, u100, u101, u102, u103, u104, u105, u106, u107, u108, u109, u110, u111, u112, u113, u114, u115, u116, u117, u118, u119, u120, u121, u122, u123, u124, u125, u126, u127, u128, u129, u130, u131, u132, u133, u134, u135, u136, u137, u138, u139, u140, u141, u142, u143, u144, u145, u146, u147, u148, u149, u150, u151, u152, u153, u154, u155, u156, u157, u158, u159, u160, u161, u162, u163, u164, u165, u166, u167, u168, u169, u170, u171, u172, u173, u174, u175, u176, u177, u178, u179, u180, u181, u182, u183, u184, u185, u186, u187, u188, u189, u190, u191, u192, u193, u194, u195, u196, u197, u198, u199, u200, u201, u202, u203, u204, u205, u206, u207, u208, u209, u210, u211, u212, u213, u214, u215, u216, u217, u218], []⟩ wr := by
  obtain ⟨i0, hi, hz0, hz1, hz2⟩ := info_parts gmInfo1
  have HN := hide hnorm; have HO := hide hown; have HF := hide hf
  have HC0 := hide hc0
  have HC1 := hide hc1
  clear hnorm hown hc0 hc1
  have nom2 : ¬ Bo = Bm := fun e => nom e.symm
  have noa2 : ¬ Bo = ba := fun e => noa e.symm
  conv => arg 2; whnf
  go_wp2_with fail
  refine wp_region_noPanic ?_
  refine wp_region_pop (S := fun w' => w'.cell? ⟨Bm, 1, none⟩ = some (.slice (some ⟨ba, oa, none⟩) n cp) ∧ w'.cell? ⟨ba, oa + j * 3, none⟩ = some (.int .u32 ty) ∧ w'.cell? ⟨ba, oa + j * 3 + 1, none⟩ = some (.slice pa pl pc) ∧ w'.cell? ⟨ba, oa + j * 3 + 2, none⟩ = some (.slice qa ql qc) ∧ w'.cell? ⟨Bo, 1, none⟩ = some (.slice ua j uc)) _ rfl rfl (by kernel_rfl) (by kernel_rfl) ⟨hmc, d0, d1, d2, oc⟩ (fun hHeld => ?_)
  simp only [List.pop_toArray, List.dropLast_cons_cons, List.dropLast_singleton, List.size_toArray, List.length_cons, List.length_nil, Nat.reduceAdd]
  refine wpAnyH_take (i := 0) (v := ?v0) rfl (by kernel_rfl) (by kernel_rfl) (by kernel_rfl) (fun _ _ _ h => h) (Or.inl ⟨by rfl, ?y0⟩) hHeld ?r0
  case y0 => (intro w hSw; (try dsimp only at hSw); go_simp; all_goals (with_reducible rfl))
  (try simp only [Act.put, List.getElem_toArray, List.getElem_cons_succ, List.getElem_cons_zero, List.setIfInBounds_toArray, List.set_cons_zero, List.set_cons_succ])
  refine wpAnyH_take (i := 1) (v := ?v1) rfl (by kernel_rfl) (by kernel_rfl) (by kernel_rfl) (fun _ _ _ h => h) (Or.inl ⟨by rfl, ?y1⟩) hHeld ?r1
  case y1 => (intro w hSw; (try dsimp only at hSw); go_simp; all_goals (with_reducible rfl))
  (try simp only [Act.put, List.getElem_toArray, List.getElem_cons_succ, List.getElem_cons_zero, List.setIfInBounds_toArray, List.set_cons_zero, List.set_cons_succ])
  refine wpAnyH_take (i := 2) (v := ?v2) rfl (by kernel_rfl) (by kernel_rfl) (by kernel_rfl) (fun _ _ _ h => h) (Or.inl ⟨by rfl, ?y2⟩) hHeld ?r2
  case y2 => (intro w hSw; (try dsimp only at hSw); go_simp; all_goals (with_reducible rfl))
  (try simp only [Act.put, List.getElem_toArray, List.getElem_cons_succ, List.getElem_cons_zero, List.setIfInBounds_toArray, List.set_cons_zero, List.set_cons_succ])
  refine wpAnyH_take (i := 3) (v := ?v3) rfl (by kernel_rfl) (by kernel_rfl) (by kernel_rfl) (fun _ _ _ h => h) (Or.inl ⟨by rfl, ?y3⟩) hHeld ?r3
  case y3 => (intro w hSw; (try dsimp only at hSw); go_simp; all_goals (with_reducible rfl))
  (try simp only [Act.put, List.getElem_toArray, List.getElem_cons_succ, List.getElem_cons_zero, List.setIfInBounds_toArray, List.set_cons_zero, List.set_cons_succ])
  refine wpAnyH_take (i := 4) (v := ?v4) rfl (by kernel_rfl) (by kernel_rfl) (by kernel_rfl) (fun _ _ _ h => h) (Or.inl ⟨by rfl, ?y4⟩) hHeld ?r4
  case y4 => (intro w hSw; (try dsimp only at hSw); go_simp; all_goals (with_reducible rfl))
  (try simp only [Act.put, List.getElem_toArray, List.getElem_cons_succ, List.getElem_cons_zero, List.setIfInBounds_toArray, List.set_cons_zero, List.set_cons_succ])
  refine wpAnyH_take (i := 5) (v := ?v5) rfl (by kernel_rfl) (by kernel_rfl) (by kernel_rfl) (fun _ _ _ h => h) (Or.inl ⟨by rfl, ?y5⟩) hHeld ?r5
  case y5 => (intro w hSw; (try dsimp only at hSw); go_simp; all_goals (with_reducible rfl))
  (try simp only [Act.put, List.getElem_toArray, List.getElem_cons_succ, List.getElem_cons_zero, List.setIfInBounds_toArray, List.set_cons_zero, List.set_cons_succ])
  refine wpAnyH_take (i := 6) (v := ?v6) rfl (by kernel_rfl) (by kernel_rfl) (by kernel_rfl) (fun _ _ _ h => h) (Or.inl ⟨by rfl, ?y6⟩) hHeld ?r6
  case y6 => (intro w hSw; (try dsimp only at hSw); go_simp; all_goals (with_reducible rfl))
  (try simp only [Act.put, List.getElem_toArray, List.getElem_cons_succ, List.getElem_cons_zero, List.setIfInBounds_toArray, List.set_cons_zero, List.set_cons_succ])
  refine wpAnyH_take (i := 7) (v := ?v7) rfl (by kernel_rfl) (by kernel_rfl) (by kernel_rfl) (fun _ _ _ h => h) (Or.inl ⟨by rfl, ?y7⟩) hHeld ?r7
  case y7 => (intro w hSw; (try dsimp only at hSw); go_simp; all_goals (with_reducible rfl))
  (try simp only [Act.put, List.getElem_toArray, List.getElem_cons_succ, List.getElem_cons_zero, List.setIfInBounds_toArray, List.set_cons_zero, List.set_cons_succ])
  refine wpAnyH_take (i := 8) (v := ?v8) rfl (by kernel_rfl) (by kernel_rfl) (by kernel_rfl) (fun _ _ _ h => h) (Or.inl ⟨by rfl, ?y8⟩) hHeld ?r8
  case y8 => (intro w hSw; (try dsimp only at hSw); go_simp; all_goals (with_reducible rfl))
  (try simp only [Act.put, List.getElem_toArray, List.getElem_cons_succ, List.getElem_cons_zero, List.setIfInBounds_toArray, List.set_cons_zero, List.set_cons_succ])
  refine wpAnyH_take (i := 9) (v := ?v9) rfl (by kernel_rfl) (by kernel_rfl) (by kernel_rfl) (fun _ _ _ h => h) (Or.inl ⟨by rfl, ?y9⟩) hHeld ?r9
  case y9 => (intro w hSw; (try dsimp only at hSw); go_simp; all_goals (with_reducible rfl))
  (try simp only [Act.put, List.getElem_toArray, List.getElem_cons_succ, List.getElem_cons_zero, List.setIfInBounds_toArray, List.set_cons_zero, List.set_cons_succ])
  refine wpAnyH_take (i := 10) (v := ?v10) rfl (by kernel_rfl) (by kernel_rfl) (by kernel_rfl) (fun _ _ _ h => h) (Or.inl ⟨by rfl, ?y10⟩) hHeld ?r10
  case y10 => (intro w hSw; (try dsimp only at hSw); go_simp; all_goals (with_reducible rfl))
  (try simp only [Act.put, List.getElem_toArray, List.getElem_cons_succ, List.getElem_cons_zero, List.setIfInBounds_toArray, List.set_cons_zero, List.set_cons_succ])
  refine wpAnyH_take (i := 11) (v := ?v11) rfl (by kernel_rfl) (by kernel_rfl) (by kernel_rfl) (fun _ _ _ h => h) (Or.inl ⟨by rfl, ?y11⟩) hHeld ?r11
  case y11 => (intro w hSw; (try dsimp only at hSw); go_simp; all_goals (with_reducible rfl))
  (try simp only [Act.put, List.getElem_toArray, List.getElem_cons_succ, List.getElem_cons_zero, List.setIfInBounds_toArray, List.set_cons_zero, List.set_cons_succ])
  refine wpAnyH_take (i := 12) (v := ?v12) rfl (by kernel_rfl) (by kernel_rfl) (by kernel_rfl) (fun _ _ _ h => h) (Or.inl ⟨by rfl, ?y12⟩) hHeld ?r12
  case y12 => (intro w hSw; (try dsimp only at hSw); go_simp; all_goals (with_reducible rfl))
  (try simp only [Act.put, List.getElem_toArray, List.getElem_cons_succ, List.getElem_cons_zero, List.setIfInBounds_toArray, List.set_cons_zero, List.set_cons_succ])
  refine wpAnyH_take (i := 13) (v := ?v13) rfl (by kernel_rfl) (by kernel_rfl) (by kernel_rfl) (fun _ _ _ h => h) (Or.inl ⟨by rfl, ?y13⟩) hHeld ?r13
  case y13 => (intro w hSw; (try dsimp only at hSw); go_simp; all_goals (with_reducible rfl))
  (try simp only [Act.put, List.getElem_toArray, List.getElem_cons_succ, List.getElem_cons_zero, List.setIfInBounds_toArray, List.set_cons_zero, List.set_cons_succ])
  refine wpAnyH_take (i := 15) (v := ?v15) rfl (by kernel_rfl) (by kernel_rfl) (by kernel_rfl) (fun _ _ _ h => h) (Or.inl ⟨by rfl, ?y15⟩) hHeld ?r15
  case y15 => (intro w hSw; (try dsimp only at hSw); go_simp; all_goals (with_reducible rfl))
  (try simp only [Act.put, List.getElem_toArray, List.getElem_cons_succ, List.getElem_cons_zero, List.setIfInBounds_toArray, List.set_cons_zero, List.set_cons_succ])
  refine wpAnyH_take (i := 16) (v := ?v16) rfl (by kernel_rfl) (by kernel_rfl) (by kernel_rfl) (fun _ _ _ h => h) (Or.inl ⟨by rfl, ?y16⟩) hHeld ?r16
  case y16 => (intro w hSw; (try dsimp only at hSw); go_simp; all_goals (with_reducible rfl))
  (try simp only [Act.put, List.getElem_toArray, List.getElem_cons_succ, List.getElem_cons_zero, List.setIfInBounds_toArray, List.set_cons_zero, List.set_cons_succ])
  refine wpAnyH_take (i := 17) (v := ?v17) rfl (by kernel_rfl) (by kernel_rfl) (by kernel_rfl) (fun _ _ _ h => h) (Or.inl ⟨by rfl, ?y17⟩) hHeld ?r17
  case y17 => (intro w hSw; (try dsimp only at hSw); go_simp; all_goals (with_reducible rfl))
  (try simp only [Act.put, List.getElem_toArray, List.getElem_cons_succ, List.getElem_cons_zero, List.setIfInBounds_toArray, List.set_cons_zero, List.set_cons_succ])
  refine wpAnyH_take (i := 18) (v := ?v18) rfl (by kernel_rfl) (by kernel_rfl) (by kernel_rfl) (fun _ _ _ h => h) (Or.inl ⟨by rfl, ?y18⟩) hHeld ?r18
  case y18 => (intro w hSw; (try dsimp only at hSw); go_simp; all_goals (with_reducible rfl))
  (try simp only [Act.put, List.getElem_toArray, List.getElem_cons_succ, List.getElem_cons_zero, List.setIfInBounds_toArray, List.set_cons_zero, List.set_cons_succ])
  refine wpAnyH_take (i := 19) (v := ?v19) rfl (by kernel_rfl) (by kernel_rfl) (by kernel_rfl) (fun _ _ _ h => h) (Or.inl ⟨by rfl, ?y19⟩) hHeld ?r19
  case y19 => (intro w hSw; (try dsimp only at hSw); go_simp; all_goals (with_reducible rfl))
  (try simp only [Act.put, List.getElem_toArray, List.getElem_cons_succ, List.getElem_cons_zero, List.setIfInBounds_toArray, List.set_cons_zero, List.set_cons_succ])
  refine wpAnyH_take (i := 20) (v := ?v20) rfl (by kernel_rfl) (by kernel_rfl) (by kernel_rfl) (fun _ _ _ h => h) (Or.inl ⟨by rfl, ?y20⟩) hHeld ?r20
  case y20 => (intro w hSw; (try dsimp only at hSw); go_simp; all_goals (with_reducible rfl))
  (try simp only [Act.put, List.getElem_toArray, List.getElem_cons_succ, List.getElem_cons_zero, List.setIfInBounds_toArray, List.set_cons_zero, List.set_cons_succ])
  refine wpAnyH_ready (rs := [14]) (by kernel_rfl) (by simp) ?_
  refine AllReadyH.cons rfl (fun K hK => ?_) AllReadyH.nil
  go_simp
  go_at_call 21
  refine (unhide HC0 _ (drew_below9 wr)).mono ?_
  rintro e w1 ⟨xpa, xpl, xpc, rfl, hP0, hb⟩
  have HP0 := hide hP0; have HBB0 := hide hb
  have HB1 := hide (Below.on (drew_below9 wr) hb)
  have hk : ∀ b o, b < wr.heap.size → w1.cell? ⟨b, o, none⟩ = wr.cell? ⟨b, o, none⟩ := fun b o hlt => (unhide HB1).cell (p := ⟨b, o, none⟩) hlt
  have hoc := (hk Bo 1 lo).trans oc
  have l1 : Bo < w1.heap.size := Nat.lt_of_lt_of_le lo (unhide HB1).size
  have lm1 : Bm < w1.heap.size := Nat.lt_of_lt_of_le lm (unhide HB1).size
  have la1 : ba < w1.heap.size := Nat.lt_of_lt_of_le la (unhide HB1).size
  clear hP0 hb
  (try go_wp2_with fail)
  refine hK.out _ _ ⟨(hk _ _ lm).trans hmc, (hk _ _ la).trans d0, (hk _ _ la).trans d1, (hk _ _ la).trans d2, hoc⟩ (fun hHeld => ?_)
  clear hK K hk hoc
  (try simp only [Act.put, List.getElem_toArray, List.getElem_cons_succ, List.getElem_cons_zero, List.setIfInBounds_toArray, List.set_cons_zero, List.set_cons_succ])
  refine wpAnyH_ready (rs := [21]) (by kernel_rfl) (by simp) ?_
  refine AllReadyH.cons rfl (fun K hK => ?_) AllReadyH.nil
  go_simp
  go_at_call 22
  refine (unhide HC1 _ (unhide HB1)).mono ?_
  rintro e w2 ⟨xqa, xql, xqc, rfl, hP1, hb⟩
  have HP1 := hide hP1; have HBB1 := hide hb
  have HB2 := hide (Below.on (unhide HB1) hb)
  have hk : ∀ b o, b < wr.heap.size → w2.cell? ⟨b, o, none⟩ = wr.cell? ⟨b, o, none⟩ := fun b o hlt => (unhide HB2).cell (p := ⟨b, o, none⟩) hlt
  have hoc := (hk Bo 1 lo).trans oc
  have l2 : Bo < w2.heap.size := Nat.lt_of_lt_of_le lo (unhide HB2).size
  have lm2 : Bm < w2.heap.size := Nat.lt_of_lt_of_le lm (unhide HB2).size
  have la2 : ba < w2.heap.size := Nat.lt_of_lt_of_le la (unhide HB2).size
  clear hP1 hb
  (try go_wp2_with fail)
  refine hK.out _ _ ⟨(hk _ _ lm).trans hmc, (hk _ _ la).trans d0, (hk _ _ la).trans d1, (hk _ _ la).trans d2, hoc⟩ (fun hHeld => ?_)
  clear hK K hk hoc
  (try simp only [Act.put, List.getElem_toArray, List.getElem_cons_succ, List.getElem_cons_zero, List.setIfInBounds_toArray, List.set_cons_zero, List.set_cons_succ])
  refine wpAnyH_take (i := 22) (v := ?v22) rfl (by kernel_rfl) (by kernel_rfl) (by kernel_rfl) (fun _ _ _ h => h) (Or.inl ⟨by rfl, ?y22⟩) hHeld ?r22
  case y22 => (intro w hSw; (try dsimp only at hSw); go_simp; all_goals (with_reducible rfl))
  (try simp only [Act.put, List.getElem_toArray, List.getElem_cons_succ, List.getElem_cons_zero, List.setIfInBounds_toArray, List.set_cons_zero, List.set_cons_succ])
  refine wpAnyH_ready (rs := [23]) (by kernel_rfl) (by simp) ?_
  refine AllReadyH.cons rfl (fun K hK => ?_) AllReadyH.nil
  go_simp
  refine hK.out _ _ ?_ (fun hHeld => ?_)
  · (try dsimp only); go_keep
  clear hK K
  (try simp only [Act.put, List.getElem_toArray, List.getElem_cons_succ, List.getElem_cons_zero, List.setIfInBounds_toArray, List.set_cons_zero, List.set_cons_succ])
  refine wpAnyH_ready (rs := [24]) (by kernel_rfl) (by simp) ?_
  refine AllReadyH.cons rfl (fun K hK => ?_) AllReadyH.nil
  refine step_append_lies _ rfl (.tmp 46) (.tmp 68) 42 rfl base 106 i0 (.agg #[.int .u32 0, .slice none 0 0, .slice none 0 0]) 3 56 Tryz.underlying42 hi hz0 hz1 hz2 rfl (by decide) (.slice ua j uc) j xs rfl (ownsRow_below (unhide HO) (Below.on (unhide HB2) (one_alloc w2 (.cells #[.int .u32 ty, .slice xpa xpl xpc, .slice xqa xql xqc] 106)))) ⟨w2.heap.size, 0, none⟩ 1 1 [.int .u32 ty, .slice xpa xpl xpc, .slice xqa xql xqc] rfl rfl (new_cells _ _ _) (by intro u hu; simp only [List.mem_cons, List.not_mem_nil, or_false] at hu; rcases hu with rfl | rfl | rfl <;> rfl) (by omega) (by unfold maxLen; omega) (by omega) (Nat.le_trans hbase (Nat.le_trans (unhide HB2).size (one_alloc w2 (.cells #[.int .u32 ty, .slice xpa xpl xpc, .slice xqa xql xqc] 106)).size)) (w2.heap.size + 1) (by simp) ?_
  intro gg cap wx hown5 hgrow hat hlt5
  have hk2 : ∀ b o, b < wr.heap.size → (Value.slice ua j uc).ownBlock ≠ some b → wx.cell? ⟨b, o, none⟩ = wr.cell? ⟨b, o, none⟩ := fun b o hlt hne => (World.cell?_of_block (a := ⟨b, o, none⟩) (hgrow.block b (Nat.lt_of_lt_of_le hlt (Nat.le_trans (unhide HB2).size (one_alloc w2 (.cells #[.int .u32 ty, .slice xpa xpl xpc, .slice xqa xql xqc] 106)).size)) (fun e => hne e.symm))).trans ((Below.on (unhide HB2) (one_alloc w2 (.cells #[.int .u32 ty, .slice xpa xpl xpc, .slice xqa xql xqc] 106))).cell (p := ⟨b, o, none⟩) hlt)
  have hx : wx.heap[Bo]? = wr.heap[Bo]? := (hgrow.block Bo (Nat.lt_of_lt_of_le lo (Nat.le_trans (unhide HB2).size (one_alloc w2 (.cells #[.int .u32 ty, .slice xpa xpl xpc, .slice xqa xql xqc] 106)).size)) (fun e => no e.symm)).trans ((Below.on (unhide HB2) (one_alloc w2 (.cells #[.int .u32 ty, .slice xpa xpl xpc, .slice xqa xql xqc] 106))).block Bo lo)
  have xo : wx.cell? ⟨Bo, 1, none⟩ = some (.slice ua j uc) := (World.cell?_of_block (a := ⟨Bo, 1, none⟩) hx).trans oc
  have xf : ∀ j, wx.frozen? ⟨Bo, j, none⟩ = false := fun j => by have := unhide HF j; simp only [World.frozen?, hx] at this ⊢; exact this
  have xm := (hk2 Bm 1 lm nm).trans hmc
  have x0 := (hk2 ba (oa + j * 3) la na).trans d0
  have x1 := (hk2 ba (oa + j * 3 + 1) la na).trans d1
  have x2 := (hk2 ba (oa + j * 3 + 2) la na).trans d2
  have H5 := hide hown5; have HG5 := hide hgrow; have HA5 := hide hat; have HL5 := hide hlt5
  clear hown5 hgrow hat hlt5 hx
  refine hK.out _ _ ⟨xm, x0, x1, x2, xo⟩ (fun hHeld => ?_)
  clear hK K
  (try simp only [Act.put, List.getElem_toArray, List.getElem_cons_succ, List.getElem_cons_zero, List.setIfInBounds_toArray, List.set_cons_zero, List.set_cons_succ])
  refine wpAnyH_take (i := 25) (v := ?v25) rfl (by kernel_rfl) (by kernel_rfl) (by kernel_rfl) (fun _ _ _ h => h) (Or.inl ⟨by rfl, ?y25⟩) hHeld ?r25
  case y25 => (intro w hSw; (try dsimp only at hSw); go_simp; all_goals (with_reducible rfl))
  (try simp only [Act.put, List.getElem_toArray, List.getElem_cons_succ, List.getElem_cons_zero, List.setIfInBounds_toArray, List.set_cons_zero, List.set_cons_succ])
  refine wpAnyH_done (by kernel_rfl) ?_ _
  simp only [lastQ]
  refine wpOp_step rfl (fun K hK => ?_)
  go_simp
  refine hK _ _ ?_
  refine NoPanic.normal ?_
  go_wp2
  exact (unhide HN) _ _ _ _ _ _ _ _ _ _ _ _ _ _ _ _ _ _ _ _ _ _ _ _ _ _ _ _ _ _ _ _ _ xpa xpl xpc xqa xql xqc w1 w2 wx gg cap (unhide HP0) (unhide HBB0) (unhide HP1) (unhide HBB1) (unhide H5) (unhide HG5) (unhide HA5) (unhide HL5)
end Gm
end Go.Proofs.YtheopjcmhclgdaaGreatDoor

/- A round of giveModule's loop 2. -/
namespace Go.Proofs.YtheopjcmhclgdaaGreatDoor
open Go.RowKit
namespace Gm
set_option linter.unusedVariables false
set_option linter.unusedSimpArgs false
set_option maxRecDepth 1000000 in
set_option maxHeartbeats 6400000 in
theorem gm_2 {u0 u4 u5 u7 u8 u9 u10 u11 u12 u13 u14 u15 u16 u17 u18 u19 u20 u21 u22 u23 u24 u25 u26 u27 u28 u29 u30 u31 u32 u33 u34 u35 u36 u37 u38 u39 u40 u41 u42 u43 u44 u45 u46 u47 u48 u49 u50 u51 u52 u53 u54 u55 u56 u57 u58 u59 u60 u61 u62 u63 u64 u65 u66 u67 u68 u69 u70 u71 u72 u73 u74 u75 u76 u77 u78 u79 u80 u81 u82 u83 u84 u85 u86 u87 u88 u89 u90 u91 u92 u93 u94 u95 u96 u97 u98 u99 u100 u101 u102 u103 u104 u105 u106 u107 u108 u109 u110 u111 u112 u113 u114 u115 u116 u117 u118 u119 u120 u121 u122 u123 u124 u125 u126 u127 u128 u129 u130 u131 u132 u133 u134 u135 u136 u137 u138 u139 u140 u141 u142 u143 u144 u145 u146 u147 u148 u149 u150 u151 u152 u153 u154 u155 u156 u157 u158 u159 u160 u161 u162 u163 u164 u165 u166 u167 u168 u169 u170 u171 u172 u173 u174 u175 u176 u177 u178 u179 u180 u181 u182 u183 u184 u185 u186 u187 u188 u189 u190 u191 u192 u193 u194 u195 u196 u197 u198 u199 u200 u201 u202 u203 u204 u205 u206 u207 u208 u209 u210 u211 u212 u213 u214 u215 u216 u217 u218 : Value} {Bm Br Bo base ba oa n cp j uc : Nat} {ua : Option Addr} {mn mx : Int} {hs : Bool} {xs : List Value} {wr : World} {Q0 : Exit → Act → World → Prop}
    (hjn : (j : Int) < (n : Int)) (hnb : (n : Int) ≤ 1048576) (hmc : wr.cell? ⟨Bm, 2, none⟩ = some (.slice (some ⟨ba, oa, none⟩) n cp)) (d0 : wr.cell? ⟨ba, oa + j * 3, none⟩ = some (.int .u32 mn)) (d1 : wr.cell? ⟨ba, oa + j * 3 + 1, none⟩ = some (.bool hs)) (d2 : wr.cell? ⟨ba, oa + j * 3 + 2, none⟩ = some (.int .u32 mx))
    (oc : wr.cell? ⟨Bo, 2, none⟩ = some (.slice ua j uc)) (hf : ∀ j, wr.frozen? ⟨Bo, j, none⟩ = false) (hown : wr.ownsRow base 108 3 (.slice ua j uc) j xs) (hbase : base ≤ wr.heap.size)
    (lo : Bo < wr.heap.size) (lm : Bm < wr.heap.size) (la : ba < wr.heap.size) (nom : ¬ Bm = Bo) (noa : ¬ ba = Bo) (no : (Value.slice ua j uc).ownBlock ≠ some Bo) (nm : (Value.slice ua j uc).ownBlock ≠ some Bm) (na : (Value.slice ua j uc).ownBlock ≠ some ba)
    (hnorm : ∀ (v71 v72 v73 v74 v75 v76 v77 v78 v79 v80 v81 v82 v83 v84 v85 v86 v87 : Value)   (wx : World) (gg cap : Nat), wx.ownsRow base 108 3 (.slice (some ⟨gg, 0, none⟩) (j + 1) cap) (j + 1) (xs ++ [.int .u32 mn, .bool hs, .int .u32 mx]) → (wr.drew.alloc (.cells #[.int .u32 mn, .bool hs, .int .u32 mx] 108)).grownBy wx (Value.slice ua j uc).ownBlock → ((Value.slice ua j uc).ownBlock = some gg ∨ gg = wr.drew.heap.size + 1) → gg < wx.heap.size →
      Q0 .normal ⟨#[u0, .pointer (some ⟨Bm, 0, none⟩), .pointer (some ⟨Br, 0, none⟩), .pointer (some ⟨Bo, 0, none⟩), u4, u5, .int .i64 ((j : Int) + 1), u7, u8, u9, u10, u11, u12, u13, u14, u15, u16, u17, u18, u19, u20, u21, u22, u23, u24, u25, u26, u27, u28, u29, u30, u31, u32, u33, u34, u35, u36, u37, u38, u39, u40, u41, u42, u43, u44, u45, u46, u47, u48, u49, u50, u51, u52, u53, u54, u55, u56, u57, u58, u59, u60, u61, u62, u63, u64, u65, u66, u67, u68, u69, u70, v71, v72, v73, v74, v75, v76, v77, v78, v79, v80, v81, v82, v83, v84, v85, v86, v87, u88, u89, u90, u91, u92, u93, u94, u95, u96, u97, u98, u99, u100, u101, u102, u103, u104, u105, u106, u107, u108, u109, u110, u111, u112, u113, u114, u115, u116, u117, u118, u119, u120, u121, u122, u123, u124, u125, u126, u127, u128, u129, u130, u131, u132, u133, u134, u135, u136, u137, u138, u139, u140, u141, u142, u143, u144, u145, u146, u147, u148, u149, u150, u151, u152, u153, u154, u155, u156, u157, u158, u159, u160, u161, u162, u163, u164, u165, u166, u167, u168, u169, u170, u171, u172, u173, u174, u175, u176, u177, u178, u179, u180, u181, u182, u183, u184, u185, u186, u187, u188, u189, u190, u191, u192, u193, u194, u195, u196, u197, u198, u199, u200, u201, u202, u203, u204, u205, u206, u207, u208, u209, u210, u211, u212, u213, u214, u215, u216, u217, u218], []⟩ (wx.setCell ⟨Bo, 2, none⟩ (.slice (some ⟨gg, 0, none⟩) (j + 1) cap))) :
    Code.wp Tryz.prog gbody2 Q0 ⟨#[u0, .pointer (some ⟨Bm, 0, none⟩), .pointer (some ⟨Br, 0, none⟩), .pointer (some ⟨Bo, 0, none⟩), u4, u5, .int .i64 j, u7, u8, u9, u10, u11, u12, u13, u14, u15, u16, u17, u18, u19, u20, u21, u22, u23, u24, u25, u26, u27, u28, u29, u30, u31, u32, u33, u34, u35, u36, u37, u38, u39, u40, u41, u42, u43, u44, u45, u46, u47, u48, u49, u50, u51, u52, u53, u54, u55, u56, u57, u58, u59, u60, u61, u62, u63, u64, u65, u66, u67, u68, u69, u70, u71, u72, u73, u74, u75, u76, u77, u78, u79, u80, u81, u82, u83, u84, u85, u86, u87, u88, u89, u90, u91, u92, u93, u94, u95, u96, u97, u98, u99, u100, u101, u102, u103, u104, u105, u106, u107, u108, u109, u110, u111, u112, u113, u114, u115, u116, u117, u118, u119, u120, u121, u122, u123, u124, u125, u126, u127, u128, u129, u130, u131, u132, u133, u134, u135, u136, u137, u138, u139, u140, u141, u142, u143, u144, u145, u146, u147, u148, u149, u150, u151, u152, u153, u154, u155, u156, u157, u158, u159, u160, u161, u162, u163, u164, u165, u166, u167, u168, u169, u170, u171, u172, u173, u174, u175, u176, u177, u178, u179, u180, u181, u182, u183, u184, u185, u186, u187, u188, u189, u190, u191, u192, u193, u194, u195, u196, u197, u198, u199, u200, u201, u202, u203, u204, u205, u206, u207, u208, u209, u210, u211, u212, u213, u214, u215, u216, u217, u218], []⟩ wr := by
  obtain ⟨i0, hi, hz0, hz1, hz2⟩ := info_parts gmInfo2
  have HN := hide hnorm; have HO := hide hown; have HF := hide hf

  clear hnorm hown
  have nom2 : ¬ Bo = Bm := fun e => nom e.symm
  have noa2 : ¬ Bo = ba := fun e => noa e.symm
  conv => arg 2; whnf
  go_wp2_with fail
  refine wp_region_noPanic ?_
  refine wp_region_pop (S := fun w' => w'.cell? ⟨Bm, 2, none⟩ = some (.slice (some ⟨ba, oa, none⟩) n cp) ∧ w'.cell? ⟨ba, oa + j * 3, none⟩ = some (.int .u32 mn) ∧ w'.cell? ⟨ba, oa + j * 3 + 1, none⟩ = some (.bool hs) ∧ w'.cell? ⟨ba, oa + j * 3 + 2, none⟩ = some (.int .u32 mx) ∧ w'.cell? ⟨Bo, 2, none⟩ = some (.slice ua j uc)) _ rfl rfl (by kernel_rfl) (by kernel_rfl) ⟨hmc, d0, d1, d2, oc⟩ (fun hHeld => ?_)
  simp only [List.pop_toArray, List.dropLast_cons_cons, List.dropLast_singleton, List.size_toArray, List.length_cons, List.length_nil, Nat.reduceAdd]
  refine wpAnyH_take (i := 0) (v := ?v0) rfl (by kernel_rfl) (by kernel_rfl) (by kernel_rfl) (fun _ _ _ h => h) (Or.inl ⟨by rfl, ?y0⟩) hHeld ?r0
  case y0 => (intro w hSw; (try dsimp only at hSw); go_simp; all_goals (with_reducible rfl))
  (try simp only [Act.put, List.getElem_toArray, List.getElem_cons_succ, List.getElem_cons_zero, List.setIfInBounds_toArray, List.set_cons_zero, List.set_cons_succ])
  refine wpAnyH_take (i := 1) (v := ?v1) rfl (by kernel_rfl) (by kernel_rfl) (by kernel_rfl) (fun _ _ _ h => h) (Or.inl ⟨by rfl, ?y1⟩) hHeld ?r1
  case y1 => (intro w hSw; (try dsimp only at hSw); go_simp; all_goals (with_reducible rfl))
  (try simp only [Act.put, List.getElem_toArray, List.getElem_cons_succ, List.getElem_cons_zero, List.setIfInBounds_toArray, List.set_cons_zero, List.set_cons_succ])
  refine wpAnyH_take (i := 2) (v := ?v2) rfl (by kernel_rfl) (by kernel_rfl) (by kernel_rfl) (fun _ _ _ h => h) (Or.inl ⟨by rfl, ?y2⟩) hHeld ?r2
  case y2 => (intro w hSw; (try dsimp only at hSw); go_simp; all_goals (with_reducible rfl))
  (try simp only [Act.put, List.getElem_toArray, List.getElem_cons_succ, List.getElem_cons_zero, List.setIfInBounds_toArray, List.set_cons_zero, List.set_cons_succ])
  refine wpAnyH_take (i := 3) (v := ?v3) rfl (by kernel_rfl) (by kernel_rfl) (by kernel_rfl) (fun _ _ _ h => h) (Or.inl ⟨by rfl, ?y3⟩) hHeld ?r3
  case y3 => (intro w hSw; (try dsimp only at hSw); go_simp; all_goals (with_reducible rfl))
  (try simp only [Act.put, List.getElem_toArray, List.getElem_cons_succ, List.getElem_cons_zero, List.setIfInBounds_toArray, List.set_cons_zero, List.set_cons_succ])
  refine wpAnyH_take (i := 4) (v := ?v4) rfl (by kernel_rfl) (by kernel_rfl) (by kernel_rfl) (fun _ _ _ h => h) (Or.inl ⟨by rfl, ?y4⟩) hHeld ?r4
  case y4 => (intro w hSw; (try dsimp only at hSw); go_simp; all_goals (with_reducible rfl))
  (try simp only [Act.put, List.getElem_toArray, List.getElem_cons_succ, List.getElem_cons_zero, List.setIfInBounds_toArray, List.set_cons_zero, List.set_cons_succ])
  refine wpAnyH_take (i := 5) (v := ?v5) rfl (by kernel_rfl) (by kernel_rfl) (by kernel_rfl) (fun _ _ _ h => h) (Or.inl ⟨by rfl, ?y5⟩) hHeld ?r5
  case y5 => (intro w hSw; (try dsimp only at hSw); go_simp; all_goals (with_reducible rfl))
  (try simp only [Act.put, List.getElem_toArray, List.getElem_cons_succ, List.getElem_cons_zero, List.setIfInBounds_toArray, List.set_cons_zero, List.set_cons_succ])
  refine wpAnyH_take (i := 6) (v := ?v6) rfl (by kernel_rfl) (by kernel_rfl) (by kernel_rfl) (fun _ _ _ h => h) (Or.inl ⟨by rfl, ?y6⟩) hHeld ?r6
  case y6 => (intro w hSw; (try dsimp only at hSw); go_simp; all_goals (with_reducible rfl))
  (try simp only [Act.put, List.getElem_toArray, List.getElem_cons_succ, List.getElem_cons_zero, List.setIfInBounds_toArray, List.set_cons_zero, List.set_cons_succ])
  refine wpAnyH_ready (rs := [7]) (by kernel_rfl) (by simp) ?_
  refine AllReadyH.cons rfl (fun K hK => ?_) AllReadyH.nil
  go_simp
  refine hK.out _ _ ?_ (fun hHeld => ?_)
  · (try dsimp only); go_keep
  clear hK K
  (try simp only [Act.put, List.getElem_toArray, List.getElem_cons_succ, List.getElem_cons_zero, List.setIfInBounds_toArray, List.set_cons_zero, List.set_cons_succ])
  refine wpAnyH_ready (rs := [8]) (by kernel_rfl) (by simp) ?_
  refine AllReadyH.cons rfl (fun K hK => ?_) AllReadyH.nil
  refine step_append_lies _ rfl (.tmp 79) (.tmp 85) 43 rfl base 108 i0 (.agg #[.int .u32 0, .bool false, .int .u32 0]) 3 12 Tryz.underlying43 hi hz0 hz1 hz2 rfl (by decide) (.slice ua j uc) j xs rfl (ownsRow_below (unhide HO) (Below.on (drew_below9 wr) (one_alloc wr.drew (.cells #[.int .u32 mn, .bool hs, .int .u32 mx] 108)))) ⟨wr.drew.heap.size, 0, none⟩ 1 1 [.int .u32 mn, .bool hs, .int .u32 mx] rfl rfl (new_cells _ _ _) (by intro u hu; simp only [List.mem_cons, List.not_mem_nil, or_false] at hu; rcases hu with rfl | rfl | rfl <;> rfl) (by omega) (by unfold maxLen; omega) (by omega) (Nat.le_trans hbase (Nat.le_trans (drew_below9 wr).size (one_alloc wr.drew (.cells #[.int .u32 mn, .bool hs, .int .u32 mx] 108)).size)) (wr.drew.heap.size + 1) (by simp) ?_
  intro gg cap wx hown5 hgrow hat hlt5
  have hk2 : ∀ b o, b < wr.heap.size → (Value.slice ua j uc).ownBlock ≠ some b → wx.cell? ⟨b, o, none⟩ = wr.cell? ⟨b, o, none⟩ := fun b o hlt hne => (World.cell?_of_block (a := ⟨b, o, none⟩) (hgrow.block b (Nat.lt_of_lt_of_le hlt (Nat.le_trans (drew_below9 wr).size (one_alloc wr.drew (.cells #[.int .u32 mn, .bool hs, .int .u32 mx] 108)).size)) (fun e => hne e.symm))).trans ((Below.on (drew_below9 wr) (one_alloc wr.drew (.cells #[.int .u32 mn, .bool hs, .int .u32 mx] 108))).cell (p := ⟨b, o, none⟩) hlt)
  have hx : wx.heap[Bo]? = wr.heap[Bo]? := (hgrow.block Bo (Nat.lt_of_lt_of_le lo (Nat.le_trans (drew_below9 wr).size (one_alloc wr.drew (.cells #[.int .u32 mn, .bool hs, .int .u32 mx] 108)).size)) (fun e => no e.symm)).trans ((Below.on (drew_below9 wr) (one_alloc wr.drew (.cells #[.int .u32 mn, .bool hs, .int .u32 mx] 108))).block Bo lo)
  have xo : wx.cell? ⟨Bo, 2, none⟩ = some (.slice ua j uc) := (World.cell?_of_block (a := ⟨Bo, 2, none⟩) hx).trans oc
  have xf : ∀ j, wx.frozen? ⟨Bo, j, none⟩ = false := fun j => by have := unhide HF j; simp only [World.frozen?, hx] at this ⊢; exact this
  have xm := (hk2 Bm 2 lm nm).trans hmc
  have x0 := (hk2 ba (oa + j * 3) la na).trans d0
  have x1 := (hk2 ba (oa + j * 3 + 1) la na).trans d1
  have x2 := (hk2 ba (oa + j * 3 + 2) la na).trans d2
  have H5 := hide hown5; have HG5 := hide hgrow; have HA5 := hide hat; have HL5 := hide hlt5
  clear hown5 hgrow hat hlt5 hx
  refine hK.out _ _ ⟨xm, x0, x1, x2, xo⟩ (fun hHeld => ?_)
  clear hK K
  (try simp only [Act.put, List.getElem_toArray, List.getElem_cons_succ, List.getElem_cons_zero, List.setIfInBounds_toArray, List.set_cons_zero, List.set_cons_succ])
  refine wpAnyH_take (i := 9) (v := ?v9) rfl (by kernel_rfl) (by kernel_rfl) (by kernel_rfl) (fun _ _ _ h => h) (Or.inl ⟨by rfl, ?y9⟩) hHeld ?r9
  case y9 => (intro w hSw; (try dsimp only at hSw); go_simp; all_goals (with_reducible rfl))
  (try simp only [Act.put, List.getElem_toArray, List.getElem_cons_succ, List.getElem_cons_zero, List.setIfInBounds_toArray, List.set_cons_zero, List.set_cons_succ])
  refine wpAnyH_done (by kernel_rfl) ?_ _
  simp only [lastQ]
  refine wpOp_step rfl (fun K hK => ?_)
  go_simp
  refine hK _ _ ?_
  refine NoPanic.normal ?_
  go_wp2
  exact (unhide HN) _ _ _ _ _ _ _ _ _ _ _ _ _ _ _ _ _   wx gg cap  (unhide H5) (unhide HG5) (unhide HA5) (unhide HL5)
end Gm
end Go.Proofs.YtheopjcmhclgdaaGreatDoor

/- A round of giveModule's loop 3. -/
namespace Go.Proofs.YtheopjcmhclgdaaGreatDoor
open Go.RowKit
namespace Gm
set_option linter.unusedVariables false
set_option linter.unusedSimpArgs false
set_option maxRecDepth 1000000 in
set_option maxHeartbeats 6400000 in
theorem gm_3 {u0 u4 u5 u6 u8 u9 u10 u11 u12 u13 u14 u15 u16 u17 u18 u19 u20 u21 u22 u23 u24 u25 u26 u27 u28 u29 u30 u31 u32 u33 u34 u35 u36 u37 u38 u39 u40 u41 u42 u43 u44 u45 u46 u47 u48 u49 u50 u51 u52 u53 u54 u55 u56 u57 u58 u59 u60 u61 u62 u63 u64 u65 u66 u67 u68 u69 u70 u71 u72 u73 u74 u75 u76 u77 u78 u79 u80 u81 u82 u83 u84 u85 u86 u87 u88 u89 u90 u91 u92 u93 u94 u95 u96 u97 u98 u99 u100 u101 u102 u103 u104 u105 u106 u107 u108 u109 u110 u111 u112 u113 u114 u115 u116 u117 u118 u119 u120 u121 u122 u123 u124 u125 u126 u127 u128 u129 u130 u131 u132 u133 u134 u135 u136 u137 u138 u139 u140 u141 u142 u143 u144 u145 u146 u147 u148 u149 u150 u151 u152 u153 u154 u155 u156 u157 u158 u159 u160 u161 u162 u163 u164 u165 u166 u167 u168 u169 u170 u171 u172 u173 u174 u175 u176 u177 u178 u179 u180 u181 u182 u183 u184 u185 u186 u187 u188 u189 u190 u191 u192 u193 u194 u195 u196 u197 u198 u199 u200 u201 u202 u203 u204 u205 u206 u207 u208 u209 u210 u211 u212 u213 u214 u215 u216 u217 u218 : Value} {Bm Br Bo base ba oa n cp j uc : Nat} {ua : Option Addr} {mn mx : Int} {hs : Bool} {xs : List Value} {wr : World} {Q0 : Exit → Act → World → Prop}
    (hjn : (j : Int) < (n : Int)) (hnb : (n : Int) ≤ 1048576) (hmc : wr.cell? ⟨Bm, 3, none⟩ = some (.slice (some ⟨ba, oa, none⟩) n cp)) (d0 : wr.cell? ⟨ba, oa + j * 3, none⟩ = some (.int .u32 mn)) (d1 : wr.cell? ⟨ba, oa + j * 3 + 1, none⟩ = some (.bool hs)) (d2 : wr.cell? ⟨ba, oa + j * 3 + 2, none⟩ = some (.int .u32 mx))
    (oc : wr.cell? ⟨Bo, 3, none⟩ = some (.slice ua j uc)) (hf : ∀ j, wr.frozen? ⟨Bo, j, none⟩ = false) (hown : wr.ownsRow base 108 3 (.slice ua j uc) j xs) (hbase : base ≤ wr.heap.size)
    (lo : Bo < wr.heap.size) (lm : Bm < wr.heap.size) (la : ba < wr.heap.size) (nom : ¬ Bm = Bo) (noa : ¬ ba = Bo) (no : (Value.slice ua j uc).ownBlock ≠ some Bo) (nm : (Value.slice ua j uc).ownBlock ≠ some Bm) (na : (Value.slice ua j uc).ownBlock ≠ some ba)
    (hnorm : ∀ (v88 v89 v90 v91 v92 v93 v94 v95 v96 v97 v98 v99 v100 v101 v102 v103 v104 : Value)   (wx : World) (gg cap : Nat), wx.ownsRow base 108 3 (.slice (some ⟨gg, 0, none⟩) (j + 1) cap) (j + 1) (xs ++ [.int .u32 mn, .bool hs, .int .u32 mx]) → (wr.drew.alloc (.cells #[.int .u32 mn, .bool hs, .int .u32 mx] 108)).grownBy wx (Value.slice ua j uc).ownBlock → ((Value.slice ua j uc).ownBlock = some gg ∨ gg = wr.drew.heap.size + 1) → gg < wx.heap.size →
      Q0 .normal ⟨#[u0, .pointer (some ⟨Bm, 0, none⟩), .pointer (some ⟨Br, 0, none⟩), .pointer (some ⟨Bo, 0, none⟩), u4, u5, u6, .int .i64 ((j : Int) + 1), u8, u9, u10, u11, u12, u13, u14, u15, u16, u17, u18, u19, u20, u21, u22, u23, u24, u25, u26, u27, u28, u29, u30, u31, u32, u33, u34, u35, u36, u37, u38, u39, u40, u41, u42, u43, u44, u45, u46, u47, u48, u49, u50, u51, u52, u53, u54, u55, u56, u57, u58, u59, u60, u61, u62, u63, u64, u65, u66, u67, u68, u69, u70, u71, u72, u73, u74, u75, u76, u77, u78, u79, u80, u81, u82, u83, u84, u85, u86, u87, v88, v89, v90, v91, v92, v93, v94, v95, v96, v97, v98, v99, v100, v101, v102, v103, v104, u105, u106, u107, u108, u109, u110, u111, u112, u113, u114, u115, u116, u117, u118, u119, u120, u121, u122, u123, u124, u125, u126, u127, u128, u129, u130, u131, u132, u133, u134, u135, u136, u137, u138, u139, u140, u141, u142, u143, u144, u145, u146, u147, u148, u149, u150, u151, u152, u153, u154, u155, u156, u157, u158, u159, u160, u161, u162, u163, u164, u165, u166, u167, u168, u169, u170, u171, u172, u173, u174, u175, u176, u177, u178, u179, u180, u181, u182, u183, u184, u185, u186, u187, u188, u189, u190, u191, u192, u193, u194, u195, u196, u197, u198, u199, u200, u201, u202, u203, u204, u205, u206, u207, u208, u209, u210, u211, u212, u213, u214, u215, u216, u217, u218], []⟩ (wx.setCell ⟨Bo, 3, none⟩ (.slice (some ⟨gg, 0, none⟩) (j + 1) cap))) :
    Code.wp Tryz.prog gbody3 Q0 ⟨#[u0, .pointer (some ⟨Bm, 0, none⟩), .pointer (some ⟨Br, 0, none⟩), .pointer (some ⟨Bo, 0, none⟩), u4, u5, u6, .int .i64 j, u8, u9, u10, u11, u12, u13, u14, u15, u16, u17, u18, u19, u20, u21, u22, u23, u24, u25, u26, u27, u28, u29, u30, u31, u32, u33, u34, u35, u36, u37, u38, u39, u40, u41, u42, u43, u44, u45, u46, u47, u48, u49, u50, u51, u52, u53, u54, u55, u56, u57, u58, u59, u60, u61, u62, u63, u64, u65, u66, u67, u68, u69, u70, u71, u72, u73, u74, u75, u76, u77, u78, u79, u80, u81, u82, u83, u84, u85, u86, u87, u88, u89, u90, u91, u92, u93, u94, u95, u96, u97, u98, u99, u100, u101, u102, u103, u104, u105, u106, u107, u108, u109, u110, u111, u112, u113, u114, u115, u116, u117, u118, u119, u120, u121, u122, u123, u124, u125, u126, u127, u128, u129, u130, u131, u132, u133, u134, u135, u136, u137, u138, u139, u140, u141, u142, u143, u144, u145, u146, u147, u148, u149, u150, u151, u152, u153, u154, u155, u156, u157, u158, u159, u160, u161, u162, u163, u164, u165, u166, u167, u168, u169, u170, u171, u172, u173, u174, u175, u176, u177, u178, u179, u180, u181, u182, u183, u184, u185, u186, u187, u188, u189, u190, u191, u192, u193, u194, u195, u196, u197, u198, u199, u200, u201, u202, u203, u204, u205, u206, u207, u208, u209, u210, u211, u212, u213, u214, u215, u216, u217, u218], []⟩ wr := by
  obtain ⟨i0, hi, hz0, hz1, hz2⟩ := info_parts gmInfo3
  have HN := hide hnorm; have HO := hide hown; have HF := hide hf

  clear hnorm hown
  have nom2 : ¬ Bo = Bm := fun e => nom e.symm
  have noa2 : ¬ Bo = ba := fun e => noa e.symm
  conv => arg 2; whnf
  go_wp2_with fail
  refine wp_region_noPanic ?_
  refine wp_region_pop (S := fun w' => w'.cell? ⟨Bm, 3, none⟩ = some (.slice (some ⟨ba, oa, none⟩) n cp) ∧ w'.cell? ⟨ba, oa + j * 3, none⟩ = some (.int .u32 mn) ∧ w'.cell? ⟨ba, oa + j * 3 + 1, none⟩ = some (.bool hs) ∧ w'.cell? ⟨ba, oa + j * 3 + 2, none⟩ = some (.int .u32 mx) ∧ w'.cell? ⟨Bo, 3, none⟩ = some (.slice ua j uc)) _ rfl rfl (by kernel_rfl) (by kernel_rfl) ⟨hmc, d0, d1, d2, oc⟩ (fun hHeld => ?_)
  simp only [List.pop_toArray, List.dropLast_cons_cons, List.dropLast_singleton, List.size_toArray, List.length_cons, List.length_nil, Nat.reduceAdd]
  refine wpAnyH_take (i := 0) (v := ?v0) rfl (by kernel_rfl) (by kernel_rfl) (by kernel_rfl) (fun _ _ _ h => h) (Or.inl ⟨by rfl, ?y0⟩) hHeld ?r0
  case y0 => (intro w hSw; (try dsimp only at hSw); go_simp; all_goals (with_reducible rfl))
  (try simp only [Act.put, List.getElem_toArray, List.getElem_cons_succ, List.getElem_cons_zero, List.setIfInBounds_toArray, List.set_cons_zero, List.set_cons_succ])
  refine wpAnyH_take (i := 1) (v := ?v1) rfl (by kernel_rfl) (by kernel_rfl) (by kernel_rfl) (fun _ _ _ h => h) (Or.inl ⟨by rfl, ?y1⟩) hHeld ?r1
  case y1 => (intro w hSw; (try dsimp only at hSw); go_simp; all_goals (with_reducible rfl))
  (try simp only [Act.put, List.getElem_toArray, List.getElem_cons_succ, List.getElem_cons_zero, List.setIfInBounds_toArray, List.set_cons_zero, List.set_cons_succ])
  refine wpAnyH_take (i := 2) (v := ?v2) rfl (by kernel_rfl) (by kernel_rfl) (by kernel_rfl) (fun _ _ _ h => h) (Or.inl ⟨by rfl, ?y2⟩) hHeld ?r2
  case y2 => (intro w hSw; (try dsimp only at hSw); go_simp; all_goals (with_reducible rfl))
  (try simp only [Act.put, List.getElem_toArray, List.getElem_cons_succ, List.getElem_cons_zero, List.setIfInBounds_toArray, List.set_cons_zero, List.set_cons_succ])
  refine wpAnyH_take (i := 3) (v := ?v3) rfl (by kernel_rfl) (by kernel_rfl) (by kernel_rfl) (fun _ _ _ h => h) (Or.inl ⟨by rfl, ?y3⟩) hHeld ?r3
  case y3 => (intro w hSw; (try dsimp only at hSw); go_simp; all_goals (with_reducible rfl))
  (try simp only [Act.put, List.getElem_toArray, List.getElem_cons_succ, List.getElem_cons_zero, List.setIfInBounds_toArray, List.set_cons_zero, List.set_cons_succ])
  refine wpAnyH_take (i := 4) (v := ?v4) rfl (by kernel_rfl) (by kernel_rfl) (by kernel_rfl) (fun _ _ _ h => h) (Or.inl ⟨by rfl, ?y4⟩) hHeld ?r4
  case y4 => (intro w hSw; (try dsimp only at hSw); go_simp; all_goals (with_reducible rfl))
  (try simp only [Act.put, List.getElem_toArray, List.getElem_cons_succ, List.getElem_cons_zero, List.setIfInBounds_toArray, List.set_cons_zero, List.set_cons_succ])
  refine wpAnyH_take (i := 5) (v := ?v5) rfl (by kernel_rfl) (by kernel_rfl) (by kernel_rfl) (fun _ _ _ h => h) (Or.inl ⟨by rfl, ?y5⟩) hHeld ?r5
  case y5 => (intro w hSw; (try dsimp only at hSw); go_simp; all_goals (with_reducible rfl))
  (try simp only [Act.put, List.getElem_toArray, List.getElem_cons_succ, List.getElem_cons_zero, List.setIfInBounds_toArray, List.set_cons_zero, List.set_cons_succ])
  refine wpAnyH_take (i := 6) (v := ?v6) rfl (by kernel_rfl) (by kernel_rfl) (by kernel_rfl) (fun _ _ _ h => h) (Or.inl ⟨by rfl, ?y6⟩) hHeld ?r6
  case y6 => (intro w hSw; (try dsimp only at hSw); go_simp; all_goals (with_reducible rfl))
  (try simp only [Act.put, List.getElem_toArray, List.getElem_cons_succ, List.getElem_cons_zero, List.setIfInBounds_toArray, List.set_cons_zero, List.set_cons_succ])
  refine wpAnyH_ready (rs := [7]) (by kernel_rfl) (by simp) ?_
  refine AllReadyH.cons rfl (fun K hK => ?_) AllReadyH.nil
  go_simp
  refine hK.out _ _ ?_ (fun hHeld => ?_)
  · (try dsimp only); go_keep
  clear hK K
  (try simp only [Act.put, List.getElem_toArray, List.getElem_cons_succ, List.getElem_cons_zero, List.setIfInBounds_toArray, List.set_cons_zero, List.set_cons_succ])
  refine wpAnyH_ready (rs := [8]) (by kernel_rfl) (by simp) ?_
  refine AllReadyH.cons rfl (fun K hK => ?_) AllReadyH.nil
  refine step_append_lies _ rfl (.tmp 96) (.tmp 102) 43 rfl base 108 i0 (.agg #[.int .u32 0, .bool false, .int .u32 0]) 3 12 Tryz.underlying43 hi hz0 hz1 hz2 rfl (by decide) (.slice ua j uc) j xs rfl (ownsRow_below (unhide HO) (Below.on (drew_below9 wr) (one_alloc wr.drew (.cells #[.int .u32 mn, .bool hs, .int .u32 mx] 108)))) ⟨wr.drew.heap.size, 0, none⟩ 1 1 [.int .u32 mn, .bool hs, .int .u32 mx] rfl rfl (new_cells _ _ _) (by intro u hu; simp only [List.mem_cons, List.not_mem_nil, or_false] at hu; rcases hu with rfl | rfl | rfl <;> rfl) (by omega) (by unfold maxLen; omega) (by omega) (Nat.le_trans hbase (Nat.le_trans (drew_below9 wr).size (one_alloc wr.drew (.cells #[.int .u32 mn, .bool hs, .int .u32 mx] 108)).size)) (wr.drew.heap.size + 1) (by simp) ?_
  intro gg cap wx hown5 hgrow hat hlt5
  have hk2 : ∀ b o, b < wr.heap.size → (Value.slice ua j uc).ownBlock ≠ some b → wx.cell? ⟨b, o, none⟩ = wr.cell? ⟨b, o, none⟩ := fun b o hlt hne => (World.cell?_of_block (a := ⟨b, o, none⟩) (hgrow.block b (Nat.lt_of_lt_of_le hlt (Nat.le_trans (drew_below9 wr).size (one_alloc wr.drew (.cells #[.int .u32 mn, .bool hs, .int .u32 mx] 108)).size)) (fun e => hne e.symm))).trans ((Below.on (drew_below9 wr) (one_alloc wr.drew (.cells #[.int .u32 mn, .bool hs, .int .u32 mx] 108))).cell (p := ⟨b, o, none⟩) hlt)
  have hx : wx.heap[Bo]? = wr.heap[Bo]? := (hgrow.block Bo (Nat.lt_of_lt_of_le lo (Nat.le_trans (drew_below9 wr).size (one_alloc wr.drew (.cells #[.int .u32 mn, .bool hs, .int .u32 mx] 108)).size)) (fun e => no e.symm)).trans ((Below.on (drew_below9 wr) (one_alloc wr.drew (.cells #[.int .u32 mn, .bool hs, .int .u32 mx] 108))).block Bo lo)
  have xo : wx.cell? ⟨Bo, 3, none⟩ = some (.slice ua j uc) := (World.cell?_of_block (a := ⟨Bo, 3, none⟩) hx).trans oc
  have xf : ∀ j, wx.frozen? ⟨Bo, j, none⟩ = false := fun j => by have := unhide HF j; simp only [World.frozen?, hx] at this ⊢; exact this
  have xm := (hk2 Bm 3 lm nm).trans hmc
  have x0 := (hk2 ba (oa + j * 3) la na).trans d0
  have x1 := (hk2 ba (oa + j * 3 + 1) la na).trans d1
  have x2 := (hk2 ba (oa + j * 3 + 2) la na).trans d2
  have H5 := hide hown5; have HG5 := hide hgrow; have HA5 := hide hat; have HL5 := hide hlt5
  clear hown5 hgrow hat hlt5 hx
  refine hK.out _ _ ⟨xm, x0, x1, x2, xo⟩ (fun hHeld => ?_)
  clear hK K
  (try simp only [Act.put, List.getElem_toArray, List.getElem_cons_succ, List.getElem_cons_zero, List.setIfInBounds_toArray, List.set_cons_zero, List.set_cons_succ])
  refine wpAnyH_take (i := 9) (v := ?v9) rfl (by kernel_rfl) (by kernel_rfl) (by kernel_rfl) (fun _ _ _ h => h) (Or.inl ⟨by rfl, ?y9⟩) hHeld ?r9
  case y9 => (intro w hSw; (try dsimp only at hSw); go_simp; all_goals (with_reducible rfl))
  (try simp only [Act.put, List.getElem_toArray, List.getElem_cons_succ, List.getElem_cons_zero, List.setIfInBounds_toArray, List.set_cons_zero, List.set_cons_succ])
  refine wpAnyH_done (by kernel_rfl) ?_ _
  simp only [lastQ]
  refine wpOp_step rfl (fun K hK => ?_)
  go_simp
  refine hK _ _ ?_
  refine NoPanic.normal ?_
  go_wp2
  exact (unhide HN) _ _ _ _ _ _ _ _ _ _ _ _ _ _ _ _ _   wx gg cap  (unhide H5) (unhide HG5) (unhide HA5) (unhide HL5)
end Gm
end Go.Proofs.YtheopjcmhclgdaaGreatDoor

/- A round of giveModule's loop 4. -/
namespace Go.Proofs.YtheopjcmhclgdaaGreatDoor
open Go.RowKit
namespace Gm
set_option linter.unusedVariables false
set_option linter.unusedSimpArgs false
set_option maxRecDepth 1000000 in
set_option maxHeartbeats 6400000 in
theorem gm_4 {u0 u4 u5 u6 u7 u9 u10 u11 u12 u13 u14 u15 u16 u17 u18 u19 u20 u21 u22 u23 u24 u25 u26 u27 u28 u29 u30 u31 u32 u33 u34 u35 u36 u37 u38 u39 u40 u41 u42 u43 u44 u45 u46 u47 u48 u49 u50 u51 u52 u53 u54 u55 u56 u57 u58 u59 u60 u61 u62 u63 u64 u65 u66 u67 u68 u69 u70 u71 u72 u73 u74 u75 u76 u77 u78 u79 u80 u81 u82 u83 u84 u85 u86 u87 u88 u89 u90 u91 u92 u93 u94 u95 u96 u97 u98 u99 u100 u101 u102 u103 u104 u105 u106 u107 u108 u109 u110 u111 u112 u113 u114 u115 u116 u117 u118 u119 u120 u121 u122 u123 u124 u125 u126 u127 u128 u129 u130 u131 u132 u133 u134 u135 u136 u137 u138 u139 u140 u141 u142 u143 u144 u145 u146 u147 u148 u149 u150 u151 u152 u153 u154 u155 u156 u157 u158 u159 u160 u161 u162 u163 u164 u165 u166 u167 u168 u169 u170 u171 u172 u173 u174 u175 u176 u177 u178 u179 u180 u181 u182 u183 u184 u185 u186 u187 u188 u189 u190 u191 u192 u193 u194 u195 u196 u197 u198 u199 u200 u201 u202 u203 u204 u205 u206 u207 u208 u209 u210 u211 u212 u213 u214 u215 u216 u217 u218 : Value} {Bm Br Bo base ba oa n cp j uc : Nat} {ua : Option Addr} {kd op nn al of re : Int} {mu : Bool} {iba iea ila : Option Addr} {ibl ibc iel iec ill ilc : Nat} {PK0 : World → World → Value → Prop} {xs : List Value} {wr : World} {Q0 : Exit → Act → World → Prop}
    (hjn : (j : Int) < (n : Int)) (hnb : (n : Int) ≤ 1048576) (hmc : wr.cell? ⟨Bm, 4, none⟩ = some (.slice (some ⟨ba, oa, none⟩) n cp)) (d0 : wr.cell? ⟨ba, oa + j * 10, none⟩ = some (.int .u8 kd)) (d1 : wr.cell? ⟨ba, oa + j * 10 + 1, none⟩ = some (.bool mu)) (d2 : wr.cell? ⟨ba, oa + j * 10 + 2, none⟩ = some (.int .u8 op)) (d3 : wr.cell? ⟨ba, oa + j * 10 + 3, none⟩ = some (.int .i64 nn)) (d4 : wr.cell? ⟨ba, oa + j * 10 + 4, none⟩ = some (.int .u32 al)) (d5 : wr.cell? ⟨ba, oa + j * 10 + 5, none⟩ = some (.int .u32 of)) (d6 : wr.cell? ⟨ba, oa + j * 10 + 6, none⟩ = some (.int .u8 re)) (d7 : wr.cell? ⟨ba, oa + j * 10 + 7, none⟩ = some (.slice iba ibl ibc)) (d8 : wr.cell? ⟨ba, oa + j * 10 + 8, none⟩ = some (.slice iea iel iec)) (d9 : wr.cell? ⟨ba, oa + j * 10 + 9, none⟩ = some (.slice ila ill ilc))
    (oc : wr.cell? ⟨Bo, 4, none⟩ = some (.slice ua j uc)) (hf : ∀ j, wr.frozen? ⟨Bo, j, none⟩ = false) (hown : wr.ownsRow base 114 10 (.slice ua j uc) j xs) (hbase : base ≤ wr.heap.size)
    (lo : Bo < wr.heap.size) (lm : Bm < wr.heap.size) (la : ba < wr.heap.size) (nom : ¬ Bm = Bo) (noa : ¬ ba = Bo) (no : (Value.slice ua j uc).ownBlock ≠ some Bo) (nm : (Value.slice ua j uc).ownBlock ≠ some Bm) (na : (Value.slice ua j uc).ownBlock ≠ some ba)
    (hc0 : ∀ W, Below wr.heap.size wr W → Calls Tryz.prog 23 #[.agg #[.int .u8 op, .int .i64 nn, .int .u32 al, .int .u32 of, .int .u8 re, .slice iba ibl ibc, .slice iea iel iec, .slice ila ill ilc]] W fun e w' => ∃ xba xbl xbc xea xel xec xla xll xlc, e = .returned (.agg #[.int .u8 op, .int .i64 nn, .int .u32 al, .int .u32 of, .int .u8 re, .slice xba xbl xbc, .slice xea xel xec, .slice xla xll xlc]) ∧ PK0 W w' (.agg #[.int .u8 op, .int .i64 nn, .int .u32 al, .int .u32 of, .int .u8 re, .slice xba xbl xbc, .slice xea xel xec, .slice xla xll xlc]) ∧ Below W.heap.size W w')
    (hnorm : ∀ (v105 v106 v107 v108 v109 v110 v111 v112 v113 v114 v115 v116 v117 v118 v119 v120 v121 v122 v123 v124 v125 v126 v127 v128 v129 v130 v131 v132 v133 v134 v135 v136 : Value) (xba : Option Addr) (xbl xbc : Nat) (xea : Option Addr) (xel xec : Nat) (xla : Option Addr) (xll xlc : Nat) (w1 : World) (wx : World) (gg cap : Nat), PK0 wr.drew w1 (.agg #[.int .u8 op, .int .i64 nn, .int .u32 al, .int .u32 of, .int .u8 re, .slice xba xbl xbc, .slice xea xel xec, .slice xla xll xlc]) → Below wr.drew.heap.size wr.drew w1 → wx.ownsRow base 114 10 (.slice (some ⟨gg, 0, none⟩) (j + 1) cap) (j + 1) (xs ++ [.int .u8 kd, .bool mu, .int .u8 op, .int .i64 nn, .int .u32 al, .int .u32 of, .int .u8 re, .slice xba xbl xbc, .slice xea xel xec, .slice xla xll xlc]) → (w1.alloc (.cells #[.int .u8 kd, .bool mu, .int .u8 op, .int .i64 nn, .int .u32 al, .int .u32 of, .int .u8 re, .slice xba xbl xbc, .slice xea xel xec, .slice xla xll xlc] 114)).grownBy wx (Value.slice ua j uc).ownBlock → ((Value.slice ua j uc).ownBlock = some gg ∨ gg = w1.heap.size + 1) → gg < wx.heap.size →
      Q0 .normal ⟨#[u0, .pointer (some ⟨Bm, 0, none⟩), .pointer (some ⟨Br, 0, none⟩), .pointer (some ⟨Bo, 0, none⟩), u4, u5, u6, u7, .int .i64 ((j : Int) + 1), u9, u10, u11, u12, u13, u14, u15, u16, u17, u18, u19, u20, u21, u22, u23, u24, u25, u26, u27, u28, u29, u30, u31, u32, u33, u34, u35, u36, u37, u38, u39, u40, u41, u42, u43, u44, u45, u46, u47, u48, u49, u50, u51, u52, u53, u54, u55, u56, u57, u58, u59, u60, u61, u62, u63, u64, u65, u66, u67, u68, u69, u70, u71, u72, u73, u74, u75, u76, u77, u78, u79, u80, u81, u82, u83, u84, u85, u86, u87, u88, u89, u90, u91, u92, u93, u94, u95, u96, u97, u98, u99, u100, u101, u102, u103, u104, v105, v106, v107, v108, v109, v110, v111, v112, v113, v114, v115, v116, v117, v118, v119, v120, v121, v122, v123, v124, v125, v126, v127, v128, v129, v130, v131, v132, v133, v134, v135, v136, u137, u138, u139, u140, u141, u142, u143, u144, u145, u146, u147, u148, u149, u150, u151, u152, u153, u154, u155, u156, u157, u158, u159, u160, u161, u162, u163, u164, u165, u166, u167, u168, u169, u170, u171, u172, u173, u174, u175, u176, u177, u178, u179, u180, u181, u182, u183, u184, u185, u186, u187, u188, u189, u190, u191, u192, u193, u194, u195, u196, u197, u198, u199, u200, u201, u202, u203, u204, u205, u206, u207, u208, u209, u210, u211, u212, u213, u214, u215, u216, u217, u218], []⟩ (wx.setCell ⟨Bo, 4, none⟩ (.slice (some ⟨gg, 0, none⟩) (j + 1) cap))) :
    Code.wp Tryz.prog gbody4 Q0 ⟨#[u0, .pointer (some ⟨Bm, 0, none⟩), .pointer (some ⟨Br, 0, none⟩), .pointer (some ⟨Bo, 0, none⟩), u4, u5, u6, u7, .int .i64 j, u9, u10, u11, u12, u13, u14, u15, u16, u17, u18, u19, u20, u21, u22, u23, u24, u25, u26, u27, u28, u29, u30, u31, u32, u33, u34, u35, u36, u37, u38, u39, u40, u41, u42, u43, u44, u45, u46, u47, u48, u49, u50, u51, u52, u53, u54, u55, u56, u57, u58, u59, u60, u61, u62, u63, u64, u65, u66, u67, u68, u69, u70, u71, u72, u73, u74, u75, u76, u77, u78, u79, u80, u81, u82, u83, u84, u85, u86, u87, u88, u89, u90, u91, u92, u93, u94, u95, u96, u97, u98, u99, u100, u101, u102, u103, u104, u105, u106, u107, u108, u109, u110, u111, u112, u113, u114, u115, u116, u117, u118, u119, u120, u121, u122, u123, u124, u125, u126, u127, u128, u129, u130, u131, u132, u133, u134, u135, u136, u137, u138, u139, u140, u141, u142, u143, u144, u145, u146, u147, u148, u149, u150, u151, u152, u153, u154, u155, u156, u157, u158, u159, u160, u161, u162, u163, u164, u165, u166, u167, u168, u169, u170, u171, u172, u173, u174, u175, u176, u177, u178, u179, u180, u181, u182, u183, u184, u185, u186, u187, u188, u189, u190, u191, u192, u193, u194, u195, u196, u197, u198, u199, u200, u201, u202, u203, u204, u205, u206, u207, u208, u209, u210, u211, u212, u213, u214, u215, u216, u217, u218], []⟩ wr := by
  obtain ⟨i0, hi, hz0, hz1, hz2⟩ := info_parts gmInfo4
  have HN := hide hnorm; have HO := hide hown; have HF := hide hf
  have HC0 := hide hc0
  clear hnorm hown hc0
  have nom2 : ¬ Bo = Bm := fun e => nom e.symm
  have noa2 : ¬ Bo = ba := fun e => noa e.symm
  conv => arg 2; whnf
  go_wp2_with fail
  refine wp_region_noPanic ?_
  refine wp_region_pop (S := fun w' => w'.cell? ⟨Bm, 4, none⟩ = some (.slice (some ⟨ba, oa, none⟩) n cp) ∧ w'.cell? ⟨ba, oa + j * 10, none⟩ = some (.int .u8 kd) ∧ w'.cell? ⟨ba, oa + j * 10 + 1, none⟩ = some (.bool mu) ∧ w'.cell? ⟨ba, oa + j * 10 + 2, none⟩ = some (.int .u8 op) ∧ w'.cell? ⟨ba, oa + j * 10 + 3, none⟩ = some (.int .i64 nn) ∧ w'.cell? ⟨ba, oa + j * 10 + 4, none⟩ = some (.int .u32 al) ∧ w'.cell? ⟨ba, oa + j * 10 + 5, none⟩ = some (.int .u32 of) ∧ w'.cell? ⟨ba, oa + j * 10 + 6, none⟩ = some (.int .u8 re) ∧ w'.cell? ⟨ba, oa + j * 10 + 7, none⟩ = some (.slice iba ibl ibc) ∧ w'.cell? ⟨ba, oa + j * 10 + 8, none⟩ = some (.slice iea iel iec) ∧ w'.cell? ⟨ba, oa + j * 10 + 9, none⟩ = some (.slice ila ill ilc) ∧ w'.cell? ⟨Bo, 4, none⟩ = some (.slice ua j uc)) _ rfl rfl (by kernel_rfl) (by kernel_rfl) ⟨hmc, d0, d1, d2, d3, d4, d5, d6, d7, d8, d9, oc⟩ (fun hHeld => ?_)
  simp only [List.pop_toArray, List.dropLast_cons_cons, List.dropLast_singleton, List.size_toArray, List.length_cons, List.length_nil, Nat.reduceAdd]
  refine wpAnyH_take (i := 0) (v := ?v0) rfl (by kernel_rfl) (by kernel_rfl) (by kernel_rfl) (fun _ _ _ h => h) (Or.inl ⟨by rfl, ?y0⟩) hHeld ?r0
  case y0 => (intro w hSw; (try dsimp only at hSw); go_simp; all_goals (with_reducible rfl))
  (try simp only [Act.put, List.getElem_toArray, List.getElem_cons_succ, List.getElem_cons_zero, List.setIfInBounds_toArray, List.set_cons_zero, List.set_cons_succ])
  refine wpAnyH_take (i := 1) (v := ?v1) rfl (by kernel_rfl) (by kernel_rfl) (by kernel_rfl) (fun _ _ _ h => h) (Or.inl ⟨by rfl, ?y1⟩) hHeld ?r1
  case y1 => (intro w hSw; (try dsimp only at hSw); go_simp; all_goals (with_reducible rfl))
  (try simp only [Act.put, List.getElem_toArray, List.getElem_cons_succ, List.getElem_cons_zero, List.setIfInBounds_toArray, List.set_cons_zero, List.set_cons_succ])
  refine wpAnyH_take (i := 2) (v := ?v2) rfl (by kernel_rfl) (by kernel_rfl) (by kernel_rfl) (fun _ _ _ h => h) (Or.inl ⟨by rfl, ?y2⟩) hHeld ?r2
  case y2 => (intro w hSw; (try dsimp only at hSw); go_simp; all_goals (with_reducible rfl))
  (try simp only [Act.put, List.getElem_toArray, List.getElem_cons_succ, List.getElem_cons_zero, List.setIfInBounds_toArray, List.set_cons_zero, List.set_cons_succ])
  refine wpAnyH_take (i := 3) (v := ?v3) rfl (by kernel_rfl) (by kernel_rfl) (by kernel_rfl) (fun _ _ _ h => h) (Or.inl ⟨by rfl, ?y3⟩) hHeld ?r3
  case y3 => (intro w hSw; (try dsimp only at hSw); go_simp; all_goals (with_reducible rfl))
  (try simp only [Act.put, List.getElem_toArray, List.getElem_cons_succ, List.getElem_cons_zero, List.setIfInBounds_toArray, List.set_cons_zero, List.set_cons_succ])
  refine wpAnyH_take (i := 4) (v := ?v4) rfl (by kernel_rfl) (by kernel_rfl) (by kernel_rfl) (fun _ _ _ h => h) (Or.inl ⟨by rfl, ?y4⟩) hHeld ?r4
  case y4 => (intro w hSw; (try dsimp only at hSw); go_simp; all_goals (with_reducible rfl))
  (try simp only [Act.put, List.getElem_toArray, List.getElem_cons_succ, List.getElem_cons_zero, List.setIfInBounds_toArray, List.set_cons_zero, List.set_cons_succ])
  refine wpAnyH_take (i := 5) (v := ?v5) rfl (by kernel_rfl) (by kernel_rfl) (by kernel_rfl) (fun _ _ _ h => h) (Or.inl ⟨by rfl, ?y5⟩) hHeld ?r5
  case y5 => (intro w hSw; (try dsimp only at hSw); go_simp; all_goals (with_reducible rfl))
  (try simp only [Act.put, List.getElem_toArray, List.getElem_cons_succ, List.getElem_cons_zero, List.setIfInBounds_toArray, List.set_cons_zero, List.set_cons_succ])
  refine wpAnyH_take (i := 6) (v := ?v6) rfl (by kernel_rfl) (by kernel_rfl) (by kernel_rfl) (fun _ _ _ h => h) (Or.inl ⟨by rfl, ?y6⟩) hHeld ?r6
  case y6 => (intro w hSw; (try dsimp only at hSw); go_simp; all_goals (with_reducible rfl))
  (try simp only [Act.put, List.getElem_toArray, List.getElem_cons_succ, List.getElem_cons_zero, List.setIfInBounds_toArray, List.set_cons_zero, List.set_cons_succ])
  refine wpAnyH_take (i := 7) (v := ?v7) rfl (by kernel_rfl) (by kernel_rfl) (by kernel_rfl) (fun _ _ _ h => h) (Or.inl ⟨by rfl, ?y7⟩) hHeld ?r7
  case y7 => (intro w hSw; (try dsimp only at hSw); go_simp; all_goals (with_reducible rfl))
  (try simp only [Act.put, List.getElem_toArray, List.getElem_cons_succ, List.getElem_cons_zero, List.setIfInBounds_toArray, List.set_cons_zero, List.set_cons_succ])
  refine wpAnyH_take (i := 8) (v := ?v8) rfl (by kernel_rfl) (by kernel_rfl) (by kernel_rfl) (fun _ _ _ h => h) (Or.inl ⟨by rfl, ?y8⟩) hHeld ?r8
  case y8 => (intro w hSw; (try dsimp only at hSw); go_simp; all_goals (with_reducible rfl))
  (try simp only [Act.put, List.getElem_toArray, List.getElem_cons_succ, List.getElem_cons_zero, List.setIfInBounds_toArray, List.set_cons_zero, List.set_cons_succ])
  refine wpAnyH_take (i := 9) (v := ?v9) rfl (by kernel_rfl) (by kernel_rfl) (by kernel_rfl) (fun _ _ _ h => h) (Or.inl ⟨by rfl, ?y9⟩) hHeld ?r9
  case y9 => (intro w hSw; (try dsimp only at hSw); go_simp; all_goals (with_reducible rfl))
  (try simp only [Act.put, List.getElem_toArray, List.getElem_cons_succ, List.getElem_cons_zero, List.setIfInBounds_toArray, List.set_cons_zero, List.set_cons_succ])
  refine wpAnyH_take (i := 10) (v := ?v10) rfl (by kernel_rfl) (by kernel_rfl) (by kernel_rfl) (fun _ _ _ h => h) (Or.inl ⟨by rfl, ?y10⟩) hHeld ?r10
  case y10 => (intro w hSw; (try dsimp only at hSw); go_simp; all_goals (with_reducible rfl))
  (try simp only [Act.put, List.getElem_toArray, List.getElem_cons_succ, List.getElem_cons_zero, List.setIfInBounds_toArray, List.set_cons_zero, List.set_cons_succ])
  refine wpAnyH_take (i := 11) (v := ?v11) rfl (by kernel_rfl) (by kernel_rfl) (by kernel_rfl) (fun _ _ _ h => h) (Or.inl ⟨by rfl, ?y11⟩) hHeld ?r11
  case y11 => (intro w hSw; (try dsimp only at hSw); go_simp; all_goals (with_reducible rfl))
  (try simp only [Act.put, List.getElem_toArray, List.getElem_cons_succ, List.getElem_cons_zero, List.setIfInBounds_toArray, List.set_cons_zero, List.set_cons_succ])
  refine wpAnyH_take (i := 12) (v := ?v12) rfl (by kernel_rfl) (by kernel_rfl) (by kernel_rfl) (fun _ _ _ h => h) (Or.inl ⟨by rfl, ?y12⟩) hHeld ?r12
  case y12 => (intro w hSw; (try dsimp only at hSw); go_simp; all_goals (with_reducible rfl))
  (try simp only [Act.put, List.getElem_toArray, List.getElem_cons_succ, List.getElem_cons_zero, List.setIfInBounds_toArray, List.set_cons_zero, List.set_cons_succ])
  refine wpAnyH_take (i := 13) (v := ?v13) rfl (by kernel_rfl) (by kernel_rfl) (by kernel_rfl) (fun _ _ _ h => h) (Or.inl ⟨by rfl, ?y13⟩) hHeld ?r13
  case y13 => (intro w hSw; (try dsimp only at hSw); go_simp; all_goals (with_reducible rfl))
  (try simp only [Act.put, List.getElem_toArray, List.getElem_cons_succ, List.getElem_cons_zero, List.setIfInBounds_toArray, List.set_cons_zero, List.set_cons_succ])
  refine wpAnyH_take (i := 14) (v := ?v14) rfl (by kernel_rfl) (by kernel_rfl) (by kernel_rfl) (fun _ _ _ h => h) (Or.inl ⟨by rfl, ?y14⟩) hHeld ?r14
  case y14 => (intro w hSw; (try dsimp only at hSw); go_simp; all_goals (with_reducible rfl))
  (try simp only [Act.put, List.getElem_toArray, List.getElem_cons_succ, List.getElem_cons_zero, List.setIfInBounds_toArray, List.set_cons_zero, List.set_cons_succ])
  refine wpAnyH_take (i := 15) (v := ?v15) rfl (by kernel_rfl) (by kernel_rfl) (by kernel_rfl) (fun _ _ _ h => h) (Or.inl ⟨by rfl, ?y15⟩) hHeld ?r15
  case y15 => (intro w hSw; (try dsimp only at hSw); go_simp; all_goals (with_reducible rfl))
  (try simp only [Act.put, List.getElem_toArray, List.getElem_cons_succ, List.getElem_cons_zero, List.setIfInBounds_toArray, List.set_cons_zero, List.set_cons_succ])
  refine wpAnyH_take (i := 16) (v := ?v16) rfl (by kernel_rfl) (by kernel_rfl) (by kernel_rfl) (fun _ _ _ h => h) (Or.inl ⟨by rfl, ?y16⟩) hHeld ?r16
  case y16 => (intro w hSw; (try dsimp only at hSw); go_simp; all_goals (with_reducible rfl))
  (try simp only [Act.put, List.getElem_toArray, List.getElem_cons_succ, List.getElem_cons_zero, List.setIfInBounds_toArray, List.set_cons_zero, List.set_cons_succ])
  refine wpAnyH_take (i := 17) (v := ?v17) rfl (by kernel_rfl) (by kernel_rfl) (by kernel_rfl) (fun _ _ _ h => h) (Or.inl ⟨by rfl, ?y17⟩) hHeld ?r17
  case y17 => (intro w hSw; (try dsimp only at hSw); go_simp; all_goals (with_reducible rfl))
  (try simp only [Act.put, List.getElem_toArray, List.getElem_cons_succ, List.getElem_cons_zero, List.setIfInBounds_toArray, List.set_cons_zero, List.set_cons_succ])
  refine wpAnyH_take (i := 18) (v := ?v18) rfl (by kernel_rfl) (by kernel_rfl) (by kernel_rfl) (fun _ _ _ h => h) (Or.inl ⟨by rfl, ?y18⟩) hHeld ?r18
  case y18 => (intro w hSw; (try dsimp only at hSw); go_simp; all_goals (with_reducible rfl))
  (try simp only [Act.put, List.getElem_toArray, List.getElem_cons_succ, List.getElem_cons_zero, List.setIfInBounds_toArray, List.set_cons_zero, List.set_cons_succ])
  refine wpAnyH_take (i := 19) (v := ?v19) rfl (by kernel_rfl) (by kernel_rfl) (by kernel_rfl) (fun _ _ _ h => h) (Or.inl ⟨by rfl, ?y19⟩) hHeld ?r19
  case y19 => (intro w hSw; (try dsimp only at hSw); go_simp; all_goals (with_reducible rfl))
  (try simp only [Act.put, List.getElem_toArray, List.getElem_cons_succ, List.getElem_cons_zero, List.setIfInBounds_toArray, List.set_cons_zero, List.set_cons_succ])
  refine wpAnyH_ready (rs := [20]) (by kernel_rfl) (by simp) ?_
  refine AllReadyH.cons rfl (fun K hK => ?_) AllReadyH.nil
  go_simp
  go_at_call 23
  refine (unhide HC0 _ (drew_below9 wr)).mono ?_
  rintro e w1 ⟨xba, xbl, xbc, xea, xel, xec, xla, xll, xlc, rfl, hP0, hb⟩
  have HP0 := hide hP0; have HBB0 := hide hb
  have HB1 := hide (Below.on (drew_below9 wr) hb)
  have hk : ∀ b o, b < wr.heap.size → w1.cell? ⟨b, o, none⟩ = wr.cell? ⟨b, o, none⟩ := fun b o hlt => (unhide HB1).cell (p := ⟨b, o, none⟩) hlt
  have hoc := (hk Bo 4 lo).trans oc
  have l1 : Bo < w1.heap.size := Nat.lt_of_lt_of_le lo (unhide HB1).size
  have lm1 : Bm < w1.heap.size := Nat.lt_of_lt_of_le lm (unhide HB1).size
  have la1 : ba < w1.heap.size := Nat.lt_of_lt_of_le la (unhide HB1).size
  clear hP0 hb
  (try go_wp2_with fail)
  refine hK.out _ _ ⟨(hk _ _ lm).trans hmc, (hk _ _ la).trans d0, (hk _ _ la).trans d1, (hk _ _ la).trans d2, (hk _ _ la).trans d3, (hk _ _ la).trans d4, (hk _ _ la).trans d5, (hk _ _ la).trans d6, (hk _ _ la).trans d7, (hk _ _ la).trans d8, (hk _ _ la).trans d9, hoc⟩ (fun hHeld => ?_)
  clear hK K hk hoc
  (try simp only [Act.put, List.getElem_toArray, List.getElem_cons_succ, List.getElem_cons_zero, List.setIfInBounds_toArray, List.set_cons_zero, List.set_cons_succ])
  refine wpAnyH_take (i := 21) (v := ?v21) rfl (by kernel_rfl) (by kernel_rfl) (by kernel_rfl) (fun _ _ _ h => h) (Or.inl ⟨by rfl, ?y21⟩) hHeld ?r21
  case y21 => (intro w hSw; (try dsimp only at hSw); go_simp; all_goals (with_reducible rfl))
  (try simp only [Act.put, List.getElem_toArray, List.getElem_cons_succ, List.getElem_cons_zero, List.setIfInBounds_toArray, List.set_cons_zero, List.set_cons_succ])
  refine wpAnyH_ready (rs := [22]) (by kernel_rfl) (by simp) ?_
  refine AllReadyH.cons rfl (fun K hK => ?_) AllReadyH.nil
  go_simp
  refine hK.out _ _ ?_ (fun hHeld => ?_)
  · (try dsimp only); go_keep
  clear hK K
  (try simp only [Act.put, List.getElem_toArray, List.getElem_cons_succ, List.getElem_cons_zero, List.setIfInBounds_toArray, List.set_cons_zero, List.set_cons_succ])
  refine wpAnyH_ready (rs := [23]) (by kernel_rfl) (by simp) ?_
  refine AllReadyH.cons rfl (fun K hK => ?_) AllReadyH.nil
  refine step_append_lies _ rfl (.tmp 113) (.tmp 134) 44 rfl base 114 i0 (.agg #[.int .u8 0, .bool false, .int .u8 0, .int .i64 0, .int .u32 0, .int .u32 0, .int .u8 0, .slice none 0 0, .slice none 0 0, .slice none 0 0]) 10 112 Tryz.underlying44 hi hz0 hz1 hz2 rfl (by decide) (.slice ua j uc) j xs rfl (ownsRow_below (unhide HO) (Below.on (unhide HB1) (one_alloc w1 (.cells #[.int .u8 kd, .bool mu, .int .u8 op, .int .i64 nn, .int .u32 al, .int .u32 of, .int .u8 re, .slice xba xbl xbc, .slice xea xel xec, .slice xla xll xlc] 114)))) ⟨w1.heap.size, 0, none⟩ 1 1 [.int .u8 kd, .bool mu, .int .u8 op, .int .i64 nn, .int .u32 al, .int .u32 of, .int .u8 re, .slice xba xbl xbc, .slice xea xel xec, .slice xla xll xlc] rfl rfl (new_cells _ _ _) (by intro u hu; simp only [List.mem_cons, List.not_mem_nil, or_false] at hu; rcases hu with rfl | rfl | rfl | rfl | rfl | rfl | rfl | rfl | rfl | rfl <;> rfl) (by omega) (by unfold maxLen; omega) (by omega) (Nat.le_trans hbase (Nat.le_trans (unhide HB1).size (one_alloc w1 (.cells #[.int .u8 kd, .bool mu, .int .u8 op, .int .i64 nn, .int .u32 al, .int .u32 of, .int .u8 re, .slice xba xbl xbc, .slice xea xel xec, .slice xla xll xlc] 114)).size)) (w1.heap.size + 1) (by simp) ?_
  intro gg cap wx hown5 hgrow hat hlt5
  have hk2 : ∀ b o, b < wr.heap.size → (Value.slice ua j uc).ownBlock ≠ some b → wx.cell? ⟨b, o, none⟩ = wr.cell? ⟨b, o, none⟩ := fun b o hlt hne => (World.cell?_of_block (a := ⟨b, o, none⟩) (hgrow.block b (Nat.lt_of_lt_of_le hlt (Nat.le_trans (unhide HB1).size (one_alloc w1 (.cells #[.int .u8 kd, .bool mu, .int .u8 op, .int .i64 nn, .int .u32 al, .int .u32 of, .int .u8 re, .slice xba xbl xbc, .slice xea xel xec, .slice xla xll xlc] 114)).size)) (fun e => hne e.symm))).trans ((Below.on (unhide HB1) (one_alloc w1 (.cells #[.int .u8 kd, .bool mu, .int .u8 op, .int .i64 nn, .int .u32 al, .int .u32 of, .int .u8 re, .slice xba xbl xbc, .slice xea xel xec, .slice xla xll xlc] 114))).cell (p := ⟨b, o, none⟩) hlt)
  have hx : wx.heap[Bo]? = wr.heap[Bo]? := (hgrow.block Bo (Nat.lt_of_lt_of_le lo (Nat.le_trans (unhide HB1).size (one_alloc w1 (.cells #[.int .u8 kd, .bool mu, .int .u8 op, .int .i64 nn, .int .u32 al, .int .u32 of, .int .u8 re, .slice xba xbl xbc, .slice xea xel xec, .slice xla xll xlc] 114)).size)) (fun e => no e.symm)).trans ((Below.on (unhide HB1) (one_alloc w1 (.cells #[.int .u8 kd, .bool mu, .int .u8 op, .int .i64 nn, .int .u32 al, .int .u32 of, .int .u8 re, .slice xba xbl xbc, .slice xea xel xec, .slice xla xll xlc] 114))).block Bo lo)
  have xo : wx.cell? ⟨Bo, 4, none⟩ = some (.slice ua j uc) := (World.cell?_of_block (a := ⟨Bo, 4, none⟩) hx).trans oc
  have xf : ∀ j, wx.frozen? ⟨Bo, j, none⟩ = false := fun j => by have := unhide HF j; simp only [World.frozen?, hx] at this ⊢; exact this
  have xm := (hk2 Bm 4 lm nm).trans hmc
  have x0 := (hk2 ba (oa + j * 10) la na).trans d0
  have x1 := (hk2 ba (oa + j * 10 + 1) la na).trans d1
  have x2 := (hk2 ba (oa + j * 10 + 2) la na).trans d2
  have x3 := (hk2 ba (oa + j * 10 + 3) la na).trans d3
  have x4 := (hk2 ba (oa + j * 10 + 4) la na).trans d4
  have x5 := (hk2 ba (oa + j * 10 + 5) la na).trans d5
  have x6 := (hk2 ba (oa + j * 10 + 6) la na).trans d6
  have x7 := (hk2 ba (oa + j * 10 + 7) la na).trans d7
  have x8 := (hk2 ba (oa + j * 10 + 8) la na).trans d8
  have x9 := (hk2 ba (oa + j * 10 + 9) la na).trans d9
  have H5 := hide hown5; have HG5 := hide hgrow; have HA5 := hide hat; have HL5 := hide hlt5
  clear hown5 hgrow hat hlt5 hx
  refine hK.out _ _ ⟨xm, x0, x1, x2, x3, x4, x5, x6, x7, x8, x9, xo⟩ (fun hHeld => ?_)
  clear hK K
  (try simp only [Act.put, List.getElem_toArray, List.getElem_cons_succ, List.getElem_cons_zero, List.setIfInBounds_toArray, List.set_cons_zero, List.set_cons_succ])
  refine wpAnyH_take (i := 24) (v := ?v24) rfl (by kernel_rfl) (by kernel_rfl) (by kernel_rfl) (fun _ _ _ h => h) (Or.inl ⟨by rfl, ?y24⟩) hHeld ?r24
  case y24 => (intro w hSw; (try dsimp only at hSw); go_simp; all_goals (with_reducible rfl))
  (try simp only [Act.put, List.getElem_toArray, List.getElem_cons_succ, List.getElem_cons_zero, List.setIfInBounds_toArray, List.set_cons_zero, List.set_cons_succ])
  refine wpAnyH_done (by kernel_rfl) ?_ _
  simp only [lastQ]
  refine wpOp_step rfl (fun K hK => ?_)
  go_simp
  refine hK _ _ ?_
  refine NoPanic.normal ?_
  go_wp2
  exact (unhide HN) _ _ _ _ _ _ _ _ _ _ _ _ _ _ _ _ _ _ _ _ _ _ _ _ _ _ _ _ _ _ _ _ xba xbl xbc xea xel xec xla xll xlc w1 wx gg cap (unhide HP0) (unhide HBB0) (unhide H5) (unhide HG5) (unhide HA5) (unhide HL5)
end Gm
end Go.Proofs.YtheopjcmhclgdaaGreatDoor

/- A round of giveModule's loop 5. -/
namespace Go.Proofs.YtheopjcmhclgdaaGreatDoor
open Go.RowKit
namespace Gm
set_option linter.unusedVariables false
set_option linter.unusedSimpArgs false
set_option maxRecDepth 1000000 in
set_option maxHeartbeats 6400000 in
theorem gm_5 {u0 u4 u5 u6 u7 u8 u10 u11 u12 u13 u14 u15 u16 u17 u18 u19 u20 u21 u22 u23 u24 u25 u26 u27 u28 u29 u30 u31 u32 u33 u34 u35 u36 u37 u38 u39 u40 u41 u42 u43 u44 u45 u46 u47 u48 u49 u50 u51 u52 u53 u54 u55 u56 u57 u58 u59 u60 u61 u62 u63 u64 u65 u66 u67 u68 u69 u70 u71 u72 u73 u74 u75 u76 u77 u78 u79 u80 u81 u82 u83 u84 u85 u86 u87 u88 u89 u90 u91 u92 u93 u94 u95 u96 u97 u98 u99 u100 u101 u102 u103 u104 u105 u106 u107 u108 u109 u110 u111 u112 u113 u114 u115 u116 u117 u118 u119 u120 u121 u122 u123 u124 u125 u126 u127 u128 u129 u130 u131 u132 u133 u134 u135 u136 u137 u138 u139 u140 u141 u142 u143 u144 u145 u146 u147 u148 u149 u150 u151 u152 u153 u154 u155 u156 u157 u158 u159 u160 u161 u162 u163 u164 u165 u166 u167 u168 u169 u170 u171 u172 u173 u174 u175 u176 u177 u178 u179 u180 u181 u182 u183 u184 u185 u186 u187 u188 u189 u190 u191 u192 u193 u194 u195 u196 u197 u198 u199 u200 u201 u202 u203 u204 u205 u206 u207 u208 u209 u210 u211 u212 u213 u214 u215 u216 u217 u218 : Value} {Bm Br Bo base ba oa n cp j uc : Nat} {ua : Option Addr} {wh ix : Int} {sn : ByteArray} {xs : List Value} {wr : World} {Q0 : Exit → Act → World → Prop}
    (hjn : (j : Int) < (n : Int)) (hnb : (n : Int) ≤ 1048576) (hmc : wr.cell? ⟨Bm, 5, none⟩ = some (.slice (some ⟨ba, oa, none⟩) n cp)) (d0 : wr.cell? ⟨ba, oa + j * 3, none⟩ = some (.string sn)) (d1 : wr.cell? ⟨ba, oa + j * 3 + 1, none⟩ = some (.int .u8 wh)) (d2 : wr.cell? ⟨ba, oa + j * 3 + 2, none⟩ = some (.int .u32 ix))
    (oc : wr.cell? ⟨Bo, 5, none⟩ = some (.slice ua j uc)) (hf : ∀ j, wr.frozen? ⟨Bo, j, none⟩ = false) (hown : wr.ownsRow base 115 3 (.slice ua j uc) j xs) (hbase : base ≤ wr.heap.size)
    (lo : Bo < wr.heap.size) (lm : Bm < wr.heap.size) (la : ba < wr.heap.size) (nom : ¬ Bm = Bo) (noa : ¬ ba = Bo) (no : (Value.slice ua j uc).ownBlock ≠ some Bo) (nm : (Value.slice ua j uc).ownBlock ≠ some Bm) (na : (Value.slice ua j uc).ownBlock ≠ some ba)
    (hnorm : ∀ (v137 v138 v139 v140 v141 v142 v143 v144 v145 v146 v147 v148 v149 v150 v151 v152 v153 : Value)   (wx : World) (gg cap : Nat), wx.ownsRow base 115 3 (.slice (some ⟨gg, 0, none⟩) (j + 1) cap) (j + 1) (xs ++ [.string sn, .int .u8 wh, .int .u32 ix]) → (wr.drew.alloc (.cells #[.string sn, .int .u8 wh, .int .u32 ix] 115)).grownBy wx (Value.slice ua j uc).ownBlock → ((Value.slice ua j uc).ownBlock = some gg ∨ gg = wr.drew.heap.size + 1) → gg < wx.heap.size →
      Q0 .normal ⟨#[u0, .pointer (some ⟨Bm, 0, none⟩), .pointer (some ⟨Br, 0, none⟩), .pointer (some ⟨Bo, 0, none⟩), u4, u5, u6, u7, u8, .int .i64 ((j : Int) + 1), u10, u11, u12, u13, u14, u15, u16, u17, u18, u19, u20, u21, u22, u23, u24, u25, u26, u27, u28, u29, u30, u31, u32, u33, u34, u35, u36, u37, u38, u39, u40, u41, u42, u43, u44, u45, u46, u47, u48, u49, u50, u51, u52, u53, u54, u55, u56, u57, u58, u59, u60, u61, u62, u63, u64, u65, u66, u67, u68, u69, u70, u71, u72, u73, u74, u75, u76, u77, u78, u79, u80, u81, u82, u83, u84, u85, u86, u87, u88, u89, u90, u91, u92, u93, u94, u95, u96, u97, u98, u99, u100, u101, u102, u103, u104, u105, u106, u107, u108, u109, u110, u111, u112, u113, u114, u115, u116, u117, u118, u119, u120, u121, u122, u123, u124, u125, u126, u127, u128, u129, u130, u131, u132, u133, u134, u135, u136, v137, v138, v139, v140, v141, v142, v143, v144, v145, v146, v147, v148, v149, v150, v151, v152, v153, u154, u155, u156, u157, u158, u159, u160, u161, u162, u163, u164, u165, u166, u167, u168, u169, u170, u171, u172, u173, u174, u175, u176, u177, u178, u179, u180, u181, u182, u183, u184, u185, u186, u187, u188, u189, u190, u191, u192, u193, u194, u195, u196, u197, u198, u199, u200, u201, u202, u203, u204, u205, u206, u207, u208, u209, u210, u211, u212, u213, u214, u215, u216, u217, u218], []⟩ (wx.setCell ⟨Bo, 5, none⟩ (.slice (some ⟨gg, 0, none⟩) (j + 1) cap))) :
    Code.wp Tryz.prog gbody5 Q0 ⟨#[u0, .pointer (some ⟨Bm, 0, none⟩), .pointer (some ⟨Br, 0, none⟩), .pointer (some ⟨Bo, 0, none⟩), u4, u5, u6, u7, u8, .int .i64 j, u10, u11, u12, u13, u14, u15, u16, u17, u18, u19, u20, u21, u22, u23, u24, u25, u26, u27, u28, u29, u30, u31, u32, u33, u34, u35, u36, u37, u38, u39, u40, u41, u42, u43, u44, u45, u46, u47, u48, u49, u50, u51, u52, u53, u54, u55, u56, u57, u58, u59, u60, u61, u62, u63, u64, u65, u66, u67, u68, u69, u70, u71, u72, u73, u74, u75, u76, u77, u78, u79, u80, u81, u82, u83, u84, u85, u86, u87, u88, u89, u90, u91, u92, u93, u94, u95, u96, u97, u98, u99, u100, u101, u102, u103, u104, u105, u106, u107, u108, u109, u110, u111, u112, u113, u114, u115, u116, u117, u118, u119, u120, u121, u122, u123, u124, u125, u126, u127, u128, u129, u130, u131, u132, u133, u134, u135, u136, u137, u138, u139, u140, u141, u142, u143, u144, u145, u146, u147, u148, u149, u150, u151, u152, u153, u154, u155, u156, u157, u158, u159, u160, u161, u162, u163, u164, u165, u166, u167, u168, u169, u170, u171, u172, u173, u174, u175, u176, u177, u178, u179, u180, u181, u182, u183, u184, u185, u186, u187, u188, u189, u190, u191, u192, u193, u194, u195, u196, u197, u198, u199, u200, u201, u202, u203, u204, u205, u206, u207, u208, u209, u210, u211, u212, u213, u214, u215, u216, u217, u218], []⟩ wr := by
  obtain ⟨i0, hi, hz0, hz1, hz2⟩ := info_parts gmInfo5
  have HN := hide hnorm; have HO := hide hown; have HF := hide hf

  clear hnorm hown
  have nom2 : ¬ Bo = Bm := fun e => nom e.symm
  have noa2 : ¬ Bo = ba := fun e => noa e.symm
  conv => arg 2; whnf
  go_wp2_with fail
  refine wp_region_noPanic ?_
  refine wp_region_pop (S := fun w' => w'.cell? ⟨Bm, 5, none⟩ = some (.slice (some ⟨ba, oa, none⟩) n cp) ∧ w'.cell? ⟨ba, oa + j * 3, none⟩ = some (.string sn) ∧ w'.cell? ⟨ba, oa + j * 3 + 1, none⟩ = some (.int .u8 wh) ∧ w'.cell? ⟨ba, oa + j * 3 + 2, none⟩ = some (.int .u32 ix) ∧ w'.cell? ⟨Bo, 5, none⟩ = some (.slice ua j uc)) _ rfl rfl (by kernel_rfl) (by kernel_rfl) ⟨hmc, d0, d1, d2, oc⟩ (fun hHeld => ?_)
  simp only [List.pop_toArray, List.dropLast_cons_cons, List.dropLast_singleton, List.size_toArray, List.length_cons, List.length_nil, Nat.reduceAdd]
  refine wpAnyH_take (i := 0) (v := ?v0) rfl (by kernel_rfl) (by kernel_rfl) (by kernel_rfl) (fun _ _ _ h => h) (Or.inl ⟨by rfl, ?y0⟩) hHeld ?r0
  case y0 => (intro w hSw; (try dsimp only at hSw); go_simp; all_goals (with_reducible rfl))
  (try simp only [Act.put, List.getElem_toArray, List.getElem_cons_succ, List.getElem_cons_zero, List.setIfInBounds_toArray, List.set_cons_zero, List.set_cons_succ])
  refine wpAnyH_take (i := 1) (v := ?v1) rfl (by kernel_rfl) (by kernel_rfl) (by kernel_rfl) (fun _ _ _ h => h) (Or.inl ⟨by rfl, ?y1⟩) hHeld ?r1
  case y1 => (intro w hSw; (try dsimp only at hSw); go_simp; all_goals (with_reducible rfl))
  (try simp only [Act.put, List.getElem_toArray, List.getElem_cons_succ, List.getElem_cons_zero, List.setIfInBounds_toArray, List.set_cons_zero, List.set_cons_succ])
  refine wpAnyH_take (i := 2) (v := ?v2) rfl (by kernel_rfl) (by kernel_rfl) (by kernel_rfl) (fun _ _ _ h => h) (Or.inl ⟨by rfl, ?y2⟩) hHeld ?r2
  case y2 => (intro w hSw; (try dsimp only at hSw); go_simp; all_goals (with_reducible rfl))
  (try simp only [Act.put, List.getElem_toArray, List.getElem_cons_succ, List.getElem_cons_zero, List.setIfInBounds_toArray, List.set_cons_zero, List.set_cons_succ])
  refine wpAnyH_take (i := 3) (v := ?v3) rfl (by kernel_rfl) (by kernel_rfl) (by kernel_rfl) (fun _ _ _ h => h) (Or.inl ⟨by rfl, ?y3⟩) hHeld ?r3
  case y3 => (intro w hSw; (try dsimp only at hSw); go_simp; all_goals (with_reducible rfl))
  (try simp only [Act.put, List.getElem_toArray, List.getElem_cons_succ, List.getElem_cons_zero, List.setIfInBounds_toArray, List.set_cons_zero, List.set_cons_succ])
  refine wpAnyH_take (i := 4) (v := ?v4) rfl (by kernel_rfl) (by kernel_rfl) (by kernel_rfl) (fun _ _ _ h => h) (Or.inl ⟨by rfl, ?y4⟩) hHeld ?r4
  case y4 => (intro w hSw; (try dsimp only at hSw); go_simp; all_goals (with_reducible rfl))
  (try simp only [Act.put, List.getElem_toArray, List.getElem_cons_succ, List.getElem_cons_zero, List.setIfInBounds_toArray, List.set_cons_zero, List.set_cons_succ])
  refine wpAnyH_take (i := 5) (v := ?v5) rfl (by kernel_rfl) (by kernel_rfl) (by kernel_rfl) (fun _ _ _ h => h) (Or.inl ⟨by rfl, ?y5⟩) hHeld ?r5
  case y5 => (intro w hSw; (try dsimp only at hSw); go_simp; all_goals (with_reducible rfl))
  (try simp only [Act.put, List.getElem_toArray, List.getElem_cons_succ, List.getElem_cons_zero, List.setIfInBounds_toArray, List.set_cons_zero, List.set_cons_succ])
  refine wpAnyH_take (i := 6) (v := ?v6) rfl (by kernel_rfl) (by kernel_rfl) (by kernel_rfl) (fun _ _ _ h => h) (Or.inl ⟨by rfl, ?y6⟩) hHeld ?r6
  case y6 => (intro w hSw; (try dsimp only at hSw); go_simp; all_goals (with_reducible rfl))
  (try simp only [Act.put, List.getElem_toArray, List.getElem_cons_succ, List.getElem_cons_zero, List.setIfInBounds_toArray, List.set_cons_zero, List.set_cons_succ])
  refine wpAnyH_ready (rs := [7]) (by kernel_rfl) (by simp) ?_
  refine AllReadyH.cons rfl (fun K hK => ?_) AllReadyH.nil
  go_simp
  refine hK.out _ _ ?_ (fun hHeld => ?_)
  · (try dsimp only); go_keep
  clear hK K
  (try simp only [Act.put, List.getElem_toArray, List.getElem_cons_succ, List.getElem_cons_zero, List.setIfInBounds_toArray, List.set_cons_zero, List.set_cons_succ])
  refine wpAnyH_ready (rs := [8]) (by kernel_rfl) (by simp) ?_
  refine AllReadyH.cons rfl (fun K hK => ?_) AllReadyH.nil
  refine step_append_lies _ rfl (.tmp 145) (.tmp 151) 45 rfl base 115 i0 (.agg #[.string ⟨#[]⟩, .int .u8 0, .int .u32 0]) 3 24 Tryz.underlying45 hi hz0 hz1 hz2 rfl (by decide) (.slice ua j uc) j xs rfl (ownsRow_below (unhide HO) (Below.on (drew_below9 wr) (one_alloc wr.drew (.cells #[.string sn, .int .u8 wh, .int .u32 ix] 115)))) ⟨wr.drew.heap.size, 0, none⟩ 1 1 [.string sn, .int .u8 wh, .int .u32 ix] rfl rfl (new_cells _ _ _) (by intro u hu; simp only [List.mem_cons, List.not_mem_nil, or_false] at hu; rcases hu with rfl | rfl | rfl <;> rfl) (by omega) (by unfold maxLen; omega) (by omega) (Nat.le_trans hbase (Nat.le_trans (drew_below9 wr).size (one_alloc wr.drew (.cells #[.string sn, .int .u8 wh, .int .u32 ix] 115)).size)) (wr.drew.heap.size + 1) (by simp) ?_
  intro gg cap wx hown5 hgrow hat hlt5
  have hk2 : ∀ b o, b < wr.heap.size → (Value.slice ua j uc).ownBlock ≠ some b → wx.cell? ⟨b, o, none⟩ = wr.cell? ⟨b, o, none⟩ := fun b o hlt hne => (World.cell?_of_block (a := ⟨b, o, none⟩) (hgrow.block b (Nat.lt_of_lt_of_le hlt (Nat.le_trans (drew_below9 wr).size (one_alloc wr.drew (.cells #[.string sn, .int .u8 wh, .int .u32 ix] 115)).size)) (fun e => hne e.symm))).trans ((Below.on (drew_below9 wr) (one_alloc wr.drew (.cells #[.string sn, .int .u8 wh, .int .u32 ix] 115))).cell (p := ⟨b, o, none⟩) hlt)
  have hx : wx.heap[Bo]? = wr.heap[Bo]? := (hgrow.block Bo (Nat.lt_of_lt_of_le lo (Nat.le_trans (drew_below9 wr).size (one_alloc wr.drew (.cells #[.string sn, .int .u8 wh, .int .u32 ix] 115)).size)) (fun e => no e.symm)).trans ((Below.on (drew_below9 wr) (one_alloc wr.drew (.cells #[.string sn, .int .u8 wh, .int .u32 ix] 115))).block Bo lo)
  have xo : wx.cell? ⟨Bo, 5, none⟩ = some (.slice ua j uc) := (World.cell?_of_block (a := ⟨Bo, 5, none⟩) hx).trans oc
  have xf : ∀ j, wx.frozen? ⟨Bo, j, none⟩ = false := fun j => by have := unhide HF j; simp only [World.frozen?, hx] at this ⊢; exact this
  have xm := (hk2 Bm 5 lm nm).trans hmc
  have x0 := (hk2 ba (oa + j * 3) la na).trans d0
  have x1 := (hk2 ba (oa + j * 3 + 1) la na).trans d1
  have x2 := (hk2 ba (oa + j * 3 + 2) la na).trans d2
  have H5 := hide hown5; have HG5 := hide hgrow; have HA5 := hide hat; have HL5 := hide hlt5
  clear hown5 hgrow hat hlt5 hx
  refine hK.out _ _ ⟨xm, x0, x1, x2, xo⟩ (fun hHeld => ?_)
  clear hK K
  (try simp only [Act.put, List.getElem_toArray, List.getElem_cons_succ, List.getElem_cons_zero, List.setIfInBounds_toArray, List.set_cons_zero, List.set_cons_succ])
  refine wpAnyH_take (i := 9) (v := ?v9) rfl (by kernel_rfl) (by kernel_rfl) (by kernel_rfl) (fun _ _ _ h => h) (Or.inl ⟨by rfl, ?y9⟩) hHeld ?r9
  case y9 => (intro w hSw; (try dsimp only at hSw); go_simp; all_goals (with_reducible rfl))
  (try simp only [Act.put, List.getElem_toArray, List.getElem_cons_succ, List.getElem_cons_zero, List.setIfInBounds_toArray, List.set_cons_zero, List.set_cons_succ])
  refine wpAnyH_done (by kernel_rfl) ?_ _
  simp only [lastQ]
  refine wpOp_step rfl (fun K hK => ?_)
  go_simp
  refine hK _ _ ?_
  refine NoPanic.normal ?_
  go_wp2
  exact (unhide HN) _ _ _ _ _ _ _ _ _ _ _ _ _ _ _ _ _   wx gg cap  (unhide H5) (unhide HG5) (unhide HA5) (unhide HL5)
end Gm
end Go.Proofs.YtheopjcmhclgdaaGreatDoor

/- A round of giveModule's loop 6. -/
namespace Go.Proofs.YtheopjcmhclgdaaGreatDoor
open Go.RowKit
namespace Gm
set_option linter.unusedVariables false
set_option linter.unusedSimpArgs false
set_option maxRecDepth 1000000 in
set_option maxHeartbeats 6400000 in
theorem gm_6 {u0 u4 u5 u6 u7 u8 u9 u11 u12 u13 u14 u15 u16 u17 u18 u19 u20 u21 u22 u23 u24 u25 u26 u27 u28 u29 u30 u31 u32 u33 u34 u35 u36 u37 u38 u39 u40 u41 u42 u43 u44 u45 u46 u47 u48 u49 u50 u51 u52 u53 u54 u55 u56 u57 u58 u59 u60 u61 u62 u63 u64 u65 u66 u67 u68 u69 u70 u71 u72 u73 u74 u75 u76 u77 u78 u79 u80 u81 u82 u83 u84 u85 u86 u87 u88 u89 u90 u91 u92 u93 u94 u95 u96 u97 u98 u99 u100 u101 u102 u103 u104 u105 u106 u107 u108 u109 u110 u111 u112 u113 u114 u115 u116 u117 u118 u119 u120 u121 u122 u123 u124 u125 u126 u127 u128 u129 u130 u131 u132 u133 u134 u135 u136 u137 u138 u139 u140 u141 u142 u143 u144 u145 u146 u147 u148 u149 u150 u151 u152 u153 u154 u155 u156 u157 u158 u159 u160 u161 u162 u163 u164 u165 u166 u167 u168 u169 u170 u171 u172 u173 u174 u175 u176 u177 u178 u179 u180 u181 u182 u183 u184 u185 u186 u187 u188 u189 u190 u191 u192 u193 u194 u195 u196 u197 u198 u199 u200 u201 u202 u203 u204 u205 u206 u207 u208 u209 u210 u211 u212 u213 u214 u215 u216 u217 u218 : Value} {Bm Br Bo base ba oa n cp j uc : Nat} {ua : Option Addr} {tb op nn al of re : Int} {iba iea ila fa : Option Addr} {ibl ibc iel iec ill ilc fl fc : Nat} {PK0 : World → World → Value → Prop} {xs : List Value} {wr : World} {Q0 : Exit → Act → World → Prop}
    (hjn : (j : Int) < (n : Int)) (hnb : (n : Int) ≤ 1048576) (hmc : wr.cell? ⟨Bm, 6, none⟩ = some (.slice (some ⟨ba, oa, none⟩) n cp)) (d0 : wr.cell? ⟨ba, oa + j * 10, none⟩ = some (.int .u32 tb)) (d1 : wr.cell? ⟨ba, oa + j * 10 + 1, none⟩ = some (.int .u8 op)) (d2 : wr.cell? ⟨ba, oa + j * 10 + 2, none⟩ = some (.int .i64 nn)) (d3 : wr.cell? ⟨ba, oa + j * 10 + 3, none⟩ = some (.int .u32 al)) (d4 : wr.cell? ⟨ba, oa + j * 10 + 4, none⟩ = some (.int .u32 of)) (d5 : wr.cell? ⟨ba, oa + j * 10 + 5, none⟩ = some (.int .u8 re)) (d6 : wr.cell? ⟨ba, oa + j * 10 + 6, none⟩ = some (.slice iba ibl ibc)) (d7 : wr.cell? ⟨ba, oa + j * 10 + 7, none⟩ = some (.slice iea iel iec)) (d8 : wr.cell? ⟨ba, oa + j * 10 + 8, none⟩ = some (.slice ila ill ilc)) (d9 : wr.cell? ⟨ba, oa + j * 10 + 9, none⟩ = some (.slice fa fl fc))
    (oc : wr.cell? ⟨Bo, 6, none⟩ = some (.slice ua j uc)) (hf : ∀ j, wr.frozen? ⟨Bo, j, none⟩ = false) (hown : wr.ownsRow base 117 10 (.slice ua j uc) j xs) (hbase : base ≤ wr.heap.size)
    (lo : Bo < wr.heap.size) (lm : Bm < wr.heap.size) (la : ba < wr.heap.size) (nom : ¬ Bm = Bo) (noa : ¬ ba = Bo) (no : (Value.slice ua j uc).ownBlock ≠ some Bo) (nm : (Value.slice ua j uc).ownBlock ≠ some Bm) (na : (Value.slice ua j uc).ownBlock ≠ some ba)
    (hc0 : ∀ W, Below wr.heap.size wr W → Calls Tryz.prog 23 #[.agg #[.int .u8 op, .int .i64 nn, .int .u32 al, .int .u32 of, .int .u8 re, .slice iba ibl ibc, .slice iea iel iec, .slice ila ill ilc]] W fun e w' => ∃ xba xbl xbc xea xel xec xla xll xlc, e = .returned (.agg #[.int .u8 op, .int .i64 nn, .int .u32 al, .int .u32 of, .int .u8 re, .slice xba xbl xbc, .slice xea xel xec, .slice xla xll xlc]) ∧ PK0 W w' (.agg #[.int .u8 op, .int .i64 nn, .int .u32 al, .int .u32 of, .int .u8 re, .slice xba xbl xbc, .slice xea xel xec, .slice xla xll xlc]) ∧ Below W.heap.size W w')
    (hnorm : ∀ (v154 v155 v156 v157 v158 v159 v160 v161 v162 v163 v164 v165 v166 v167 v168 v169 v170 v171 v172 v173 v174 v175 v176 v177 v178 v179 v180 v181 v182 v183 v184 v185 : Value) (xba : Option Addr) (xbl xbc : Nat) (xea : Option Addr) (xel xec : Nat) (xla : Option Addr) (xll xlc : Nat) (w1 : World) (wx : World) (gg cap : Nat), PK0 wr.drew w1 (.agg #[.int .u8 op, .int .i64 nn, .int .u32 al, .int .u32 of, .int .u8 re, .slice xba xbl xbc, .slice xea xel xec, .slice xla xll xlc]) → Below wr.drew.heap.size wr.drew w1 → wx.ownsRow base 117 10 (.slice (some ⟨gg, 0, none⟩) (j + 1) cap) (j + 1) (xs ++ [.int .u32 tb, .int .u8 op, .int .i64 nn, .int .u32 al, .int .u32 of, .int .u8 re, .slice xba xbl xbc, .slice xea xel xec, .slice xla xll xlc, .slice fa fl fc]) → (w1.alloc (.cells #[.int .u32 tb, .int .u8 op, .int .i64 nn, .int .u32 al, .int .u32 of, .int .u8 re, .slice xba xbl xbc, .slice xea xel xec, .slice xla xll xlc, .slice fa fl fc] 117)).grownBy wx (Value.slice ua j uc).ownBlock → ((Value.slice ua j uc).ownBlock = some gg ∨ gg = w1.heap.size + 1) → gg < wx.heap.size →
      Q0 .normal ⟨#[u0, .pointer (some ⟨Bm, 0, none⟩), .pointer (some ⟨Br, 0, none⟩), .pointer (some ⟨Bo, 0, none⟩), u4, u5, u6, u7, u8, u9, .int .i64 ((j : Int) + 1), u11, u12, u13, u14, u15, u16, u17, u18, u19, u20, u21, u22, u23, u24, u25, u26, u27, u28, u29, u30, u31, u32, u33, u34, u35, u36, u37, u38, u39, u40, u41, u42, u43, u44, u45, u46, u47, u48, u49, u50, u51, u52, u53, u54, u55, u56, u57, u58, u59, u60, u61, u62, u63, u64, u65, u66, u67, u68, u69, u70, u71, u72, u73, u74, u75, u76, u77, u78, u79, u80, u81, u82, u83, u84, u85, u86, u87, u88, u89, u90, u91, u92, u93, u94, u95, u96, u97, u98, u99, u100, u101, u102, u103, u104, u105, u106, u107, u108, u109, u110, u111, u112, u113, u114, u115, u116, u117, u118, u119, u120, u121, u122, u123, u124, u125, u126, u127, u128, u129, u130, u131, u132, u133, u134, u135, u136, u137, u138, u139, u140, u141, u142, u143, u144, u145, u146, u147, u148, u149, u150, u151, u152, u153, v154, v155, v156, v157, v158, v159, v160, v161, v162, v163, v164, v165, v166, v167, v168, v169, v170, v171, v172, v173, v174, v175, v176, v177, v178, v179, v180, v181, v182, v183, v184, v185, u186, u187, u188, u189, u190, u191, u192, u193, u194, u195, u196, u197, u198, u199, u200, u201, u202, u203, u204, u205, u206, u207, u208, u209, u210, u211, u212, u213, u214, u215, u216, u217, u218], []⟩ (wx.setCell ⟨Bo, 6, none⟩ (.slice (some ⟨gg, 0, none⟩) (j + 1) cap))) :
    Code.wp Tryz.prog gbody6 Q0 ⟨#[u0, .pointer (some ⟨Bm, 0, none⟩), .pointer (some ⟨Br, 0, none⟩), .pointer (some ⟨Bo, 0, none⟩), u4, u5, u6, u7, u8, u9, .int .i64 j, u11, u12, u13, u14, u15, u16, u17, u18, u19, u20, u21, u22, u23, u24, u25, u26, u27, u28, u29, u30, u31, u32, u33, u34, u35, u36, u37, u38, u39, u40, u41, u42, u43, u44, u45, u46, u47, u48, u49, u50, u51, u52, u53, u54, u55, u56, u57, u58, u59, u60, u61, u62, u63, u64, u65, u66, u67, u68, u69, u70, u71, u72, u73, u74, u75, u76, u77, u78, u79, u80, u81, u82, u83, u84, u85, u86, u87, u88, u89, u90, u91, u92, u93, u94, u95, u96, u97, u98, u99, u100, u101, u102, u103, u104, u105, u106, u107, u108, u109, u110, u111, u112, u113, u114, u115, u116, u117, u118, u119, u120, u121, u122, u123, u124, u125, u126, u127, u128, u129, u130, u131, u132, u133, u134, u135, u136, u137, u138, u139, u140, u141, u142, u143, u144, u145, u146, u147, u148, u149, u150, u151, u152, u153, u154, u155, u156, u157, u158, u159, u160, u161, u162, u163, u164, u165, u166, u167, u168, u169, u170, u171, u172, u173, u174, u175, u176, u177, u178, u179, u180, u181, u182, u183, u184, u185, u186, u187, u188, u189, u190, u191, u192, u193, u194, u195, u196, u197, u198, u199, u200, u201, u202, u203, u204, u205, u206, u207, u208, u209, u210, u211, u212, u213, u214, u215, u216, u217, u218], []⟩ wr := by
  obtain ⟨i0, hi, hz0, hz1, hz2⟩ := info_parts gmInfo6
  have HN := hide hnorm; have HO := hide hown; have HF := hide hf
  have HC0 := hide hc0
  clear hnorm hown hc0
  have nom2 : ¬ Bo = Bm := fun e => nom e.symm
  have noa2 : ¬ Bo = ba := fun e => noa e.symm
  conv => arg 2; whnf
  go_wp2_with fail
  refine wp_region_noPanic ?_
  refine wp_region_pop (S := fun w' => w'.cell? ⟨Bm, 6, none⟩ = some (.slice (some ⟨ba, oa, none⟩) n cp) ∧ w'.cell? ⟨ba, oa + j * 10, none⟩ = some (.int .u32 tb) ∧ w'.cell? ⟨ba, oa + j * 10 + 1, none⟩ = some (.int .u8 op) ∧ w'.cell? ⟨ba, oa + j * 10 + 2, none⟩ = some (.int .i64 nn) ∧ w'.cell? ⟨ba, oa + j * 10 + 3, none⟩ = some (.int .u32 al) ∧ w'.cell? ⟨ba, oa + j * 10 + 4, none⟩ = some (.int .u32 of) ∧ w'.cell? ⟨ba, oa + j * 10 + 5, none⟩ = some (.int .u8 re) ∧ w'.cell? ⟨ba, oa + j * 10 + 6, none⟩ = some (.slice iba ibl ibc) ∧ w'.cell? ⟨ba, oa + j * 10 + 7, none⟩ = some (.slice iea iel iec) ∧ w'.cell? ⟨ba, oa + j * 10 + 8, none⟩ = some (.slice ila ill ilc) ∧ w'.cell? ⟨ba, oa + j * 10 + 9, none⟩ = some (.slice fa fl fc) ∧ w'.cell? ⟨Bo, 6, none⟩ = some (.slice ua j uc)) _ rfl rfl (by kernel_rfl) (by kernel_rfl) ⟨hmc, d0, d1, d2, d3, d4, d5, d6, d7, d8, d9, oc⟩ (fun hHeld => ?_)
  simp only [List.pop_toArray, List.dropLast_cons_cons, List.dropLast_singleton, List.size_toArray, List.length_cons, List.length_nil, Nat.reduceAdd]
  refine wpAnyH_take (i := 0) (v := ?v0) rfl (by kernel_rfl) (by kernel_rfl) (by kernel_rfl) (fun _ _ _ h => h) (Or.inl ⟨by rfl, ?y0⟩) hHeld ?r0
  case y0 => (intro w hSw; (try dsimp only at hSw); go_simp; all_goals (with_reducible rfl))
  (try simp only [Act.put, List.getElem_toArray, List.getElem_cons_succ, List.getElem_cons_zero, List.setIfInBounds_toArray, List.set_cons_zero, List.set_cons_succ])
  refine wpAnyH_take (i := 1) (v := ?v1) rfl (by kernel_rfl) (by kernel_rfl) (by kernel_rfl) (fun _ _ _ h => h) (Or.inl ⟨by rfl, ?y1⟩) hHeld ?r1
  case y1 => (intro w hSw; (try dsimp only at hSw); go_simp; all_goals (with_reducible rfl))
  (try simp only [Act.put, List.getElem_toArray, List.getElem_cons_succ, List.getElem_cons_zero, List.setIfInBounds_toArray, List.set_cons_zero, List.set_cons_succ])
  refine wpAnyH_take (i := 2) (v := ?v2) rfl (by kernel_rfl) (by kernel_rfl) (by kernel_rfl) (fun _ _ _ h => h) (Or.inl ⟨by rfl, ?y2⟩) hHeld ?r2
  case y2 => (intro w hSw; (try dsimp only at hSw); go_simp; all_goals (with_reducible rfl))
  (try simp only [Act.put, List.getElem_toArray, List.getElem_cons_succ, List.getElem_cons_zero, List.setIfInBounds_toArray, List.set_cons_zero, List.set_cons_succ])
  refine wpAnyH_take (i := 3) (v := ?v3) rfl (by kernel_rfl) (by kernel_rfl) (by kernel_rfl) (fun _ _ _ h => h) (Or.inl ⟨by rfl, ?y3⟩) hHeld ?r3
  case y3 => (intro w hSw; (try dsimp only at hSw); go_simp; all_goals (with_reducible rfl))
  (try simp only [Act.put, List.getElem_toArray, List.getElem_cons_succ, List.getElem_cons_zero, List.setIfInBounds_toArray, List.set_cons_zero, List.set_cons_succ])
  refine wpAnyH_take (i := 4) (v := ?v4) rfl (by kernel_rfl) (by kernel_rfl) (by kernel_rfl) (fun _ _ _ h => h) (Or.inl ⟨by rfl, ?y4⟩) hHeld ?r4
  case y4 => (intro w hSw; (try dsimp only at hSw); go_simp; all_goals (with_reducible rfl))
  (try simp only [Act.put, List.getElem_toArray, List.getElem_cons_succ, List.getElem_cons_zero, List.setIfInBounds_toArray, List.set_cons_zero, List.set_cons_succ])
  refine wpAnyH_take (i := 5) (v := ?v5) rfl (by kernel_rfl) (by kernel_rfl) (by kernel_rfl) (fun _ _ _ h => h) (Or.inl ⟨by rfl, ?y5⟩) hHeld ?r5
  case y5 => (intro w hSw; (try dsimp only at hSw); go_simp; all_goals (with_reducible rfl))
  (try simp only [Act.put, List.getElem_toArray, List.getElem_cons_succ, List.getElem_cons_zero, List.setIfInBounds_toArray, List.set_cons_zero, List.set_cons_succ])
  refine wpAnyH_take (i := 6) (v := ?v6) rfl (by kernel_rfl) (by kernel_rfl) (by kernel_rfl) (fun _ _ _ h => h) (Or.inl ⟨by rfl, ?y6⟩) hHeld ?r6
  case y6 => (intro w hSw; (try dsimp only at hSw); go_simp; all_goals (with_reducible rfl))
  (try simp only [Act.put, List.getElem_toArray, List.getElem_cons_succ, List.getElem_cons_zero, List.setIfInBounds_toArray, List.set_cons_zero, List.set_cons_succ])
  refine wpAnyH_take (i := 7) (v := ?v7) rfl (by kernel_rfl) (by kernel_rfl) (by kernel_rfl) (fun _ _ _ h => h) (Or.inl ⟨by rfl, ?y7⟩) hHeld ?r7
  case y7 => (intro w hSw; (try dsimp only at hSw); go_simp; all_goals (with_reducible rfl))
  (try simp only [Act.put, List.getElem_toArray, List.getElem_cons_succ, List.getElem_cons_zero, List.setIfInBounds_toArray, List.set_cons_zero, List.set_cons_succ])
  refine wpAnyH_take (i := 8) (v := ?v8) rfl (by kernel_rfl) (by kernel_rfl) (by kernel_rfl) (fun _ _ _ h => h) (Or.inl ⟨by rfl, ?y8⟩) hHeld ?r8
  case y8 => (intro w hSw; (try dsimp only at hSw); go_simp; all_goals (with_reducible rfl))
  (try simp only [Act.put, List.getElem_toArray, List.getElem_cons_succ, List.getElem_cons_zero, List.setIfInBounds_toArray, List.set_cons_zero, List.set_cons_succ])
  refine wpAnyH_take (i := 9) (v := ?v9) rfl (by kernel_rfl) (by kernel_rfl) (by kernel_rfl) (fun _ _ _ h => h) (Or.inl ⟨by rfl, ?y9⟩) hHeld ?r9
  case y9 => (intro w hSw; (try dsimp only at hSw); go_simp; all_goals (with_reducible rfl))
  (try simp only [Act.put, List.getElem_toArray, List.getElem_cons_succ, List.getElem_cons_zero, List.setIfInBounds_toArray, List.set_cons_zero, List.set_cons_succ])
  refine wpAnyH_take (i := 10) (v := ?v10) rfl (by kernel_rfl) (by kernel_rfl) (by kernel_rfl) (fun _ _ _ h => h) (Or.inl ⟨by rfl, ?y10⟩) hHeld ?r10
  case y10 => (intro w hSw; (try dsimp only at hSw); go_simp; all_goals (with_reducible rfl))
  (try simp only [Act.put, List.getElem_toArray, List.getElem_cons_succ, List.getElem_cons_zero, List.setIfInBounds_toArray, List.set_cons_zero, List.set_cons_succ])
  refine wpAnyH_take (i := 11) (v := ?v11) rfl (by kernel_rfl) (by kernel_rfl) (by kernel_rfl) (fun _ _ _ h => h) (Or.inl ⟨by rfl, ?y11⟩) hHeld ?r11
  case y11 => (intro w hSw; (try dsimp only at hSw); go_simp; all_goals (with_reducible rfl))
  (try simp only [Act.put, List.getElem_toArray, List.getElem_cons_succ, List.getElem_cons_zero, List.setIfInBounds_toArray, List.set_cons_zero, List.set_cons_succ])
  refine wpAnyH_take (i := 12) (v := ?v12) rfl (by kernel_rfl) (by kernel_rfl) (by kernel_rfl) (fun _ _ _ h => h) (Or.inl ⟨by rfl, ?y12⟩) hHeld ?r12
  case y12 => (intro w hSw; (try dsimp only at hSw); go_simp; all_goals (with_reducible rfl))
  (try simp only [Act.put, List.getElem_toArray, List.getElem_cons_succ, List.getElem_cons_zero, List.setIfInBounds_toArray, List.set_cons_zero, List.set_cons_succ])
  refine wpAnyH_take (i := 13) (v := ?v13) rfl (by kernel_rfl) (by kernel_rfl) (by kernel_rfl) (fun _ _ _ h => h) (Or.inl ⟨by rfl, ?y13⟩) hHeld ?r13
  case y13 => (intro w hSw; (try dsimp only at hSw); go_simp; all_goals (with_reducible rfl))
  (try simp only [Act.put, List.getElem_toArray, List.getElem_cons_succ, List.getElem_cons_zero, List.setIfInBounds_toArray, List.set_cons_zero, List.set_cons_succ])
  refine wpAnyH_take (i := 15) (v := ?v15) rfl (by kernel_rfl) (by kernel_rfl) (by kernel_rfl) (fun _ _ _ h => h) (Or.inl ⟨by rfl, ?y15⟩) hHeld ?r15
  case y15 => (intro w hSw; (try dsimp only at hSw); go_simp; all_goals (with_reducible rfl))
  (try simp only [Act.put, List.getElem_toArray, List.getElem_cons_succ, List.getElem_cons_zero, List.setIfInBounds_toArray, List.set_cons_zero, List.set_cons_succ])
  refine wpAnyH_take (i := 16) (v := ?v16) rfl (by kernel_rfl) (by kernel_rfl) (by kernel_rfl) (fun _ _ _ h => h) (Or.inl ⟨by rfl, ?y16⟩) hHeld ?r16
  case y16 => (intro w hSw; (try dsimp only at hSw); go_simp; all_goals (with_reducible rfl))
  (try simp only [Act.put, List.getElem_toArray, List.getElem_cons_succ, List.getElem_cons_zero, List.setIfInBounds_toArray, List.set_cons_zero, List.set_cons_succ])
  refine wpAnyH_take (i := 17) (v := ?v17) rfl (by kernel_rfl) (by kernel_rfl) (by kernel_rfl) (fun _ _ _ h => h) (Or.inl ⟨by rfl, ?y17⟩) hHeld ?r17
  case y17 => (intro w hSw; (try dsimp only at hSw); go_simp; all_goals (with_reducible rfl))
  (try simp only [Act.put, List.getElem_toArray, List.getElem_cons_succ, List.getElem_cons_zero, List.setIfInBounds_toArray, List.set_cons_zero, List.set_cons_succ])
  refine wpAnyH_take (i := 18) (v := ?v18) rfl (by kernel_rfl) (by kernel_rfl) (by kernel_rfl) (fun _ _ _ h => h) (Or.inl ⟨by rfl, ?y18⟩) hHeld ?r18
  case y18 => (intro w hSw; (try dsimp only at hSw); go_simp; all_goals (with_reducible rfl))
  (try simp only [Act.put, List.getElem_toArray, List.getElem_cons_succ, List.getElem_cons_zero, List.setIfInBounds_toArray, List.set_cons_zero, List.set_cons_succ])
  refine wpAnyH_take (i := 19) (v := ?v19) rfl (by kernel_rfl) (by kernel_rfl) (by kernel_rfl) (fun _ _ _ h => h) (Or.inl ⟨by rfl, ?y19⟩) hHeld ?r19
  case y19 => (intro w hSw; (try dsimp only at hSw); go_simp; all_goals (with_reducible rfl))
  (try simp only [Act.put, List.getElem_toArray, List.getElem_cons_succ, List.getElem_cons_zero, List.setIfInBounds_toArray, List.set_cons_zero, List.set_cons_succ])
  refine wpAnyH_take (i := 20) (v := ?v20) rfl (by kernel_rfl) (by kernel_rfl) (by kernel_rfl) (fun _ _ _ h => h) (Or.inl ⟨by rfl, ?y20⟩) hHeld ?r20
  case y20 => (intro w hSw; (try dsimp only at hSw); go_simp; all_goals (with_reducible rfl))
  (try simp only [Act.put, List.getElem_toArray, List.getElem_cons_succ, List.getElem_cons_zero, List.setIfInBounds_toArray, List.set_cons_zero, List.set_cons_succ])
  refine wpAnyH_ready (rs := [14]) (by kernel_rfl) (by simp) ?_
  refine AllReadyH.cons rfl (fun K hK => ?_) AllReadyH.nil
  go_simp
  go_at_call 23
  refine (unhide HC0 _ (drew_below9 wr)).mono ?_
  rintro e w1 ⟨xba, xbl, xbc, xea, xel, xec, xla, xll, xlc, rfl, hP0, hb⟩
  have HP0 := hide hP0; have HBB0 := hide hb
  have HB1 := hide (Below.on (drew_below9 wr) hb)
  have hk : ∀ b o, b < wr.heap.size → w1.cell? ⟨b, o, none⟩ = wr.cell? ⟨b, o, none⟩ := fun b o hlt => (unhide HB1).cell (p := ⟨b, o, none⟩) hlt
  have hoc := (hk Bo 6 lo).trans oc
  have l1 : Bo < w1.heap.size := Nat.lt_of_lt_of_le lo (unhide HB1).size
  have lm1 : Bm < w1.heap.size := Nat.lt_of_lt_of_le lm (unhide HB1).size
  have la1 : ba < w1.heap.size := Nat.lt_of_lt_of_le la (unhide HB1).size
  clear hP0 hb
  (try go_wp2_with fail)
  refine hK.out _ _ ⟨(hk _ _ lm).trans hmc, (hk _ _ la).trans d0, (hk _ _ la).trans d1, (hk _ _ la).trans d2, (hk _ _ la).trans d3, (hk _ _ la).trans d4, (hk _ _ la).trans d5, (hk _ _ la).trans d6, (hk _ _ la).trans d7, (hk _ _ la).trans d8, (hk _ _ la).trans d9, hoc⟩ (fun hHeld => ?_)
  clear hK K hk hoc
  (try simp only [Act.put, List.getElem_toArray, List.getElem_cons_succ, List.getElem_cons_zero, List.setIfInBounds_toArray, List.set_cons_zero, List.set_cons_succ])
  refine wpAnyH_take (i := 21) (v := ?v21) rfl (by kernel_rfl) (by kernel_rfl) (by kernel_rfl) (fun _ _ _ h => h) (Or.inl ⟨by rfl, ?y21⟩) hHeld ?r21
  case y21 => (intro w hSw; (try dsimp only at hSw); go_simp; all_goals (with_reducible rfl))
  (try simp only [Act.put, List.getElem_toArray, List.getElem_cons_succ, List.getElem_cons_zero, List.setIfInBounds_toArray, List.set_cons_zero, List.set_cons_succ])
  refine wpAnyH_ready (rs := [22]) (by kernel_rfl) (by simp) ?_
  refine AllReadyH.cons rfl (fun K hK => ?_) AllReadyH.nil
  go_simp
  refine hK.out _ _ ?_ (fun hHeld => ?_)
  · (try dsimp only); go_keep
  clear hK K
  (try simp only [Act.put, List.getElem_toArray, List.getElem_cons_succ, List.getElem_cons_zero, List.setIfInBounds_toArray, List.set_cons_zero, List.set_cons_succ])
  refine wpAnyH_ready (rs := [23]) (by kernel_rfl) (by simp) ?_
  refine AllReadyH.cons rfl (fun K hK => ?_) AllReadyH.nil
  refine step_append_lies _ rfl (.tmp 162) (.tmp 183) 46 rfl base 117 i0 (.agg #[.int .u32 0, .int .u8 0, .int .i64 0, .int .u32 0, .int .u32 0, .int .u8 0, .slice none 0 0, .slice none 0 0, .slice none 0 0, .slice none 0 0]) 10 136 Tryz.underlying46 hi hz0 hz1 hz2 rfl (by decide) (.slice ua j uc) j xs rfl (ownsRow_below (unhide HO) (Below.on (unhide HB1) (one_alloc w1 (.cells #[.int .u32 tb, .int .u8 op, .int .i64 nn, .int .u32 al, .int .u32 of, .int .u8 re, .slice xba xbl xbc, .slice xea xel xec, .slice xla xll xlc, .slice fa fl fc] 117)))) ⟨w1.heap.size, 0, none⟩ 1 1 [.int .u32 tb, .int .u8 op, .int .i64 nn, .int .u32 al, .int .u32 of, .int .u8 re, .slice xba xbl xbc, .slice xea xel xec, .slice xla xll xlc, .slice fa fl fc] rfl rfl (new_cells _ _ _) (by intro u hu; simp only [List.mem_cons, List.not_mem_nil, or_false] at hu; rcases hu with rfl | rfl | rfl | rfl | rfl | rfl | rfl | rfl | rfl | rfl <;> rfl) (by omega) (by unfold maxLen; omega) (by omega) (Nat.le_trans hbase (Nat.le_trans (unhide HB1).size (one_alloc w1 (.cells #[.int .u32 tb, .int .u8 op, .int .i64 nn, .int .u32 al, .int .u32 of, .int .u8 re, .slice xba xbl xbc, .slice xea xel xec, .slice xla xll xlc, .slice fa fl fc] 117)).size)) (w1.heap.size + 1) (by simp) ?_
  intro gg cap wx hown5 hgrow hat hlt5
  have hk2 : ∀ b o, b < wr.heap.size → (Value.slice ua j uc).ownBlock ≠ some b → wx.cell? ⟨b, o, none⟩ = wr.cell? ⟨b, o, none⟩ := fun b o hlt hne => (World.cell?_of_block (a := ⟨b, o, none⟩) (hgrow.block b (Nat.lt_of_lt_of_le hlt (Nat.le_trans (unhide HB1).size (one_alloc w1 (.cells #[.int .u32 tb, .int .u8 op, .int .i64 nn, .int .u32 al, .int .u32 of, .int .u8 re, .slice xba xbl xbc, .slice xea xel xec, .slice xla xll xlc, .slice fa fl fc] 117)).size)) (fun e => hne e.symm))).trans ((Below.on (unhide HB1) (one_alloc w1 (.cells #[.int .u32 tb, .int .u8 op, .int .i64 nn, .int .u32 al, .int .u32 of, .int .u8 re, .slice xba xbl xbc, .slice xea xel xec, .slice xla xll xlc, .slice fa fl fc] 117))).cell (p := ⟨b, o, none⟩) hlt)
  have hx : wx.heap[Bo]? = wr.heap[Bo]? := (hgrow.block Bo (Nat.lt_of_lt_of_le lo (Nat.le_trans (unhide HB1).size (one_alloc w1 (.cells #[.int .u32 tb, .int .u8 op, .int .i64 nn, .int .u32 al, .int .u32 of, .int .u8 re, .slice xba xbl xbc, .slice xea xel xec, .slice xla xll xlc, .slice fa fl fc] 117)).size)) (fun e => no e.symm)).trans ((Below.on (unhide HB1) (one_alloc w1 (.cells #[.int .u32 tb, .int .u8 op, .int .i64 nn, .int .u32 al, .int .u32 of, .int .u8 re, .slice xba xbl xbc, .slice xea xel xec, .slice xla xll xlc, .slice fa fl fc] 117))).block Bo lo)
  have xo : wx.cell? ⟨Bo, 6, none⟩ = some (.slice ua j uc) := (World.cell?_of_block (a := ⟨Bo, 6, none⟩) hx).trans oc
  have xf : ∀ j, wx.frozen? ⟨Bo, j, none⟩ = false := fun j => by have := unhide HF j; simp only [World.frozen?, hx] at this ⊢; exact this
  have xm := (hk2 Bm 6 lm nm).trans hmc
  have x0 := (hk2 ba (oa + j * 10) la na).trans d0
  have x1 := (hk2 ba (oa + j * 10 + 1) la na).trans d1
  have x2 := (hk2 ba (oa + j * 10 + 2) la na).trans d2
  have x3 := (hk2 ba (oa + j * 10 + 3) la na).trans d3
  have x4 := (hk2 ba (oa + j * 10 + 4) la na).trans d4
  have x5 := (hk2 ba (oa + j * 10 + 5) la na).trans d5
  have x6 := (hk2 ba (oa + j * 10 + 6) la na).trans d6
  have x7 := (hk2 ba (oa + j * 10 + 7) la na).trans d7
  have x8 := (hk2 ba (oa + j * 10 + 8) la na).trans d8
  have x9 := (hk2 ba (oa + j * 10 + 9) la na).trans d9
  have H5 := hide hown5; have HG5 := hide hgrow; have HA5 := hide hat; have HL5 := hide hlt5
  clear hown5 hgrow hat hlt5 hx
  refine hK.out _ _ ⟨xm, x0, x1, x2, x3, x4, x5, x6, x7, x8, x9, xo⟩ (fun hHeld => ?_)
  clear hK K
  (try simp only [Act.put, List.getElem_toArray, List.getElem_cons_succ, List.getElem_cons_zero, List.setIfInBounds_toArray, List.set_cons_zero, List.set_cons_succ])
  refine wpAnyH_take (i := 24) (v := ?v24) rfl (by kernel_rfl) (by kernel_rfl) (by kernel_rfl) (fun _ _ _ h => h) (Or.inl ⟨by rfl, ?y24⟩) hHeld ?r24
  case y24 => (intro w hSw; (try dsimp only at hSw); go_simp; all_goals (with_reducible rfl))
  (try simp only [Act.put, List.getElem_toArray, List.getElem_cons_succ, List.getElem_cons_zero, List.setIfInBounds_toArray, List.set_cons_zero, List.set_cons_succ])
  refine wpAnyH_done (by kernel_rfl) ?_ _
  simp only [lastQ]
  refine wpOp_step rfl (fun K hK => ?_)
  go_simp
  refine hK _ _ ?_
  refine NoPanic.normal ?_
  go_wp2
  exact (unhide HN) _ _ _ _ _ _ _ _ _ _ _ _ _ _ _ _ _ _ _ _ _ _ _ _ _ _ _ _ _ _ _ _ xba xbl xbc xea xel xec xla xll xlc w1 wx gg cap (unhide HP0) (unhide HBB0) (unhide H5) (unhide HG5) (unhide HA5) (unhide HL5)
end Gm
end Go.Proofs.YtheopjcmhclgdaaGreatDoor

/- A round of giveModule's loop 7. -/
namespace Go.Proofs.YtheopjcmhclgdaaGreatDoor
open Go.RowKit
namespace Gm
set_option linter.unusedVariables false
set_option linter.unusedSimpArgs false
set_option maxRecDepth 1000000 in
set_option maxHeartbeats 6400000 in
theorem gm_7 {u0 u4 u5 u6 u7 u8 u9 u10 u12 u13 u14 u15 u16 u17 u18 u19 u20 u21 u22 u23 u24 u25 u26 u27 u28 u29 u30 u31 u32 u33 u34 u35 u36 u37 u38 u39 u40 u41 u42 u43 u44 u45 u46 u47 u48 u49 u50 u51 u52 u53 u54 u55 u56 u57 u58 u59 u60 u61 u62 u63 u64 u65 u66 u67 u68 u69 u70 u71 u72 u73 u74 u75 u76 u77 u78 u79 u80 u81 u82 u83 u84 u85 u86 u87 u88 u89 u90 u91 u92 u93 u94 u95 u96 u97 u98 u99 u100 u101 u102 u103 u104 u105 u106 u107 u108 u109 u110 u111 u112 u113 u114 u115 u116 u117 u118 u119 u120 u121 u122 u123 u124 u125 u126 u127 u128 u129 u130 u131 u132 u133 u134 u135 u136 u137 u138 u139 u140 u141 u142 u143 u144 u145 u146 u147 u148 u149 u150 u151 u152 u153 u154 u155 u156 u157 u158 u159 u160 u161 u162 u163 u164 u165 u166 u167 u168 u169 u170 u171 u172 u173 u174 u175 u176 u177 u178 u179 u180 u181 u182 u183 u184 u185 u186 u187 u188 u189 u190 u191 u192 u193 u194 u195 u196 u197 u198 u199 u200 u201 u202 u203 u204 u205 u206 u207 u208 u209 u210 u211 u212 u213 u214 u215 u216 u217 u218 : Value} {Bm Br Bo base ba oa n cp j uc : Nat} {ua : Option Addr} {tb op nn al of re : Int} {iba iea ila fa : Option Addr} {ibl ibc iel iec ill ilc fl fc : Nat} {PK0 : World → World → Value → Prop} {xs : List Value} {wr : World} {Q0 : Exit → Act → World → Prop}
    (hjn : (j : Int) < (n : Int)) (hnb : (n : Int) ≤ 1048576) (hmc : wr.cell? ⟨Bm, 7, none⟩ = some (.slice (some ⟨ba, oa, none⟩) n cp)) (d0 : wr.cell? ⟨ba, oa + j * 10, none⟩ = some (.int .u32 tb)) (d1 : wr.cell? ⟨ba, oa + j * 10 + 1, none⟩ = some (.int .u8 op)) (d2 : wr.cell? ⟨ba, oa + j * 10 + 2, none⟩ = some (.int .i64 nn)) (d3 : wr.cell? ⟨ba, oa + j * 10 + 3, none⟩ = some (.int .u32 al)) (d4 : wr.cell? ⟨ba, oa + j * 10 + 4, none⟩ = some (.int .u32 of)) (d5 : wr.cell? ⟨ba, oa + j * 10 + 5, none⟩ = some (.int .u8 re)) (d6 : wr.cell? ⟨ba, oa + j * 10 + 6, none⟩ = some (.slice iba ibl ibc)) (d7 : wr.cell? ⟨ba, oa + j * 10 + 7, none⟩ = some (.slice iea iel iec)) (d8 : wr.cell? ⟨ba, oa + j * 10 + 8, none⟩ = some (.slice ila ill ilc)) (d9 : wr.cell? ⟨ba, oa + j * 10 + 9, none⟩ = some (.slice fa fl fc))
    (oc : wr.cell? ⟨Bo, 7, none⟩ = some (.slice ua j uc)) (hf : ∀ j, wr.frozen? ⟨Bo, j, none⟩ = false) (hown : wr.ownsRow base 119 10 (.slice ua j uc) j xs) (hbase : base ≤ wr.heap.size)
    (lo : Bo < wr.heap.size) (lm : Bm < wr.heap.size) (la : ba < wr.heap.size) (nom : ¬ Bm = Bo) (noa : ¬ ba = Bo) (no : (Value.slice ua j uc).ownBlock ≠ some Bo) (nm : (Value.slice ua j uc).ownBlock ≠ some Bm) (na : (Value.slice ua j uc).ownBlock ≠ some ba)
    (hc0 : ∀ W, Below wr.heap.size wr W → Calls Tryz.prog 23 #[.agg #[.int .u8 op, .int .i64 nn, .int .u32 al, .int .u32 of, .int .u8 re, .slice iba ibl ibc, .slice iea iel iec, .slice ila ill ilc]] W fun e w' => ∃ xba xbl xbc xea xel xec xla xll xlc, e = .returned (.agg #[.int .u8 op, .int .i64 nn, .int .u32 al, .int .u32 of, .int .u8 re, .slice xba xbl xbc, .slice xea xel xec, .slice xla xll xlc]) ∧ PK0 W w' (.agg #[.int .u8 op, .int .i64 nn, .int .u32 al, .int .u32 of, .int .u8 re, .slice xba xbl xbc, .slice xea xel xec, .slice xla xll xlc]) ∧ Below W.heap.size W w')
    (hnorm : ∀ (v186 v187 v188 v189 v190 v191 v192 v193 v194 v195 v196 v197 v198 v199 v200 v201 v202 v203 v204 v205 v206 v207 v208 v209 v210 v211 v212 v213 v214 v215 v216 v217 : Value) (xba : Option Addr) (xbl xbc : Nat) (xea : Option Addr) (xel xec : Nat) (xla : Option Addr) (xll xlc : Nat) (w1 : World) (wx : World) (gg cap : Nat), PK0 wr.drew w1 (.agg #[.int .u8 op, .int .i64 nn, .int .u32 al, .int .u32 of, .int .u8 re, .slice xba xbl xbc, .slice xea xel xec, .slice xla xll xlc]) → Below wr.drew.heap.size wr.drew w1 → wx.ownsRow base 119 10 (.slice (some ⟨gg, 0, none⟩) (j + 1) cap) (j + 1) (xs ++ [.int .u32 tb, .int .u8 op, .int .i64 nn, .int .u32 al, .int .u32 of, .int .u8 re, .slice xba xbl xbc, .slice xea xel xec, .slice xla xll xlc, .slice fa fl fc]) → (w1.alloc (.cells #[.int .u32 tb, .int .u8 op, .int .i64 nn, .int .u32 al, .int .u32 of, .int .u8 re, .slice xba xbl xbc, .slice xea xel xec, .slice xla xll xlc, .slice fa fl fc] 119)).grownBy wx (Value.slice ua j uc).ownBlock → ((Value.slice ua j uc).ownBlock = some gg ∨ gg = w1.heap.size + 1) → gg < wx.heap.size →
      Q0 .normal ⟨#[u0, .pointer (some ⟨Bm, 0, none⟩), .pointer (some ⟨Br, 0, none⟩), .pointer (some ⟨Bo, 0, none⟩), u4, u5, u6, u7, u8, u9, u10, .int .i64 ((j : Int) + 1), u12, u13, u14, u15, u16, u17, u18, u19, u20, u21, u22, u23, u24, u25, u26, u27, u28, u29, u30, u31, u32, u33, u34, u35, u36, u37, u38, u39, u40, u41, u42, u43, u44, u45, u46, u47, u48, u49, u50, u51, u52, u53, u54, u55, u56, u57, u58, u59, u60, u61, u62, u63, u64, u65, u66, u67, u68, u69, u70, u71, u72, u73, u74, u75, u76, u77, u78, u79, u80, u81, u82, u83, u84, u85, u86, u87, u88, u89, u90, u91, u92, u93, u94, u95, u96, u97, u98, u99, u100, u101, u102, u103, u104, u105, u106, u107, u108, u109, u110, u111, u112, u113, u114, u115, u116, u117, u118, u119, u120, u121, u122, u123, u124, u125, u126, u127, u128, u129, u130, u131, u132, u133, u134, u135, u136, u137, u138, u139, u140, u141, u142, u143, u144, u145, u146, u147, u148, u149, u150, u151, u152, u153, u154, u155, u156, u157, u158, u159, u160, u161, u162, u163, u164, u165, u166, u167, u168, u169, u170, u171, u172, u173, u174, u175, u176, u177, u178, u179, u180, u181, u182, u183, u184, u185, v186, v187, v188, v189, v190, v191, v192, v193, v194, v195, v196, v197, v198, v199, v200, v201, v202, v203, v204, v205, v206, v207, v208, v209, v210, v211, v212, v213, v214, v215, v216, v217, u218], []⟩ (wx.setCell ⟨Bo, 7, none⟩ (.slice (some ⟨gg, 0, none⟩) (j + 1) cap))) :
    Code.wp Tryz.prog gbody7 Q0 ⟨#[u0, .pointer (some ⟨Bm, 0, none⟩), .pointer (some ⟨Br, 0, none⟩), .pointer (some ⟨Bo, 0, none⟩), u4, u5, u6, u7, u8, u9, u10, .int .i64 j, u12, u13, u14, u15, u16, u17, u18, u19, u20, u21, u22, u23, u24, u25, u26, u27, u28, u29, u30, u31, u32, u33, u34, u35, u36, u37, u38, u39, u40, u41, u42, u43, u44, u45, u46, u47, u48, u49, u50, u51, u52, u53, u54, u55, u56, u57, u58, u59, u60, u61, u62, u63, u64, u65, u66, u67, u68, u69, u70, u71, u72, u73, u74, u75, u76, u77, u78, u79, u80, u81, u82, u83, u84, u85, u86, u87, u88, u89, u90, u91, u92, u93, u94, u95, u96, u97, u98, u99, u100, u101, u102, u103, u104, u105, u106, u107, u108, u109, u110, u111, u112, u113, u114, u115, u116, u117, u118, u119, u120, u121, u122, u123, u124, u125, u126, u127, u128, u129, u130, u131, u132, u133, u134, u135, u136, u137, u138, u139, u140, u141, u142, u143, u144, u145, u146, u147, u148, u149, u150, u151, u152, u153, u154, u155, u156, u157, u158, u159, u160, u161, u162, u163, u164, u165, u166, u167, u168, u169, u170, u171, u172, u173, u174, u175, u176, u177, u178, u179, u180, u181, u182, u183, u184, u185, u186, u187, u188, u189, u190, u191, u192, u193, u194, u195, u196, u197, u198, u199, u200, u201, u202, u203, u204, u205, u206, u207, u208, u209, u210, u211, u212, u213, u214, u215, u216, u217, u218], []⟩ wr := by
  obtain ⟨i0, hi, hz0, hz1, hz2⟩ := info_parts gmInfo7
  have HN := hide hnorm; have HO := hide hown; have HF := hide hf
  have HC0 := hide hc0
  clear hnorm hown hc0
  have nom2 : ¬ Bo = Bm := fun e => nom e.symm
  have noa2 : ¬ Bo = ba := fun e => noa e.symm
  conv => arg 2; whnf
  go_wp2_with fail
  refine wp_region_noPanic ?_
  refine wp_region_pop (S := fun w' => w'.cell? ⟨Bm, 7, none⟩ = some (.slice (some ⟨ba, oa, none⟩) n cp) ∧ w'.cell? ⟨ba, oa + j * 10, none⟩ = some (.int .u32 tb) ∧ w'.cell? ⟨ba, oa + j * 10 + 1, none⟩ = some (.int .u8 op) ∧ w'.cell? ⟨ba, oa + j * 10 + 2, none⟩ = some (.int .i64 nn) ∧ w'.cell? ⟨ba, oa + j * 10 + 3, none⟩ = some (.int .u32 al) ∧ w'.cell? ⟨ba, oa + j * 10 + 4, none⟩ = some (.int .u32 of) ∧ w'.cell? ⟨ba, oa + j * 10 + 5, none⟩ = some (.int .u8 re) ∧ w'.cell? ⟨ba, oa + j * 10 + 6, none⟩ = some (.slice iba ibl ibc) ∧ w'.cell? ⟨ba, oa + j * 10 + 7, none⟩ = some (.slice iea iel iec) ∧ w'.cell? ⟨ba, oa + j * 10 + 8, none⟩ = some (.slice ila ill ilc) ∧ w'.cell? ⟨ba, oa + j * 10 + 9, none⟩ = some (.slice fa fl fc) ∧ w'.cell? ⟨Bo, 7, none⟩ = some (.slice ua j uc)) _ rfl rfl (by kernel_rfl) (by kernel_rfl) ⟨hmc, d0, d1, d2, d3, d4, d5, d6, d7, d8, d9, oc⟩ (fun hHeld => ?_)
  simp only [List.pop_toArray, List.dropLast_cons_cons, List.dropLast_singleton, List.size_toArray, List.length_cons, List.length_nil, Nat.reduceAdd]
  refine wpAnyH_take (i := 0) (v := ?v0) rfl (by kernel_rfl) (by kernel_rfl) (by kernel_rfl) (fun _ _ _ h => h) (Or.inl ⟨by rfl, ?y0⟩) hHeld ?r0
  case y0 => (intro w hSw; (try dsimp only at hSw); go_simp; all_goals (with_reducible rfl))
  (try simp only [Act.put, List.getElem_toArray, List.getElem_cons_succ, List.getElem_cons_zero, List.setIfInBounds_toArray, List.set_cons_zero, List.set_cons_succ])
  refine wpAnyH_take (i := 1) (v := ?v1) rfl (by kernel_rfl) (by kernel_rfl) (by kernel_rfl) (fun _ _ _ h => h) (Or.inl ⟨by rfl, ?y1⟩) hHeld ?r1
  case y1 => (intro w hSw; (try dsimp only at hSw); go_simp; all_goals (with_reducible rfl))
  (try simp only [Act.put, List.getElem_toArray, List.getElem_cons_succ, List.getElem_cons_zero, List.setIfInBounds_toArray, List.set_cons_zero, List.set_cons_succ])
  refine wpAnyH_take (i := 2) (v := ?v2) rfl (by kernel_rfl) (by kernel_rfl) (by kernel_rfl) (fun _ _ _ h => h) (Or.inl ⟨by rfl, ?y2⟩) hHeld ?r2
  case y2 => (intro w hSw; (try dsimp only at hSw); go_simp; all_goals (with_reducible rfl))
  (try simp only [Act.put, List.getElem_toArray, List.getElem_cons_succ, List.getElem_cons_zero, List.setIfInBounds_toArray, List.set_cons_zero, List.set_cons_succ])
  refine wpAnyH_take (i := 3) (v := ?v3) rfl (by kernel_rfl) (by kernel_rfl) (by kernel_rfl) (fun _ _ _ h => h) (Or.inl ⟨by rfl, ?y3⟩) hHeld ?r3
  case y3 => (intro w hSw; (try dsimp only at hSw); go_simp; all_goals (with_reducible rfl))
  (try simp only [Act.put, List.getElem_toArray, List.getElem_cons_succ, List.getElem_cons_zero, List.setIfInBounds_toArray, List.set_cons_zero, List.set_cons_succ])
  refine wpAnyH_take (i := 4) (v := ?v4) rfl (by kernel_rfl) (by kernel_rfl) (by kernel_rfl) (fun _ _ _ h => h) (Or.inl ⟨by rfl, ?y4⟩) hHeld ?r4
  case y4 => (intro w hSw; (try dsimp only at hSw); go_simp; all_goals (with_reducible rfl))
  (try simp only [Act.put, List.getElem_toArray, List.getElem_cons_succ, List.getElem_cons_zero, List.setIfInBounds_toArray, List.set_cons_zero, List.set_cons_succ])
  refine wpAnyH_take (i := 5) (v := ?v5) rfl (by kernel_rfl) (by kernel_rfl) (by kernel_rfl) (fun _ _ _ h => h) (Or.inl ⟨by rfl, ?y5⟩) hHeld ?r5
  case y5 => (intro w hSw; (try dsimp only at hSw); go_simp; all_goals (with_reducible rfl))
  (try simp only [Act.put, List.getElem_toArray, List.getElem_cons_succ, List.getElem_cons_zero, List.setIfInBounds_toArray, List.set_cons_zero, List.set_cons_succ])
  refine wpAnyH_take (i := 6) (v := ?v6) rfl (by kernel_rfl) (by kernel_rfl) (by kernel_rfl) (fun _ _ _ h => h) (Or.inl ⟨by rfl, ?y6⟩) hHeld ?r6
  case y6 => (intro w hSw; (try dsimp only at hSw); go_simp; all_goals (with_reducible rfl))
  (try simp only [Act.put, List.getElem_toArray, List.getElem_cons_succ, List.getElem_cons_zero, List.setIfInBounds_toArray, List.set_cons_zero, List.set_cons_succ])
  refine wpAnyH_take (i := 7) (v := ?v7) rfl (by kernel_rfl) (by kernel_rfl) (by kernel_rfl) (fun _ _ _ h => h) (Or.inl ⟨by rfl, ?y7⟩) hHeld ?r7
  case y7 => (intro w hSw; (try dsimp only at hSw); go_simp; all_goals (with_reducible rfl))
  (try simp only [Act.put, List.getElem_toArray, List.getElem_cons_succ, List.getElem_cons_zero, List.setIfInBounds_toArray, List.set_cons_zero, List.set_cons_succ])
  refine wpAnyH_take (i := 8) (v := ?v8) rfl (by kernel_rfl) (by kernel_rfl) (by kernel_rfl) (fun _ _ _ h => h) (Or.inl ⟨by rfl, ?y8⟩) hHeld ?r8
  case y8 => (intro w hSw; (try dsimp only at hSw); go_simp; all_goals (with_reducible rfl))
  (try simp only [Act.put, List.getElem_toArray, List.getElem_cons_succ, List.getElem_cons_zero, List.setIfInBounds_toArray, List.set_cons_zero, List.set_cons_succ])
  refine wpAnyH_take (i := 9) (v := ?v9) rfl (by kernel_rfl) (by kernel_rfl) (by kernel_rfl) (fun _ _ _ h => h) (Or.inl ⟨by rfl, ?y9⟩) hHeld ?r9
  case y9 => (intro w hSw; (try dsimp only at hSw); go_simp; all_goals (with_reducible rfl))
  (try simp only [Act.put, List.getElem_toArray, List.getElem_cons_succ, List.getElem_cons_zero, List.setIfInBounds_toArray, List.set_cons_zero, List.set_cons_succ])
  refine wpAnyH_take (i := 10) (v := ?v10) rfl (by kernel_rfl) (by kernel_rfl) (by kernel_rfl) (fun _ _ _ h => h) (Or.inl ⟨by rfl, ?y10⟩) hHeld ?r10
  case y10 => (intro w hSw; (try dsimp only at hSw); go_simp; all_goals (with_reducible rfl))
  (try simp only [Act.put, List.getElem_toArray, List.getElem_cons_succ, List.getElem_cons_zero, List.setIfInBounds_toArray, List.set_cons_zero, List.set_cons_succ])
  refine wpAnyH_take (i := 11) (v := ?v11) rfl (by kernel_rfl) (by kernel_rfl) (by kernel_rfl) (fun _ _ _ h => h) (Or.inl ⟨by rfl, ?y11⟩) hHeld ?r11
  case y11 => (intro w hSw; (try dsimp only at hSw); go_simp; all_goals (with_reducible rfl))
  (try simp only [Act.put, List.getElem_toArray, List.getElem_cons_succ, List.getElem_cons_zero, List.setIfInBounds_toArray, List.set_cons_zero, List.set_cons_succ])
  refine wpAnyH_take (i := 12) (v := ?v12) rfl (by kernel_rfl) (by kernel_rfl) (by kernel_rfl) (fun _ _ _ h => h) (Or.inl ⟨by rfl, ?y12⟩) hHeld ?r12
  case y12 => (intro w hSw; (try dsimp only at hSw); go_simp; all_goals (with_reducible rfl))
  (try simp only [Act.put, List.getElem_toArray, List.getElem_cons_succ, List.getElem_cons_zero, List.setIfInBounds_toArray, List.set_cons_zero, List.set_cons_succ])
  refine wpAnyH_take (i := 13) (v := ?v13) rfl (by kernel_rfl) (by kernel_rfl) (by kernel_rfl) (fun _ _ _ h => h) (Or.inl ⟨by rfl, ?y13⟩) hHeld ?r13
  case y13 => (intro w hSw; (try dsimp only at hSw); go_simp; all_goals (with_reducible rfl))
  (try simp only [Act.put, List.getElem_toArray, List.getElem_cons_succ, List.getElem_cons_zero, List.setIfInBounds_toArray, List.set_cons_zero, List.set_cons_succ])
  refine wpAnyH_take (i := 15) (v := ?v15) rfl (by kernel_rfl) (by kernel_rfl) (by kernel_rfl) (fun _ _ _ h => h) (Or.inl ⟨by rfl, ?y15⟩) hHeld ?r15
  case y15 => (intro w hSw; (try dsimp only at hSw); go_simp; all_goals (with_reducible rfl))
  (try simp only [Act.put, List.getElem_toArray, List.getElem_cons_succ, List.getElem_cons_zero, List.setIfInBounds_toArray, List.set_cons_zero, List.set_cons_succ])
  refine wpAnyH_take (i := 16) (v := ?v16) rfl (by kernel_rfl) (by kernel_rfl) (by kernel_rfl) (fun _ _ _ h => h) (Or.inl ⟨by rfl, ?y16⟩) hHeld ?r16
  case y16 => (intro w hSw; (try dsimp only at hSw); go_simp; all_goals (with_reducible rfl))
  (try simp only [Act.put, List.getElem_toArray, List.getElem_cons_succ, List.getElem_cons_zero, List.setIfInBounds_toArray, List.set_cons_zero, List.set_cons_succ])
  refine wpAnyH_take (i := 17) (v := ?v17) rfl (by kernel_rfl) (by kernel_rfl) (by kernel_rfl) (fun _ _ _ h => h) (Or.inl ⟨by rfl, ?y17⟩) hHeld ?r17
  case y17 => (intro w hSw; (try dsimp only at hSw); go_simp; all_goals (with_reducible rfl))
  (try simp only [Act.put, List.getElem_toArray, List.getElem_cons_succ, List.getElem_cons_zero, List.setIfInBounds_toArray, List.set_cons_zero, List.set_cons_succ])
  refine wpAnyH_take (i := 18) (v := ?v18) rfl (by kernel_rfl) (by kernel_rfl) (by kernel_rfl) (fun _ _ _ h => h) (Or.inl ⟨by rfl, ?y18⟩) hHeld ?r18
  case y18 => (intro w hSw; (try dsimp only at hSw); go_simp; all_goals (with_reducible rfl))
  (try simp only [Act.put, List.getElem_toArray, List.getElem_cons_succ, List.getElem_cons_zero, List.setIfInBounds_toArray, List.set_cons_zero, List.set_cons_succ])
  refine wpAnyH_take (i := 19) (v := ?v19) rfl (by kernel_rfl) (by kernel_rfl) (by kernel_rfl) (fun _ _ _ h => h) (Or.inl ⟨by rfl, ?y19⟩) hHeld ?r19
  case y19 => (intro w hSw; (try dsimp only at hSw); go_simp; all_goals (with_reducible rfl))
  (try simp only [Act.put, List.getElem_toArray, List.getElem_cons_succ, List.getElem_cons_zero, List.setIfInBounds_toArray, List.set_cons_zero, List.set_cons_succ])
  refine wpAnyH_take (i := 20) (v := ?v20) rfl (by kernel_rfl) (by kernel_rfl) (by kernel_rfl) (fun _ _ _ h => h) (Or.inl ⟨by rfl, ?y20⟩) hHeld ?r20
  case y20 => (intro w hSw; (try dsimp only at hSw); go_simp; all_goals (with_reducible rfl))
  (try simp only [Act.put, List.getElem_toArray, List.getElem_cons_succ, List.getElem_cons_zero, List.setIfInBounds_toArray, List.set_cons_zero, List.set_cons_succ])
  refine wpAnyH_ready (rs := [14]) (by kernel_rfl) (by simp) ?_
  refine AllReadyH.cons rfl (fun K hK => ?_) AllReadyH.nil
  go_simp
  go_at_call 23
  refine (unhide HC0 _ (drew_below9 wr)).mono ?_
  rintro e w1 ⟨xba, xbl, xbc, xea, xel, xec, xla, xll, xlc, rfl, hP0, hb⟩
  have HP0 := hide hP0; have HBB0 := hide hb
  have HB1 := hide (Below.on (drew_below9 wr) hb)
  have hk : ∀ b o, b < wr.heap.size → w1.cell? ⟨b, o, none⟩ = wr.cell? ⟨b, o, none⟩ := fun b o hlt => (unhide HB1).cell (p := ⟨b, o, none⟩) hlt
  have hoc := (hk Bo 7 lo).trans oc
  have l1 : Bo < w1.heap.size := Nat.lt_of_lt_of_le lo (unhide HB1).size
  have lm1 : Bm < w1.heap.size := Nat.lt_of_lt_of_le lm (unhide HB1).size
  have la1 : ba < w1.heap.size := Nat.lt_of_lt_of_le la (unhide HB1).size
  clear hP0 hb
  (try go_wp2_with fail)
  refine hK.out _ _ ⟨(hk _ _ lm).trans hmc, (hk _ _ la).trans d0, (hk _ _ la).trans d1, (hk _ _ la).trans d2, (hk _ _ la).trans d3, (hk _ _ la).trans d4, (hk _ _ la).trans d5, (hk _ _ la).trans d6, (hk _ _ la).trans d7, (hk _ _ la).trans d8, (hk _ _ la).trans d9, hoc⟩ (fun hHeld => ?_)
  clear hK K hk hoc
  (try simp only [Act.put, List.getElem_toArray, List.getElem_cons_succ, List.getElem_cons_zero, List.setIfInBounds_toArray, List.set_cons_zero, List.set_cons_succ])
  refine wpAnyH_take (i := 21) (v := ?v21) rfl (by kernel_rfl) (by kernel_rfl) (by kernel_rfl) (fun _ _ _ h => h) (Or.inl ⟨by rfl, ?y21⟩) hHeld ?r21
  case y21 => (intro w hSw; (try dsimp only at hSw); go_simp; all_goals (with_reducible rfl))
  (try simp only [Act.put, List.getElem_toArray, List.getElem_cons_succ, List.getElem_cons_zero, List.setIfInBounds_toArray, List.set_cons_zero, List.set_cons_succ])
  refine wpAnyH_ready (rs := [22]) (by kernel_rfl) (by simp) ?_
  refine AllReadyH.cons rfl (fun K hK => ?_) AllReadyH.nil
  go_simp
  refine hK.out _ _ ?_ (fun hHeld => ?_)
  · (try dsimp only); go_keep
  clear hK K
  (try simp only [Act.put, List.getElem_toArray, List.getElem_cons_succ, List.getElem_cons_zero, List.setIfInBounds_toArray, List.set_cons_zero, List.set_cons_succ])
  refine wpAnyH_ready (rs := [23]) (by kernel_rfl) (by simp) ?_
  refine AllReadyH.cons rfl (fun K hK => ?_) AllReadyH.nil
  refine step_append_lies _ rfl (.tmp 194) (.tmp 215) 47 rfl base 119 i0 (.agg #[.int .u32 0, .int .u8 0, .int .i64 0, .int .u32 0, .int .u32 0, .int .u8 0, .slice none 0 0, .slice none 0 0, .slice none 0 0, .slice none 0 0]) 10 136 Tryz.underlying47 hi hz0 hz1 hz2 rfl (by decide) (.slice ua j uc) j xs rfl (ownsRow_below (unhide HO) (Below.on (unhide HB1) (one_alloc w1 (.cells #[.int .u32 tb, .int .u8 op, .int .i64 nn, .int .u32 al, .int .u32 of, .int .u8 re, .slice xba xbl xbc, .slice xea xel xec, .slice xla xll xlc, .slice fa fl fc] 119)))) ⟨w1.heap.size, 0, none⟩ 1 1 [.int .u32 tb, .int .u8 op, .int .i64 nn, .int .u32 al, .int .u32 of, .int .u8 re, .slice xba xbl xbc, .slice xea xel xec, .slice xla xll xlc, .slice fa fl fc] rfl rfl (new_cells _ _ _) (by intro u hu; simp only [List.mem_cons, List.not_mem_nil, or_false] at hu; rcases hu with rfl | rfl | rfl | rfl | rfl | rfl | rfl | rfl | rfl | rfl <;> rfl) (by omega) (by unfold maxLen; omega) (by omega) (Nat.le_trans hbase (Nat.le_trans (unhide HB1).size (one_alloc w1 (.cells #[.int .u32 tb, .int .u8 op, .int .i64 nn, .int .u32 al, .int .u32 of, .int .u8 re, .slice xba xbl xbc, .slice xea xel xec, .slice xla xll xlc, .slice fa fl fc] 119)).size)) (w1.heap.size + 1) (by simp) ?_
  intro gg cap wx hown5 hgrow hat hlt5
  have hk2 : ∀ b o, b < wr.heap.size → (Value.slice ua j uc).ownBlock ≠ some b → wx.cell? ⟨b, o, none⟩ = wr.cell? ⟨b, o, none⟩ := fun b o hlt hne => (World.cell?_of_block (a := ⟨b, o, none⟩) (hgrow.block b (Nat.lt_of_lt_of_le hlt (Nat.le_trans (unhide HB1).size (one_alloc w1 (.cells #[.int .u32 tb, .int .u8 op, .int .i64 nn, .int .u32 al, .int .u32 of, .int .u8 re, .slice xba xbl xbc, .slice xea xel xec, .slice xla xll xlc, .slice fa fl fc] 119)).size)) (fun e => hne e.symm))).trans ((Below.on (unhide HB1) (one_alloc w1 (.cells #[.int .u32 tb, .int .u8 op, .int .i64 nn, .int .u32 al, .int .u32 of, .int .u8 re, .slice xba xbl xbc, .slice xea xel xec, .slice xla xll xlc, .slice fa fl fc] 119))).cell (p := ⟨b, o, none⟩) hlt)
  have hx : wx.heap[Bo]? = wr.heap[Bo]? := (hgrow.block Bo (Nat.lt_of_lt_of_le lo (Nat.le_trans (unhide HB1).size (one_alloc w1 (.cells #[.int .u32 tb, .int .u8 op, .int .i64 nn, .int .u32 al, .int .u32 of, .int .u8 re, .slice xba xbl xbc, .slice xea xel xec, .slice xla xll xlc, .slice fa fl fc] 119)).size)) (fun e => no e.symm)).trans ((Below.on (unhide HB1) (one_alloc w1 (.cells #[.int .u32 tb, .int .u8 op, .int .i64 nn, .int .u32 al, .int .u32 of, .int .u8 re, .slice xba xbl xbc, .slice xea xel xec, .slice xla xll xlc, .slice fa fl fc] 119))).block Bo lo)
  have xo : wx.cell? ⟨Bo, 7, none⟩ = some (.slice ua j uc) := (World.cell?_of_block (a := ⟨Bo, 7, none⟩) hx).trans oc
  have xf : ∀ j, wx.frozen? ⟨Bo, j, none⟩ = false := fun j => by have := unhide HF j; simp only [World.frozen?, hx] at this ⊢; exact this
  have xm := (hk2 Bm 7 lm nm).trans hmc
  have x0 := (hk2 ba (oa + j * 10) la na).trans d0
  have x1 := (hk2 ba (oa + j * 10 + 1) la na).trans d1
  have x2 := (hk2 ba (oa + j * 10 + 2) la na).trans d2
  have x3 := (hk2 ba (oa + j * 10 + 3) la na).trans d3
  have x4 := (hk2 ba (oa + j * 10 + 4) la na).trans d4
  have x5 := (hk2 ba (oa + j * 10 + 5) la na).trans d5
  have x6 := (hk2 ba (oa + j * 10 + 6) la na).trans d6
  have x7 := (hk2 ba (oa + j * 10 + 7) la na).trans d7
  have x8 := (hk2 ba (oa + j * 10 + 8) la na).trans d8
  have x9 := (hk2 ba (oa + j * 10 + 9) la na).trans d9
  have H5 := hide hown5; have HG5 := hide hgrow; have HA5 := hide hat; have HL5 := hide hlt5
  clear hown5 hgrow hat hlt5 hx
  refine hK.out _ _ ⟨xm, x0, x1, x2, x3, x4, x5, x6, x7, x8, x9, xo⟩ (fun hHeld => ?_)
  clear hK K
  (try simp only [Act.put, List.getElem_toArray, List.getElem_cons_succ, List.getElem_cons_zero, List.setIfInBounds_toArray, List.set_cons_zero, List.set_cons_succ])
  refine wpAnyH_take (i := 24) (v := ?v24) rfl (by kernel_rfl) (by kernel_rfl) (by kernel_rfl) (fun _ _ _ h => h) (Or.inl ⟨by rfl, ?y24⟩) hHeld ?r24
  case y24 => (intro w hSw; (try dsimp only at hSw); go_simp; all_goals (with_reducible rfl))
  (try simp only [Act.put, List.getElem_toArray, List.getElem_cons_succ, List.getElem_cons_zero, List.setIfInBounds_toArray, List.set_cons_zero, List.set_cons_succ])
  refine wpAnyH_done (by kernel_rfl) ?_ _
  simp only [lastQ]
  refine wpOp_step rfl (fun K hK => ?_)
  go_simp
  refine hK _ _ ?_
  refine NoPanic.normal ?_
  go_wp2
  exact (unhide HN) _ _ _ _ _ _ _ _ _ _ _ _ _ _ _ _ _ _ _ _ _ _ _ _ _ _ _ _ _ _ _ _ xba xbl xbc xea xel xec xla xll xlc w1 wx gg cap (unhide HP0) (unhide HBB0) (unhide H5) (unhide HG5) (unhide HA5) (unhide HL5)
end Gm
end Go.Proofs.YtheopjcmhclgdaaGreatDoor
