/- A round of giveModule's loop 3. -/
import Derived.Test.YtcpknafaocdjdaaGreatDoorGmT
namespace Go.Proofs.YtcpknafaocdjdaaGreatDoor
open Go.RowKit
namespace Gm
set_option linter.unusedVariables false
set_option linter.unusedSimpArgs false
set_option maxRecDepth 1000000 in
set_option maxHeartbeats 6400000 in
theorem gm_3 {u0 u4 u5 u6 u8 u9 u10 u11 u12 u13 u14 u15 u16 u17 u18 u19 u20 u21 u22 u23 u24 u25 u26 u27 u28 u29 u30 u31 u32 u33 u34 u35 u36 u37 u38 u39 u40 u41 u42 u43 u44 u45 u46 u47 u48 u49 u50 u51 u52 u53 u54 u55 u56 u57 u58 u59 u60 u61 u62 u63 u64 u65 u66 u67 u68 u69 u70 u71 u72 u73 u74 u75 u76 u77 u78 u79 u80 u81 u82 u83 u84 u85 u86 u87 u88 u89 u90 u91 u92 u93 u94 u95 u96 u97 u98 u99 u100 u101 u102 u103 u104 u105 u106 u107 u108 u109 u110 u111 u112 u113 u114 u115 u116 u117 u118 u119 u120 u121 u122 u123 u124 u125 u126 u127 u128 u129 u130 u131 u132 u133 u134 u135 u136 u137 u138 u139 u140 u141 u142 u143 u144 u145 u146 u147 u148 u149 u150 u151 u152 u153 u154 u155 u156 u157 u158 u159 u160 u161 u162 u163 u164 u165 u166 u167 u168 u169 u170 u171 u172 u173 u174 u175 u176 u177 u178 u179 u180 u181 u182 u183 u184 u185 u186 u187 u188 u189 u190 u191 u192 u193 u194 u195 u196 u197 u198 u199 u200 u201 u202 u203 u204 u205 u206 u207 u208 u209 u210 u211 u212 u213 u214 u215 u216 u217 u218 : Value} {Bm Br Bo base ba oa n cp j uc : Nat} {ua : Option Addr} {mn mx : Int} {hs : Bool} {xs : List Value} {wr : World} {Q0 : Exit → Act → World → Prop}
    (hjn : (j : Int) < (n : Int)) (hnb : (n : Int) ≤ 1048576) (hmc : wr.cell? ⟨Bm, 3, none⟩ = some (.slice (some ⟨ba, oa, none⟩) n cp)) (d0 : wr.cell? ⟨ba, oa + j * 3, none⟩ = some (.int .u32 mn)) (d1 : wr.cell? ⟨ba, oa + j * 3 + 1, none⟩ = some (.bool hs)) (d2 : wr.cell? ⟨ba, oa + j * 3 + 2, none⟩ = some (.int .u32 mx))
    (oc : wr.cell? ⟨Bo, 3, none⟩ = some (.slice ua j uc)) (hf : ∀ j, wr.frozen? ⟨Bo, j, none⟩ = false) (hown : wr.ownsRow base 75 3 (.slice ua j uc) j xs) (hbase : base ≤ wr.heap.size)
    (lo : Bo < wr.heap.size) (lm : Bm < wr.heap.size) (la : ba < wr.heap.size) (nom : ¬ Bm = Bo) (noa : ¬ ba = Bo) (no : (Value.slice ua j uc).ownBlock ≠ some Bo) (nm : (Value.slice ua j uc).ownBlock ≠ some Bm) (na : (Value.slice ua j uc).ownBlock ≠ some ba)
    (hnorm : ∀ (v88 v89 v90 v91 v92 v93 v94 v95 v96 v97 v98 v99 v100 v101 v102 v103 v104 : Value)   (wx : World) (gg cap : Nat), wx.ownsRow base 75 3 (.slice (some ⟨gg, 0, none⟩) (j + 1) cap) (j + 1) (xs ++ [.int .u32 mn, .bool hs, .int .u32 mx]) → (wr.drew.alloc (.cells #[.int .u32 mn, .bool hs, .int .u32 mx] 75)).grownBy wx (Value.slice ua j uc).ownBlock → ((Value.slice ua j uc).ownBlock = some gg ∨ gg = wr.drew.heap.size + 1) → gg < wx.heap.size →
      Q0 .normal ⟨#[u0, .pointer (some ⟨Bm, 0, none⟩), .pointer (some ⟨Br, 0, none⟩), .pointer (some ⟨Bo, 0, none⟩), u4, u5, u6, .int .i64 ((j : Int) + 1), u8, u9, u10, u11, u12, u13, u14, u15, u16, u17, u18, u19, u20, u21, u22, u23, u24, u25, u26, u27, u28, u29, u30, u31, u32, u33, u34, u35, u36, u37, u38, u39, u40, u41, u42, u43, u44, u45, u46, u47, u48, u49, u50, u51, u52, u53, u54, u55, u56, u57, u58, u59, u60, u61, u62, u63, u64, u65, u66, u67, u68, u69, u70, u71, u72, u73, u74, u75, u76, u77, u78, u79, u80, u81, u82, u83, u84, u85, u86, u87, v88, v89, v90, v91, v92, v93, v94, v95, v96, v97, v98, v99, v100, v101, v102, v103, v104, u105, u106, u107, u108, u109, u110, u111, u112, u113, u114, u115, u116, u117, u118, u119, u120, u121, u122, u123, u124, u125, u126, u127, u128, u129, u130, u131, u132, u133, u134, u135, u136, u137, u138, u139, u140, u141, u142, u143, u144, u145, u146, u147, u148, u149, u150, u151, u152, u153, u154, u155, u156, u157, u158, u159, u160, u161, u162, u163, u164, u165, u166, u167, u168, u169, u170, u171, u172, u173, u174, u175, u176, u177, u178, u179, u180, u181, u182, u183, u184, u185, u186, u187, u188, u189, u190, u191, u192, u193, u194, u195, u196, u197, u198, u199, u200, u201, u202, u203, u204, u205, u206, u207, u208, u209, u210, u211, u212, u213, u214, u215, u216, u217, u218], []⟩ (wx.setCell ⟨Bo, 3, none⟩ (.slice (some ⟨gg, 0, none⟩) (j + 1) cap))) :
    Code.wp Tryz.prog gbody3 Q0 ⟨#[u0, .pointer (some ⟨Bm, 0, none⟩), .pointer (some ⟨Br, 0, none⟩), .pointer (some ⟨Bo, 0, none⟩), u4, u5, u6, .int .i64 j, u8, u9, u10, u11, u12, u13, u14, u15, u16, u17, u18, u19, u20, u21, u22, u23, u24, u25, u26, u27, u28, u29, u30, u31, u32, u33, u34, u35, u36, u37, u38, u39, u40, u41, u42, u43, u44, u45, u46, u47, u48, u49, u50, u51, u52, u53, u54, u55, u56, u57, u58, u59, u60, u61, u62, u63, u64, u65, u66, u67, u68, u69, u70, u71, u72, u73, u74, u75, u76, u77, u78, u79, u80, u81, u82, u83, u84, u85, u86, u87, u88, u89, u90, u91, u92, u93, u94, u95, u96, u97, u98, u99, u100, u101, u102, u103, u104, u105, u106, u107, u108, u109, u110, u111, u112, u113, u114, u115, u116, u117, u118, u119, u120, u121, u122, u123, u124, u125, u126, u127, u128, u129, u130, u131, u132, u133, u134, u135, u136, u137, u138, u139, u140, u141, u142, u143, u144, u145, u146, u147, u148, u149, u150, u151, u152, u153, u154, u155, u156, u157, u158, u159, u160, u161, u162, u163, u164, u165, u166, u167, u168, u169, u170, u171, u172, u173, u174, u175, u176, u177, u178, u179, u180, u181, u182, u183, u184, u185, u186, u187, u188, u189, u190, u191, u192, u193, u194, u195, u196, u197, u198, u199, u200, u201, u202, u203, u204, u205, u206, u207, u208, u209, u210, u211, u212, u213, u214, u215, u216, u217, u218], []⟩ wr := by
  obtain ⟨i0, hi, hz0, hz1, hz2⟩ := info_parts gmInfo3
  have HN := hide hnorm; have HO := hide hown; have HF := hide hf

  clear hnorm hown
  have nom2 : ¬ Bo = Bm := fun e => nom e.symm
  have noa2 : ¬ Bo = ba := fun e => noa e.symm
  conv => arg 2; whnf
  go_wp2_with fail
  refine wp_region_noPanic ?_
  refine wp_region_pop (S := fun w' => w'.cell? ⟨Bm, 3, none⟩ = some (.slice (some ⟨ba, oa, none⟩) n cp) ∧ w'.cell? ⟨ba, oa + j * 3, none⟩ = some (.int .u32 mn) ∧ w'.cell? ⟨ba, oa + j * 3 + 1, none⟩ = some (.bool hs) ∧ w'.cell? ⟨ba, oa + j * 3 + 2, none⟩ = some (.int .u32 mx) ∧ w'.cell? ⟨Bo, 3, none⟩ = some (.slice ua j uc)) _ rfl rfl (by kernel_rfl) (by kernel_rfl) ⟨hmc, d0, d1, d2, oc⟩ (fun hHeld => ?_)
  simp only [List.pop_toArray, List.dropLast_cons_cons, List.dropLast_singleton, List.size_toArray, List.length_cons, List.length_nil, Nat.reduceAdd]
  refine wpAnyH_take (i := 0) (v := ?v0) rfl (by kernel_rfl) (by kernel_rfl) (by kernel_rfl) (fun _ _ _ h => h) (Or.inl ⟨by rfl, ?y0⟩) hHeld ?r0
  case y0 => (intro w hSw; (try dsimp only at hSw); go_simp; all_goals (with_reducible rfl))
  (try simp only [Act.put, List.getElem_toArray, List.getElem_cons_succ, List.getElem_cons_zero, List.setIfInBounds_toArray, List.set_cons_zero, List.set_cons_succ])
  refine wpAnyH_take (i := 1) (v := ?v1) rfl (by kernel_rfl) (by kernel_rfl) (by kernel_rfl) (fun _ _ _ h => h) (Or.inl ⟨by rfl, ?y1⟩) hHeld ?r1
  case y1 => (intro w hSw; (try dsimp only at hSw); go_simp; all_goals (with_reducible rfl))
  (try simp only [Act.put, List.getElem_toArray, List.getElem_cons_succ, List.getElem_cons_zero, List.setIfInBounds_toArray, List.set_cons_zero, List.set_cons_succ])
  refine wpAnyH_take (i := 2) (v := ?v2) rfl (by kernel_rfl) (by kernel_rfl) (by kernel_rfl) (fun _ _ _ h => h) (Or.inl ⟨by rfl, ?y2⟩) hHeld ?r2
  case y2 => (intro w hSw; (try dsimp only at hSw); go_simp; all_goals (with_reducible rfl))
  (try simp only [Act.put, List.getElem_toArray, List.getElem_cons_succ, List.getElem_cons_zero, List.setIfInBounds_toArray, List.set_cons_zero, List.set_cons_succ])
  refine wpAnyH_take (i := 3) (v := ?v3) rfl (by kernel_rfl) (by kernel_rfl) (by kernel_rfl) (fun _ _ _ h => h) (Or.inl ⟨by rfl, ?y3⟩) hHeld ?r3
  case y3 => (intro w hSw; (try dsimp only at hSw); go_simp; all_goals (with_reducible rfl))
  (try simp only [Act.put, List.getElem_toArray, List.getElem_cons_succ, List.getElem_cons_zero, List.setIfInBounds_toArray, List.set_cons_zero, List.set_cons_succ])
  refine wpAnyH_take (i := 4) (v := ?v4) rfl (by kernel_rfl) (by kernel_rfl) (by kernel_rfl) (fun _ _ _ h => h) (Or.inl ⟨by rfl, ?y4⟩) hHeld ?r4
  case y4 => (intro w hSw; (try dsimp only at hSw); go_simp; all_goals (with_reducible rfl))
  (try simp only [Act.put, List.getElem_toArray, List.getElem_cons_succ, List.getElem_cons_zero, List.setIfInBounds_toArray, List.set_cons_zero, List.set_cons_succ])
  refine wpAnyH_take (i := 5) (v := ?v5) rfl (by kernel_rfl) (by kernel_rfl) (by kernel_rfl) (fun _ _ _ h => h) (Or.inl ⟨by rfl, ?y5⟩) hHeld ?r5
  case y5 => (intro w hSw; (try dsimp only at hSw); go_simp; all_goals (with_reducible rfl))
  (try simp only [Act.put, List.getElem_toArray, List.getElem_cons_succ, List.getElem_cons_zero, List.setIfInBounds_toArray, List.set_cons_zero, List.set_cons_succ])
  refine wpAnyH_take (i := 6) (v := ?v6) rfl (by kernel_rfl) (by kernel_rfl) (by kernel_rfl) (fun _ _ _ h => h) (Or.inl ⟨by rfl, ?y6⟩) hHeld ?r6
  case y6 => (intro w hSw; (try dsimp only at hSw); go_simp; all_goals (with_reducible rfl))
  (try simp only [Act.put, List.getElem_toArray, List.getElem_cons_succ, List.getElem_cons_zero, List.setIfInBounds_toArray, List.set_cons_zero, List.set_cons_succ])
  refine wpAnyH_ready (rs := [7]) (by kernel_rfl) (by simp) ?_
  refine AllReadyH.cons rfl (fun K hK => ?_) AllReadyH.nil
  go_simp
  refine hK.out _ _ ?_ (fun hHeld => ?_)
  · (try dsimp only); go_keep
  clear hK K
  (try simp only [Act.put, List.getElem_toArray, List.getElem_cons_succ, List.getElem_cons_zero, List.setIfInBounds_toArray, List.set_cons_zero, List.set_cons_succ])
  refine wpAnyH_ready (rs := [8]) (by kernel_rfl) (by simp) ?_
  refine AllReadyH.cons rfl (fun K hK => ?_) AllReadyH.nil
  refine step_append_lies _ rfl (.tmp 96) (.tmp 102) 35 rfl base 75 i0 (.agg #[.int .u32 0, .bool false, .int .u32 0]) 3 12 Tryz.underlying35 hi hz0 hz1 hz2 rfl (by decide) (.slice ua j uc) j xs rfl (ownsRow_below (unhide HO) (Below.on (drew_below9 wr) (one_alloc wr.drew (.cells #[.int .u32 mn, .bool hs, .int .u32 mx] 75)))) ⟨wr.drew.heap.size, 0, none⟩ 1 1 [.int .u32 mn, .bool hs, .int .u32 mx] rfl rfl (new_cells _ _ _) (by intro u hu; simp only [List.mem_cons, List.not_mem_nil, or_false] at hu; rcases hu with rfl | rfl | rfl <;> rfl) (by omega) (by unfold maxLen; omega) (by omega) (Nat.le_trans hbase (Nat.le_trans (drew_below9 wr).size (one_alloc wr.drew (.cells #[.int .u32 mn, .bool hs, .int .u32 mx] 75)).size)) (wr.drew.heap.size + 1) (by simp) ?_
  intro gg cap wx hown5 hgrow hat hlt5
  have hk2 : ∀ b o, b < wr.heap.size → (Value.slice ua j uc).ownBlock ≠ some b → wx.cell? ⟨b, o, none⟩ = wr.cell? ⟨b, o, none⟩ := fun b o hlt hne => (World.cell?_of_block (a := ⟨b, o, none⟩) (hgrow.block b (Nat.lt_of_lt_of_le hlt (Nat.le_trans (drew_below9 wr).size (one_alloc wr.drew (.cells #[.int .u32 mn, .bool hs, .int .u32 mx] 75)).size)) (fun e => hne e.symm))).trans ((Below.on (drew_below9 wr) (one_alloc wr.drew (.cells #[.int .u32 mn, .bool hs, .int .u32 mx] 75))).cell (p := ⟨b, o, none⟩) hlt)
  have hx : wx.heap[Bo]? = wr.heap[Bo]? := (hgrow.block Bo (Nat.lt_of_lt_of_le lo (Nat.le_trans (drew_below9 wr).size (one_alloc wr.drew (.cells #[.int .u32 mn, .bool hs, .int .u32 mx] 75)).size)) (fun e => no e.symm)).trans ((Below.on (drew_below9 wr) (one_alloc wr.drew (.cells #[.int .u32 mn, .bool hs, .int .u32 mx] 75))).block Bo lo)
  have xo : wx.cell? ⟨Bo, 3, none⟩ = some (.slice ua j uc) := (World.cell?_of_block (a := ⟨Bo, 3, none⟩) hx).trans oc
  have xf : ∀ j, wx.frozen? ⟨Bo, j, none⟩ = false := fun j => by have := unhide HF j; simp only [World.frozen?, hx] at this ⊢; exact this
  have xm := (hk2 Bm 3 lm nm).trans hmc
  have x0 := (hk2 ba (oa + j * 3) la na).trans d0
  have x1 := (hk2 ba (oa + j * 3 + 1) la na).trans d1
  have x2 := (hk2 ba (oa + j * 3 + 2) la na).trans d2
  have H5 := hide hown5; have HG5 := hide hgrow; have HA5 := hide hat; have HL5 := hide hlt5
  clear hown5 hgrow hat hlt5 hx
  refine hK.out _ _ ⟨xm, x0, x1, x2, xo⟩ (fun hHeld => ?_)
  clear hK K
  (try simp only [Act.put, List.getElem_toArray, List.getElem_cons_succ, List.getElem_cons_zero, List.setIfInBounds_toArray, List.set_cons_zero, List.set_cons_succ])
  refine wpAnyH_take (i := 9) (v := ?v9) rfl (by kernel_rfl) (by kernel_rfl) (by kernel_rfl) (fun _ _ _ h => h) (Or.inl ⟨by rfl, ?y9⟩) hHeld ?r9
  case y9 => (intro w hSw; (try dsimp only at hSw); go_simp; all_goals (with_reducible rfl))
  (try simp only [Act.put, List.getElem_toArray, List.getElem_cons_succ, List.getElem_cons_zero, List.setIfInBounds_toArray, List.set_cons_zero, List.set_cons_succ])
  refine wpAnyH_done (by kernel_rfl) ?_ _
  simp only [lastQ]
  refine wpOp_step rfl (fun K hK => ?_)
  go_simp
  refine hK _ _ ?_
  refine NoPanic.normal ?_
  go_wp2
  exact (unhide HN) _ _ _ _ _ _ _ _ _ _ _ _ _ _ _ _ _   wx gg cap  (unhide H5) (unhide HG5) (unhide HA5) (unhide HL5)
end Gm
end Go.Proofs.YtcpknafaocdjdaaGreatDoor
