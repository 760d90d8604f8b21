/- GQ: what follows, part by part: each part tells what it holds. -/
import Derived.Test.YtheopjcmhclgdaaGreatDoorGmJ
import Derived.Test.YtheopjcmhclgdaaGreatDoorGP
import Derived.Test.YtheopjcmhclgdaaGreatDoorOpG
import Derived.Deep.LoopGhost

/- giveModule's loop 0. -/
namespace Go.Proofs.YtheopjcmhclgdaaGreatDoor
open Go.RowKit
namespace Gm
set_option linter.unusedVariables false
set_option linter.unusedSimpArgs false
set_option maxRecDepth 1000000 in
set_option maxHeartbeats 6400000 in
theorem lp_0 {u0 u5 u6 u7 u8 u9 u10 u11 u12 u13 u14 u15 u16 u17 u18 u19 u20 u21 u22 u23 u24 u25 u26 u27 u28 u29 u30 u31 u32 u33 u34 u35 u36 u37 u38 u39 u40 u41 u42 u43 u44 u45 u46 u47 u48 u49 u50 u51 u52 u53 u54 u55 u56 u57 u58 u59 u60 u61 u62 u63 u64 u65 u66 u67 u68 u69 u70 u71 u72 u73 u74 u75 u76 u77 u78 u79 u80 u81 u82 u83 u84 u85 u86 u87 u88 u89 u90 u91 u92 u93 u94 u95 u96 u97 u98 u99 u100 u101 u102 u103 u104 u105 u106 u107 u108 u109 u110 u111 u112 u113 u114 u115 u116 u117 u118 u119 u120 u121 u122 u123 u124 u125 u126 u127 u128 u129 u130 u131 u132 u133 u134 u135 u136 u137 u138 u139 u140 u141 u142 u143 u144 u145 u146 u147 u148 u149 u150 u151 u152 u153 u154 u155 u156 u157 u158 u159 u160 u161 u162 u163 u164 u165 u166 u167 u168 u169 u170 u171 u172 u173 u174 u175 u176 u177 u178 u179 u180 u181 u182 u183 u184 u185 u186 u187 u188 u189 u190 u191 u192 u193 u194 u195 u196 u197 u198 u199 u200 u201 u202 u203 u204 u205 u206 u207 u208 u209 u210 u211 u212 u213 u214 u215 u216 u217 u218 : Value} {w wr0 : World} {g G0 : Nat → Prop} {ms us : Array Value} {l : List Typ} {sa : Option Addr} {cp : Nat} {Keep : World → (Nat → Prop) → Prop} {Q0 : Exit → Act → World → Prop}
    (hgs : ∀ i, g i → i < w.heap.size) (hms : ms[0]? = some (.slice sa l.length cp)) (hus : us.size = 8) (hsrc : LL TypC 2 w g l (.slice sa l.length cp)) (hn : l.length ≤ 1048576) (hok : ∀ x ∈ l, (∀ z ∈ x.ps, 0 ≤ z ∧ z ≤ 255) ∧ x.ps.length ≤ 1048576)
    (hKm : ∀ wr wr' G G', Mv wr wr' G G' → wr.heap.size ≤ wr'.heap.size → Keep wr G → Keep wr' G')
    (hI0 : Inv w wr0 g G0 ms us (.slice none 0 0)) (hu : us[0]? = some (.slice none 0 0)) (hK0 : Keep wr0 G0)
    (hexit : ∀ (v12 v13 v14 v15 v16 v17 v18 v19 v20 v21 v22 v23 v24 v25 v26 v27 v28 v29 v30 v31 v32 v33 v34 v35 v36 v37 s : Value) (wr' : World) (G' : Nat → Prop) (va : Option Addr) (vc : Nat), Inv w wr' g G' ms (us.setIfInBounds 0 (.slice va l.length vc)) (.slice none 0 0) → LL TypC 2 wr' G' l (.slice va l.length vc) → Keep wr' G' → Q0 (.exit 0) ⟨#[u0, .pointer (some ⟨w.heap.size, 0, none⟩), .pointer (some ⟨w.heap.size + 1, 0, none⟩), .pointer (some ⟨w.heap.size + 2, 0, none⟩), s, u5, u6, u7, u8, u9, u10, u11, v12, v13, v14, v15, v16, v17, v18, v19, v20, v21, v22, v23, v24, v25, v26, v27, v28, v29, v30, v31, v32, v33, v34, v35, v36, v37, u38, u39, u40, u41, u42, u43, u44, u45, u46, u47, u48, u49, u50, u51, u52, u53, u54, u55, u56, u57, u58, u59, u60, u61, u62, u63, u64, u65, u66, u67, u68, u69, u70, u71, u72, u73, u74, u75, u76, u77, u78, u79, u80, u81, u82, u83, u84, u85, u86, u87, u88, u89, u90, u91, u92, u93, u94, u95, u96, u97, u98, u99, u100, u101, u102, u103, u104, u105, u106, u107, u108, u109, u110, u111, u112, u113, u114, u115, u116, u117, u118, u119, u120, u121, u122, u123, u124, u125, u126, u127, u128, u129, u130, u131, u132, u133, u134, u135, u136, u137, u138, u139, u140, u141, u142, u143, u144, u145, u146, u147, u148, u149, u150, u151, u152, u153, u154, u155, u156, u157, u158, u159, u160, u161, u162, u163, u164, u165, u166, u167, u168, u169, u170, u171, u172, u173, u174, u175, u176, u177, u178, u179, u180, u181, u182, u183, u184, u185, u186, u187, u188, u189, u190, u191, u192, u193, u194, u195, u196, u197, u198, u199, u200, u201, u202, u203, u204, u205, u206, u207, u208, u209, u210, u211, u212, u213, u214, u215, u216, u217, u218], []⟩ wr') :
    Code.wp Tryz.prog (Code.loop gbody0) Q0 ⟨#[u0, .pointer (some ⟨w.heap.size, 0, none⟩), .pointer (some ⟨w.heap.size + 1, 0, none⟩), .pointer (some ⟨w.heap.size + 2, 0, none⟩), .int .i64 0, u5, u6, u7, u8, u9, u10, u11, u12, u13, u14, u15, u16, u17, u18, u19, u20, u21, u22, u23, u24, u25, u26, u27, u28, u29, u30, u31, u32, u33, u34, u35, u36, u37, u38, u39, u40, u41, u42, u43, u44, u45, u46, u47, u48, u49, u50, u51, u52, u53, u54, u55, u56, u57, u58, u59, u60, u61, u62, u63, u64, u65, u66, u67, u68, u69, u70, u71, u72, u73, u74, u75, u76, u77, u78, u79, u80, u81, u82, u83, u84, u85, u86, u87, u88, u89, u90, u91, u92, u93, u94, u95, u96, u97, u98, u99, u100, u101, u102, u103, u104, u105, u106, u107, u108, u109, u110, u111, u112, u113, u114, u115, u116, u117, u118, u119, u120, u121, u122, u123, u124, u125, u126, u127, u128, u129, u130, u131, u132, u133, u134, u135, u136, u137, u138, u139, u140, u141, u142, u143, u144, u145, u146, u147, u148, u149, u150, u151, u152, u153, u154, u155, u156, u157, u158, u159, u160, u161, u162, u163, u164, u165, u166, u167, u168, u169, u170, u171, u172, u173, u174, u175, u176, u177, u178, u179, u180, u181, u182, u183, u184, u185, u186, u187, u188, u189, u190, u191, u192, u193, u194, u195, u196, u197, u198, u199, u200, u201, u202, u203, u204, u205, u206, u207, u208, u209, u210, u211, u212, u213, u214, u215, u216, u217, u218], []⟩ wr0 := by
  have HE := hide hexit; have HSrc := hide hsrc
  have hI1 : Inv w wr0 g G0 ms (us.setIfInBounds 0 (.slice none 0 0)) (.slice none 0 0) := by rw [set_same hu]; exact hI0
  have HI1 := hide hI1; have HK1 := hide hK0
  clear hexit hsrc hI0 hI1 hK0
  dsimp only
  conv => arg 2; arg 1; whnf
  go_loopg [4] (l.length + 1) (fun gk s wr => ∃ (j : Nat) (G : Nat → Prop) (ua : Option Addr) (uc : Nat) (xs : List Value), s = .int .i64 j ∧ j ≤ l.length ∧ l.length - j < gk ∧ Hid (Inv w wr g G ms (us.setIfInBounds 0 (.slice ua j uc)) (.slice ua j uc)) ∧ Hid (wr.ownsRow (w.heap.size + 3) 97 2 (.slice ua j uc) j xs) ∧ Hid (Its (TypC wr G) 2 (l.take j) xs) ∧ Hid (Keep wr G))
  case atStart => exact ⟨0, G0, none, 0, [], rfl, Nat.zero_le _, by omega, HI1, hide (World.ownsRow_nil _ _ _ _), hide (by simpa using Its.nil _ _), HK1⟩
  case round =>
    obtain ⟨j, G, ua, uc, xs, rfl, hj, hgk, HI, HO, HT, HK⟩ := hrel
    clear HI1 HK1
    by_cases hlt : j < l.length
    · change Code.wp Tryz.prog gbody0 _ _ _
      obtain ⟨x, hx⟩ : ∃ x, l[j] = x := ⟨_, rfl⟩
      have hokx := hok x (by rw [← hx]; exact List.getElem_mem hlt)
      have hsw := (unhide HSrc).moved (Mv.below (g' := g) (unhide HI).b (fun _ _ h => h)) (unhide HI).b.size (fun _ _ q => TypC.moved (Mv.below (g' := g) (unhide HI).b (fun _ _ h => h)) q)
      obtain ⟨sa', cp', es, hcpl, _, hsr⟩ := hsw
      simp only [Value.slice.injEq] at es
      obtain ⟨rfl, _, rfl⟩ := es
      obtain ⟨ba, oa, rfl, hgb, hbl, hits⟩ := hsr (by omega)
      obtain ⟨cs, hcl, hit, hcs⟩ := hits j hlt
      rw [hx] at hit
      obtain ⟨vp, rfl, hp⟩ := hit
      have d0 := hcs 0 _ rfl
      have d1 := hcs 1 _ rfl
      have HP := hide hp
      obtain ⟨pa, pc, rfl, hpc, hpn, hpr⟩ := hp
      have hc0 : ∀ W, Below wr.heap.size wr W → Calls Tryz.prog 21 #[.slice pa x.ps.length pc] W fun e w' => ∃ xpa xpl xpc, e = .returned (.slice xpa xpl xpc) ∧ w'.ownsRow W.heap.size 95 1 (.slice xpa xpl xpc) x.ps.length (x.ps.map (Value.int .u8)) ∧ Below W.heap.size W w' := fun W hW => by
        have hr : Row W pa x.ps.length x.ps := row_of (Byts.moved (Mv.below (g' := g) hW (fun _ _ h => h)) (unhide HP)) hokx.1
        refine (Ex.kinds_any pa x.ps.length pc x.ps W hr (by have := hokx.2; omega)).mono ?_
        rintro e w' ⟨v, he, ho, hb⟩
        obtain ⟨va, vc, rfl⟩ := own_slice ho
        exact ⟨va, _, vc, he, ho, hb⟩
      have hI := unhide HI
      have hl3 := hI.lt
      have hbs := hgs ba hgb
      have hos := (unhide HO).lt
      have hmc : wr.cell? ⟨w.heap.size, 0, none⟩ = some (.slice (some ⟨ba, oa, none⟩) l.length cp) := by rw [cell_of_row wr _ 0 _ _ _ hI.bm]; exact hms
      have oc : wr.cell? ⟨w.heap.size + 2, 0, none⟩ = some (.slice ua j uc) := by rw [cell_of_row wr _ 0 _ _ _ hI.bo]; exact set_get (by omega)
      refine gm_0 (base := w.heap.size + 3) (ua := ua) (uc := uc) (xs := xs) (PK0 := fun W w' v => w'.ownsRow W.heap.size 95 1 v x.ps.length (x.ps.map (Value.int .u8))) (by omega) (by omega) hmc d0 d1 oc (fun i => frozen_of_row wr _ i _ _ hI.bo) (unhide HO) (by omega) (by omega) (by omega) hbl (by omega) (by omega) (fun e => by have := (hos _ e).1; omega) (fun e => by have := (hos _ e).1; omega) (fun e => by have := (hos _ e).1; omega) hc0 (fun v12 v13 v14 v15 v16 v17 v18 v19 v20 v21 v22 v23 v24 v25 v26 v27 v28 v29 v30 v31 v32 v33 v34 v35 v36 v37 xpa xpl xpc w1 wx gg cap hP0 hB0 h5 hgr hat hl5 => ?_)
      obtain ⟨wf, hwf⟩ : ∃ wf, wx.setCell ⟨w.heap.size + 2, 0, none⟩ (.slice (some ⟨gg, 0, none⟩) (j + 1) cap) = wf := ⟨_, rfl⟩
      have hst := Inv.step (k := 0) (cap := cap) _ hI (unhide HO) (Below.on (drew_below9 wr) hB0) hgr hat hl5 (by simp; omega)
      rw [hwf] at hst ⊢
      obtain ⟨hI2, keep, hmvx⟩ := hst
      rw [Array.setIfInBounds_setIfInBounds] at hI2
      obtain ⟨G', hG'⟩ : ∃ G', (fun i => G i ∨ (wr.heap.size ≤ i ∧ i < w1.heap.size)) = G' := ⟨_, rfl⟩
      have hown2 : wf.ownsRow (w.heap.size + 3) 97 2 (.slice (some ⟨gg, 0, none⟩) (j + 1) cap) (j + 1) (xs ++ [.slice xpa xpl xpc, .int .u8 x.re]) := by
        rw [← hwf]
        exact owns_set h5 (fun e => by have e1 : gg = w.heap.size + 2 := by simpa [Value.ownBlock] using e
                                       rcases hat with h | h
                                       · have := (hos _ h).1; omega
                                       · have := (Below.on (drew_below9 wr) hB0).size; omega)
      have htk : l.take (j + 1) = l.take j ++ [x] := by rw [List.take_succ_eq_append_getElem hlt, hx]
      have hits2 : Its (TypC wf G') 2 (l.take (j + 1)) (xs ++ [.slice xpa xpl xpc, .int .u8 x.re]) := by
        rw [htk]
        subst hG'
        refine Its.snoc ((unhide HT).mono fun y cs q => TypC.moved hmvx.1 q) ?_ rfl
        have hmn : Mv w1 wf (Ex.gor g wr.heap.size) (fun i => G i ∨ (wr.heap.size ≤ i ∧ i < w1.heap.size)) := fun i hi hg => by
          rcases hg with hg | hg
          · have h3 := (unhide HI).G1 i ((unhide HI).gG i hg)
            exact ⟨.inl ((unhide HI).gG i hg), keep i hi (by omega) h3.2.2⟩
          · exact ⟨.inr ⟨hg, hi⟩, keep i hi (by have := (unhide HI).lt; omega) (fun e => by have := ((unhide HO).lt i e).2; omega)⟩
        exact ⟨_, rfl, own_byts hP0 (by simp) (fun i h1 h2 => hmn i h2 (.inr (by simpa using h1)))⟩
      have hKp := hKm _ _ _ _ hmvx.1 hmvx.2 (unhide HK)
      rw [hG'] at hI2 hKp
      dsimp only
      go_wp2
      go_roundg (l.length - j)
      case measure => omega
      case rel => exact ⟨j + 1, G', _, _, _, by go_num, hlt, Nat.sub_lt_sub_left hlt (Nat.lt_succ_self j), hide hI2, hide hown2, hide hits2, hide hKp⟩
    · obtain rfl : j = l.length := by omega
      have htk : l.take l.length = l := List.take_length
      have hT := unhide HT
      rw [htk] at hT
      obtain ⟨q1, q2, q3⟩ := Inv.next (unhide HI) (unhide HO) hT (fun G' hG x cs q => TypC.moved (fun i _ hi => ⟨hG i hi, rfl⟩) q)
      have hKn := hKm _ _ _ _ q3 (Nat.le_refl _) (unhide HK)
      have hmc : wr.cell? ⟨w.heap.size, 0, none⟩ = some (.slice sa l.length cp) := by rw [cell_of_row wr _ 0 _ _ _ (unhide HI).bm]; exact hms
      have hll : w.heap.size < wr.heap.size := by have := (unhide HI).lt; omega
      have Q1 := hide q1; have Q2 := hide q2; have QK := hide hKn
      clear q1 q2 q3 hKn hT htk HI HO HT HK hj
      go_wp2
      exact (unhide HE) _ _ _ _ _ _ _ _ _ _ _ _ _ _ _ _ _ _ _ _ _ _ _ _ _ _ _ wr _ ua uc (unhide Q1) (unhide Q2) (unhide QK)
end Gm
end Go.Proofs.YtheopjcmhclgdaaGreatDoor

/- giveModule's loop 1. -/
namespace Go.Proofs.YtheopjcmhclgdaaGreatDoor
open Go.RowKit
namespace Gm
set_option linter.unusedVariables false
set_option linter.unusedSimpArgs false
set_option maxRecDepth 1000000 in
set_option maxHeartbeats 6400000 in
theorem lp_1 {u0 u4 u6 u7 u8 u9 u10 u11 u12 u13 u14 u15 u16 u17 u18 u19 u20 u21 u22 u23 u24 u25 u26 u27 u28 u29 u30 u31 u32 u33 u34 u35 u36 u37 u38 u39 u40 u41 u42 u43 u44 u45 u46 u47 u48 u49 u50 u51 u52 u53 u54 u55 u56 u57 u58 u59 u60 u61 u62 u63 u64 u65 u66 u67 u68 u69 u70 u71 u72 u73 u74 u75 u76 u77 u78 u79 u80 u81 u82 u83 u84 u85 u86 u87 u88 u89 u90 u91 u92 u93 u94 u95 u96 u97 u98 u99 u100 u101 u102 u103 u104 u105 u106 u107 u108 u109 u110 u111 u112 u113 u114 u115 u116 u117 u118 u119 u120 u121 u122 u123 u124 u125 u126 u127 u128 u129 u130 u131 u132 u133 u134 u135 u136 u137 u138 u139 u140 u141 u142 u143 u144 u145 u146 u147 u148 u149 u150 u151 u152 u153 u154 u155 u156 u157 u158 u159 u160 u161 u162 u163 u164 u165 u166 u167 u168 u169 u170 u171 u172 u173 u174 u175 u176 u177 u178 u179 u180 u181 u182 u183 u184 u185 u186 u187 u188 u189 u190 u191 u192 u193 u194 u195 u196 u197 u198 u199 u200 u201 u202 u203 u204 u205 u206 u207 u208 u209 u210 u211 u212 u213 u214 u215 u216 u217 u218 : Value} {w wr0 : World} {g G0 : Nat → Prop} {ms us : Array Value} {l : List Fnc} {sa : Option Addr} {cp : Nat} {Keep : World → (Nat → Prop) → Prop} {Q0 : Exit → Act → World → Prop}
    (hgs : ∀ i, g i → i < w.heap.size) (hms : ms[1]? = some (.slice sa l.length cp)) (hus : us.size = 8) (hsrc : LL FncC 3 w g l (.slice sa l.length cp)) (hn : l.length ≤ 1048576) (hok : ∀ x ∈ l, (∀ z ∈ x.ls, 0 ≤ z ∧ z ≤ 255) ∧ x.ls.length ≤ 1048576 ∧ x.body.length ≤ 1048576 ∧ Ex.Sz 1048576 x.body)
    (hKm : ∀ wr wr' G G', Mv wr wr' G G' → wr.heap.size ≤ wr'.heap.size → Keep wr G → Keep wr' G')
    (hI0 : Inv w wr0 g G0 ms us (.slice none 0 0)) (hu : us[1]? = some (.slice none 0 0)) (hK0 : Keep wr0 G0)
    (hexit : ∀ (v38 v39 v40 v41 v42 v43 v44 v45 v46 v47 v48 v49 v50 v51 v52 v53 v54 v55 v56 v57 v58 v59 v60 v61 v62 v63 v64 v65 v66 v67 v68 v69 v70 s : Value) (wr' : World) (G' : Nat → Prop) (va : Option Addr) (vc : Nat), Inv w wr' g G' ms (us.setIfInBounds 1 (.slice va l.length vc)) (.slice none 0 0) → LL FncC 3 wr' G' l (.slice va l.length vc) → Keep wr' G' → OwF (w.heap.size + 3) l.length (.slice va l.length vc) wr' G' → Q0 (.exit 2) ⟨#[u0, .pointer (some ⟨w.heap.size, 0, none⟩), .pointer (some ⟨w.heap.size + 1, 0, none⟩), .pointer (some ⟨w.heap.size + 2, 0, none⟩), u4, s, u6, u7, u8, u9, u10, u11, u12, u13, u14, u15, u16, u17, u18, u19, u20, u21, u22, u23, u24, u25, u26, u27, u28, u29, u30, u31, u32, u33, u34, u35, u36, u37, v38, v39, v40, v41, v42, v43, v44, v45, v46, v47, v48, v49, v50, v51, v52, v53, v54, v55, v56, v57, v58, v59, v60, v61, v62, v63, v64, v65, v66, v67, v68, v69, v70, u71, u72, u73, u74, u75, u76, u77, u78, u79, u80, u81, u82, u83, u84, u85, u86, u87, u88, u89, u90, u91, u92, u93, u94, u95, u96, u97, u98, u99, u100, u101, u102, u103, u104, u105, u106, u107, u108, u109, u110, u111, u112, u113, u114, u115, u116, u117, u118, u119, u120, u121, u122, u123, u124, u125, u126, u127, u128, u129, u130, u131, u132, u133, u134, u135, u136, u137, u138, u139, u140, u141, u142, u143, u144, u145, u146, u147, u148, u149, u150, u151, u152, u153, u154, u155, u156, u157, u158, u159, u160, u161, u162, u163, u164, u165, u166, u167, u168, u169, u170, u171, u172, u173, u174, u175, u176, u177, u178, u179, u180, u181, u182, u183, u184, u185, u186, u187, u188, u189, u190, u191, u192, u193, u194, u195, u196, u197, u198, u199, u200, u201, u202, u203, u204, u205, u206, u207, u208, u209, u210, u211, u212, u213, u214, u215, u216, u217, u218], []⟩ wr') :
    Code.wp Tryz.prog (Code.loop gbody1) Q0 ⟨#[u0, .pointer (some ⟨w.heap.size, 0, none⟩), .pointer (some ⟨w.heap.size + 1, 0, none⟩), .pointer (some ⟨w.heap.size + 2, 0, none⟩), u4, .int .i64 0, u6, u7, u8, u9, u10, u11, u12, u13, u14, u15, u16, u17, u18, u19, u20, u21, u22, u23, u24, u25, u26, u27, u28, u29, u30, u31, u32, u33, u34, u35, u36, u37, u38, u39, u40, u41, u42, u43, u44, u45, u46, u47, u48, u49, u50, u51, u52, u53, u54, u55, u56, u57, u58, u59, u60, u61, u62, u63, u64, u65, u66, u67, u68, u69, u70, u71, u72, u73, u74, u75, u76, u77, u78, u79, u80, u81, u82, u83, u84, u85, u86, u87, u88, u89, u90, u91, u92, u93, u94, u95, u96, u97, u98, u99, u100, u101, u102, u103, u104, u105, u106, u107, u108, u109, u110, u111, u112, u113, u114, u115, u116, u117, u118, u119, u120, u121, u122, u123, u124, u125, u126, u127, u128, u129, u130, u131, u132, u133, u134, u135, u136, u137, u138, u139, u140, u141, u142, u143, u144, u145, u146, u147, u148, u149, u150, u151, u152, u153, u154, u155, u156, u157, u158, u159, u160, u161, u162, u163, u164, u165, u166, u167, u168, u169, u170, u171, u172, u173, u174, u175, u176, u177, u178, u179, u180, u181, u182, u183, u184, u185, u186, u187, u188, u189, u190, u191, u192, u193, u194, u195, u196, u197, u198, u199, u200, u201, u202, u203, u204, u205, u206, u207, u208, u209, u210, u211, u212, u213, u214, u215, u216, u217, u218], []⟩ wr0 := by
  have HE := hide hexit; have HSrc := hide hsrc
  have hI1 : Inv w wr0 g G0 ms (us.setIfInBounds 1 (.slice none 0 0)) (.slice none 0 0) := by rw [set_same hu]; exact hI0
  have HI1 := hide hI1; have HK1 := hide hK0
  clear hexit hsrc hI0 hI1 hK0
  dsimp only
  conv => arg 2; arg 1; whnf
  go_loopg [5] (l.length + 1) (fun gk s wr => ∃ (j : Nat) (G : Nat → Prop) (ua : Option Addr) (uc : Nat) (xs : List Value), s = .int .i64 j ∧ j ≤ l.length ∧ l.length - j < gk ∧ Hid (Inv w wr g G ms (us.setIfInBounds 1 (.slice ua j uc)) (.slice ua j uc)) ∧ Hid (wr.ownsRow (w.heap.size + 3) 106 3 (.slice ua j uc) j xs) ∧ Hid (Its (FncC wr G) 3 (l.take j) xs) ∧ Hid (Keep wr G))
  case atStart => exact ⟨0, G0, none, 0, [], rfl, Nat.zero_le _, by omega, HI1, hide (World.ownsRow_nil _ _ _ _), hide (by simpa using Its.nil _ _), HK1⟩
  case round =>
    obtain ⟨j, G, ua, uc, xs, rfl, hj, hgk, HI, HO, HT, HK⟩ := hrel
    clear HI1 HK1
    by_cases hlt : j < l.length
    · change Code.wp Tryz.prog gbody1 _ _ _
      obtain ⟨x, hx⟩ : ∃ x, l[j] = x := ⟨_, rfl⟩
      have hokx := hok x (by rw [← hx]; exact List.getElem_mem hlt)
      have hsw := (unhide HSrc).moved (Mv.below (g' := g) (unhide HI).b (fun _ _ h => h)) (unhide HI).b.size (fun _ _ q => FncC.moved (Mv.below (g' := g) (unhide HI).b (fun _ _ h => h)) q)
      obtain ⟨sa', cp', es, hcpl, _, hsr⟩ := hsw
      simp only [Value.slice.injEq] at es
      obtain ⟨rfl, _, rfl⟩ := es
      obtain ⟨ba, oa, rfl, hgb, hbl, hits⟩ := hsr (by omega)
      obtain ⟨cs, hcl, hit, hcs⟩ := hits j hlt
      rw [hx] at hit
      obtain ⟨vp, vq, rfl, hp, hq⟩ := hit
      have d0 := hcs 0 _ rfl
      have d1 := hcs 1 _ rfl
      have d2 := hcs 2 _ rfl
      have HP := hide hp; have HQ := hide hq
      obtain ⟨pa, pc, rfl, hpc, hpn, hpr⟩ := hp
      obtain ⟨qa, qc, rfl, _⟩ := hq
      have hc0 : ∀ W, Below wr.heap.size wr W → Calls Tryz.prog 21 #[.slice pa x.ls.length pc] W fun e w' => ∃ xpa xpl xpc, e = .returned (.slice xpa xpl xpc) ∧ w'.ownsRow W.heap.size 95 1 (.slice xpa xpl xpc) x.ls.length (x.ls.map (Value.int .u8)) ∧ Below W.heap.size W w' := fun W hW => by
        have hr : Row W pa x.ls.length x.ls := row_of (Byts.moved (Mv.below (g' := g) hW (fun _ _ h => h)) (unhide HP)) hokx.1
        refine (Ex.kinds_any pa x.ls.length pc x.ls W hr (by have := hokx.2.1; omega)).mono ?_
        rintro e w' ⟨v, he, ho, hb⟩
        obtain ⟨va, vc, rfl⟩ := own_slice ho
        exact ⟨va, _, vc, he, ho, hb⟩
      have hc1 : ∀ W, Below wr.heap.size wr W → Calls Tryz.prog 22 #[.slice qa x.body.length qc] W fun e w' => ∃ xqa xql xqc, e = .returned (.slice xqa xql xqc) ∧ Ex.Code w' (Ex.gor g W.heap.size) x.body (.slice xqa xql xqc) ∧ Below W.heap.size W w' := fun W hW => by
        have hg : ∀ i, g i → i < W.heap.size := fun i hi => by have := hgs i hi; have := (unhide HI).b.size; have := hW.size; omega
        refine (Ex.give_any x.body g _ W hg ((unhide HQ).move (Mv.below (g' := g) hW (fun _ _ h => h)).moves) (by have := hokx.2.2.1; omega) (Ex.Sz_mono (by omega) _ hokx.2.2.2)).mono ?_
        rintro e w' ⟨v, he, hb, ho⟩
        obtain ⟨va, vc, rfl, _⟩ := ho.shape
        exact ⟨va, _, vc, he, ho.code (fun i _ hi => by rcases hi with hi | hi; exact hi; exact .inr hi), hb⟩
      have hI := unhide HI
      have hl3 := hI.lt
      have hbs := hgs ba hgb
      have hos := (unhide HO).lt
      have hmc : wr.cell? ⟨w.heap.size, 1, none⟩ = some (.slice (some ⟨ba, oa, none⟩) l.length cp) := by rw [cell_of_row wr _ 1 _ _ _ hI.bm]; exact hms
      have oc : wr.cell? ⟨w.heap.size + 2, 1, none⟩ = some (.slice ua j uc) := by rw [cell_of_row wr _ 1 _ _ _ hI.bo]; exact set_get (by omega)
      refine gm_1 (base := w.heap.size + 3) (ua := ua) (uc := uc) (xs := xs) (PK0 := fun W w' v => w'.ownsRow W.heap.size 95 1 v x.ls.length (x.ls.map (Value.int .u8))) (PK1 := fun W w' v => Ex.Code w' (Ex.gor g W.heap.size) x.body v) (by omega) (by omega) hmc d0 d1 d2 oc (fun i => frozen_of_row wr _ i _ _ hI.bo) (unhide HO) (by omega) (by omega) (by omega) hbl (by omega) (by omega) (fun e => by have := (hos _ e).1; omega) (fun e => by have := (hos _ e).1; omega) (fun e => by have := (hos _ e).1; omega) hc0 hc1 (fun v38 v39 v40 v41 v42 v43 v44 v45 v46 v47 v48 v49 v50 v51 v52 v53 v54 v55 v56 v57 v58 v59 v60 v61 v62 v63 v64 v65 v66 v67 v68 v69 v70 xpa xpl xpc xqa xql xqc w1 w2 wx gg cap hP0 hB0 hP1 hB1 h5 hgr hat hl5 => ?_)
      obtain ⟨wf, hwf⟩ : ∃ wf, wx.setCell ⟨w.heap.size + 2, 1, none⟩ (.slice (some ⟨gg, 0, none⟩) (j + 1) cap) = wf := ⟨_, rfl⟩
      have hst := Inv.step (k := 1) (cap := cap) _ hI (unhide HO) (Below.on (Below.on (drew_below9 wr) hB0) hB1) hgr hat hl5 (by simp; omega)
      rw [hwf] at hst ⊢
      obtain ⟨hI2, keep, hmvx⟩ := hst
      rw [Array.setIfInBounds_setIfInBounds] at hI2
      obtain ⟨G', hG'⟩ : ∃ G', (fun i => G i ∨ (wr.heap.size ≤ i ∧ i < w2.heap.size)) = G' := ⟨_, rfl⟩
      have hown2 : wf.ownsRow (w.heap.size + 3) 106 3 (.slice (some ⟨gg, 0, none⟩) (j + 1) cap) (j + 1) (xs ++ [.int .u32 x.ty, .slice xpa xpl xpc, .slice xqa xql xqc]) := by
        rw [← hwf]
        exact owns_set h5 (fun e => by have e1 : gg = w.heap.size + 2 := by simpa [Value.ownBlock] using e
                                       rcases hat with h | h
                                       · have := (hos _ h).1; omega
                                       · have := (Below.on (Below.on (drew_below9 wr) hB0) hB1).size; omega)
      have htk : l.take (j + 1) = l.take j ++ [x] := by rw [List.take_succ_eq_append_getElem hlt, hx]
      have hits2 : Its (FncC wf G') 3 (l.take (j + 1)) (xs ++ [.int .u32 x.ty, .slice xpa xpl xpc, .slice xqa xql xqc]) := by
        rw [htk]
        subst hG'
        refine Its.snoc ((unhide HT).mono fun y cs q => FncC.moved hmvx.1 q) ?_ rfl
        have hmn : Mv w2 wf (Ex.gor g wr.heap.size) (fun i => G i ∨ (wr.heap.size ≤ i ∧ i < w2.heap.size)) := fun i hi hg => by
          rcases hg with hg | hg
          · have h3 := (unhide HI).G1 i ((unhide HI).gG i hg)
            exact ⟨.inl ((unhide HI).gG i hg), keep i hi (by omega) h3.2.2⟩
          · exact ⟨.inr ⟨hg, hi⟩, keep i hi (by have := (unhide HI).lt; omega) (fun e => by have := ((unhide HO).lt i e).2; omega)⟩
        exact ⟨_, _, rfl, own_byts (ownsRow_below hP0 hB1) (by simp) (fun i h1 h2 => hmn i h2 (.inr (by simpa using h1))), hP1.move (Moves.of_gor hmn (by have := hB0.size; simpa using this))⟩
      have hKp := hKm _ _ _ _ hmvx.1 hmvx.2 (unhide HK)
      rw [hG'] at hI2 hKp
      dsimp only
      go_wp2
      go_roundg (l.length - j)
      case measure => omega
      case rel => exact ⟨j + 1, G', _, _, _, by go_num, hlt, Nat.sub_lt_sub_left hlt (Nat.lt_succ_self j), hide hI2, hide hown2, hide hits2, hide hKp⟩
    · obtain rfl : j = l.length := by omega
      have htk : l.take l.length = l := List.take_length
      have hT := unhide HT
      rw [htk] at hT
      obtain ⟨q1, q2, q3⟩ := Inv.next (unhide HI) (unhide HO) hT (fun G' hG x cs q => FncC.moved (fun i _ hi => ⟨hG i hi, rfl⟩) q)
      have hKn := hKm _ _ _ _ q3 (Nat.le_refl _) (unhide HK)
      have hmc : wr.cell? ⟨w.heap.size, 1, none⟩ = some (.slice sa l.length cp) := by rw [cell_of_row wr _ 1 _ _ _ (unhide HI).bm]; exact hms
      have hll : w.heap.size < wr.heap.size := by have := (unhide HI).lt; omega
      have hqo : OwF (w.heap.size + 3) l.length (.slice ua l.length uc) wr (fun i => G i ∨ (Value.slice ua l.length uc).ownBlock = some i) := ⟨⟨xs, unhide HO⟩, fun i hi => .inr hi⟩
      have QO := hide hqo
      have Q1 := hide q1; have Q2 := hide q2; have QK := hide hKn
      clear hqo q1 q2 q3 hKn hT htk HI HO HT HK hj
      go_wp2
      exact (unhide HE) _ _ _ _ _ _ _ _ _ _ _ _ _ _ _ _ _ _ _ _ _ _ _ _ _ _ _ _ _ _ _ _ _ _ wr _ ua uc (unhide Q1) (unhide Q2) (unhide QK) (unhide QO)
end Gm
end Go.Proofs.YtheopjcmhclgdaaGreatDoor

/- giveModule's loop 2. -/
namespace Go.Proofs.YtheopjcmhclgdaaGreatDoor
open Go.RowKit
namespace Gm
set_option linter.unusedVariables false
set_option linter.unusedSimpArgs false
set_option maxRecDepth 1000000 in
set_option maxHeartbeats 6400000 in
theorem lp_2 {u0 u4 u5 u7 u8 u9 u10 u11 u12 u13 u14 u15 u16 u17 u18 u19 u20 u21 u22 u23 u24 u25 u26 u27 u28 u29 u30 u31 u32 u33 u34 u35 u36 u37 u38 u39 u40 u41 u42 u43 u44 u45 u46 u47 u48 u49 u50 u51 u52 u53 u54 u55 u56 u57 u58 u59 u60 u61 u62 u63 u64 u65 u66 u67 u68 u69 u70 u71 u72 u73 u74 u75 u76 u77 u78 u79 u80 u81 u82 u83 u84 u85 u86 u87 u88 u89 u90 u91 u92 u93 u94 u95 u96 u97 u98 u99 u100 u101 u102 u103 u104 u105 u106 u107 u108 u109 u110 u111 u112 u113 u114 u115 u116 u117 u118 u119 u120 u121 u122 u123 u124 u125 u126 u127 u128 u129 u130 u131 u132 u133 u134 u135 u136 u137 u138 u139 u140 u141 u142 u143 u144 u145 u146 u147 u148 u149 u150 u151 u152 u153 u154 u155 u156 u157 u158 u159 u160 u161 u162 u163 u164 u165 u166 u167 u168 u169 u170 u171 u172 u173 u174 u175 u176 u177 u178 u179 u180 u181 u182 u183 u184 u185 u186 u187 u188 u189 u190 u191 u192 u193 u194 u195 u196 u197 u198 u199 u200 u201 u202 u203 u204 u205 u206 u207 u208 u209 u210 u211 u212 u213 u214 u215 u216 u217 u218 : Value} {w wr0 : World} {g G0 : Nat → Prop} {ms us : Array Value} {l : List Lim} {sa : Option Addr} {cp : Nat} {Keep : World → (Nat → Prop) → Prop} {Q0 : Exit → Act → World → Prop}
    (hgs : ∀ i, g i → i < w.heap.size) (hms : ms[2]? = some (.slice sa l.length cp)) (hus : us.size = 8) (hsrc : LL LimC 3 w g l (.slice sa l.length cp)) (hn : l.length ≤ 1048576) (hok : ∀ x ∈ l, True)
    (hKm : ∀ wr wr' G G', Mv wr wr' G G' → wr.heap.size ≤ wr'.heap.size → Keep wr G → Keep wr' G')
    (hI0 : Inv w wr0 g G0 ms us (.slice none 0 0)) (hu : us[2]? = some (.slice none 0 0)) (hK0 : Keep wr0 G0)
    (hexit : ∀ (v71 v72 v73 v74 v75 v76 v77 v78 v79 v80 v81 v82 v83 v84 v85 v86 v87 s : Value) (wr' : World) (G' : Nat → Prop) (va : Option Addr) (vc : Nat), Inv w wr' g G' ms (us.setIfInBounds 2 (.slice va l.length vc)) (.slice none 0 0) → LL LimC 3 wr' G' l (.slice va l.length vc) → Keep wr' G' → Q0 (.exit 4) ⟨#[u0, .pointer (some ⟨w.heap.size, 0, none⟩), .pointer (some ⟨w.heap.size + 1, 0, none⟩), .pointer (some ⟨w.heap.size + 2, 0, none⟩), u4, u5, s, u7, u8, u9, u10, u11, u12, u13, u14, u15, u16, u17, u18, u19, u20, u21, u22, u23, u24, u25, u26, u27, u28, u29, u30, u31, u32, u33, u34, u35, u36, u37, u38, u39, u40, u41, u42, u43, u44, u45, u46, u47, u48, u49, u50, u51, u52, u53, u54, u55, u56, u57, u58, u59, u60, u61, u62, u63, u64, u65, u66, u67, u68, u69, u70, v71, v72, v73, v74, v75, v76, v77, v78, v79, v80, v81, v82, v83, v84, v85, v86, v87, u88, u89, u90, u91, u92, u93, u94, u95, u96, u97, u98, u99, u100, u101, u102, u103, u104, u105, u106, u107, u108, u109, u110, u111, u112, u113, u114, u115, u116, u117, u118, u119, u120, u121, u122, u123, u124, u125, u126, u127, u128, u129, u130, u131, u132, u133, u134, u135, u136, u137, u138, u139, u140, u141, u142, u143, u144, u145, u146, u147, u148, u149, u150, u151, u152, u153, u154, u155, u156, u157, u158, u159, u160, u161, u162, u163, u164, u165, u166, u167, u168, u169, u170, u171, u172, u173, u174, u175, u176, u177, u178, u179, u180, u181, u182, u183, u184, u185, u186, u187, u188, u189, u190, u191, u192, u193, u194, u195, u196, u197, u198, u199, u200, u201, u202, u203, u204, u205, u206, u207, u208, u209, u210, u211, u212, u213, u214, u215, u216, u217, u218], []⟩ wr') :
    Code.wp Tryz.prog (Code.loop gbody2) Q0 ⟨#[u0, .pointer (some ⟨w.heap.size, 0, none⟩), .pointer (some ⟨w.heap.size + 1, 0, none⟩), .pointer (some ⟨w.heap.size + 2, 0, none⟩), u4, u5, .int .i64 0, u7, u8, u9, u10, u11, u12, u13, u14, u15, u16, u17, u18, u19, u20, u21, u22, u23, u24, u25, u26, u27, u28, u29, u30, u31, u32, u33, u34, u35, u36, u37, u38, u39, u40, u41, u42, u43, u44, u45, u46, u47, u48, u49, u50, u51, u52, u53, u54, u55, u56, u57, u58, u59, u60, u61, u62, u63, u64, u65, u66, u67, u68, u69, u70, u71, u72, u73, u74, u75, u76, u77, u78, u79, u80, u81, u82, u83, u84, u85, u86, u87, u88, u89, u90, u91, u92, u93, u94, u95, u96, u97, u98, u99, u100, u101, u102, u103, u104, u105, u106, u107, u108, u109, u110, u111, u112, u113, u114, u115, u116, u117, u118, u119, u120, u121, u122, u123, u124, u125, u126, u127, u128, u129, u130, u131, u132, u133, u134, u135, u136, u137, u138, u139, u140, u141, u142, u143, u144, u145, u146, u147, u148, u149, u150, u151, u152, u153, u154, u155, u156, u157, u158, u159, u160, u161, u162, u163, u164, u165, u166, u167, u168, u169, u170, u171, u172, u173, u174, u175, u176, u177, u178, u179, u180, u181, u182, u183, u184, u185, u186, u187, u188, u189, u190, u191, u192, u193, u194, u195, u196, u197, u198, u199, u200, u201, u202, u203, u204, u205, u206, u207, u208, u209, u210, u211, u212, u213, u214, u215, u216, u217, u218], []⟩ wr0 := by
  have HE := hide hexit; have HSrc := hide hsrc
  have hI1 : Inv w wr0 g G0 ms (us.setIfInBounds 2 (.slice none 0 0)) (.slice none 0 0) := by rw [set_same hu]; exact hI0
  have HI1 := hide hI1; have HK1 := hide hK0
  clear hexit hsrc hI0 hI1 hK0
  dsimp only
  conv => arg 2; arg 1; whnf
  go_loopg [6] (l.length + 1) (fun gk s wr => ∃ (j : Nat) (G : Nat → Prop) (ua : Option Addr) (uc : Nat) (xs : List Value), s = .int .i64 j ∧ j ≤ l.length ∧ l.length - j < gk ∧ Hid (Inv w wr g G ms (us.setIfInBounds 2 (.slice ua j uc)) (.slice ua j uc)) ∧ Hid (wr.ownsRow (w.heap.size + 3) 108 3 (.slice ua j uc) j xs) ∧ Hid (Its (LimC wr G) 3 (l.take j) xs) ∧ Hid (Keep wr G))
  case atStart => exact ⟨0, G0, none, 0, [], rfl, Nat.zero_le _, by omega, HI1, hide (World.ownsRow_nil _ _ _ _), hide (by simpa using Its.nil _ _), HK1⟩
  case round =>
    obtain ⟨j, G, ua, uc, xs, rfl, hj, hgk, HI, HO, HT, HK⟩ := hrel
    clear HI1 HK1
    by_cases hlt : j < l.length
    · change Code.wp Tryz.prog gbody2 _ _ _
      obtain ⟨x, hx⟩ : ∃ x, l[j] = x := ⟨_, rfl⟩
      have hokx := hok x (by rw [← hx]; exact List.getElem_mem hlt)
      have hsw := (unhide HSrc).moved (Mv.below (g' := g) (unhide HI).b (fun _ _ h => h)) (unhide HI).b.size (fun _ _ q => LimC.moved (Mv.below (g' := g) (unhide HI).b (fun _ _ h => h)) q)
      obtain ⟨sa', cp', es, hcpl, _, hsr⟩ := hsw
      simp only [Value.slice.injEq] at es
      obtain ⟨rfl, _, rfl⟩ := es
      obtain ⟨ba, oa, rfl, hgb, hbl, hits⟩ := hsr (by omega)
      obtain ⟨cs, hcl, hit, hcs⟩ := hits j hlt
      rw [hx] at hit
      obtain rfl : cs = [.int .u32 x.mn, .bool x.has, .int .u32 x.mx] := hit
      have d0 := hcs 0 _ rfl
      have d1 := hcs 1 _ rfl
      have d2 := hcs 2 _ rfl
      have hI := unhide HI
      have hl3 := hI.lt
      have hbs := hgs ba hgb
      have hos := (unhide HO).lt
      have hmc : wr.cell? ⟨w.heap.size, 2, none⟩ = some (.slice (some ⟨ba, oa, none⟩) l.length cp) := by rw [cell_of_row wr _ 2 _ _ _ hI.bm]; exact hms
      have oc : wr.cell? ⟨w.heap.size + 2, 2, none⟩ = some (.slice ua j uc) := by rw [cell_of_row wr _ 2 _ _ _ hI.bo]; exact set_get (by omega)
      refine gm_2 (base := w.heap.size + 3) (ua := ua) (uc := uc) (xs := xs) (by omega) (by omega) hmc d0 d1 d2 oc (fun i => frozen_of_row wr _ i _ _ hI.bo) (unhide HO) (by omega) (by omega) (by omega) hbl (by omega) (by omega) (fun e => by have := (hos _ e).1; omega) (fun e => by have := (hos _ e).1; omega) (fun e => by have := (hos _ e).1; omega)  (fun v71 v72 v73 v74 v75 v76 v77 v78 v79 v80 v81 v82 v83 v84 v85 v86 v87   wx gg cap  h5 hgr hat hl5 => ?_)
      obtain ⟨wf, hwf⟩ : ∃ wf, wx.setCell ⟨w.heap.size + 2, 2, none⟩ (.slice (some ⟨gg, 0, none⟩) (j + 1) cap) = wf := ⟨_, rfl⟩
      have hst := Inv.step (k := 2) (cap := cap) _ hI (unhide HO) (drew_below9 wr) hgr hat hl5 (by simp; omega)
      rw [hwf] at hst ⊢
      obtain ⟨hI2, keep, hmvx⟩ := hst
      rw [Array.setIfInBounds_setIfInBounds] at hI2
      obtain ⟨G', hG'⟩ : ∃ G', (fun i => G i ∨ (wr.heap.size ≤ i ∧ i < wr.drew.heap.size)) = G' := ⟨_, rfl⟩
      have hown2 : wf.ownsRow (w.heap.size + 3) 108 3 (.slice (some ⟨gg, 0, none⟩) (j + 1) cap) (j + 1) (xs ++ [.int .u32 x.mn, .bool x.has, .int .u32 x.mx]) := by
        rw [← hwf]
        exact owns_set h5 (fun e => by have e1 : gg = w.heap.size + 2 := by simpa [Value.ownBlock] using e
                                       rcases hat with h | h
                                       · have := (hos _ h).1; omega
                                       · have := (drew_below9 wr).size; omega)
      have htk : l.take (j + 1) = l.take j ++ [x] := by rw [List.take_succ_eq_append_getElem hlt, hx]
      have hits2 : Its (LimC wf G') 3 (l.take (j + 1)) (xs ++ [.int .u32 x.mn, .bool x.has, .int .u32 x.mx]) := by
        rw [htk]
        subst hG'
        refine Its.snoc ((unhide HT).mono fun y cs q => LimC.moved hmvx.1 q) ?_ rfl
        exact rfl
      have hKp := hKm _ _ _ _ hmvx.1 hmvx.2 (unhide HK)
      rw [hG'] at hI2 hKp
      dsimp only
      go_wp2
      go_roundg (l.length - j)
      case measure => omega
      case rel => exact ⟨j + 1, G', _, _, _, by go_num, hlt, Nat.sub_lt_sub_left hlt (Nat.lt_succ_self j), hide hI2, hide hown2, hide hits2, hide hKp⟩
    · obtain rfl : j = l.length := by omega
      have htk : l.take l.length = l := List.take_length
      have hT := unhide HT
      rw [htk] at hT
      obtain ⟨q1, q2, q3⟩ := Inv.next (unhide HI) (unhide HO) hT (fun G' hG x cs q => LimC.moved (fun i _ hi => ⟨hG i hi, rfl⟩) q)
      have hKn := hKm _ _ _ _ q3 (Nat.le_refl _) (unhide HK)
      have hmc : wr.cell? ⟨w.heap.size, 2, none⟩ = some (.slice sa l.length cp) := by rw [cell_of_row wr _ 2 _ _ _ (unhide HI).bm]; exact hms
      have hll : w.heap.size < wr.heap.size := by have := (unhide HI).lt; omega
      have Q1 := hide q1; have Q2 := hide q2; have QK := hide hKn
      clear q1 q2 q3 hKn hT htk HI HO HT HK hj
      go_wp2
      exact (unhide HE) _ _ _ _ _ _ _ _ _ _ _ _ _ _ _ _ _ _ wr _ ua uc (unhide Q1) (unhide Q2) (unhide QK)
end Gm
end Go.Proofs.YtheopjcmhclgdaaGreatDoor

/- giveModule's loop 3. -/
namespace Go.Proofs.YtheopjcmhclgdaaGreatDoor
open Go.RowKit
namespace Gm
set_option linter.unusedVariables false
set_option linter.unusedSimpArgs false
set_option maxRecDepth 1000000 in
set_option maxHeartbeats 6400000 in
theorem lp_3 {u0 u4 u5 u6 u8 u9 u10 u11 u12 u13 u14 u15 u16 u17 u18 u19 u20 u21 u22 u23 u24 u25 u26 u27 u28 u29 u30 u31 u32 u33 u34 u35 u36 u37 u38 u39 u40 u41 u42 u43 u44 u45 u46 u47 u48 u49 u50 u51 u52 u53 u54 u55 u56 u57 u58 u59 u60 u61 u62 u63 u64 u65 u66 u67 u68 u69 u70 u71 u72 u73 u74 u75 u76 u77 u78 u79 u80 u81 u82 u83 u84 u85 u86 u87 u88 u89 u90 u91 u92 u93 u94 u95 u96 u97 u98 u99 u100 u101 u102 u103 u104 u105 u106 u107 u108 u109 u110 u111 u112 u113 u114 u115 u116 u117 u118 u119 u120 u121 u122 u123 u124 u125 u126 u127 u128 u129 u130 u131 u132 u133 u134 u135 u136 u137 u138 u139 u140 u141 u142 u143 u144 u145 u146 u147 u148 u149 u150 u151 u152 u153 u154 u155 u156 u157 u158 u159 u160 u161 u162 u163 u164 u165 u166 u167 u168 u169 u170 u171 u172 u173 u174 u175 u176 u177 u178 u179 u180 u181 u182 u183 u184 u185 u186 u187 u188 u189 u190 u191 u192 u193 u194 u195 u196 u197 u198 u199 u200 u201 u202 u203 u204 u205 u206 u207 u208 u209 u210 u211 u212 u213 u214 u215 u216 u217 u218 : Value} {w wr0 : World} {g G0 : Nat → Prop} {ms us : Array Value} {l : List Lim} {sa : Option Addr} {cp : Nat} {Keep : World → (Nat → Prop) → Prop} {Q0 : Exit → Act → World → Prop}
    (hgs : ∀ i, g i → i < w.heap.size) (hms : ms[3]? = some (.slice sa l.length cp)) (hus : us.size = 8) (hsrc : LL LimC 3 w g l (.slice sa l.length cp)) (hn : l.length ≤ 1048576) (hok : ∀ x ∈ l, True)
    (hKm : ∀ wr wr' G G', Mv wr wr' G G' → wr.heap.size ≤ wr'.heap.size → Keep wr G → Keep wr' G')
    (hI0 : Inv w wr0 g G0 ms us (.slice none 0 0)) (hu : us[3]? = some (.slice none 0 0)) (hK0 : Keep wr0 G0)
    (hexit : ∀ (v88 v89 v90 v91 v92 v93 v94 v95 v96 v97 v98 v99 v100 v101 v102 v103 v104 s : Value) (wr' : World) (G' : Nat → Prop) (va : Option Addr) (vc : Nat), Inv w wr' g G' ms (us.setIfInBounds 3 (.slice va l.length vc)) (.slice none 0 0) → LL LimC 3 wr' G' l (.slice va l.length vc) → Keep wr' G' → Q0 (.exit 6) ⟨#[u0, .pointer (some ⟨w.heap.size, 0, none⟩), .pointer (some ⟨w.heap.size + 1, 0, none⟩), .pointer (some ⟨w.heap.size + 2, 0, none⟩), u4, u5, u6, s, u8, u9, u10, u11, u12, u13, u14, u15, u16, u17, u18, u19, u20, u21, u22, u23, u24, u25, u26, u27, u28, u29, u30, u31, u32, u33, u34, u35, u36, u37, u38, u39, u40, u41, u42, u43, u44, u45, u46, u47, u48, u49, u50, u51, u52, u53, u54, u55, u56, u57, u58, u59, u60, u61, u62, u63, u64, u65, u66, u67, u68, u69, u70, u71, u72, u73, u74, u75, u76, u77, u78, u79, u80, u81, u82, u83, u84, u85, u86, u87, v88, v89, v90, v91, v92, v93, v94, v95, v96, v97, v98, v99, v100, v101, v102, v103, v104, u105, u106, u107, u108, u109, u110, u111, u112, u113, u114, u115, u116, u117, u118, u119, u120, u121, u122, u123, u124, u125, u126, u127, u128, u129, u130, u131, u132, u133, u134, u135, u136, u137, u138, u139, u140, u141, u142, u143, u144, u145, u146, u147, u148, u149, u150, u151, u152, u153, u154, u155, u156, u157, u158, u159, u160, u161, u162, u163, u164, u165, u166, u167, u168, u169, u170, u171, u172, u173, u174, u175, u176, u177, u178, u179, u180, u181, u182, u183, u184, u185, u186, u187, u188, u189, u190, u191, u192, u193, u194, u195, u196, u197, u198, u199, u200, u201, u202, u203, u204, u205, u206, u207, u208, u209, u210, u211, u212, u213, u214, u215, u216, u217, u218], []⟩ wr') :
    Code.wp Tryz.prog (Code.loop gbody3) Q0 ⟨#[u0, .pointer (some ⟨w.heap.size, 0, none⟩), .pointer (some ⟨w.heap.size + 1, 0, none⟩), .pointer (some ⟨w.heap.size + 2, 0, none⟩), u4, u5, u6, .int .i64 0, u8, u9, u10, u11, u12, u13, u14, u15, u16, u17, u18, u19, u20, u21, u22, u23, u24, u25, u26, u27, u28, u29, u30, u31, u32, u33, u34, u35, u36, u37, u38, u39, u40, u41, u42, u43, u44, u45, u46, u47, u48, u49, u50, u51, u52, u53, u54, u55, u56, u57, u58, u59, u60, u61, u62, u63, u64, u65, u66, u67, u68, u69, u70, u71, u72, u73, u74, u75, u76, u77, u78, u79, u80, u81, u82, u83, u84, u85, u86, u87, u88, u89, u90, u91, u92, u93, u94, u95, u96, u97, u98, u99, u100, u101, u102, u103, u104, u105, u106, u107, u108, u109, u110, u111, u112, u113, u114, u115, u116, u117, u118, u119, u120, u121, u122, u123, u124, u125, u126, u127, u128, u129, u130, u131, u132, u133, u134, u135, u136, u137, u138, u139, u140, u141, u142, u143, u144, u145, u146, u147, u148, u149, u150, u151, u152, u153, u154, u155, u156, u157, u158, u159, u160, u161, u162, u163, u164, u165, u166, u167, u168, u169, u170, u171, u172, u173, u174, u175, u176, u177, u178, u179, u180, u181, u182, u183, u184, u185, u186, u187, u188, u189, u190, u191, u192, u193, u194, u195, u196, u197, u198, u199, u200, u201, u202, u203, u204, u205, u206, u207, u208, u209, u210, u211, u212, u213, u214, u215, u216, u217, u218], []⟩ wr0 := by
  have HE := hide hexit; have HSrc := hide hsrc
  have hI1 : Inv w wr0 g G0 ms (us.setIfInBounds 3 (.slice none 0 0)) (.slice none 0 0) := by rw [set_same hu]; exact hI0
  have HI1 := hide hI1; have HK1 := hide hK0
  clear hexit hsrc hI0 hI1 hK0
  dsimp only
  conv => arg 2; arg 1; whnf
  go_loopg [7] (l.length + 1) (fun gk s wr => ∃ (j : Nat) (G : Nat → Prop) (ua : Option Addr) (uc : Nat) (xs : List Value), s = .int .i64 j ∧ j ≤ l.length ∧ l.length - j < gk ∧ Hid (Inv w wr g G ms (us.setIfInBounds 3 (.slice ua j uc)) (.slice ua j uc)) ∧ Hid (wr.ownsRow (w.heap.size + 3) 108 3 (.slice ua j uc) j xs) ∧ Hid (Its (LimC wr G) 3 (l.take j) xs) ∧ Hid (Keep wr G))
  case atStart => exact ⟨0, G0, none, 0, [], rfl, Nat.zero_le _, by omega, HI1, hide (World.ownsRow_nil _ _ _ _), hide (by simpa using Its.nil _ _), HK1⟩
  case round =>
    obtain ⟨j, G, ua, uc, xs, rfl, hj, hgk, HI, HO, HT, HK⟩ := hrel
    clear HI1 HK1
    by_cases hlt : j < l.length
    · change Code.wp Tryz.prog gbody3 _ _ _
      obtain ⟨x, hx⟩ : ∃ x, l[j] = x := ⟨_, rfl⟩
      have hokx := hok x (by rw [← hx]; exact List.getElem_mem hlt)
      have hsw := (unhide HSrc).moved (Mv.below (g' := g) (unhide HI).b (fun _ _ h => h)) (unhide HI).b.size (fun _ _ q => LimC.moved (Mv.below (g' := g) (unhide HI).b (fun _ _ h => h)) q)
      obtain ⟨sa', cp', es, hcpl, _, hsr⟩ := hsw
      simp only [Value.slice.injEq] at es
      obtain ⟨rfl, _, rfl⟩ := es
      obtain ⟨ba, oa, rfl, hgb, hbl, hits⟩ := hsr (by omega)
      obtain ⟨cs, hcl, hit, hcs⟩ := hits j hlt
      rw [hx] at hit
      obtain rfl : cs = [.int .u32 x.mn, .bool x.has, .int .u32 x.mx] := hit
      have d0 := hcs 0 _ rfl
      have d1 := hcs 1 _ rfl
      have d2 := hcs 2 _ rfl
      have hI := unhide HI
      have hl3 := hI.lt
      have hbs := hgs ba hgb
      have hos := (unhide HO).lt
      have hmc : wr.cell? ⟨w.heap.size, 3, none⟩ = some (.slice (some ⟨ba, oa, none⟩) l.length cp) := by rw [cell_of_row wr _ 3 _ _ _ hI.bm]; exact hms
      have oc : wr.cell? ⟨w.heap.size + 2, 3, none⟩ = some (.slice ua j uc) := by rw [cell_of_row wr _ 3 _ _ _ hI.bo]; exact set_get (by omega)
      refine gm_3 (base := w.heap.size + 3) (ua := ua) (uc := uc) (xs := xs) (by omega) (by omega) hmc d0 d1 d2 oc (fun i => frozen_of_row wr _ i _ _ hI.bo) (unhide HO) (by omega) (by omega) (by omega) hbl (by omega) (by omega) (fun e => by have := (hos _ e).1; omega) (fun e => by have := (hos _ e).1; omega) (fun e => by have := (hos _ e).1; omega)  (fun v88 v89 v90 v91 v92 v93 v94 v95 v96 v97 v98 v99 v100 v101 v102 v103 v104   wx gg cap  h5 hgr hat hl5 => ?_)
      obtain ⟨wf, hwf⟩ : ∃ wf, wx.setCell ⟨w.heap.size + 2, 3, none⟩ (.slice (some ⟨gg, 0, none⟩) (j + 1) cap) = wf := ⟨_, rfl⟩
      have hst := Inv.step (k := 3) (cap := cap) _ hI (unhide HO) (drew_below9 wr) hgr hat hl5 (by simp; omega)
      rw [hwf] at hst ⊢
      obtain ⟨hI2, keep, hmvx⟩ := hst
      rw [Array.setIfInBounds_setIfInBounds] at hI2
      obtain ⟨G', hG'⟩ : ∃ G', (fun i => G i ∨ (wr.heap.size ≤ i ∧ i < wr.drew.heap.size)) = G' := ⟨_, rfl⟩
      have hown2 : wf.ownsRow (w.heap.size + 3) 108 3 (.slice (some ⟨gg, 0, none⟩) (j + 1) cap) (j + 1) (xs ++ [.int .u32 x.mn, .bool x.has, .int .u32 x.mx]) := by
        rw [← hwf]
        exact owns_set h5 (fun e => by have e1 : gg = w.heap.size + 2 := by simpa [Value.ownBlock] using e
                                       rcases hat with h | h
                                       · have := (hos _ h).1; omega
                                       · have := (drew_below9 wr).size; omega)
      have htk : l.take (j + 1) = l.take j ++ [x] := by rw [List.take_succ_eq_append_getElem hlt, hx]
      have hits2 : Its (LimC wf G') 3 (l.take (j + 1)) (xs ++ [.int .u32 x.mn, .bool x.has, .int .u32 x.mx]) := by
        rw [htk]
        subst hG'
        refine Its.snoc ((unhide HT).mono fun y cs q => LimC.moved hmvx.1 q) ?_ rfl
        exact rfl
      have hKp := hKm _ _ _ _ hmvx.1 hmvx.2 (unhide HK)
      rw [hG'] at hI2 hKp
      dsimp only
      go_wp2
      go_roundg (l.length - j)
      case measure => omega
      case rel => exact ⟨j + 1, G', _, _, _, by go_num, hlt, Nat.sub_lt_sub_left hlt (Nat.lt_succ_self j), hide hI2, hide hown2, hide hits2, hide hKp⟩
    · obtain rfl : j = l.length := by omega
      have htk : l.take l.length = l := List.take_length
      have hT := unhide HT
      rw [htk] at hT
      obtain ⟨q1, q2, q3⟩ := Inv.next (unhide HI) (unhide HO) hT (fun G' hG x cs q => LimC.moved (fun i _ hi => ⟨hG i hi, rfl⟩) q)
      have hKn := hKm _ _ _ _ q3 (Nat.le_refl _) (unhide HK)
      have hmc : wr.cell? ⟨w.heap.size, 3, none⟩ = some (.slice sa l.length cp) := by rw [cell_of_row wr _ 3 _ _ _ (unhide HI).bm]; exact hms
      have hll : w.heap.size < wr.heap.size := by have := (unhide HI).lt; omega
      have Q1 := hide q1; have Q2 := hide q2; have QK := hide hKn
      clear q1 q2 q3 hKn hT htk HI HO HT HK hj
      go_wp2
      exact (unhide HE) _ _ _ _ _ _ _ _ _ _ _ _ _ _ _ _ _ _ wr _ ua uc (unhide Q1) (unhide Q2) (unhide QK)
end Gm
end Go.Proofs.YtheopjcmhclgdaaGreatDoor

/- giveModule's loop 4. -/
namespace Go.Proofs.YtheopjcmhclgdaaGreatDoor
open Go.RowKit
namespace Gm
set_option linter.unusedVariables false
set_option linter.unusedSimpArgs false
set_option maxRecDepth 1000000 in
set_option maxHeartbeats 6400000 in
theorem lp_4 {u0 u4 u5 u6 u7 u9 u10 u11 u12 u13 u14 u15 u16 u17 u18 u19 u20 u21 u22 u23 u24 u25 u26 u27 u28 u29 u30 u31 u32 u33 u34 u35 u36 u37 u38 u39 u40 u41 u42 u43 u44 u45 u46 u47 u48 u49 u50 u51 u52 u53 u54 u55 u56 u57 u58 u59 u60 u61 u62 u63 u64 u65 u66 u67 u68 u69 u70 u71 u72 u73 u74 u75 u76 u77 u78 u79 u80 u81 u82 u83 u84 u85 u86 u87 u88 u89 u90 u91 u92 u93 u94 u95 u96 u97 u98 u99 u100 u101 u102 u103 u104 u105 u106 u107 u108 u109 u110 u111 u112 u113 u114 u115 u116 u117 u118 u119 u120 u121 u122 u123 u124 u125 u126 u127 u128 u129 u130 u131 u132 u133 u134 u135 u136 u137 u138 u139 u140 u141 u142 u143 u144 u145 u146 u147 u148 u149 u150 u151 u152 u153 u154 u155 u156 u157 u158 u159 u160 u161 u162 u163 u164 u165 u166 u167 u168 u169 u170 u171 u172 u173 u174 u175 u176 u177 u178 u179 u180 u181 u182 u183 u184 u185 u186 u187 u188 u189 u190 u191 u192 u193 u194 u195 u196 u197 u198 u199 u200 u201 u202 u203 u204 u205 u206 u207 u208 u209 u210 u211 u212 u213 u214 u215 u216 u217 u218 : Value} {w wr0 : World} {g G0 : Nat → Prop} {ms us : Array Value} {l : List Glo} {sa : Option Addr} {cp : Nat} {Keep : World → (Nat → Prop) → Prop} {Q0 : Exit → Act → World → Prop}
    (hgs : ∀ i, g i → i < w.heap.size) (hms : ms[4]? = some (.slice sa l.length cp)) (hus : us.size = 8) (hsrc : LL GloC 10 w g l (.slice sa l.length cp)) (hn : l.length ≤ 1048576) (hok : ∀ x ∈ l, Ex.SzI 1048576 x.ini)
    (hKm : ∀ wr wr' G G', Mv wr wr' G G' → wr.heap.size ≤ wr'.heap.size → Keep wr G → Keep wr' G')
    (hI0 : Inv w wr0 g G0 ms us (.slice none 0 0)) (hu : us[4]? = some (.slice none 0 0)) (hK0 : Keep wr0 G0)
    (hexit : ∀ (v105 v106 v107 v108 v109 v110 v111 v112 v113 v114 v115 v116 v117 v118 v119 v120 v121 v122 v123 v124 v125 v126 v127 v128 v129 v130 v131 v132 v133 v134 v135 v136 s : Value) (wr' : World) (G' : Nat → Prop) (va : Option Addr) (vc : Nat), Inv w wr' g G' ms (us.setIfInBounds 4 (.slice va l.length vc)) (.slice none 0 0) → LL GloC 10 wr' G' l (.slice va l.length vc) → Keep wr' G' → Q0 (.exit 8) ⟨#[u0, .pointer (some ⟨w.heap.size, 0, none⟩), .pointer (some ⟨w.heap.size + 1, 0, none⟩), .pointer (some ⟨w.heap.size + 2, 0, none⟩), u4, u5, u6, u7, s, u9, u10, u11, u12, u13, u14, u15, u16, u17, u18, u19, u20, u21, u22, u23, u24, u25, u26, u27, u28, u29, u30, u31, u32, u33, u34, u35, u36, u37, u38, u39, u40, u41, u42, u43, u44, u45, u46, u47, u48, u49, u50, u51, u52, u53, u54, u55, u56, u57, u58, u59, u60, u61, u62, u63, u64, u65, u66, u67, u68, u69, u70, u71, u72, u73, u74, u75, u76, u77, u78, u79, u80, u81, u82, u83, u84, u85, u86, u87, u88, u89, u90, u91, u92, u93, u94, u95, u96, u97, u98, u99, u100, u101, u102, u103, u104, v105, v106, v107, v108, v109, v110, v111, v112, v113, v114, v115, v116, v117, v118, v119, v120, v121, v122, v123, v124, v125, v126, v127, v128, v129, v130, v131, v132, v133, v134, v135, v136, u137, u138, u139, u140, u141, u142, u143, u144, u145, u146, u147, u148, u149, u150, u151, u152, u153, u154, u155, u156, u157, u158, u159, u160, u161, u162, u163, u164, u165, u166, u167, u168, u169, u170, u171, u172, u173, u174, u175, u176, u177, u178, u179, u180, u181, u182, u183, u184, u185, u186, u187, u188, u189, u190, u191, u192, u193, u194, u195, u196, u197, u198, u199, u200, u201, u202, u203, u204, u205, u206, u207, u208, u209, u210, u211, u212, u213, u214, u215, u216, u217, u218], []⟩ wr') :
    Code.wp Tryz.prog (Code.loop gbody4) Q0 ⟨#[u0, .pointer (some ⟨w.heap.size, 0, none⟩), .pointer (some ⟨w.heap.size + 1, 0, none⟩), .pointer (some ⟨w.heap.size + 2, 0, none⟩), u4, u5, u6, u7, .int .i64 0, u9, u10, u11, u12, u13, u14, u15, u16, u17, u18, u19, u20, u21, u22, u23, u24, u25, u26, u27, u28, u29, u30, u31, u32, u33, u34, u35, u36, u37, u38, u39, u40, u41, u42, u43, u44, u45, u46, u47, u48, u49, u50, u51, u52, u53, u54, u55, u56, u57, u58, u59, u60, u61, u62, u63, u64, u65, u66, u67, u68, u69, u70, u71, u72, u73, u74, u75, u76, u77, u78, u79, u80, u81, u82, u83, u84, u85, u86, u87, u88, u89, u90, u91, u92, u93, u94, u95, u96, u97, u98, u99, u100, u101, u102, u103, u104, u105, u106, u107, u108, u109, u110, u111, u112, u113, u114, u115, u116, u117, u118, u119, u120, u121, u122, u123, u124, u125, u126, u127, u128, u129, u130, u131, u132, u133, u134, u135, u136, u137, u138, u139, u140, u141, u142, u143, u144, u145, u146, u147, u148, u149, u150, u151, u152, u153, u154, u155, u156, u157, u158, u159, u160, u161, u162, u163, u164, u165, u166, u167, u168, u169, u170, u171, u172, u173, u174, u175, u176, u177, u178, u179, u180, u181, u182, u183, u184, u185, u186, u187, u188, u189, u190, u191, u192, u193, u194, u195, u196, u197, u198, u199, u200, u201, u202, u203, u204, u205, u206, u207, u208, u209, u210, u211, u212, u213, u214, u215, u216, u217, u218], []⟩ wr0 := by
  have HE := hide hexit; have HSrc := hide hsrc
  have hI1 : Inv w wr0 g G0 ms (us.setIfInBounds 4 (.slice none 0 0)) (.slice none 0 0) := by rw [set_same hu]; exact hI0
  have HI1 := hide hI1; have HK1 := hide hK0
  clear hexit hsrc hI0 hI1 hK0
  dsimp only
  conv => arg 2; arg 1; whnf
  go_loopg [8] (l.length + 1) (fun gk s wr => ∃ (j : Nat) (G : Nat → Prop) (ua : Option Addr) (uc : Nat) (xs : List Value), s = .int .i64 j ∧ j ≤ l.length ∧ l.length - j < gk ∧ Hid (Inv w wr g G ms (us.setIfInBounds 4 (.slice ua j uc)) (.slice ua j uc)) ∧ Hid (wr.ownsRow (w.heap.size + 3) 114 10 (.slice ua j uc) j xs) ∧ Hid (Its (GloC wr G) 10 (l.take j) xs) ∧ Hid (Keep wr G))
  case atStart => exact ⟨0, G0, none, 0, [], rfl, Nat.zero_le _, by omega, HI1, hide (World.ownsRow_nil _ _ _ _), hide (by simpa using Its.nil _ _), HK1⟩
  case round =>
    obtain ⟨j, G, ua, uc, xs, rfl, hj, hgk, HI, HO, HT, HK⟩ := hrel
    clear HI1 HK1
    by_cases hlt : j < l.length
    · change Code.wp Tryz.prog gbody4 _ _ _
      obtain ⟨x, hx⟩ : ∃ x, l[j] = x := ⟨_, rfl⟩
      have hokx := hok x (by rw [← hx]; exact List.getElem_mem hlt)
      have hsw := (unhide HSrc).moved (Mv.below (g' := g) (unhide HI).b (fun _ _ h => h)) (unhide HI).b.size (fun _ _ q => GloC.moved (Mv.below (g' := g) (unhide HI).b (fun _ _ h => h)) q)
      obtain ⟨sa', cp', es, hcpl, _, hsr⟩ := hsw
      simp only [Value.slice.injEq] at es
      obtain ⟨rfl, _, rfl⟩ := es
      obtain ⟨ba, oa, rfl, hgb, hbl, hits⟩ := hsr (by omega)
      obtain ⟨cs, hcl, hit, hcs⟩ := hits j hlt
      rw [hx] at hit
      obtain ⟨ds, rfl, vb, ve, vl, rfl, h1, h2, h3⟩ := hit
      have d0 := hcs 0 _ rfl
      have d1 := hcs 1 _ rfl
      have d2 := hcs 2 _ rfl
      have d3 := hcs 3 _ rfl
      have d4 := hcs 4 _ rfl
      have d5 := hcs 5 _ rfl
      have d6 := hcs 6 _ rfl
      have d7 := hcs 7 _ rfl
      have d8 := hcs 8 _ rfl
      have d9 := hcs 9 _ rfl
      have H1 := hide h1; have H2 := hide h2; have H3 := hide h3
      obtain ⟨iba, ibc, rfl, _⟩ := h1
      obtain ⟨iea, iec, rfl, _⟩ := h2
      obtain ⟨ila, ilc, rfl, _⟩ := h3
      have hc0 : ∀ W, Below wr.heap.size wr W → Calls Tryz.prog 23 #[.agg #[.int .u8 x.ini.op, .int .i64 x.ini.n, .int .u32 x.ini.al, .int .u32 x.ini.of, .int .u8 x.ini.re, .slice iba x.ini.body.length ibc, .slice iea x.ini.els.length iec, .slice ila x.ini.ls.length ilc]] W fun e w' => ∃ xba xbl xbc xea xel xec xla xll xlc, e = .returned (.agg #[.int .u8 x.ini.op, .int .i64 x.ini.n, .int .u32 x.ini.al, .int .u32 x.ini.of, .int .u8 x.ini.re, .slice xba xbl xbc, .slice xea xel xec, .slice xla xll xlc]) ∧ (∃ cs, Value.agg #[.int .u8 x.ini.op, .int .i64 x.ini.n, .int .u32 x.ini.al, .int .u32 x.ini.of, .int .u8 x.ini.re, .slice xba xbl xbc, .slice xea xel xec, .slice xla xll xlc] = .agg cs.toArray ∧ InsC w' (Ex.gor g W.heap.size) x.ini cs) ∧ Below W.heap.size W w' := fun W hW => by
        have hg : ∀ i, g i → i < W.heap.size := fun i hi => by have := hgs i hi; have := (unhide HI).b.size; have := hW.size; omega
        have hm := (Mv.below (g := g) (g' := g) hW (fun _ _ h => h)).moves
        refine (Ex.one_any x.ini g _ _ _ W hg ((unhide H1).move hm) ((unhide H2).move hm) (Ex.Labs.move hm (unhide H3)) (szI_mono hokx)).mono ?_
        rintro e w' ⟨vb', ve', vl', he, q1, q2, q3, hb⟩
        have r1 := q1; have r2 := q2; have r3 := q3
        obtain ⟨xba, xbc, rfl, _⟩ := q1
        obtain ⟨xea, xec, rfl, _⟩ := q2
        obtain ⟨xla, xlc, rfl, _⟩ := q3
        exact ⟨xba, _, xbc, xea, _, xec, xla, _, xlc, he, ⟨_, rfl, ⟨_, _, _, rfl, r1, r2, r3⟩⟩, hb⟩
      have hI := unhide HI
      have hl3 := hI.lt
      have hbs := hgs ba hgb
      have hos := (unhide HO).lt
      have hmc : wr.cell? ⟨w.heap.size, 4, none⟩ = some (.slice (some ⟨ba, oa, none⟩) l.length cp) := by rw [cell_of_row wr _ 4 _ _ _ hI.bm]; exact hms
      have oc : wr.cell? ⟨w.heap.size + 2, 4, none⟩ = some (.slice ua j uc) := by rw [cell_of_row wr _ 4 _ _ _ hI.bo]; exact set_get (by omega)
      refine gm_4 (base := w.heap.size + 3) (ua := ua) (uc := uc) (xs := xs) (PK0 := fun W w' v => ∃ cs, v = .agg cs.toArray ∧ InsC w' (Ex.gor g W.heap.size) x.ini cs) (by omega) (by omega) hmc d0 d1 d2 d3 d4 d5 d6 d7 d8 d9 oc (fun i => frozen_of_row wr _ i _ _ hI.bo) (unhide HO) (by omega) (by omega) (by omega) hbl (by omega) (by omega) (fun e => by have := (hos _ e).1; omega) (fun e => by have := (hos _ e).1; omega) (fun e => by have := (hos _ e).1; omega) hc0 (fun v105 v106 v107 v108 v109 v110 v111 v112 v113 v114 v115 v116 v117 v118 v119 v120 v121 v122 v123 v124 v125 v126 v127 v128 v129 v130 v131 v132 v133 v134 v135 v136 xba xbl xbc xea xel xec xla xll xlc w1 wx gg cap hP0 hB0 h5 hgr hat hl5 => ?_)
      obtain ⟨wf, hwf⟩ : ∃ wf, wx.setCell ⟨w.heap.size + 2, 4, none⟩ (.slice (some ⟨gg, 0, none⟩) (j + 1) cap) = wf := ⟨_, rfl⟩
      have hst := Inv.step (k := 4) (cap := cap) _ hI (unhide HO) (Below.on (drew_below9 wr) hB0) hgr hat hl5 (by simp; omega)
      rw [hwf] at hst ⊢
      obtain ⟨hI2, keep, hmvx⟩ := hst
      rw [Array.setIfInBounds_setIfInBounds] at hI2
      obtain ⟨G', hG'⟩ : ∃ G', (fun i => G i ∨ (wr.heap.size ≤ i ∧ i < w1.heap.size)) = G' := ⟨_, rfl⟩
      have hown2 : wf.ownsRow (w.heap.size + 3) 114 10 (.slice (some ⟨gg, 0, none⟩) (j + 1) cap) (j + 1) (xs ++ [.int .u8 x.kd, .bool x.mu, .int .u8 x.ini.op, .int .i64 x.ini.n, .int .u32 x.ini.al, .int .u32 x.ini.of, .int .u8 x.ini.re, .slice xba xbl xbc, .slice xea xel xec, .slice xla xll xlc]) := by
        rw [← hwf]
        exact owns_set h5 (fun e => by have e1 : gg = w.heap.size + 2 := by simpa [Value.ownBlock] using e
                                       rcases hat with h | h
                                       · have := (hos _ h).1; omega
                                       · have := (Below.on (drew_below9 wr) hB0).size; omega)
      have htk : l.take (j + 1) = l.take j ++ [x] := by rw [List.take_succ_eq_append_getElem hlt, hx]
      have hits2 : Its (GloC wf G') 10 (l.take (j + 1)) (xs ++ [.int .u8 x.kd, .bool x.mu, .int .u8 x.ini.op, .int .i64 x.ini.n, .int .u32 x.ini.al, .int .u32 x.ini.of, .int .u8 x.ini.re, .slice xba xbl xbc, .slice xea xel xec, .slice xla xll xlc]) := by
        rw [htk]
        subst hG'
        refine Its.snoc ((unhide HT).mono fun y cs q => GloC.moved hmvx.1 q) ?_ rfl
        have hmn : Mv w1 wf (Ex.gor g wr.heap.size) (fun i => G i ∨ (wr.heap.size ≤ i ∧ i < w1.heap.size)) := fun i hi hg => by
          rcases hg with hg | hg
          · have h3 := (unhide HI).G1 i ((unhide HI).gG i hg)
            exact ⟨.inl ((unhide HI).gG i hg), keep i hi (by omega) h3.2.2⟩
          · exact ⟨.inr ⟨hg, hi⟩, keep i hi (by have := (unhide HI).lt; omega) (fun e => by have := ((unhide HO).lt i e).2; omega)⟩
        obtain ⟨cs, hce, hq⟩ := hP0
        obtain rfl : cs = _ := (by have := congrArg (fun v => match v with | .agg a => a.toList | _ => []) hce; simpa using this.symm)
        exact ⟨_, rfl, hq.moved hmn⟩
      have hKp := hKm _ _ _ _ hmvx.1 hmvx.2 (unhide HK)
      rw [hG'] at hI2 hKp
      dsimp only
      go_wp2
      go_roundg (l.length - j)
      case measure => omega
      case rel => exact ⟨j + 1, G', _, _, _, by go_num, hlt, Nat.sub_lt_sub_left hlt (Nat.lt_succ_self j), hide hI2, hide hown2, hide hits2, hide hKp⟩
    · obtain rfl : j = l.length := by omega
      have htk : l.take l.length = l := List.take_length
      have hT := unhide HT
      rw [htk] at hT
      obtain ⟨q1, q2, q3⟩ := Inv.next (unhide HI) (unhide HO) hT (fun G' hG x cs q => GloC.moved (fun i _ hi => ⟨hG i hi, rfl⟩) q)
      have hKn := hKm _ _ _ _ q3 (Nat.le_refl _) (unhide HK)
      have hmc : wr.cell? ⟨w.heap.size, 4, none⟩ = some (.slice sa l.length cp) := by rw [cell_of_row wr _ 4 _ _ _ (unhide HI).bm]; exact hms
      have hll : w.heap.size < wr.heap.size := by have := (unhide HI).lt; omega
      have Q1 := hide q1; have Q2 := hide q2; have QK := hide hKn
      clear q1 q2 q3 hKn hT htk HI HO HT HK hj
      go_wp2
      exact (unhide HE) _ _ _ _ _ _ _ _ _ _ _ _ _ _ _ _ _ _ _ _ _ _ _ _ _ _ _ _ _ _ _ _ _ wr _ ua uc (unhide Q1) (unhide Q2) (unhide QK)
end Gm
end Go.Proofs.YtheopjcmhclgdaaGreatDoor

/- giveModule's loop 5. -/
namespace Go.Proofs.YtheopjcmhclgdaaGreatDoor
open Go.RowKit
namespace Gm
set_option linter.unusedVariables false
set_option linter.unusedSimpArgs false
set_option maxRecDepth 1000000 in
set_option maxHeartbeats 6400000 in
theorem lp_5 {u0 u4 u5 u6 u7 u8 u10 u11 u12 u13 u14 u15 u16 u17 u18 u19 u20 u21 u22 u23 u24 u25 u26 u27 u28 u29 u30 u31 u32 u33 u34 u35 u36 u37 u38 u39 u40 u41 u42 u43 u44 u45 u46 u47 u48 u49 u50 u51 u52 u53 u54 u55 u56 u57 u58 u59 u60 u61 u62 u63 u64 u65 u66 u67 u68 u69 u70 u71 u72 u73 u74 u75 u76 u77 u78 u79 u80 u81 u82 u83 u84 u85 u86 u87 u88 u89 u90 u91 u92 u93 u94 u95 u96 u97 u98 u99 u100 u101 u102 u103 u104 u105 u106 u107 u108 u109 u110 u111 u112 u113 u114 u115 u116 u117 u118 u119 u120 u121 u122 u123 u124 u125 u126 u127 u128 u129 u130 u131 u132 u133 u134 u135 u136 u137 u138 u139 u140 u141 u142 u143 u144 u145 u146 u147 u148 u149 u150 u151 u152 u153 u154 u155 u156 u157 u158 u159 u160 u161 u162 u163 u164 u165 u166 u167 u168 u169 u170 u171 u172 u173 u174 u175 u176 u177 u178 u179 u180 u181 u182 u183 u184 u185 u186 u187 u188 u189 u190 u191 u192 u193 u194 u195 u196 u197 u198 u199 u200 u201 u202 u203 u204 u205 u206 u207 u208 u209 u210 u211 u212 u213 u214 u215 u216 u217 u218 : Value} {w wr0 : World} {g G0 : Nat → Prop} {ms us : Array Value} {l : List Exo} {sa : Option Addr} {cp : Nat} {Keep : World → (Nat → Prop) → Prop} {Q0 : Exit → Act → World → Prop}
    (hgs : ∀ i, g i → i < w.heap.size) (hms : ms[5]? = some (.slice sa l.length cp)) (hus : us.size = 8) (hsrc : LL ExoC 3 w g l (.slice sa l.length cp)) (hn : l.length ≤ 1048576) (hok : ∀ x ∈ l, True)
    (hKm : ∀ wr wr' G G', Mv wr wr' G G' → wr.heap.size ≤ wr'.heap.size → Keep wr G → Keep wr' G')
    (hI0 : Inv w wr0 g G0 ms us (.slice none 0 0)) (hu : us[5]? = some (.slice none 0 0)) (hK0 : Keep wr0 G0)
    (hexit : ∀ (v137 v138 v139 v140 v141 v142 v143 v144 v145 v146 v147 v148 v149 v150 v151 v152 v153 s : Value) (wr' : World) (G' : Nat → Prop) (va : Option Addr) (vc : Nat), Inv w wr' g G' ms (us.setIfInBounds 5 (.slice va l.length vc)) (.slice none 0 0) → LL ExoC 3 wr' G' l (.slice va l.length vc) → Keep wr' G' → Q0 (.exit 10) ⟨#[u0, .pointer (some ⟨w.heap.size, 0, none⟩), .pointer (some ⟨w.heap.size + 1, 0, none⟩), .pointer (some ⟨w.heap.size + 2, 0, none⟩), u4, u5, u6, u7, u8, s, u10, u11, u12, u13, u14, u15, u16, u17, u18, u19, u20, u21, u22, u23, u24, u25, u26, u27, u28, u29, u30, u31, u32, u33, u34, u35, u36, u37, u38, u39, u40, u41, u42, u43, u44, u45, u46, u47, u48, u49, u50, u51, u52, u53, u54, u55, u56, u57, u58, u59, u60, u61, u62, u63, u64, u65, u66, u67, u68, u69, u70, u71, u72, u73, u74, u75, u76, u77, u78, u79, u80, u81, u82, u83, u84, u85, u86, u87, u88, u89, u90, u91, u92, u93, u94, u95, u96, u97, u98, u99, u100, u101, u102, u103, u104, u105, u106, u107, u108, u109, u110, u111, u112, u113, u114, u115, u116, u117, u118, u119, u120, u121, u122, u123, u124, u125, u126, u127, u128, u129, u130, u131, u132, u133, u134, u135, u136, v137, v138, v139, v140, v141, v142, v143, v144, v145, v146, v147, v148, v149, v150, v151, v152, v153, u154, u155, u156, u157, u158, u159, u160, u161, u162, u163, u164, u165, u166, u167, u168, u169, u170, u171, u172, u173, u174, u175, u176, u177, u178, u179, u180, u181, u182, u183, u184, u185, u186, u187, u188, u189, u190, u191, u192, u193, u194, u195, u196, u197, u198, u199, u200, u201, u202, u203, u204, u205, u206, u207, u208, u209, u210, u211, u212, u213, u214, u215, u216, u217, u218], []⟩ wr') :
    Code.wp Tryz.prog (Code.loop gbody5) Q0 ⟨#[u0, .pointer (some ⟨w.heap.size, 0, none⟩), .pointer (some ⟨w.heap.size + 1, 0, none⟩), .pointer (some ⟨w.heap.size + 2, 0, none⟩), u4, u5, u6, u7, u8, .int .i64 0, u10, u11, u12, u13, u14, u15, u16, u17, u18, u19, u20, u21, u22, u23, u24, u25, u26, u27, u28, u29, u30, u31, u32, u33, u34, u35, u36, u37, u38, u39, u40, u41, u42, u43, u44, u45, u46, u47, u48, u49, u50, u51, u52, u53, u54, u55, u56, u57, u58, u59, u60, u61, u62, u63, u64, u65, u66, u67, u68, u69, u70, u71, u72, u73, u74, u75, u76, u77, u78, u79, u80, u81, u82, u83, u84, u85, u86, u87, u88, u89, u90, u91, u92, u93, u94, u95, u96, u97, u98, u99, u100, u101, u102, u103, u104, u105, u106, u107, u108, u109, u110, u111, u112, u113, u114, u115, u116, u117, u118, u119, u120, u121, u122, u123, u124, u125, u126, u127, u128, u129, u130, u131, u132, u133, u134, u135, u136, u137, u138, u139, u140, u141, u142, u143, u144, u145, u146, u147, u148, u149, u150, u151, u152, u153, u154, u155, u156, u157, u158, u159, u160, u161, u162, u163, u164, u165, u166, u167, u168, u169, u170, u171, u172, u173, u174, u175, u176, u177, u178, u179, u180, u181, u182, u183, u184, u185, u186, u187, u188, u189, u190, u191, u192, u193, u194, u195, u196, u197, u198, u199, u200, u201, u202, u203, u204, u205, u206, u207, u208, u209, u210, u211, u212, u213, u214, u215, u216, u217, u218], []⟩ wr0 := by
  have HE := hide hexit; have HSrc := hide hsrc
  have hI1 : Inv w wr0 g G0 ms (us.setIfInBounds 5 (.slice none 0 0)) (.slice none 0 0) := by rw [set_same hu]; exact hI0
  have HI1 := hide hI1; have HK1 := hide hK0
  clear hexit hsrc hI0 hI1 hK0
  dsimp only
  conv => arg 2; arg 1; whnf
  go_loopg [9] (l.length + 1) (fun gk s wr => ∃ (j : Nat) (G : Nat → Prop) (ua : Option Addr) (uc : Nat) (xs : List Value), s = .int .i64 j ∧ j ≤ l.length ∧ l.length - j < gk ∧ Hid (Inv w wr g G ms (us.setIfInBounds 5 (.slice ua j uc)) (.slice ua j uc)) ∧ Hid (wr.ownsRow (w.heap.size + 3) 115 3 (.slice ua j uc) j xs) ∧ Hid (Its (ExoC wr G) 3 (l.take j) xs) ∧ Hid (Keep wr G))
  case atStart => exact ⟨0, G0, none, 0, [], rfl, Nat.zero_le _, by omega, HI1, hide (World.ownsRow_nil _ _ _ _), hide (by simpa using Its.nil _ _), HK1⟩
  case round =>
    obtain ⟨j, G, ua, uc, xs, rfl, hj, hgk, HI, HO, HT, HK⟩ := hrel
    clear HI1 HK1
    by_cases hlt : j < l.length
    · change Code.wp Tryz.prog gbody5 _ _ _
      obtain ⟨x, hx⟩ : ∃ x, l[j] = x := ⟨_, rfl⟩
      have hokx := hok x (by rw [← hx]; exact List.getElem_mem hlt)
      have hsw := (unhide HSrc).moved (Mv.below (g' := g) (unhide HI).b (fun _ _ h => h)) (unhide HI).b.size (fun _ _ q => ExoC.moved (Mv.below (g' := g) (unhide HI).b (fun _ _ h => h)) q)
      obtain ⟨sa', cp', es, hcpl, _, hsr⟩ := hsw
      simp only [Value.slice.injEq] at es
      obtain ⟨rfl, _, rfl⟩ := es
      obtain ⟨ba, oa, rfl, hgb, hbl, hits⟩ := hsr (by omega)
      obtain ⟨cs, hcl, hit, hcs⟩ := hits j hlt
      rw [hx] at hit
      obtain rfl : cs = [.string x.nm, .int .u8 x.wh, .int .u32 x.ix] := hit
      have d0 := hcs 0 _ rfl
      have d1 := hcs 1 _ rfl
      have d2 := hcs 2 _ rfl
      have hI := unhide HI
      have hl3 := hI.lt
      have hbs := hgs ba hgb
      have hos := (unhide HO).lt
      have hmc : wr.cell? ⟨w.heap.size, 5, none⟩ = some (.slice (some ⟨ba, oa, none⟩) l.length cp) := by rw [cell_of_row wr _ 5 _ _ _ hI.bm]; exact hms
      have oc : wr.cell? ⟨w.heap.size + 2, 5, none⟩ = some (.slice ua j uc) := by rw [cell_of_row wr _ 5 _ _ _ hI.bo]; exact set_get (by omega)
      refine gm_5 (base := w.heap.size + 3) (ua := ua) (uc := uc) (xs := xs) (by omega) (by omega) hmc d0 d1 d2 oc (fun i => frozen_of_row wr _ i _ _ hI.bo) (unhide HO) (by omega) (by omega) (by omega) hbl (by omega) (by omega) (fun e => by have := (hos _ e).1; omega) (fun e => by have := (hos _ e).1; omega) (fun e => by have := (hos _ e).1; omega)  (fun v137 v138 v139 v140 v141 v142 v143 v144 v145 v146 v147 v148 v149 v150 v151 v152 v153   wx gg cap  h5 hgr hat hl5 => ?_)
      obtain ⟨wf, hwf⟩ : ∃ wf, wx.setCell ⟨w.heap.size + 2, 5, none⟩ (.slice (some ⟨gg, 0, none⟩) (j + 1) cap) = wf := ⟨_, rfl⟩
      have hst := Inv.step (k := 5) (cap := cap) _ hI (unhide HO) (drew_below9 wr) hgr hat hl5 (by simp; omega)
      rw [hwf] at hst ⊢
      obtain ⟨hI2, keep, hmvx⟩ := hst
      rw [Array.setIfInBounds_setIfInBounds] at hI2
      obtain ⟨G', hG'⟩ : ∃ G', (fun i => G i ∨ (wr.heap.size ≤ i ∧ i < wr.drew.heap.size)) = G' := ⟨_, rfl⟩
      have hown2 : wf.ownsRow (w.heap.size + 3) 115 3 (.slice (some ⟨gg, 0, none⟩) (j + 1) cap) (j + 1) (xs ++ [.string x.nm, .int .u8 x.wh, .int .u32 x.ix]) := by
        rw [← hwf]
        exact owns_set h5 (fun e => by have e1 : gg = w.heap.size + 2 := by simpa [Value.ownBlock] using e
                                       rcases hat with h | h
                                       · have := (hos _ h).1; omega
                                       · have := (drew_below9 wr).size; omega)
      have htk : l.take (j + 1) = l.take j ++ [x] := by rw [List.take_succ_eq_append_getElem hlt, hx]
      have hits2 : Its (ExoC wf G') 3 (l.take (j + 1)) (xs ++ [.string x.nm, .int .u8 x.wh, .int .u32 x.ix]) := by
        rw [htk]
        subst hG'
        refine Its.snoc ((unhide HT).mono fun y cs q => ExoC.moved hmvx.1 q) ?_ rfl
        exact rfl
      have hKp := hKm _ _ _ _ hmvx.1 hmvx.2 (unhide HK)
      rw [hG'] at hI2 hKp
      dsimp only
      go_wp2
      go_roundg (l.length - j)
      case measure => omega
      case rel => exact ⟨j + 1, G', _, _, _, by go_num, hlt, Nat.sub_lt_sub_left hlt (Nat.lt_succ_self j), hide hI2, hide hown2, hide hits2, hide hKp⟩
    · obtain rfl : j = l.length := by omega
      have htk : l.take l.length = l := List.take_length
      have hT := unhide HT
      rw [htk] at hT
      obtain ⟨q1, q2, q3⟩ := Inv.next (unhide HI) (unhide HO) hT (fun G' hG x cs q => ExoC.moved (fun i _ hi => ⟨hG i hi, rfl⟩) q)
      have hKn := hKm _ _ _ _ q3 (Nat.le_refl _) (unhide HK)
      have hmc : wr.cell? ⟨w.heap.size, 5, none⟩ = some (.slice sa l.length cp) := by rw [cell_of_row wr _ 5 _ _ _ (unhide HI).bm]; exact hms
      have hll : w.heap.size < wr.heap.size := by have := (unhide HI).lt; omega
      have Q1 := hide q1; have Q2 := hide q2; have QK := hide hKn
      clear q1 q2 q3 hKn hT htk HI HO HT HK hj
      go_wp2
      exact (unhide HE) _ _ _ _ _ _ _ _ _ _ _ _ _ _ _ _ _ _ wr _ ua uc (unhide Q1) (unhide Q2) (unhide QK)
end Gm
end Go.Proofs.YtheopjcmhclgdaaGreatDoor

/- giveModule's loop 6. -/
namespace Go.Proofs.YtheopjcmhclgdaaGreatDoor
open Go.RowKit
namespace Gm
set_option linter.unusedVariables false
set_option linter.unusedSimpArgs false
set_option maxRecDepth 1000000 in
set_option maxHeartbeats 6400000 in
theorem lp_6 {u0 u4 u5 u6 u7 u8 u9 u11 u12 u13 u14 u15 u16 u17 u18 u19 u20 u21 u22 u23 u24 u25 u26 u27 u28 u29 u30 u31 u32 u33 u34 u35 u36 u37 u38 u39 u40 u41 u42 u43 u44 u45 u46 u47 u48 u49 u50 u51 u52 u53 u54 u55 u56 u57 u58 u59 u60 u61 u62 u63 u64 u65 u66 u67 u68 u69 u70 u71 u72 u73 u74 u75 u76 u77 u78 u79 u80 u81 u82 u83 u84 u85 u86 u87 u88 u89 u90 u91 u92 u93 u94 u95 u96 u97 u98 u99 u100 u101 u102 u103 u104 u105 u106 u107 u108 u109 u110 u111 u112 u113 u114 u115 u116 u117 u118 u119 u120 u121 u122 u123 u124 u125 u126 u127 u128 u129 u130 u131 u132 u133 u134 u135 u136 u137 u138 u139 u140 u141 u142 u143 u144 u145 u146 u147 u148 u149 u150 u151 u152 u153 u154 u155 u156 u157 u158 u159 u160 u161 u162 u163 u164 u165 u166 u167 u168 u169 u170 u171 u172 u173 u174 u175 u176 u177 u178 u179 u180 u181 u182 u183 u184 u185 u186 u187 u188 u189 u190 u191 u192 u193 u194 u195 u196 u197 u198 u199 u200 u201 u202 u203 u204 u205 u206 u207 u208 u209 u210 u211 u212 u213 u214 u215 u216 u217 u218 : Value} {w wr0 : World} {g G0 : Nat → Prop} {ms us : Array Value} {l : List Elm} {sa : Option Addr} {cp : Nat} {Keep : World → (Nat → Prop) → Prop} {Q0 : Exit → Act → World → Prop}
    (hgs : ∀ i, g i → i < w.heap.size) (hms : ms[6]? = some (.slice sa l.length cp)) (hus : us.size = 8) (hsrc : LL ElmC 10 w g l (.slice sa l.length cp)) (hn : l.length ≤ 1048576) (hok : ∀ x ∈ l, Ex.SzI 1048576 x.off)
    (hKm : ∀ wr wr' G G', Mv wr wr' G G' → wr.heap.size ≤ wr'.heap.size → Keep wr G → Keep wr' G')
    (hI0 : Inv w wr0 g G0 ms us (.slice none 0 0)) (hu : us[6]? = some (.slice none 0 0)) (hK0 : Keep wr0 G0)
    (hexit : ∀ (v154 v155 v156 v157 v158 v159 v160 v161 v162 v163 v164 v165 v166 v167 v168 v169 v170 v171 v172 v173 v174 v175 v176 v177 v178 v179 v180 v181 v182 v183 v184 v185 s : Value) (wr' : World) (G' : Nat → Prop) (va : Option Addr) (vc : Nat), Inv w wr' g G' ms (us.setIfInBounds 6 (.slice va l.length vc)) (.slice none 0 0) → LL ElmC 10 wr' G' l (.slice va l.length vc) → Keep wr' G' → Q0 (.exit 12) ⟨#[u0, .pointer (some ⟨w.heap.size, 0, none⟩), .pointer (some ⟨w.heap.size + 1, 0, none⟩), .pointer (some ⟨w.heap.size + 2, 0, none⟩), u4, u5, u6, u7, u8, u9, s, u11, u12, u13, u14, u15, u16, u17, u18, u19, u20, u21, u22, u23, u24, u25, u26, u27, u28, u29, u30, u31, u32, u33, u34, u35, u36, u37, u38, u39, u40, u41, u42, u43, u44, u45, u46, u47, u48, u49, u50, u51, u52, u53, u54, u55, u56, u57, u58, u59, u60, u61, u62, u63, u64, u65, u66, u67, u68, u69, u70, u71, u72, u73, u74, u75, u76, u77, u78, u79, u80, u81, u82, u83, u84, u85, u86, u87, u88, u89, u90, u91, u92, u93, u94, u95, u96, u97, u98, u99, u100, u101, u102, u103, u104, u105, u106, u107, u108, u109, u110, u111, u112, u113, u114, u115, u116, u117, u118, u119, u120, u121, u122, u123, u124, u125, u126, u127, u128, u129, u130, u131, u132, u133, u134, u135, u136, u137, u138, u139, u140, u141, u142, u143, u144, u145, u146, u147, u148, u149, u150, u151, u152, u153, v154, v155, v156, v157, v158, v159, v160, v161, v162, v163, v164, v165, v166, v167, v168, v169, v170, v171, v172, v173, v174, v175, v176, v177, v178, v179, v180, v181, v182, v183, v184, v185, u186, u187, u188, u189, u190, u191, u192, u193, u194, u195, u196, u197, u198, u199, u200, u201, u202, u203, u204, u205, u206, u207, u208, u209, u210, u211, u212, u213, u214, u215, u216, u217, u218], []⟩ wr') :
    Code.wp Tryz.prog (Code.loop gbody6) Q0 ⟨#[u0, .pointer (some ⟨w.heap.size, 0, none⟩), .pointer (some ⟨w.heap.size + 1, 0, none⟩), .pointer (some ⟨w.heap.size + 2, 0, none⟩), u4, u5, u6, u7, u8, u9, .int .i64 0, u11, u12, u13, u14, u15, u16, u17, u18, u19, u20, u21, u22, u23, u24, u25, u26, u27, u28, u29, u30, u31, u32, u33, u34, u35, u36, u37, u38, u39, u40, u41, u42, u43, u44, u45, u46, u47, u48, u49, u50, u51, u52, u53, u54, u55, u56, u57, u58, u59, u60, u61, u62, u63, u64, u65, u66, u67, u68, u69, u70, u71, u72, u73, u74, u75, u76, u77, u78, u79, u80, u81, u82, u83, u84, u85, u86, u87, u88, u89, u90, u91, u92, u93, u94, u95, u96, u97, u98, u99, u100, u101, u102, u103, u104, u105, u106, u107, u108, u109, u110, u111, u112, u113, u114, u115, u116, u117, u118, u119, u120, u121, u122, u123, u124, u125, u126, u127, u128, u129, u130, u131, u132, u133, u134, u135, u136, u137, u138, u139, u140, u141, u142, u143, u144, u145, u146, u147, u148, u149, u150, u151, u152, u153, u154, u155, u156, u157, u158, u159, u160, u161, u162, u163, u164, u165, u166, u167, u168, u169, u170, u171, u172, u173, u174, u175, u176, u177, u178, u179, u180, u181, u182, u183, u184, u185, u186, u187, u188, u189, u190, u191, u192, u193, u194, u195, u196, u197, u198, u199, u200, u201, u202, u203, u204, u205, u206, u207, u208, u209, u210, u211, u212, u213, u214, u215, u216, u217, u218], []⟩ wr0 := by
  have HE := hide hexit; have HSrc := hide hsrc
  have hI1 : Inv w wr0 g G0 ms (us.setIfInBounds 6 (.slice none 0 0)) (.slice none 0 0) := by rw [set_same hu]; exact hI0
  have HI1 := hide hI1; have HK1 := hide hK0
  clear hexit hsrc hI0 hI1 hK0
  dsimp only
  conv => arg 2; arg 1; whnf
  go_loopg [10] (l.length + 1) (fun gk s wr => ∃ (j : Nat) (G : Nat → Prop) (ua : Option Addr) (uc : Nat) (xs : List Value), s = .int .i64 j ∧ j ≤ l.length ∧ l.length - j < gk ∧ Hid (Inv w wr g G ms (us.setIfInBounds 6 (.slice ua j uc)) (.slice ua j uc)) ∧ Hid (wr.ownsRow (w.heap.size + 3) 117 10 (.slice ua j uc) j xs) ∧ Hid (Its (ElmC wr G) 10 (l.take j) xs) ∧ Hid (Keep wr G))
  case atStart => exact ⟨0, G0, none, 0, [], rfl, Nat.zero_le _, by omega, HI1, hide (World.ownsRow_nil _ _ _ _), hide (by simpa using Its.nil _ _), HK1⟩
  case round =>
    obtain ⟨j, G, ua, uc, xs, rfl, hj, hgk, HI, HO, HT, HK⟩ := hrel
    clear HI1 HK1
    by_cases hlt : j < l.length
    · change Code.wp Tryz.prog gbody6 _ _ _
      obtain ⟨x, hx⟩ : ∃ x, l[j] = x := ⟨_, rfl⟩
      have hokx := hok x (by rw [← hx]; exact List.getElem_mem hlt)
      have hsw := (unhide HSrc).moved (Mv.below (g' := g) (unhide HI).b (fun _ _ h => h)) (unhide HI).b.size (fun _ _ q => ElmC.moved (Mv.below (g' := g) (unhide HI).b (fun _ _ h => h)) q)
      obtain ⟨sa', cp', es, hcpl, _, hsr⟩ := hsw
      simp only [Value.slice.injEq] at es
      obtain ⟨rfl, _, rfl⟩ := es
      obtain ⟨ba, oa, rfl, hgb, hbl, hits⟩ := hsr (by omega)
      obtain ⟨cs, hcl, hit, hcs⟩ := hits j hlt
      rw [hx] at hit
      obtain ⟨ds, vf, rfl, ⟨vb, ve, vl, rfl, h1, h2, h3⟩, hf⟩ := hit
      have d0 := hcs 0 _ rfl
      have d1 := hcs 1 _ rfl
      have d2 := hcs 2 _ rfl
      have d3 := hcs 3 _ rfl
      have d4 := hcs 4 _ rfl
      have d5 := hcs 5 _ rfl
      have d6 := hcs 6 _ rfl
      have d7 := hcs 7 _ rfl
      have d8 := hcs 8 _ rfl
      have d9 := hcs 9 _ rfl
      have H1 := hide h1; have H2 := hide h2; have H3 := hide h3; have HFF := hide hf
      obtain ⟨iba, ibc, rfl, _⟩ := h1
      obtain ⟨iea, iec, rfl, _⟩ := h2
      obtain ⟨ila, ilc, rfl, _⟩ := h3
      obtain ⟨fa, fc, rfl, _⟩ := hf
      have hc0 : ∀ W, Below wr.heap.size wr W → Calls Tryz.prog 23 #[.agg #[.int .u8 x.off.op, .int .i64 x.off.n, .int .u32 x.off.al, .int .u32 x.off.of, .int .u8 x.off.re, .slice iba x.off.body.length ibc, .slice iea x.off.els.length iec, .slice ila x.off.ls.length ilc]] W fun e w' => ∃ xba xbl xbc xea xel xec xla xll xlc, e = .returned (.agg #[.int .u8 x.off.op, .int .i64 x.off.n, .int .u32 x.off.al, .int .u32 x.off.of, .int .u8 x.off.re, .slice xba xbl xbc, .slice xea xel xec, .slice xla xll xlc]) ∧ (∃ cs, Value.agg #[.int .u8 x.off.op, .int .i64 x.off.n, .int .u32 x.off.al, .int .u32 x.off.of, .int .u8 x.off.re, .slice xba xbl xbc, .slice xea xel xec, .slice xla xll xlc] = .agg cs.toArray ∧ InsC w' (Ex.gor g W.heap.size) x.off cs) ∧ Below W.heap.size W w' := fun W hW => by
        have hg : ∀ i, g i → i < W.heap.size := fun i hi => by have := hgs i hi; have := (unhide HI).b.size; have := hW.size; omega
        have hm := (Mv.below (g := g) (g' := g) hW (fun _ _ h => h)).moves
        refine (Ex.one_any x.off g _ _ _ W hg ((unhide H1).move hm) ((unhide H2).move hm) (Ex.Labs.move hm (unhide H3)) (szI_mono hokx)).mono ?_
        rintro e w' ⟨vb', ve', vl', he, q1, q2, q3, hb⟩
        have r1 := q1; have r2 := q2; have r3 := q3
        obtain ⟨xba, xbc, rfl, _⟩ := q1
        obtain ⟨xea, xec, rfl, _⟩ := q2
        obtain ⟨xla, xlc, rfl, _⟩ := q3
        exact ⟨xba, _, xbc, xea, _, xec, xla, _, xlc, he, ⟨_, rfl, ⟨_, _, _, rfl, r1, r2, r3⟩⟩, hb⟩
      have hI := unhide HI
      have hl3 := hI.lt
      have hbs := hgs ba hgb
      have hos := (unhide HO).lt
      have hmc : wr.cell? ⟨w.heap.size, 6, none⟩ = some (.slice (some ⟨ba, oa, none⟩) l.length cp) := by rw [cell_of_row wr _ 6 _ _ _ hI.bm]; exact hms
      have oc : wr.cell? ⟨w.heap.size + 2, 6, none⟩ = some (.slice ua j uc) := by rw [cell_of_row wr _ 6 _ _ _ hI.bo]; exact set_get (by omega)
      refine gm_6 (base := w.heap.size + 3) (ua := ua) (uc := uc) (xs := xs) (PK0 := fun W w' v => ∃ cs, v = .agg cs.toArray ∧ InsC w' (Ex.gor g W.heap.size) x.off cs) (by omega) (by omega) hmc d0 d1 d2 d3 d4 d5 d6 d7 d8 d9 oc (fun i => frozen_of_row wr _ i _ _ hI.bo) (unhide HO) (by omega) (by omega) (by omega) hbl (by omega) (by omega) (fun e => by have := (hos _ e).1; omega) (fun e => by have := (hos _ e).1; omega) (fun e => by have := (hos _ e).1; omega) hc0 (fun v154 v155 v156 v157 v158 v159 v160 v161 v162 v163 v164 v165 v166 v167 v168 v169 v170 v171 v172 v173 v174 v175 v176 v177 v178 v179 v180 v181 v182 v183 v184 v185 xba xbl xbc xea xel xec xla xll xlc w1 wx gg cap hP0 hB0 h5 hgr hat hl5 => ?_)
      obtain ⟨wf, hwf⟩ : ∃ wf, wx.setCell ⟨w.heap.size + 2, 6, none⟩ (.slice (some ⟨gg, 0, none⟩) (j + 1) cap) = wf := ⟨_, rfl⟩
      have hst := Inv.step (k := 6) (cap := cap) _ hI (unhide HO) (Below.on (drew_below9 wr) hB0) hgr hat hl5 (by simp; omega)
      rw [hwf] at hst ⊢
      obtain ⟨hI2, keep, hmvx⟩ := hst
      rw [Array.setIfInBounds_setIfInBounds] at hI2
      obtain ⟨G', hG'⟩ : ∃ G', (fun i => G i ∨ (wr.heap.size ≤ i ∧ i < w1.heap.size)) = G' := ⟨_, rfl⟩
      have hown2 : wf.ownsRow (w.heap.size + 3) 117 10 (.slice (some ⟨gg, 0, none⟩) (j + 1) cap) (j + 1) (xs ++ [.int .u32 x.tb, .int .u8 x.off.op, .int .i64 x.off.n, .int .u32 x.off.al, .int .u32 x.off.of, .int .u8 x.off.re, .slice xba xbl xbc, .slice xea xel xec, .slice xla xll xlc, .slice fa x.fs.length fc]) := by
        rw [← hwf]
        exact owns_set h5 (fun e => by have e1 : gg = w.heap.size + 2 := by simpa [Value.ownBlock] using e
                                       rcases hat with h | h
                                       · have := (hos _ h).1; omega
                                       · have := (Below.on (drew_below9 wr) hB0).size; omega)
      have htk : l.take (j + 1) = l.take j ++ [x] := by rw [List.take_succ_eq_append_getElem hlt, hx]
      have hits2 : Its (ElmC wf G') 10 (l.take (j + 1)) (xs ++ [.int .u32 x.tb, .int .u8 x.off.op, .int .i64 x.off.n, .int .u32 x.off.al, .int .u32 x.off.of, .int .u8 x.off.re, .slice xba xbl xbc, .slice xea xel xec, .slice xla xll xlc, .slice fa x.fs.length fc]) := by
        rw [htk]
        subst hG'
        refine Its.snoc ((unhide HT).mono fun y cs q => ElmC.moved hmvx.1 q) ?_ rfl
        have hmn : Mv w1 wf (Ex.gor g wr.heap.size) (fun i => G i ∨ (wr.heap.size ≤ i ∧ i < w1.heap.size)) := fun i hi hg => by
          rcases hg with hg | hg
          · have h3 := (unhide HI).G1 i ((unhide HI).gG i hg)
            exact ⟨.inl ((unhide HI).gG i hg), keep i hi (by omega) h3.2.2⟩
          · exact ⟨.inr ⟨hg, hi⟩, keep i hi (by have := (unhide HI).lt; omega) (fun e => by have := ((unhide HO).lt i e).2; omega)⟩
        obtain ⟨cs, hce, hq⟩ := hP0
        obtain rfl : cs = _ := (by have := congrArg (fun v => match v with | .agg a => a.toList | _ => []) hce; simpa using this.symm)
        have hmw : Mv wr wf g (fun i => G i ∨ (wr.heap.size ≤ i ∧ i < w1.heap.size)) := fun i hi hg => ⟨.inl ((unhide HI).gG i hg), (hmvx.1 i hi ((unhide HI).gG i hg)).2⟩
        exact ⟨_, _, rfl, hq.moved hmn, Ex.Labs.move (hmw.moves) (unhide HFF)⟩
      have hKp := hKm _ _ _ _ hmvx.1 hmvx.2 (unhide HK)
      rw [hG'] at hI2 hKp
      dsimp only
      go_wp2
      go_roundg (l.length - j)
      case measure => omega
      case rel => exact ⟨j + 1, G', _, _, _, by go_num, hlt, Nat.sub_lt_sub_left hlt (Nat.lt_succ_self j), hide hI2, hide hown2, hide hits2, hide hKp⟩
    · obtain rfl : j = l.length := by omega
      have htk : l.take l.length = l := List.take_length
      have hT := unhide HT
      rw [htk] at hT
      obtain ⟨q1, q2, q3⟩ := Inv.next (unhide HI) (unhide HO) hT (fun G' hG x cs q => ElmC.moved (fun i _ hi => ⟨hG i hi, rfl⟩) q)
      have hKn := hKm _ _ _ _ q3 (Nat.le_refl _) (unhide HK)
      have hmc : wr.cell? ⟨w.heap.size, 6, none⟩ = some (.slice sa l.length cp) := by rw [cell_of_row wr _ 6 _ _ _ (unhide HI).bm]; exact hms
      have hll : w.heap.size < wr.heap.size := by have := (unhide HI).lt; omega
      have Q1 := hide q1; have Q2 := hide q2; have QK := hide hKn
      clear q1 q2 q3 hKn hT htk HI HO HT HK hj
      go_wp2
      exact (unhide HE) _ _ _ _ _ _ _ _ _ _ _ _ _ _ _ _ _ _ _ _ _ _ _ _ _ _ _ _ _ _ _ _ _ wr _ ua uc (unhide Q1) (unhide Q2) (unhide QK)
end Gm
end Go.Proofs.YtheopjcmhclgdaaGreatDoor

/- giveModule's loop 7. -/
namespace Go.Proofs.YtheopjcmhclgdaaGreatDoor
open Go.RowKit
namespace Gm
set_option linter.unusedVariables false
set_option linter.unusedSimpArgs false
set_option maxRecDepth 1000000 in
set_option maxHeartbeats 6400000 in
theorem lp_7 {u0 u4 u5 u6 u7 u8 u9 u10 u12 u13 u14 u15 u16 u17 u18 u19 u20 u21 u22 u23 u24 u25 u26 u27 u28 u29 u30 u31 u32 u33 u34 u35 u36 u37 u38 u39 u40 u41 u42 u43 u44 u45 u46 u47 u48 u49 u50 u51 u52 u53 u54 u55 u56 u57 u58 u59 u60 u61 u62 u63 u64 u65 u66 u67 u68 u69 u70 u71 u72 u73 u74 u75 u76 u77 u78 u79 u80 u81 u82 u83 u84 u85 u86 u87 u88 u89 u90 u91 u92 u93 u94 u95 u96 u97 u98 u99 u100 u101 u102 u103 u104 u105 u106 u107 u108 u109 u110 u111 u112 u113 u114 u115 u116 u117 u118 u119 u120 u121 u122 u123 u124 u125 u126 u127 u128 u129 u130 u131 u132 u133 u134 u135 u136 u137 u138 u139 u140 u141 u142 u143 u144 u145 u146 u147 u148 u149 u150 u151 u152 u153 u154 u155 u156 u157 u158 u159 u160 u161 u162 u163 u164 u165 u166 u167 u168 u169 u170 u171 u172 u173 u174 u175 u176 u177 u178 u179 u180 u181 u182 u183 u184 u185 u186 u187 u188 u189 u190 u191 u192 u193 u194 u195 u196 u197 u198 u199 u200 u201 u202 u203 u204 u205 u206 u207 u208 u209 u210 u211 u212 u213 u214 u215 u216 u217 u218 : Value} {w wr0 : World} {g G0 : Nat → Prop} {ms us : Array Value} {l : List Dat} {sa : Option Addr} {cp : Nat} {Keep : World → (Nat → Prop) → Prop} {Q0 : Exit → Act → World → Prop}
    (hgs : ∀ i, g i → i < w.heap.size) (hms : ms[7]? = some (.slice sa l.length cp)) (hus : us.size = 8) (hsrc : LL DatC 10 w g l (.slice sa l.length cp)) (hn : l.length ≤ 1048576) (hok : ∀ x ∈ l, Ex.SzI 1048576 x.off)
    (hKm : ∀ wr wr' G G', Mv wr wr' G G' → wr.heap.size ≤ wr'.heap.size → Keep wr G → Keep wr' G')
    (hI0 : Inv w wr0 g G0 ms us (.slice none 0 0)) (hu : us[7]? = some (.slice none 0 0)) (hK0 : Keep wr0 G0)
    (hexit : ∀ (v186 v187 v188 v189 v190 v191 v192 v193 v194 v195 v196 v197 v198 v199 v200 v201 v202 v203 v204 v205 v206 v207 v208 v209 v210 v211 v212 v213 v214 v215 v216 v217 s : Value) (wr' : World) (G' : Nat → Prop) (va : Option Addr) (vc : Nat), Inv w wr' g G' ms (us.setIfInBounds 7 (.slice va l.length vc)) (.slice none 0 0) → LL DatC 10 wr' G' l (.slice va l.length vc) → Keep wr' G' → Q0 (.exit 14) ⟨#[u0, .pointer (some ⟨w.heap.size, 0, none⟩), .pointer (some ⟨w.heap.size + 1, 0, none⟩), .pointer (some ⟨w.heap.size + 2, 0, none⟩), u4, u5, u6, u7, u8, u9, u10, s, u12, u13, u14, u15, u16, u17, u18, u19, u20, u21, u22, u23, u24, u25, u26, u27, u28, u29, u30, u31, u32, u33, u34, u35, u36, u37, u38, u39, u40, u41, u42, u43, u44, u45, u46, u47, u48, u49, u50, u51, u52, u53, u54, u55, u56, u57, u58, u59, u60, u61, u62, u63, u64, u65, u66, u67, u68, u69, u70, u71, u72, u73, u74, u75, u76, u77, u78, u79, u80, u81, u82, u83, u84, u85, u86, u87, u88, u89, u90, u91, u92, u93, u94, u95, u96, u97, u98, u99, u100, u101, u102, u103, u104, u105, u106, u107, u108, u109, u110, u111, u112, u113, u114, u115, u116, u117, u118, u119, u120, u121, u122, u123, u124, u125, u126, u127, u128, u129, u130, u131, u132, u133, u134, u135, u136, u137, u138, u139, u140, u141, u142, u143, u144, u145, u146, u147, u148, u149, u150, u151, u152, u153, u154, u155, u156, u157, u158, u159, u160, u161, u162, u163, u164, u165, u166, u167, u168, u169, u170, u171, u172, u173, u174, u175, u176, u177, u178, u179, u180, u181, u182, u183, u184, u185, v186, v187, v188, v189, v190, v191, v192, v193, v194, v195, v196, v197, v198, v199, v200, v201, v202, v203, v204, v205, v206, v207, v208, v209, v210, v211, v212, v213, v214, v215, v216, v217, u218], []⟩ wr') :
    Code.wp Tryz.prog (Code.loop gbody7) Q0 ⟨#[u0, .pointer (some ⟨w.heap.size, 0, none⟩), .pointer (some ⟨w.heap.size + 1, 0, none⟩), .pointer (some ⟨w.heap.size + 2, 0, none⟩), u4, u5, u6, u7, u8, u9, u10, .int .i64 0, u12, u13, u14, u15, u16, u17, u18, u19, u20, u21, u22, u23, u24, u25, u26, u27, u28, u29, u30, u31, u32, u33, u34, u35, u36, u37, u38, u39, u40, u41, u42, u43, u44, u45, u46, u47, u48, u49, u50, u51, u52, u53, u54, u55, u56, u57, u58, u59, u60, u61, u62, u63, u64, u65, u66, u67, u68, u69, u70, u71, u72, u73, u74, u75, u76, u77, u78, u79, u80, u81, u82, u83, u84, u85, u86, u87, u88, u89, u90, u91, u92, u93, u94, u95, u96, u97, u98, u99, u100, u101, u102, u103, u104, u105, u106, u107, u108, u109, u110, u111, u112, u113, u114, u115, u116, u117, u118, u119, u120, u121, u122, u123, u124, u125, u126, u127, u128, u129, u130, u131, u132, u133, u134, u135, u136, u137, u138, u139, u140, u141, u142, u143, u144, u145, u146, u147, u148, u149, u150, u151, u152, u153, u154, u155, u156, u157, u158, u159, u160, u161, u162, u163, u164, u165, u166, u167, u168, u169, u170, u171, u172, u173, u174, u175, u176, u177, u178, u179, u180, u181, u182, u183, u184, u185, u186, u187, u188, u189, u190, u191, u192, u193, u194, u195, u196, u197, u198, u199, u200, u201, u202, u203, u204, u205, u206, u207, u208, u209, u210, u211, u212, u213, u214, u215, u216, u217, u218], []⟩ wr0 := by
  have HE := hide hexit; have HSrc := hide hsrc
  have hI1 : Inv w wr0 g G0 ms (us.setIfInBounds 7 (.slice none 0 0)) (.slice none 0 0) := by rw [set_same hu]; exact hI0
  have HI1 := hide hI1; have HK1 := hide hK0
  clear hexit hsrc hI0 hI1 hK0
  dsimp only
  conv => arg 2; arg 1; whnf
  go_loopg [11] (l.length + 1) (fun gk s wr => ∃ (j : Nat) (G : Nat → Prop) (ua : Option Addr) (uc : Nat) (xs : List Value), s = .int .i64 j ∧ j ≤ l.length ∧ l.length - j < gk ∧ Hid (Inv w wr g G ms (us.setIfInBounds 7 (.slice ua j uc)) (.slice ua j uc)) ∧ Hid (wr.ownsRow (w.heap.size + 3) 119 10 (.slice ua j uc) j xs) ∧ Hid (Its (DatC wr G) 10 (l.take j) xs) ∧ Hid (Keep wr G))
  case atStart => exact ⟨0, G0, none, 0, [], rfl, Nat.zero_le _, by omega, HI1, hide (World.ownsRow_nil _ _ _ _), hide (by simpa using Its.nil _ _), HK1⟩
  case round =>
    obtain ⟨j, G, ua, uc, xs, rfl, hj, hgk, HI, HO, HT, HK⟩ := hrel
    clear HI1 HK1
    by_cases hlt : j < l.length
    · change Code.wp Tryz.prog gbody7 _ _ _
      obtain ⟨x, hx⟩ : ∃ x, l[j] = x := ⟨_, rfl⟩
      have hokx := hok x (by rw [← hx]; exact List.getElem_mem hlt)
      have hsw := (unhide HSrc).moved (Mv.below (g' := g) (unhide HI).b (fun _ _ h => h)) (unhide HI).b.size (fun _ _ q => DatC.moved (Mv.below (g' := g) (unhide HI).b (fun _ _ h => h)) q)
      obtain ⟨sa', cp', es, hcpl, _, hsr⟩ := hsw
      simp only [Value.slice.injEq] at es
      obtain ⟨rfl, _, rfl⟩ := es
      obtain ⟨ba, oa, rfl, hgb, hbl, hits⟩ := hsr (by omega)
      obtain ⟨cs, hcl, hit, hcs⟩ := hits j hlt
      rw [hx] at hit
      obtain ⟨ds, vf, rfl, ⟨vb, ve, vl, rfl, h1, h2, h3⟩, hf⟩ := hit
      have d0 := hcs 0 _ rfl
      have d1 := hcs 1 _ rfl
      have d2 := hcs 2 _ rfl
      have d3 := hcs 3 _ rfl
      have d4 := hcs 4 _ rfl
      have d5 := hcs 5 _ rfl
      have d6 := hcs 6 _ rfl
      have d7 := hcs 7 _ rfl
      have d8 := hcs 8 _ rfl
      have d9 := hcs 9 _ rfl
      have H1 := hide h1; have H2 := hide h2; have H3 := hide h3; have HFF := hide hf
      obtain ⟨iba, ibc, rfl, _⟩ := h1
      obtain ⟨iea, iec, rfl, _⟩ := h2
      obtain ⟨ila, ilc, rfl, _⟩ := h3
      obtain ⟨fa, fc, rfl, _⟩ := hf
      have hc0 : ∀ W, Below wr.heap.size wr W → Calls Tryz.prog 23 #[.agg #[.int .u8 x.off.op, .int .i64 x.off.n, .int .u32 x.off.al, .int .u32 x.off.of, .int .u8 x.off.re, .slice iba x.off.body.length ibc, .slice iea x.off.els.length iec, .slice ila x.off.ls.length ilc]] W fun e w' => ∃ xba xbl xbc xea xel xec xla xll xlc, e = .returned (.agg #[.int .u8 x.off.op, .int .i64 x.off.n, .int .u32 x.off.al, .int .u32 x.off.of, .int .u8 x.off.re, .slice xba xbl xbc, .slice xea xel xec, .slice xla xll xlc]) ∧ (∃ cs, Value.agg #[.int .u8 x.off.op, .int .i64 x.off.n, .int .u32 x.off.al, .int .u32 x.off.of, .int .u8 x.off.re, .slice xba xbl xbc, .slice xea xel xec, .slice xla xll xlc] = .agg cs.toArray ∧ InsC w' (Ex.gor g W.heap.size) x.off cs) ∧ Below W.heap.size W w' := fun W hW => by
        have hg : ∀ i, g i → i < W.heap.size := fun i hi => by have := hgs i hi; have := (unhide HI).b.size; have := hW.size; omega
        have hm := (Mv.below (g := g) (g' := g) hW (fun _ _ h => h)).moves
        refine (Ex.one_any x.off g _ _ _ W hg ((unhide H1).move hm) ((unhide H2).move hm) (Ex.Labs.move hm (unhide H3)) (szI_mono hokx)).mono ?_
        rintro e w' ⟨vb', ve', vl', he, q1, q2, q3, hb⟩
        have r1 := q1; have r2 := q2; have r3 := q3
        obtain ⟨xba, xbc, rfl, _⟩ := q1
        obtain ⟨xea, xec, rfl, _⟩ := q2
        obtain ⟨xla, xlc, rfl, _⟩ := q3
        exact ⟨xba, _, xbc, xea, _, xec, xla, _, xlc, he, ⟨_, rfl, ⟨_, _, _, rfl, r1, r2, r3⟩⟩, hb⟩
      have hI := unhide HI
      have hl3 := hI.lt
      have hbs := hgs ba hgb
      have hos := (unhide HO).lt
      have hmc : wr.cell? ⟨w.heap.size, 7, none⟩ = some (.slice (some ⟨ba, oa, none⟩) l.length cp) := by rw [cell_of_row wr _ 7 _ _ _ hI.bm]; exact hms
      have oc : wr.cell? ⟨w.heap.size + 2, 7, none⟩ = some (.slice ua j uc) := by rw [cell_of_row wr _ 7 _ _ _ hI.bo]; exact set_get (by omega)
      refine gm_7 (base := w.heap.size + 3) (ua := ua) (uc := uc) (xs := xs) (PK0 := fun W w' v => ∃ cs, v = .agg cs.toArray ∧ InsC w' (Ex.gor g W.heap.size) x.off cs) (by omega) (by omega) hmc d0 d1 d2 d3 d4 d5 d6 d7 d8 d9 oc (fun i => frozen_of_row wr _ i _ _ hI.bo) (unhide HO) (by omega) (by omega) (by omega) hbl (by omega) (by omega) (fun e => by have := (hos _ e).1; omega) (fun e => by have := (hos _ e).1; omega) (fun e => by have := (hos _ e).1; omega) hc0 (fun v186 v187 v188 v189 v190 v191 v192 v193 v194 v195 v196 v197 v198 v199 v200 v201 v202 v203 v204 v205 v206 v207 v208 v209 v210 v211 v212 v213 v214 v215 v216 v217 xba xbl xbc xea xel xec xla xll xlc w1 wx gg cap hP0 hB0 h5 hgr hat hl5 => ?_)
      obtain ⟨wf, hwf⟩ : ∃ wf, wx.setCell ⟨w.heap.size + 2, 7, none⟩ (.slice (some ⟨gg, 0, none⟩) (j + 1) cap) = wf := ⟨_, rfl⟩
      have hst := Inv.step (k := 7) (cap := cap) _ hI (unhide HO) (Below.on (drew_below9 wr) hB0) hgr hat hl5 (by simp; omega)
      rw [hwf] at hst ⊢
      obtain ⟨hI2, keep, hmvx⟩ := hst
      rw [Array.setIfInBounds_setIfInBounds] at hI2
      obtain ⟨G', hG'⟩ : ∃ G', (fun i => G i ∨ (wr.heap.size ≤ i ∧ i < w1.heap.size)) = G' := ⟨_, rfl⟩
      have hown2 : wf.ownsRow (w.heap.size + 3) 119 10 (.slice (some ⟨gg, 0, none⟩) (j + 1) cap) (j + 1) (xs ++ [.int .u32 x.tb, .int .u8 x.off.op, .int .i64 x.off.n, .int .u32 x.off.al, .int .u32 x.off.of, .int .u8 x.off.re, .slice xba xbl xbc, .slice xea xel xec, .slice xla xll xlc, .slice fa x.bs.length fc]) := by
        rw [← hwf]
        exact owns_set h5 (fun e => by have e1 : gg = w.heap.size + 2 := by simpa [Value.ownBlock] using e
                                       rcases hat with h | h
                                       · have := (hos _ h).1; omega
                                       · have := (Below.on (drew_below9 wr) hB0).size; omega)
      have htk : l.take (j + 1) = l.take j ++ [x] := by rw [List.take_succ_eq_append_getElem hlt, hx]
      have hits2 : Its (DatC wf G') 10 (l.take (j + 1)) (xs ++ [.int .u32 x.tb, .int .u8 x.off.op, .int .i64 x.off.n, .int .u32 x.off.al, .int .u32 x.off.of, .int .u8 x.off.re, .slice xba xbl xbc, .slice xea xel xec, .slice xla xll xlc, .slice fa x.bs.length fc]) := by
        rw [htk]
        subst hG'
        refine Its.snoc ((unhide HT).mono fun y cs q => DatC.moved hmvx.1 q) ?_ rfl
        have hmn : Mv w1 wf (Ex.gor g wr.heap.size) (fun i => G i ∨ (wr.heap.size ≤ i ∧ i < w1.heap.size)) := fun i hi hg => by
          rcases hg with hg | hg
          · have h3 := (unhide HI).G1 i ((unhide HI).gG i hg)
            exact ⟨.inl ((unhide HI).gG i hg), keep i hi (by omega) h3.2.2⟩
          · exact ⟨.inr ⟨hg, hi⟩, keep i hi (by have := (unhide HI).lt; omega) (fun e => by have := ((unhide HO).lt i e).2; omega)⟩
        obtain ⟨cs, hce, hq⟩ := hP0
        obtain rfl : cs = _ := (by have := congrArg (fun v => match v with | .agg a => a.toList | _ => []) hce; simpa using this.symm)
        have hmw : Mv wr wf g (fun i => G i ∨ (wr.heap.size ≤ i ∧ i < w1.heap.size)) := fun i hi hg => ⟨.inl ((unhide HI).gG i hg), (hmvx.1 i hi ((unhide HI).gG i hg)).2⟩
        exact ⟨_, _, rfl, hq.moved hmn, Byts.moved hmw (unhide HFF)⟩
      have hKp := hKm _ _ _ _ hmvx.1 hmvx.2 (unhide HK)
      rw [hG'] at hI2 hKp
      dsimp only
      go_wp2
      go_roundg (l.length - j)
      case measure => omega
      case rel => exact ⟨j + 1, G', _, _, _, by go_num, hlt, Nat.sub_lt_sub_left hlt (Nat.lt_succ_self j), hide hI2, hide hown2, hide hits2, hide hKp⟩
    · obtain rfl : j = l.length := by omega
      have htk : l.take l.length = l := List.take_length
      have hT := unhide HT
      rw [htk] at hT
      obtain ⟨q1, q2, q3⟩ := Inv.next (unhide HI) (unhide HO) hT (fun G' hG x cs q => DatC.moved (fun i _ hi => ⟨hG i hi, rfl⟩) q)
      have hKn := hKm _ _ _ _ q3 (Nat.le_refl _) (unhide HK)
      have hmc : wr.cell? ⟨w.heap.size, 7, none⟩ = some (.slice sa l.length cp) := by rw [cell_of_row wr _ 7 _ _ _ (unhide HI).bm]; exact hms
      have hll : w.heap.size < wr.heap.size := by have := (unhide HI).lt; omega
      have Q1 := hide q1; have Q2 := hide q2; have QK := hide hKn
      clear q1 q2 q3 hKn hT htk HI HO HT HK hj
      go_wp2
      exact (unhide HE) _ _ _ _ _ _ _ _ _ _ _ _ _ _ _ _ _ _ _ _ _ _ _ _ _ _ _ _ _ _ _ _ _ wr _ ua uc (unhide Q1) (unhide Q2) (unhide QK)
end Gm
end Go.Proofs.YtheopjcmhclgdaaGreatDoor

/- giveModule whole; its row of functions is the call's own. -/
namespace Go.Proofs.YtheopjcmhclgdaaGreatDoor
open Go.RowKit
namespace Gm
set_option linter.unusedVariables false
set_option linter.unusedSimpArgs false
structure SzM (M : Mod) : Prop where
  n0 : M.types.length ≤ 1048576
  n1 : M.funcs.length ≤ 1048576
  n2 : M.tables.length ≤ 1048576
  n3 : M.mems.length ≤ 1048576
  n4 : M.globs.length ≤ 1048576
  n5 : M.exps.length ≤ 1048576
  n6 : M.elems.length ≤ 1048576
  n7 : M.datas.length ≤ 1048576
  s0 : ∀ x ∈ M.types, (∀ z ∈ x.ps, 0 ≤ z ∧ z ≤ 255) ∧ x.ps.length ≤ 1048576
  s1 : ∀ x ∈ M.funcs, (∀ z ∈ x.ls, 0 ≤ z ∧ z ≤ 255) ∧ x.ls.length ≤ 1048576 ∧ x.body.length ≤ 1048576 ∧ Ex.Sz 1048576 x.body
  s2 : ∀ x ∈ M.tables, True
  s3 : ∀ x ∈ M.mems, True
  s4 : ∀ x ∈ M.globs, Ex.SzI 1048576 x.ini
  s5 : ∀ x ∈ M.exps, True
  s6 : ∀ x ∈ M.elems, Ex.SzI 1048576 x.off
  s7 : ∀ x ∈ M.datas, Ex.SzI 1048576 x.off

theorem inv0 (w : World) (g : Nat → Prop) (ms : Array Value) (hg : ∀ k, g k → k < w.heap.size) : Inv w (((w.alloc (.cells ms 30)).alloc (.cells zeroMod 49)).alloc (.cells zeroMod 49)) g g ms zeroMod (.slice none 0 0) := by
  have e1 : (w.alloc (.cells ms 30)).heap.size = w.heap.size + 1 := by simp
  have e2 : ((w.alloc (.cells ms 30)).alloc (.cells zeroMod 49)).heap.size = w.heap.size + 2 := by simp
  refine ⟨(((Below.refl _ _).alloc (Nat.le_refl _) _).alloc (by simp) _).alloc (by simp; omega) _, ?_, ?_, ?_, fun _ h => h, fun k hk => ⟨by have := hg k hk; simp; omega, .inl (hg k hk), by simp [Value.ownBlock]⟩, fun _ h _ => h⟩
  · rw [Below.heap_alloc _ _ _ (by simp; omega), Below.heap_alloc _ _ _ (by simp)]
    exact heap_alloc_new w (.cells ms 30)
  · rw [Below.heap_alloc _ _ _ (by simp)]
    have := heap_alloc_new (w.alloc (.cells ms 30)) (.cells zeroMod 49)
    rw [e1] at this; exact this
  · have := heap_alloc_new ((w.alloc (.cells ms 30)).alloc (.cells zeroMod 49)) (.cells zeroMod 49)
    rw [e2] at this; exact this
set_option maxRecDepth 1000000 in
set_option maxHeartbeats 6400000 in
theorem giveModule_own (M : Mod) (g : Nat → Prop) (v0 v1 v2 v3 v4 v5 v6 v7 : Value) (w : World) (hg : ∀ k, g k → k < w.heap.size) (hM : ModL w g M v0 v1 v2 v3 v4 v5 v6 v7) (hs : SzM M) :
    Calls Tryz.prog 9 #[.agg #[v0, v1, v2, v3, v4, v5, v6, v7]] w fun e w' => ∃ v0' v1' v2' v3' v4' v5' v6' v7', e = .returned (.agg #[v0', v1', v2', v3', v4', v5', v6', v7']) ∧ ModL w' (Ex.gor g w.heap.size) M v0' v1' v2' v3' v4' v5' v6' v7' ∧ OwF (w.heap.size + 3) M.funcs.length v1' w' (Ex.gor g w.heap.size) ∧ Below w.heap.size w w' := by
  have HM := hide hM; have HS := hide hs
  obtain ⟨h0, h1, h2, h3, h4, h5, h6, h7⟩ := hM
  obtain ⟨sa0, sc0, rfl, -⟩ := h0
  obtain ⟨sa1, sc1, rfl, -⟩ := h1
  obtain ⟨sa2, sc2, rfl, -⟩ := h2
  obtain ⟨sa3, sc3, rfl, -⟩ := h3
  obtain ⟨sa4, sc4, rfl, -⟩ := h4
  obtain ⟨sa5, sc5, rfl, -⟩ := h5
  obtain ⟨sa6, sc6, rfl, -⟩ := h6
  obtain ⟨sa7, sc7, rfl, -⟩ := h7
  have I0 := hide (inv0 w g #[.slice sa0 M.types.length sc0, .slice sa1 M.funcs.length sc1, .slice sa2 M.tables.length sc2, .slice sa3 M.mems.length sc3, .slice sa4 M.globs.length sc4, .slice sa5 M.exps.length sc5, .slice sa6 M.elems.length sc6, .slice sa7 M.datas.length sc7] hg)
  have K0 : Hid True := hide trivial
  clear hs
  go_enter Tryz.func9, Tryz.ntmps9
  go_wp2_with fail
  unfold zeroMod at I0
  generalize hW0 : ((w.alloc _).alloc _).alloc _ = W0 at I0 ⊢
  refine lp_0 (w := w) (g := g) (G0 := g) (ms := #[.slice sa0 M.types.length sc0, .slice sa1 M.funcs.length sc1, .slice sa2 M.tables.length sc2, .slice sa3 M.mems.length sc3, .slice sa4 M.globs.length sc4, .slice sa5 M.exps.length sc5, .slice sa6 M.elems.length sc6, .slice sa7 M.datas.length sc7]) (us := #[.slice none 0 0, .slice none 0 0, .slice none 0 0, .slice none 0 0, .slice none 0 0, .slice none 0 0, .slice none 0 0, .slice none 0 0]) (l := M.types) (sa := sa0) (cp := sc0) (Keep := fun _ _ => True) hg rfl rfl (unhide HM).l0 (unhide HS).n0 (unhide HS).s0 (fun _ _ _ _ _ _ _ => trivial) (unhide I0) rfl (unhide K0) ?_
  intro a0_0 a0_1 a0_2 a0_3 a0_4 a0_5 a0_6 a0_7 a0_8 a0_9 a0_10 a0_11 a0_12 a0_13 a0_14 a0_15 a0_16 a0_17 a0_18 a0_19 a0_20 a0_21 a0_22 a0_23 a0_24 a0_25 a0_26 W1 G1 oa0 oc0 hi hl hk
  have I1 : Hid (Inv w W1 g G1 #[.slice sa0 M.types.length sc0, .slice sa1 M.funcs.length sc1, .slice sa2 M.tables.length sc2, .slice sa3 M.mems.length sc3, .slice sa4 M.globs.length sc4, .slice sa5 M.exps.length sc5, .slice sa6 M.elems.length sc6, .slice sa7 M.datas.length sc7] #[.slice oa0 M.types.length oc0, .slice none 0 0, .slice none 0 0, .slice none 0 0, .slice none 0 0, .slice none 0 0, .slice none 0 0, .slice none 0 0] (.slice none 0 0)) := hide hi
  have K1 := hide hl
  clear hi hl hk I0 K0
  go_wp2_with fail
  refine lp_1 (w := w) (g := g) (G0 := G1) (ms := #[.slice sa0 M.types.length sc0, .slice sa1 M.funcs.length sc1, .slice sa2 M.tables.length sc2, .slice sa3 M.mems.length sc3, .slice sa4 M.globs.length sc4, .slice sa5 M.exps.length sc5, .slice sa6 M.elems.length sc6, .slice sa7 M.datas.length sc7]) (us := #[.slice oa0 M.types.length oc0, .slice none 0 0, .slice none 0 0, .slice none 0 0, .slice none 0 0, .slice none 0 0, .slice none 0 0, .slice none 0 0]) (l := M.funcs) (sa := sa1) (cp := sc1) (Keep := fun wr G => LL TypC 2 wr G M.types (.slice oa0 M.types.length oc0)) hg rfl rfl (unhide HM).l1 (unhide HS).n1 (unhide HS).s1 (fun wr wr' G G' hm hs q => q.moved hm hs (fun _ _ p => TypC.moved hm p)) (unhide I1) rfl (unhide K1) ?_
  intro a1_0 a1_1 a1_2 a1_3 a1_4 a1_5 a1_6 a1_7 a1_8 a1_9 a1_10 a1_11 a1_12 a1_13 a1_14 a1_15 a1_16 a1_17 a1_18 a1_19 a1_20 a1_21 a1_22 a1_23 a1_24 a1_25 a1_26 a1_27 a1_28 a1_29 a1_30 a1_31 a1_32 a1_33 W2 G2 oa1 oc1 hi hl hk ho
  have I2 : Hid (Inv w W2 g G2 #[.slice sa0 M.types.length sc0, .slice sa1 M.funcs.length sc1, .slice sa2 M.tables.length sc2, .slice sa3 M.mems.length sc3, .slice sa4 M.globs.length sc4, .slice sa5 M.exps.length sc5, .slice sa6 M.elems.length sc6, .slice sa7 M.datas.length sc7] #[.slice oa0 M.types.length oc0, .slice oa1 M.funcs.length oc1, .slice none 0 0, .slice none 0 0, .slice none 0 0, .slice none 0 0, .slice none 0 0, .slice none 0 0] (.slice none 0 0)) := hide hi
  have K2 : Hid ((fun wr G => LL TypC 2 wr G M.types (.slice oa0 M.types.length oc0) ∧ LL FncC 3 wr G M.funcs (.slice oa1 M.funcs.length oc1) ∧ OwF (w.heap.size + 3) M.funcs.length (.slice oa1 M.funcs.length oc1) wr G) W2 G2) := hide ⟨hk, hl, ho⟩
  clear hi hl hk ho I1 K1
  go_wp2_with fail
  refine lp_2 (w := w) (g := g) (G0 := G2) (ms := #[.slice sa0 M.types.length sc0, .slice sa1 M.funcs.length sc1, .slice sa2 M.tables.length sc2, .slice sa3 M.mems.length sc3, .slice sa4 M.globs.length sc4, .slice sa5 M.exps.length sc5, .slice sa6 M.elems.length sc6, .slice sa7 M.datas.length sc7]) (us := #[.slice oa0 M.types.length oc0, .slice oa1 M.funcs.length oc1, .slice none 0 0, .slice none 0 0, .slice none 0 0, .slice none 0 0, .slice none 0 0, .slice none 0 0]) (l := M.tables) (sa := sa2) (cp := sc2) (Keep := fun wr G => LL TypC 2 wr G M.types (.slice oa0 M.types.length oc0) ∧ LL FncC 3 wr G M.funcs (.slice oa1 M.funcs.length oc1) ∧ OwF (w.heap.size + 3) M.funcs.length (.slice oa1 M.funcs.length oc1) wr G) hg rfl rfl (unhide HM).l2 (unhide HS).n2 (unhide HS).s2 (fun wr wr' G G' hm hs q => ⟨q.1.moved hm hs (fun _ _ p => TypC.moved hm p), q.2.1.moved hm hs (fun _ _ p => FncC.moved hm p), OwF.moved hm q.2.2⟩) (unhide I2) rfl (unhide K2) ?_
  intro a2_0 a2_1 a2_2 a2_3 a2_4 a2_5 a2_6 a2_7 a2_8 a2_9 a2_10 a2_11 a2_12 a2_13 a2_14 a2_15 a2_16 a2_17 W3 G3 oa2 oc2 hi hl hk
  have I3 : Hid (Inv w W3 g G3 #[.slice sa0 M.types.length sc0, .slice sa1 M.funcs.length sc1, .slice sa2 M.tables.length sc2, .slice sa3 M.mems.length sc3, .slice sa4 M.globs.length sc4, .slice sa5 M.exps.length sc5, .slice sa6 M.elems.length sc6, .slice sa7 M.datas.length sc7] #[.slice oa0 M.types.length oc0, .slice oa1 M.funcs.length oc1, .slice oa2 M.tables.length oc2, .slice none 0 0, .slice none 0 0, .slice none 0 0, .slice none 0 0, .slice none 0 0] (.slice none 0 0)) := hide hi
  have K3 : Hid ((fun wr G => LL TypC 2 wr G M.types (.slice oa0 M.types.length oc0) ∧ LL FncC 3 wr G M.funcs (.slice oa1 M.funcs.length oc1) ∧ LL LimC 3 wr G M.tables (.slice oa2 M.tables.length oc2) ∧ OwF (w.heap.size + 3) M.funcs.length (.slice oa1 M.funcs.length oc1) wr G) W3 G3) := hide ⟨hk.1, hk.2.1, hl, hk.2.2⟩
  clear hi hl hk I2 K2
  go_wp2_with fail
  refine lp_3 (w := w) (g := g) (G0 := G3) (ms := #[.slice sa0 M.types.length sc0, .slice sa1 M.funcs.length sc1, .slice sa2 M.tables.length sc2, .slice sa3 M.mems.length sc3, .slice sa4 M.globs.length sc4, .slice sa5 M.exps.length sc5, .slice sa6 M.elems.length sc6, .slice sa7 M.datas.length sc7]) (us := #[.slice oa0 M.types.length oc0, .slice oa1 M.funcs.length oc1, .slice oa2 M.tables.length oc2, .slice none 0 0, .slice none 0 0, .slice none 0 0, .slice none 0 0, .slice none 0 0]) (l := M.mems) (sa := sa3) (cp := sc3) (Keep := fun wr G => LL TypC 2 wr G M.types (.slice oa0 M.types.length oc0) ∧ LL FncC 3 wr G M.funcs (.slice oa1 M.funcs.length oc1) ∧ LL LimC 3 wr G M.tables (.slice oa2 M.tables.length oc2) ∧ OwF (w.heap.size + 3) M.funcs.length (.slice oa1 M.funcs.length oc1) wr G) hg rfl rfl (unhide HM).l3 (unhide HS).n3 (unhide HS).s3 (fun wr wr' G G' hm hs q => ⟨q.1.moved hm hs (fun _ _ p => TypC.moved hm p), q.2.1.moved hm hs (fun _ _ p => FncC.moved hm p), q.2.2.1.moved hm hs (fun _ _ p => LimC.moved hm p), OwF.moved hm q.2.2.2⟩) (unhide I3) rfl (unhide K3) ?_
  intro a3_0 a3_1 a3_2 a3_3 a3_4 a3_5 a3_6 a3_7 a3_8 a3_9 a3_10 a3_11 a3_12 a3_13 a3_14 a3_15 a3_16 a3_17 W4 G4 oa3 oc3 hi hl hk
  have I4 : Hid (Inv w W4 g G4 #[.slice sa0 M.types.length sc0, .slice sa1 M.funcs.length sc1, .slice sa2 M.tables.length sc2, .slice sa3 M.mems.length sc3, .slice sa4 M.globs.length sc4, .slice sa5 M.exps.length sc5, .slice sa6 M.elems.length sc6, .slice sa7 M.datas.length sc7] #[.slice oa0 M.types.length oc0, .slice oa1 M.funcs.length oc1, .slice oa2 M.tables.length oc2, .slice oa3 M.mems.length oc3, .slice none 0 0, .slice none 0 0, .slice none 0 0, .slice none 0 0] (.slice none 0 0)) := hide hi
  have K4 : Hid ((fun wr G => LL TypC 2 wr G M.types (.slice oa0 M.types.length oc0) ∧ LL FncC 3 wr G M.funcs (.slice oa1 M.funcs.length oc1) ∧ LL LimC 3 wr G M.tables (.slice oa2 M.tables.length oc2) ∧ LL LimC 3 wr G M.mems (.slice oa3 M.mems.length oc3) ∧ OwF (w.heap.size + 3) M.funcs.length (.slice oa1 M.funcs.length oc1) wr G) W4 G4) := hide ⟨hk.1, hk.2.1, hk.2.2.1, hl, hk.2.2.2⟩
  clear hi hl hk I3 K3
  go_wp2_with fail
  refine lp_4 (w := w) (g := g) (G0 := G4) (ms := #[.slice sa0 M.types.length sc0, .slice sa1 M.funcs.length sc1, .slice sa2 M.tables.length sc2, .slice sa3 M.mems.length sc3, .slice sa4 M.globs.length sc4, .slice sa5 M.exps.length sc5, .slice sa6 M.elems.length sc6, .slice sa7 M.datas.length sc7]) (us := #[.slice oa0 M.types.length oc0, .slice oa1 M.funcs.length oc1, .slice oa2 M.tables.length oc2, .slice oa3 M.mems.length oc3, .slice none 0 0, .slice none 0 0, .slice none 0 0, .slice none 0 0]) (l := M.globs) (sa := sa4) (cp := sc4) (Keep := fun wr G => LL TypC 2 wr G M.types (.slice oa0 M.types.length oc0) ∧ LL FncC 3 wr G M.funcs (.slice oa1 M.funcs.length oc1) ∧ LL LimC 3 wr G M.tables (.slice oa2 M.tables.length oc2) ∧ LL LimC 3 wr G M.mems (.slice oa3 M.mems.length oc3) ∧ OwF (w.heap.size + 3) M.funcs.length (.slice oa1 M.funcs.length oc1) wr G) hg rfl rfl (unhide HM).l4 (unhide HS).n4 (unhide HS).s4 (fun wr wr' G G' hm hs q => ⟨q.1.moved hm hs (fun _ _ p => TypC.moved hm p), q.2.1.moved hm hs (fun _ _ p => FncC.moved hm p), q.2.2.1.moved hm hs (fun _ _ p => LimC.moved hm p), q.2.2.2.1.moved hm hs (fun _ _ p => LimC.moved hm p), OwF.moved hm q.2.2.2.2⟩) (unhide I4) rfl (unhide K4) ?_
  intro a4_0 a4_1 a4_2 a4_3 a4_4 a4_5 a4_6 a4_7 a4_8 a4_9 a4_10 a4_11 a4_12 a4_13 a4_14 a4_15 a4_16 a4_17 a4_18 a4_19 a4_20 a4_21 a4_22 a4_23 a4_24 a4_25 a4_26 a4_27 a4_28 a4_29 a4_30 a4_31 a4_32 W5 G5 oa4 oc4 hi hl hk
  have I5 : Hid (Inv w W5 g G5 #[.slice sa0 M.types.length sc0, .slice sa1 M.funcs.length sc1, .slice sa2 M.tables.length sc2, .slice sa3 M.mems.length sc3, .slice sa4 M.globs.length sc4, .slice sa5 M.exps.length sc5, .slice sa6 M.elems.length sc6, .slice sa7 M.datas.length sc7] #[.slice oa0 M.types.length oc0, .slice oa1 M.funcs.length oc1, .slice oa2 M.tables.length oc2, .slice oa3 M.mems.length oc3, .slice oa4 M.globs.length oc4, .slice none 0 0, .slice none 0 0, .slice none 0 0] (.slice none 0 0)) := hide hi
  have K5 : Hid ((fun wr G => LL TypC 2 wr G M.types (.slice oa0 M.types.length oc0) ∧ LL FncC 3 wr G M.funcs (.slice oa1 M.funcs.length oc1) ∧ LL LimC 3 wr G M.tables (.slice oa2 M.tables.length oc2) ∧ LL LimC 3 wr G M.mems (.slice oa3 M.mems.length oc3) ∧ LL GloC 10 wr G M.globs (.slice oa4 M.globs.length oc4) ∧ OwF (w.heap.size + 3) M.funcs.length (.slice oa1 M.funcs.length oc1) wr G) W5 G5) := hide ⟨hk.1, hk.2.1, hk.2.2.1, hk.2.2.2.1, hl, hk.2.2.2.2⟩
  clear hi hl hk I4 K4
  go_wp2_with fail
  refine lp_5 (w := w) (g := g) (G0 := G5) (ms := #[.slice sa0 M.types.length sc0, .slice sa1 M.funcs.length sc1, .slice sa2 M.tables.length sc2, .slice sa3 M.mems.length sc3, .slice sa4 M.globs.length sc4, .slice sa5 M.exps.length sc5, .slice sa6 M.elems.length sc6, .slice sa7 M.datas.length sc7]) (us := #[.slice oa0 M.types.length oc0, .slice oa1 M.funcs.length oc1, .slice oa2 M.tables.length oc2, .slice oa3 M.mems.length oc3, .slice oa4 M.globs.length oc4, .slice none 0 0, .slice none 0 0, .slice none 0 0]) (l := M.exps) (sa := sa5) (cp := sc5) (Keep := fun wr G => LL TypC 2 wr G M.types (.slice oa0 M.types.length oc0) ∧ LL FncC 3 wr G M.funcs (.slice oa1 M.funcs.length oc1) ∧ LL LimC 3 wr G M.tables (.slice oa2 M.tables.length oc2) ∧ LL LimC 3 wr G M.mems (.slice oa3 M.mems.length oc3) ∧ LL GloC 10 wr G M.globs (.slice oa4 M.globs.length oc4) ∧ OwF (w.heap.size + 3) M.funcs.length (.slice oa1 M.funcs.length oc1) wr G) hg rfl rfl (unhide HM).l5 (unhide HS).n5 (unhide HS).s5 (fun wr wr' G G' hm hs q => ⟨q.1.moved hm hs (fun _ _ p => TypC.moved hm p), q.2.1.moved hm hs (fun _ _ p => FncC.moved hm p), q.2.2.1.moved hm hs (fun _ _ p => LimC.moved hm p), q.2.2.2.1.moved hm hs (fun _ _ p => LimC.moved hm p), q.2.2.2.2.1.moved hm hs (fun _ _ p => GloC.moved hm p), OwF.moved hm q.2.2.2.2.2⟩) (unhide I5) rfl (unhide K5) ?_
  intro a5_0 a5_1 a5_2 a5_3 a5_4 a5_5 a5_6 a5_7 a5_8 a5_9 a5_10 a5_11 a5_12 a5_13 a5_14 a5_15 a5_16 a5_17 W6 G6 oa5 oc5 hi hl hk
  have I6 : Hid (Inv w W6 g G6 #[.slice sa0 M.types.length sc0, .slice sa1 M.funcs.length sc1, .slice sa2 M.tables.length sc2, .slice sa3 M.mems.length sc3, .slice sa4 M.globs.length sc4, .slice sa5 M.exps.length sc5, .slice sa6 M.elems.length sc6, .slice sa7 M.datas.length sc7] #[.slice oa0 M.types.length oc0, .slice oa1 M.funcs.length oc1, .slice oa2 M.tables.length oc2, .slice oa3 M.mems.length oc3, .slice oa4 M.globs.length oc4, .slice oa5 M.exps.length oc5, .slice none 0 0, .slice none 0 0] (.slice none 0 0)) := hide hi
  have K6 : Hid ((fun wr G => LL TypC 2 wr G M.types (.slice oa0 M.types.length oc0) ∧ LL FncC 3 wr G M.funcs (.slice oa1 M.funcs.length oc1) ∧ LL LimC 3 wr G M.tables (.slice oa2 M.tables.length oc2) ∧ LL LimC 3 wr G M.mems (.slice oa3 M.mems.length oc3) ∧ LL GloC 10 wr G M.globs (.slice oa4 M.globs.length oc4) ∧ LL ExoC 3 wr G M.exps (.slice oa5 M.exps.length oc5) ∧ OwF (w.heap.size + 3) M.funcs.length (.slice oa1 M.funcs.length oc1) wr G) W6 G6) := hide ⟨hk.1, hk.2.1, hk.2.2.1, hk.2.2.2.1, hk.2.2.2.2.1, hl, hk.2.2.2.2.2⟩
  clear hi hl hk I5 K5
  go_wp2_with fail
  refine lp_6 (w := w) (g := g) (G0 := G6) (ms := #[.slice sa0 M.types.length sc0, .slice sa1 M.funcs.length sc1, .slice sa2 M.tables.length sc2, .slice sa3 M.mems.length sc3, .slice sa4 M.globs.length sc4, .slice sa5 M.exps.length sc5, .slice sa6 M.elems.length sc6, .slice sa7 M.datas.length sc7]) (us := #[.slice oa0 M.types.length oc0, .slice oa1 M.funcs.length oc1, .slice oa2 M.tables.length oc2, .slice oa3 M.mems.length oc3, .slice oa4 M.globs.length oc4, .slice oa5 M.exps.length oc5, .slice none 0 0, .slice none 0 0]) (l := M.elems) (sa := sa6) (cp := sc6) (Keep := fun wr G => LL TypC 2 wr G M.types (.slice oa0 M.types.length oc0) ∧ LL FncC 3 wr G M.funcs (.slice oa1 M.funcs.length oc1) ∧ LL LimC 3 wr G M.tables (.slice oa2 M.tables.length oc2) ∧ LL LimC 3 wr G M.mems (.slice oa3 M.mems.length oc3) ∧ LL GloC 10 wr G M.globs (.slice oa4 M.globs.length oc4) ∧ LL ExoC 3 wr G M.exps (.slice oa5 M.exps.length oc5) ∧ OwF (w.heap.size + 3) M.funcs.length (.slice oa1 M.funcs.length oc1) wr G) hg rfl rfl (unhide HM).l6 (unhide HS).n6 (unhide HS).s6 (fun wr wr' G G' hm hs q => ⟨q.1.moved hm hs (fun _ _ p => TypC.moved hm p), q.2.1.moved hm hs (fun _ _ p => FncC.moved hm p), q.2.2.1.moved hm hs (fun _ _ p => LimC.moved hm p), q.2.2.2.1.moved hm hs (fun _ _ p => LimC.moved hm p), q.2.2.2.2.1.moved hm hs (fun _ _ p => GloC.moved hm p), q.2.2.2.2.2.1.moved hm hs (fun _ _ p => ExoC.moved hm p), OwF.moved hm q.2.2.2.2.2.2⟩) (unhide I6) rfl (unhide K6) ?_
  intro a6_0 a6_1 a6_2 a6_3 a6_4 a6_5 a6_6 a6_7 a6_8 a6_9 a6_10 a6_11 a6_12 a6_13 a6_14 a6_15 a6_16 a6_17 a6_18 a6_19 a6_20 a6_21 a6_22 a6_23 a6_24 a6_25 a6_26 a6_27 a6_28 a6_29 a6_30 a6_31 a6_32 W7 G7 oa6 oc6 hi hl hk
  have I7 : Hid (Inv w W7 g G7 #[.slice sa0 M.types.length sc0, .slice sa1 M.funcs.length sc1, .slice sa2 M.tables.length sc2, .slice sa3 M.mems.length sc3, .slice sa4 M.globs.length sc4, .slice sa5 M.exps.length sc5, .slice sa6 M.elems.length sc6, .slice sa7 M.datas.length sc7] #[.slice oa0 M.types.length oc0, .slice oa1 M.funcs.length oc1, .slice oa2 M.tables.length oc2, .slice oa3 M.mems.length oc3, .slice oa4 M.globs.length oc4, .slice oa5 M.exps.length oc5, .slice oa6 M.elems.length oc6, .slice none 0 0] (.slice none 0 0)) := hide hi
  have K7 : Hid ((fun wr G => LL TypC 2 wr G M.types (.slice oa0 M.types.length oc0) ∧ LL FncC 3 wr G M.funcs (.slice oa1 M.funcs.length oc1) ∧ LL LimC 3 wr G M.tables (.slice oa2 M.tables.length oc2) ∧ LL LimC 3 wr G M.mems (.slice oa3 M.mems.length oc3) ∧ LL GloC 10 wr G M.globs (.slice oa4 M.globs.length oc4) ∧ LL ExoC 3 wr G M.exps (.slice oa5 M.exps.length oc5) ∧ LL ElmC 10 wr G M.elems (.slice oa6 M.elems.length oc6) ∧ OwF (w.heap.size + 3) M.funcs.length (.slice oa1 M.funcs.length oc1) wr G) W7 G7) := hide ⟨hk.1, hk.2.1, hk.2.2.1, hk.2.2.2.1, hk.2.2.2.2.1, hk.2.2.2.2.2.1, hl, hk.2.2.2.2.2.2⟩
  clear hi hl hk I6 K6
  go_wp2_with fail
  refine lp_7 (w := w) (g := g) (G0 := G7) (ms := #[.slice sa0 M.types.length sc0, .slice sa1 M.funcs.length sc1, .slice sa2 M.tables.length sc2, .slice sa3 M.mems.length sc3, .slice sa4 M.globs.length sc4, .slice sa5 M.exps.length sc5, .slice sa6 M.elems.length sc6, .slice sa7 M.datas.length sc7]) (us := #[.slice oa0 M.types.length oc0, .slice oa1 M.funcs.length oc1, .slice oa2 M.tables.length oc2, .slice oa3 M.mems.length oc3, .slice oa4 M.globs.length oc4, .slice oa5 M.exps.length oc5, .slice oa6 M.elems.length oc6, .slice none 0 0]) (l := M.datas) (sa := sa7) (cp := sc7) (Keep := fun wr G => LL TypC 2 wr G M.types (.slice oa0 M.types.length oc0) ∧ LL FncC 3 wr G M.funcs (.slice oa1 M.funcs.length oc1) ∧ LL LimC 3 wr G M.tables (.slice oa2 M.tables.length oc2) ∧ LL LimC 3 wr G M.mems (.slice oa3 M.mems.length oc3) ∧ LL GloC 10 wr G M.globs (.slice oa4 M.globs.length oc4) ∧ LL ExoC 3 wr G M.exps (.slice oa5 M.exps.length oc5) ∧ LL ElmC 10 wr G M.elems (.slice oa6 M.elems.length oc6) ∧ OwF (w.heap.size + 3) M.funcs.length (.slice oa1 M.funcs.length oc1) wr G) hg rfl rfl (unhide HM).l7 (unhide HS).n7 (unhide HS).s7 (fun wr wr' G G' hm hs q => ⟨q.1.moved hm hs (fun _ _ p => TypC.moved hm p), q.2.1.moved hm hs (fun _ _ p => FncC.moved hm p), q.2.2.1.moved hm hs (fun _ _ p => LimC.moved hm p), q.2.2.2.1.moved hm hs (fun _ _ p => LimC.moved hm p), q.2.2.2.2.1.moved hm hs (fun _ _ p => GloC.moved hm p), q.2.2.2.2.2.1.moved hm hs (fun _ _ p => ExoC.moved hm p), q.2.2.2.2.2.2.1.moved hm hs (fun _ _ p => ElmC.moved hm p), OwF.moved hm q.2.2.2.2.2.2.2⟩) (unhide I7) rfl (unhide K7) ?_
  intro a7_0 a7_1 a7_2 a7_3 a7_4 a7_5 a7_6 a7_7 a7_8 a7_9 a7_10 a7_11 a7_12 a7_13 a7_14 a7_15 a7_16 a7_17 a7_18 a7_19 a7_20 a7_21 a7_22 a7_23 a7_24 a7_25 a7_26 a7_27 a7_28 a7_29 a7_30 a7_31 a7_32 W8 G8 oa7 oc7 hi hl hk
  have I8 : Hid (Inv w W8 g G8 #[.slice sa0 M.types.length sc0, .slice sa1 M.funcs.length sc1, .slice sa2 M.tables.length sc2, .slice sa3 M.mems.length sc3, .slice sa4 M.globs.length sc4, .slice sa5 M.exps.length sc5, .slice sa6 M.elems.length sc6, .slice sa7 M.datas.length sc7] #[.slice oa0 M.types.length oc0, .slice oa1 M.funcs.length oc1, .slice oa2 M.tables.length oc2, .slice oa3 M.mems.length oc3, .slice oa4 M.globs.length oc4, .slice oa5 M.exps.length oc5, .slice oa6 M.elems.length oc6, .slice oa7 M.datas.length oc7] (.slice none 0 0)) := hide hi
  have K8 : Hid ((fun wr G => LL TypC 2 wr G M.types (.slice oa0 M.types.length oc0) ∧ LL FncC 3 wr G M.funcs (.slice oa1 M.funcs.length oc1) ∧ LL LimC 3 wr G M.tables (.slice oa2 M.tables.length oc2) ∧ LL LimC 3 wr G M.mems (.slice oa3 M.mems.length oc3) ∧ LL GloC 10 wr G M.globs (.slice oa4 M.globs.length oc4) ∧ LL ExoC 3 wr G M.exps (.slice oa5 M.exps.length oc5) ∧ LL ElmC 10 wr G M.elems (.slice oa6 M.elems.length oc6) ∧ LL DatC 10 wr G M.datas (.slice oa7 M.datas.length oc7) ∧ OwF (w.heap.size + 3) M.funcs.length (.slice oa1 M.funcs.length oc1) wr G) W8 G8) := hide ⟨hk.1, hk.2.1, hk.2.2.1, hk.2.2.2.1, hk.2.2.2.2.1, hk.2.2.2.2.2.1, hk.2.2.2.2.2.2.1, hl, hk.2.2.2.2.2.2.2⟩
  clear hi hl hk I7 K7
  obtain ⟨q0, q1, q2, q3, q4, q5, q6, q7⟩ := Ex.cel8 (unhide I8).bo
  obtain ⟨z0, z1, z2, z3, z4, z5, z6, z7⟩ := Ex.cel8 (unhide I8).br
  have fz : ∀ j, W8.frozen? ⟨w.heap.size + 1, j, none⟩ = false := fun j => frozen_of_row W8 _ j _ _ (unhide I8).br
  have hl3 := (unhide I8).lt
  go_wp2
  obtain ⟨s1, s2⟩ := Ex.set8 (unhide I8).br (.slice oa0 M.types.length oc0) (.slice oa1 M.funcs.length oc1) (.slice oa2 M.tables.length oc2) (.slice oa3 M.mems.length oc3) (.slice oa4 M.globs.length oc4) (.slice oa5 M.exps.length oc5) (.slice oa6 M.elems.length oc6) (.slice oa7 M.datas.length oc7)
  have hB2 := Ex.bel8 (B := w.heap.size + 1) (unhide I8).b (by omega) (.slice oa0 M.types.length oc0) (.slice oa1 M.funcs.length oc1) (.slice oa2 M.tables.length oc2) (.slice oa3 M.mems.length oc3) (.slice oa4 M.globs.length oc4) (.slice oa5 M.exps.length oc5) (.slice oa6 M.elems.length oc6) (.slice oa7 M.datas.length oc7)
  have hsz : ((((((((W8.setCell ⟨w.heap.size + 1, 0, none⟩ (.slice oa0 M.types.length oc0)).setCell ⟨w.heap.size + 1, 1, none⟩ (.slice oa1 M.funcs.length oc1)).setCell ⟨w.heap.size + 1, 2, none⟩ (.slice oa2 M.tables.length oc2)).setCell ⟨w.heap.size + 1, 3, none⟩ (.slice oa3 M.mems.length oc3)).setCell ⟨w.heap.size + 1, 4, none⟩ (.slice oa4 M.globs.length oc4)).setCell ⟨w.heap.size + 1, 5, none⟩ (.slice oa5 M.exps.length oc5)).setCell ⟨w.heap.size + 1, 6, none⟩ (.slice oa6 M.elems.length oc6)).setCell ⟨w.heap.size + 1, 7, none⟩ (.slice oa7 M.datas.length oc7)).heap.size = W8.heap.size := by simp
  have hmv : Mv W8 ((((((((W8.setCell ⟨w.heap.size + 1, 0, none⟩ (.slice oa0 M.types.length oc0)).setCell ⟨w.heap.size + 1, 1, none⟩ (.slice oa1 M.funcs.length oc1)).setCell ⟨w.heap.size + 1, 2, none⟩ (.slice oa2 M.tables.length oc2)).setCell ⟨w.heap.size + 1, 3, none⟩ (.slice oa3 M.mems.length oc3)).setCell ⟨w.heap.size + 1, 4, none⟩ (.slice oa4 M.globs.length oc4)).setCell ⟨w.heap.size + 1, 5, none⟩ (.slice oa5 M.exps.length oc5)).setCell ⟨w.heap.size + 1, 6, none⟩ (.slice oa6 M.elems.length oc6)).setCell ⟨w.heap.size + 1, 7, none⟩ (.slice oa7 M.datas.length oc7)) G8 (Ex.gor g w.heap.size) := fun i hi hgi => by
    have h := (unhide I8).G1 i hgi
    refine ⟨?_, s2 i (by omega)⟩
    rcases h.2.1 with h1 | h1
    · exact .inl ((unhide I8).G2 i hgi h1)
    · exact .inr (by omega)
  generalize ((((((((W8.setCell ⟨w.heap.size + 1, 0, none⟩ (.slice oa0 M.types.length oc0)).setCell ⟨w.heap.size + 1, 1, none⟩ (.slice oa1 M.funcs.length oc1)).setCell ⟨w.heap.size + 1, 2, none⟩ (.slice oa2 M.tables.length oc2)).setCell ⟨w.heap.size + 1, 3, none⟩ (.slice oa3 M.mems.length oc3)).setCell ⟨w.heap.size + 1, 4, none⟩ (.slice oa4 M.globs.length oc4)).setCell ⟨w.heap.size + 1, 5, none⟩ (.slice oa5 M.exps.length oc5)).setCell ⟨w.heap.size + 1, 6, none⟩ (.slice oa6 M.elems.length oc6)).setCell ⟨w.heap.size + 1, 7, none⟩ (.slice oa7 M.datas.length oc7)) = WX at *
  obtain ⟨r0, r1, r2, r3, r4, r5, r6, r7⟩ := Ex.cel8 s1
  have q := unhide K8
  refine bodyPost_ret (v := .agg #[.slice oa0 M.types.length oc0, .slice oa1 M.funcs.length oc1, .slice oa2 M.tables.length oc2, .slice oa3 M.mems.length oc3, .slice oa4 M.globs.length oc4, .slice oa5 M.exps.length oc5, .slice oa6 M.elems.length oc6, .slice oa7 M.datas.length oc7]) (by simp [results, Tryz.results9, go_sem, r0, r1, r2, r3, r4, r5, r6, r7]) rfl ⟨_, _, _, _, _, _, _, _, rfl, ?_, OwF.moved hmv q.2.2.2.2.2.2.2.2, hB2⟩
  exact ModL.moved hmv (by omega) ⟨q.1, q.2.1, q.2.2.1, q.2.2.2.1, q.2.2.2.2.1, q.2.2.2.2.2.1, q.2.2.2.2.2.2.1, q.2.2.2.2.2.2.2.1⟩
theorem giveModule_any (M : Mod) (g : Nat → Prop) (v0 v1 v2 v3 v4 v5 v6 v7 : Value) (w : World) (hg : ∀ k, g k → k < w.heap.size) (hM : ModL w g M v0 v1 v2 v3 v4 v5 v6 v7) (hs : SzM M) :
    Calls Tryz.prog 9 #[.agg #[v0, v1, v2, v3, v4, v5, v6, v7]] w fun e w' => ∃ v0' v1' v2' v3' v4' v5' v6' v7', e = .returned (.agg #[v0', v1', v2', v3', v4', v5', v6', v7']) ∧ ModL w' (Ex.gor g w.heap.size) M v0' v1' v2' v3' v4' v5' v6' v7' ∧ Below w.heap.size w w' :=
  (giveModule_own M g v0 v1 v2 v3 v4 v5 v6 v7 w hg hM hs).mono fun e w' ⟨a0, a1, a2, a3, a4, a5, a6, a7, h1, h2, _, h4⟩ => ⟨a0, a1, a2, a3, a4, a5, a6, a7, h1, h2, h4⟩
end Gm
end Go.Proofs.YtheopjcmhclgdaaGreatDoor
