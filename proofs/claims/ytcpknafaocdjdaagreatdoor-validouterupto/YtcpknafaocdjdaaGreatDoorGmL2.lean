/- giveModule's loop 2. -/
import Derived.Test.YtcpknafaocdjdaaGreatDoorGmJ
import Derived.Test.YtcpknafaocdjdaaGreatDoorGmR2
import Derived.Test.YtcpknafaocdjdaaGreatDoorOpG
import Derived.Deep.LoopGhost
namespace Go.Proofs.YtcpknafaocdjdaaGreatDoor
open Go.RowKit
namespace Gm
set_option linter.unusedVariables false
set_option linter.unusedSimpArgs false
set_option maxRecDepth 1000000 in
set_option maxHeartbeats 6400000 in
theorem lp_2 {u0 u4 u5 u7 u8 u9 u10 u11 u12 u13 u14 u15 u16 u17 u18 u19 u20 u21 u22 u23 u24 u25 u26 u27 u28 u29 u30 u31 u32 u33 u34 u35 u36 u37 u38 u39 u40 u41 u42 u43 u44 u45 u46 u47 u48 u49 u50 u51 u52 u53 u54 u55 u56 u57 u58 u59 u60 u61 u62 u63 u64 u65 u66 u67 u68 u69 u70 u71 u72 u73 u74 u75 u76 u77 u78 u79 u80 u81 u82 u83 u84 u85 u86 u87 u88 u89 u90 u91 u92 u93 u94 u95 u96 u97 u98 u99 u100 u101 u102 u103 u104 u105 u106 u107 u108 u109 u110 u111 u112 u113 u114 u115 u116 u117 u118 u119 u120 u121 u122 u123 u124 u125 u126 u127 u128 u129 u130 u131 u132 u133 u134 u135 u136 u137 u138 u139 u140 u141 u142 u143 u144 u145 u146 u147 u148 u149 u150 u151 u152 u153 u154 u155 u156 u157 u158 u159 u160 u161 u162 u163 u164 u165 u166 u167 u168 u169 u170 u171 u172 u173 u174 u175 u176 u177 u178 u179 u180 u181 u182 u183 u184 u185 u186 u187 u188 u189 u190 u191 u192 u193 u194 u195 u196 u197 u198 u199 u200 u201 u202 u203 u204 u205 u206 u207 u208 u209 u210 u211 u212 u213 u214 u215 u216 u217 u218 : Value} {w wr0 : World} {g G0 H : Nat → Prop} {ms us : Array Value} {l : List Lim} {sa : Option Addr} {cp : Nat} {Keep : World → (Nat → Prop) → (Nat → Prop) → Prop} {Q0 : Exit → Act → World → Prop}
    (hgs : ∀ i, g i → i < w.heap.size) (hms : ms[2]? = some (.slice sa l.length cp)) (hus : us.size = 8) (hsrc : LL LimC 3 w g l (.slice sa l.length cp)) (hn : l.length ≤ 1048576) (hok : ∀ x ∈ l, True)
    (hKm : ∀ wr wr' G G' H H', Mv wr wr' G G' → Mv wr wr' H H' → wr.heap.size ≤ wr'.heap.size → Keep wr G H → Keep wr' G' H')
    (hI0 : Inv w wr0 g G0 H ms us (.slice none 0 0)) (hu : us[2]? = some (.slice none 0 0)) (hK0 : Keep wr0 G0 H)
    (hexit : ∀ (v71 v72 v73 v74 v75 v76 v77 v78 v79 v80 v81 v82 v83 v84 v85 v86 v87 s : Value) (wr' : World) (G' : Nat → Prop) (va : Option Addr) (vc : Nat), Inv w wr' g G' (Hx H (.slice va l.length vc)) ms (us.setIfInBounds 2 (.slice va l.length vc)) (.slice none 0 0) → OwL 75 LimC 3 (w.heap.size + 3) wr' G' (Hx H (.slice va l.length vc)) l (.slice va l.length vc) → Keep wr' G' (Hx H (.slice va l.length vc)) → (∀ k, H k → (Value.slice va l.length vc).ownBlock ≠ some k) → Q0 (.exit 4) ⟨#[u0, .pointer (some ⟨w.heap.size, 0, none⟩), .pointer (some ⟨w.heap.size + 1, 0, none⟩), .pointer (some ⟨w.heap.size + 2, 0, none⟩), u4, u5, s, u7, u8, u9, u10, u11, u12, u13, u14, u15, u16, u17, u18, u19, u20, u21, u22, u23, u24, u25, u26, u27, u28, u29, u30, u31, u32, u33, u34, u35, u36, u37, u38, u39, u40, u41, u42, u43, u44, u45, u46, u47, u48, u49, u50, u51, u52, u53, u54, u55, u56, u57, u58, u59, u60, u61, u62, u63, u64, u65, u66, u67, u68, u69, u70, v71, v72, v73, v74, v75, v76, v77, v78, v79, v80, v81, v82, v83, v84, v85, v86, v87, u88, u89, u90, u91, u92, u93, u94, u95, u96, u97, u98, u99, u100, u101, u102, u103, u104, u105, u106, u107, u108, u109, u110, u111, u112, u113, u114, u115, u116, u117, u118, u119, u120, u121, u122, u123, u124, u125, u126, u127, u128, u129, u130, u131, u132, u133, u134, u135, u136, u137, u138, u139, u140, u141, u142, u143, u144, u145, u146, u147, u148, u149, u150, u151, u152, u153, u154, u155, u156, u157, u158, u159, u160, u161, u162, u163, u164, u165, u166, u167, u168, u169, u170, u171, u172, u173, u174, u175, u176, u177, u178, u179, u180, u181, u182, u183, u184, u185, u186, u187, u188, u189, u190, u191, u192, u193, u194, u195, u196, u197, u198, u199, u200, u201, u202, u203, u204, u205, u206, u207, u208, u209, u210, u211, u212, u213, u214, u215, u216, u217, u218], []⟩ wr') :
    Code.wp Tryz.prog (Code.loop gbody2) Q0 ⟨#[u0, .pointer (some ⟨w.heap.size, 0, none⟩), .pointer (some ⟨w.heap.size + 1, 0, none⟩), .pointer (some ⟨w.heap.size + 2, 0, none⟩), u4, u5, .int .i64 0, u7, u8, u9, u10, u11, u12, u13, u14, u15, u16, u17, u18, u19, u20, u21, u22, u23, u24, u25, u26, u27, u28, u29, u30, u31, u32, u33, u34, u35, u36, u37, u38, u39, u40, u41, u42, u43, u44, u45, u46, u47, u48, u49, u50, u51, u52, u53, u54, u55, u56, u57, u58, u59, u60, u61, u62, u63, u64, u65, u66, u67, u68, u69, u70, u71, u72, u73, u74, u75, u76, u77, u78, u79, u80, u81, u82, u83, u84, u85, u86, u87, u88, u89, u90, u91, u92, u93, u94, u95, u96, u97, u98, u99, u100, u101, u102, u103, u104, u105, u106, u107, u108, u109, u110, u111, u112, u113, u114, u115, u116, u117, u118, u119, u120, u121, u122, u123, u124, u125, u126, u127, u128, u129, u130, u131, u132, u133, u134, u135, u136, u137, u138, u139, u140, u141, u142, u143, u144, u145, u146, u147, u148, u149, u150, u151, u152, u153, u154, u155, u156, u157, u158, u159, u160, u161, u162, u163, u164, u165, u166, u167, u168, u169, u170, u171, u172, u173, u174, u175, u176, u177, u178, u179, u180, u181, u182, u183, u184, u185, u186, u187, u188, u189, u190, u191, u192, u193, u194, u195, u196, u197, u198, u199, u200, u201, u202, u203, u204, u205, u206, u207, u208, u209, u210, u211, u212, u213, u214, u215, u216, u217, u218], []⟩ wr0 := by
  have HE := hide hexit; have HSrc := hide hsrc
  have hI1 : Inv w wr0 g G0 H ms (us.setIfInBounds 2 (.slice none 0 0)) (.slice none 0 0) := by rw [set_same hu]; exact hI0
  have HI1 := hide hI1; have HK1 := hide hK0
  clear hexit hsrc hI0 hI1 hK0
  dsimp only
  conv => arg 2; arg 1; whnf
  go_loopg [6] (l.length + 1) (fun gk s wr => ∃ (j : Nat) (G : Nat → Prop) (ua : Option Addr) (uc : Nat) (xs : List Value), s = .int .i64 j ∧ j ≤ l.length ∧ l.length - j < gk ∧ Hid (Inv w wr g G H ms (us.setIfInBounds 2 (.slice ua j uc)) (.slice ua j uc)) ∧ Hid (wr.ownsRow (w.heap.size + 3) 75 3 (.slice ua j uc) j xs) ∧ Hid (Its (LimC wr G) 3 (l.take j) xs) ∧ Hid (Keep wr G H))
  case atStart => exact ⟨0, G0, none, 0, [], rfl, Nat.zero_le _, by omega, HI1, hide (World.ownsRow_nil _ _ _ _), hide (by simpa using Its.nil _ _), HK1⟩
  case round =>
    obtain ⟨j, G, ua, uc, xs, rfl, hj, hgk, HI, HO, HT, HK⟩ := hrel
    clear HI1 HK1
    by_cases hlt : j < l.length
    · change Code.wp Tryz.prog gbody2 _ _ _
      obtain ⟨x, hx⟩ : ∃ x, l[j] = x := ⟨_, rfl⟩
      have hokx := hok x (by rw [← hx]; exact List.getElem_mem hlt)
      have hsw := (unhide HSrc).moved (Mv.below (g' := g) (unhide HI).b (fun _ _ h => h)) (unhide HI).b.size (fun _ _ q => LimC.moved (Mv.below (g' := g) (unhide HI).b (fun _ _ h => h)) q)
      obtain ⟨sa', cp', es, hcpl, _, hsr⟩ := hsw
      simp only [Value.slice.injEq] at es
      obtain ⟨rfl, _, rfl⟩ := es
      obtain ⟨ba, oa, rfl, hgb, hbl, hits⟩ := hsr (by omega)
      obtain ⟨cs, hcl, hit, hcs⟩ := hits j hlt
      rw [hx] at hit
      obtain rfl : cs = [.int .u32 x.mn, .bool x.has, .int .u32 x.mx] := hit
      have d0 := hcs 0 _ rfl
      have d1 := hcs 1 _ rfl
      have d2 := hcs 2 _ rfl
      have hI := unhide HI
      have hl3 := hI.lt
      have hbs := hgs ba hgb
      have hos := (unhide HO).lt
      have hmc : wr.cell? ⟨w.heap.size, 2, none⟩ = some (.slice (some ⟨ba, oa, none⟩) l.length cp) := by rw [cell_of_row wr _ 2 _ _ _ hI.bm]; exact hms
      have oc : wr.cell? ⟨w.heap.size + 2, 2, none⟩ = some (.slice ua j uc) := by rw [cell_of_row wr _ 2 _ _ _ hI.bo]; exact set_get (by omega)
      refine gm_2 (base := w.heap.size + 3) (ua := ua) (uc := uc) (xs := xs) (by omega) (by omega) hmc d0 d1 d2 oc (fun i => frozen_of_row wr _ i _ _ hI.bo) (unhide HO) (by omega) (by omega) (by omega) hbl (by omega) (by omega) (fun e => by have := (hos _ e).1; omega) (fun e => by have := (hos _ e).1; omega) (fun e => by have := (hos _ e).1; omega)  (fun v71 v72 v73 v74 v75 v76 v77 v78 v79 v80 v81 v82 v83 v84 v85 v86 v87   wx gg cap  h5 hgr hat hl5 => ?_)
      obtain ⟨wf, hwf⟩ : ∃ wf, wx.setCell ⟨w.heap.size + 2, 2, none⟩ (.slice (some ⟨gg, 0, none⟩) (j + 1) cap) = wf := ⟨_, rfl⟩
      have hst := Inv.step (k := 2) (cap := cap) _ hI (unhide HO) (drew_below9 wr) hgr hat hl5 (by simp; omega)
      rw [hwf] at hst ⊢
      obtain ⟨hI2, keep, hmvx⟩ := hst
      rw [Array.setIfInBounds_setIfInBounds] at hI2
      obtain ⟨G', hG'⟩ : ∃ G', (fun i => G i ∨ (wr.heap.size ≤ i ∧ i < wr.drew.heap.size)) = G' := ⟨_, rfl⟩
      have hown2 : wf.ownsRow (w.heap.size + 3) 75 3 (.slice (some ⟨gg, 0, none⟩) (j + 1) cap) (j + 1) (xs ++ [.int .u32 x.mn, .bool x.has, .int .u32 x.mx]) := by
        rw [← hwf]
        exact owns_set h5 (fun e => by have e1 : gg = w.heap.size + 2 := by simpa [Value.ownBlock] using e
                                       rcases hat with h | h
                                       · have := (hos _ h).1; omega
                                       · have := (drew_below9 wr).size; omega)
      have htk : l.take (j + 1) = l.take j ++ [x] := by rw [List.take_succ_eq_append_getElem hlt, hx]
      have hits2 : Its (LimC wf G') 3 (l.take (j + 1)) (xs ++ [.int .u32 x.mn, .bool x.has, .int .u32 x.mx]) := by
        rw [htk]
        subst hG'
        refine Its.snoc ((unhide HT).mono fun y cs q => LimC.moved hmvx.1 q) ?_ rfl
        exact rfl
      have hKp := hKm _ _ _ _ _ _ hmvx.1 hmvx.2.2 hmvx.2.1 (unhide HK)
      rw [hG'] at hI2 hKp
      dsimp only
      go_wp2
      go_roundg (l.length - j)
      case measure => omega
      case rel => exact ⟨j + 1, G', _, _, _, by go_num, hlt, Nat.sub_lt_sub_left hlt (Nat.lt_succ_self j), hide hI2, hide hown2, hide hits2, hide hKp⟩
    · obtain rfl : j = l.length := by omega
      have htk : l.take l.length = l := List.take_length
      have hT := unhide HT
      rw [htk] at hT
      obtain ⟨q1, q2, q3, q4⟩ := Inv.next (unhide HI) (unhide HO) hT
      have hKn := hKm _ _ _ _ _ _ (fun i _ hi => ⟨hi, rfl⟩) q3 (Nat.le_refl _) (unhide HK)
      have hmc : wr.cell? ⟨w.heap.size, 2, none⟩ = some (.slice sa l.length cp) := by rw [cell_of_row wr _ 2 _ _ _ (unhide HI).bm]; exact hms
      have hll : w.heap.size < wr.heap.size := by have := (unhide HI).lt; omega
      have Q1 := hide q1; have Q2 := hide q2; have QK := hide hKn; have Q4 := hide q4
      clear q1 q2 q3 q4 hKn hT htk HI HO HT HK hj
      go_wp2
      exact (unhide HE) _ _ _ _ _ _ _ _ _ _ _ _ _ _ _ _ _ _ wr _ ua uc (unhide Q1) (unhide Q2) (unhide QK) (unhide Q4)
end Gm
end Go.Proofs.YtcpknafaocdjdaaGreatDoor
