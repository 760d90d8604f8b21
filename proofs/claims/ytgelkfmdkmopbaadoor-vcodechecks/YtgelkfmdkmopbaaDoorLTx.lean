/- LTx: what follows, part by part: each part tells what it holds. -/
import Derived.Test.YtgelkfmdkmopbaaDoorVcDg
import Derived.Test.YtgelkfmdkmopbaaDoorVcZd
import Derived.Deep.DeepCutAuto

/- The document's Text: its codes, and what a name says. By mkrtx2.py. -/
namespace Go.Proofs.YtgelkfmdkmopbaaDoor
open Go.RowKit
namespace Vc
set_option linter.unusedVariables false
set_option linter.unusedSimpArgs false
set_option maxRecDepth 100000 in
theorem rn_ok : ((List.range 256).all fun n => (rnm n == [] || rnm n == nam n) && ((rnm n == [99, 111, 110, 115, 116]) == decide (n = 66)) && ((rnm n == [103, 108, 111, 98, 97, 108, 46, 103, 101, 116]) == decide (n = 35)) && ((rnm n == [103, 108, 111, 98, 97, 108, 46, 115, 101, 116]) == decide (n = 36)) && ((rnm n == [99, 97, 108, 108]) == decide (n = 16)) && ((rnm n == [99, 97, 108, 108, 95, 105, 110, 100, 105, 114, 101, 99, 116]) == decide (n = 17)) && decide ((nam n).length ≤ 100)) = true := by kernel_rfl
/-- what chk says of an instruction -/
theorem chk_ins {c : Co} (hc : WfC c) (h : chk c = true) : ∀ b ∈ c.bl, ∀ y ∈ b.ins, -1 ≤ y.dst ∧ rnm y.op = nam y.op := by
  intro b hb y hy
  have hwy := (hc.bl b hb).ins y hy
  unfold chk at h
  simp only [Bool.and_eq_true] at h
  have h1 := List.all_eq_true.1 h.2 b hb
  rw [blk_def] at h1
  simp only [Bool.and_eq_true] at h1
  obtain ⟨k, hk, rfl⟩ := List.getElem_of_mem hy
  have h2 := h1.2.1
  unfold insAll at h2
  have h3 := List.all_eq_true.1 h2 k (List.mem_range.2 hk)
  unfold okAt at h3
  rw [List.getElem?_eq_getElem hk] at h3
  simp only [Bool.and_eq_true] at h3
  have h4 := h3.2
  rw [← insR_eq c.re c.rs _ hwy.op] at h4
  have h5 : ¬ rnm b.ins[k].op = [] := fun e => by unfold insR at h4; rw [if_pos e] at h4; cases h4
  have h6 := h3.2
  unfold insM at h6
  simp only [Bool.and_eq_true, decide_eq_true_eq] at h6
  refine ⟨h6.1.1, ?_⟩
  have h7 := List.all_eq_true.1 rn_ok _ (List.mem_range.2 hwy.op)
  simp only [Bool.and_eq_true, Bool.or_eq_true, beq_iff_eq] at h7
  exact h7.1.1.1.1.1.1.resolve_left h5
theorem dec_len2 (n : Int) (h : i64 n) : (dec n).length ≤ 21 := dec_len n h
theorem line_eq (x : In) (next : List Int) : line x next = [32] ++ (if x.dst != -1 then [32, 114] ++ dec x.dst ++ [32, 61] else []) ++ [32] ++ nam x.op ++ pSrc x.src ++ pNum x.op x.n ++ pOf x.op x.of ++ pNext x.op next ++ [10] := by
  unfold line pGiv
  split <;> simp

/-- the loops of a body, those within others left out -/
def loops : Code → List Code
  | .loop c => [c]
  | .seq a b => loops a ++ loops b
  | .block _ c => loops c
  | .scope c => loops c
  | .cond _ a b => loops a ++ loops b
  | _ => []
/-- an 'if' by its test's slot -/
def condAt (k : Nat) : Code → Option Code
  | .loop c => condAt k c
  | .seq a b => condAt k a <|> condAt k b
  | .block _ c => condAt k c
  | .scope c => condAt k c
  | .cond (.tmp j) a b => if j = k then some (.cond (.tmp j) a b) else condAt k a <|> condAt k b
  | _ => none
noncomputable def tbody : Code := (loops (((Tryd.f17.body.map loops).getD []).getD 0 .skip)).getD 0 .skip
noncomputable def ncode : Code := (condAt 127 tbody).getD .skip
end Vc
end Go.Proofs.YtgelkfmdkmopbaaDoor

/- The document's Text: what follows an end. By mkrtx2.py. -/
namespace Go.Proofs.YtgelkfmdkmopbaaDoor
open Go.RowKit
namespace Vc
set_option linter.unusedVariables false
set_option linter.unusedSimpArgs false

set_option maxRecDepth 1000000 in
set_option maxHeartbeats 6400000 in
theorem tx_next {z0 z1 z2 z4 z6 z7 z8 z9 z10 z11 z12 z13 z14 z15 z16 z17 z18 z19 z20 z21 z22 z23 z24 z25 z26 z27 z28 z29 z30 z31 z32 z33 z34 z35 z36 z37 z38 z39 z40 z41 z42 z43 z44 z45 z46 z47 z48 z49 z50 z51 z52 z53 z54 z55 z56 z57 z58 z59 z60 z61 z62 z63 z64 z65 z66 z67 z68 z69 z70 z71 z72 z73 z74 z75 z76 z77 z78 z79 z80 z81 z82 z83 z84 z85 z86 z87 z88 z89 z90 z91 z92 z93 z94 z95 z96 z97 z98 z99 z100 z101 z102 z103 z104 z105 z106 z107 z108 z109 z110 z111 z112 z113 z114 z115 z116 z117 z118 z119 z120 z121 z122 z123 z124 z125 z126 z128 z129 z130 z131 z132 z133 z134 z135 z136 z137 z138 z139 z140 z141 z142 z143 z144 z145 z146 z147 z148 : Value} {NB nl cn : Nat} {an : Option Addr} {b : Bool} {next : List Int} {E5 E6 : List UInt8} {w : World} {Q0 : Exit → Act → World → Prop}
    (y1 : w.cell? ⟨NB, 1, none⟩ = some (.slice an nl cn)) (yl : NB < w.heap.size) (Hnl : Hid (next.length = nl)) (HNN : Hid (0 < nl → ∃ bn on, an = some ⟨bn, on, none⟩ ∧ ∀ i, i < nl → w.cell? ⟨bn, on + i, none⟩ = some (.int .i64 (next.getD i 0)))) (HWn : Hid (∀ z ∈ next, i64 z)) (hE6 : E5 ++ (if b then [32, 45, 62] ++ pTo next else []) = E6) (hl6 : E6.length ≤ 68719476736) (hnlN : (nl : Int) ≤ 1099511627776)
    (hnorm : ∀ (v9 v128 v129 v130 v131 v132 v133 v134 v135 v136 v137 v138 v139 v140 v141 v142 v143 v144 v145 : Value), Q0 .normal ⟨#[z0, z1, z2, .string (str E6), z4, .pointer (some ⟨NB, 0, none⟩), z6, z7, z8, v9, z10, z11, z12, z13, z14, z15, z16, z17, z18, z19, z20, z21, z22, z23, z24, z25, z26, z27, z28, z29, z30, z31, z32, z33, z34, z35, z36, z37, z38, z39, z40, z41, z42, z43, z44, z45, z46, z47, z48, z49, z50, z51, z52, z53, z54, z55, z56, z57, z58, z59, z60, z61, z62, z63, z64, z65, z66, z67, z68, z69, z70, z71, z72, z73, z74, z75, z76, z77, z78, z79, z80, z81, z82, z83, z84, z85, z86, z87, z88, z89, z90, z91, z92, z93, z94, z95, z96, z97, z98, z99, z100, z101, z102, z103, z104, z105, z106, z107, z108, z109, z110, z111, z112, z113, z114, z115, z116, z117, z118, z119, z120, z121, z122, z123, z124, z125, z126, .bool b, v128, v129, v130, v131, v132, v133, v134, v135, v136, v137, v138, v139, v140, v141, v142, v143, v144, v145, z146, z147, z148], []⟩ w) :
    Code.wp Tryd.prog ncode Q0 ⟨#[z0, z1, z2, .string (str E5), z4, .pointer (some ⟨NB, 0, none⟩), z6, z7, z8, z9, z10, z11, z12, z13, z14, z15, z16, z17, z18, z19, z20, z21, z22, z23, z24, z25, z26, z27, z28, z29, z30, z31, z32, z33, z34, z35, z36, z37, z38, z39, z40, z41, z42, z43, z44, z45, z46, z47, z48, z49, z50, z51, z52, z53, z54, z55, z56, z57, z58, z59, z60, z61, z62, z63, z64, z65, z66, z67, z68, z69, z70, z71, z72, z73, z74, z75, z76, z77, z78, z79, z80, z81, z82, z83, z84, z85, z86, z87, z88, z89, z90, z91, z92, z93, z94, z95, z96, z97, z98, z99, z100, z101, z102, z103, z104, z105, z106, z107, z108, z109, z110, z111, z112, z113, z114, z115, z116, z117, z118, z119, z120, z121, z122, z123, z124, z125, z126, .bool b, z128, z129, z130, z131, z132, z133, z134, z135, z136, z137, z138, z139, z140, z141, z142, z143, z144, z145, z146, z147, z148], []⟩ w := by
  have HN := hide hnorm
  clear hnorm
  cases b with
  | false =>
    obtain rfl : E5 = E6 := by simpa using hE6
    clear hE6 HNN HWn Hnl y1
    conv => arg 2; whnf
    go_wp2
    exact (unhide HN) _ _ _ _ _ _ _ _ _ _ _ _ _ _ _ _ _ _ _
  | true =>
    simp only [if_true] at hE6
    have hl5 : E5.length ≤ 68719476736 := by rw [← hE6] at hl6; simp at hl6; omega
    obtain ⟨G7, hG7⟩ : ∃ A, E5 ++ [32, 45, 62] = A := ⟨_, rfl⟩
    have lG7 : G7.length = E5.length + 3 := by rw [← hG7]; simp
    have q1 := fun W => cat (A := str E5) (B := ⟨#[32, 45, 62]⟩) (C := str G7) rfl rfl (by rw [hG7]) (by simp; omega) W
    have hG8 : G7 ++ pTo next = E6 := by rw [← hE6, ← hG7]; simp
    have HG8 := hide hG8
    have HBG := hide (show G7.length + (pTo next).length ≤ 68719476736 by rw [← hG8, List.length_append] at hl6; exact hl6)
    have hnt := fun i z h => fm_take (fun r => [32] ++ dec r) next i z h
    have hnl2 := fun i => fm_le (fun r => [32] ++ dec r) next i
    have HNt := hide hnt; have HNl2 := hide hnl2
    clear hG7 hG8 hE6 hl6 hl5 lG7 hnt hnl2
    conv => arg 2; whnf
    go_wp2_with fail
    go_loopw [3, 9] (fun s c wq => ∃ (i : Nat) (L : List UInt8), s = .string (str L) ∧ c = .int .i64 i ∧ (i : Int) ≤ nl ∧ L = G7 ++ pTo (next.take i) ∧ wq = w) (fun _ c _ => nl - (intOf c).toNat)
    case atStart => exact ⟨0, G7, rfl, rfl, by omega, by simp [pTo], rfl⟩
    case round =>
      obtain ⟨i, L, rfl, rfl, hi, hL, rfl⟩ := hrel
      have HL := hide hL
      clear hL
      by_cases hilt : (i : Int) < nl
      · obtain ⟨z, hz⟩ : ∃ z, next[i]? = some z := ⟨_, List.getElem?_eq_getElem (by have := unhide Hnl; omega)⟩
        obtain ⟨bn, on, rfl, hlb⟩ := unhide HNN (by omega)
        have hzd : next.getD i 0 = z := by simp [List.getD, hz]
        have cz := hlb i (by omega)
        rw [hzd] at cz
        have hbn := World.block_lt_of_cell? wr _ cz
        simp only at hbn
        have hiz := unhide HWn z (List.mem_of_getElem? hz)
        have HDz := hide (fun W => rdig_any z hiz W)
        have hlz := dec_len _ hiz
        have hnxt : G7 ++ pTo (next.take (i + 1)) = L ++ ([32] ++ dec z) := by
          have h1 := unhide HNt i z hz
          have h2 := unhide HL
          unfold pTo at h2 ⊢
          rw [h1, h2]; simp
        have hbL : L.length ≤ 68719476736 := by
          have h1 := unhide HNl2 i
          have h2 := unhide HBG
          have h3 := unhide HL
          unfold pTo at h2 h3
          rw [h3, List.length_append]; omega
        generalize dec z = Dz at *
        obtain ⟨G1, hG1⟩ : ∃ A, L ++ [32] = A := ⟨_, rfl⟩
        have lG1 : G1.length = L.length + 1 := by rw [← hG1]; simp
        have q2 := fun W => cat (A := str L) (B := ⟨#[32]⟩) (C := str G1) rfl rfl (by rw [hG1]) (by simp; omega) W
        obtain ⟨G2, hG2⟩ : ∃ A, G1 ++ Dz = A := ⟨_, rfl⟩
        have lG2 : G2.length = G1.length + Dz.length := by rw [← hG2]; simp
        have q3 := fun W => cat (A := str G1) (B := str Dz) (C := str G2) rfl rfl (by rw [hG2]) (by omega) W
        have HG := hide (show G7 ++ pTo (next.take (i + 1)) = G2 by rw [hnxt, ← hG2, ← hG1]; simp)
        clear hz hlb hzd hiz hlz hnxt hbL hG1 hG2 lG1 lG2 hi
        go_wp2_with fail
        refine (unhide HDz _).mono ?_
        rintro e ww ⟨rfl, rfl⟩
        go_wp2
        go_roundw
        case rel => exact ⟨i + 1, G2, rfl, by go_num, by omega, (unhide HG).symm, trivial⟩
        case measure => simp [intOf]; omega
      · obtain rfl : nl = i := by omega
        have hLE : L = E6 := by rw [unhide HL, ← unhide HG8, ← unhide Hnl, List.take_length]
        subst hLE
        clear hi hilt HL
        go_wp2
        exact (unhide HN) _ _ _ _ _ _ _ _ _ _ _ _ _ _ _ _ _ _ _
end Vc
end Go.Proofs.YtgelkfmdkmopbaaDoor

/- The document's Text: a line of an instruction. By mkrtx2.py. -/
namespace Go.Proofs.YtgelkfmdkmopbaaDoor
open Go.RowKit
namespace Vc
set_option linter.unusedVariables false
set_option linter.unusedSimpArgs false

set_option maxRecDepth 1000000 in
set_option maxHeartbeats 12800000 in
theorem tx_ins {z0 z1 z2 z4 z7 z8 z9 z10 z11 z12 z13 z14 z15 z16 z17 z18 z19 z20 z21 z22 z23 z24 z25 z26 z27 z28 z29 z30 z31 z32 z33 z34 z35 z36 z37 z38 z39 z40 z41 z42 z43 z44 z45 z46 z47 z48 z49 z50 z51 z52 z53 z54 z55 z56 z57 z58 z59 z60 z61 z62 z63 z64 z65 z66 z67 z68 z69 z70 z71 z72 z73 z74 z75 z76 z77 z78 z79 z80 z81 z82 z83 z84 z85 z86 z87 z88 z89 z90 z91 z92 z93 z94 z95 z96 z97 z98 z99 z100 z101 z102 z103 z104 z105 z106 z107 z108 z109 z110 z111 z112 z113 z114 z115 z116 z117 z118 z119 z120 z121 z122 z123 z124 z125 z126 z127 z128 z129 z130 z131 z132 z133 z134 z135 z136 z137 z138 z139 z140 z141 z142 z143 z144 z145 z146 z147 z148 : Value} {NB bi oi il ci nl cn k op sl sc : Nat} {an sa : Option Addr} {dst nn of : Int} {src next : List Int} {R1 E7 : List UInt8} {wr : World} {Q0 : Exit → Act → World → Prop}
    (hklt : (k : Int) < il) (hop : op < 256) (y0 : wr.cell? ⟨NB, 0, none⟩ = some (.slice (some ⟨bi, oi, none⟩) il ci)) (y1 : wr.cell? ⟨NB, 1, none⟩ = some (.slice an nl cn)) (yl : NB < wr.heap.size)
    (f0 : wr.cell? ⟨bi, oi + k * 5, none⟩ = some (.int .u8 (op : Int))) (f1 : wr.cell? ⟨bi, oi + k * 5 + 1, none⟩ = some (.int .i64 dst)) (f2 : wr.cell? ⟨bi, oi + k * 5 + 2, none⟩ = some (.slice sa sl sc)) (f3 : wr.cell? ⟨bi, oi + k * 5 + 3, none⟩ = some (.int .i64 nn)) (f4 : wr.cell? ⟨bi, oi + k * 5 + 4, none⟩ = some (.int .u32 of))
    (HSS : Hid (0 < sl → ∃ bs os, sa = some ⟨bs, os, none⟩ ∧ ∀ i, i < sl → wr.cell? ⟨bs, os + i, none⟩ = some (.int .i64 (src.getD i 0)))) (HNN : Hid (0 < nl → ∃ bn on, an = some ⟨bn, on, none⟩ ∧ ∀ i, i < nl → wr.cell? ⟨bn, on + i, none⟩ = some (.int .i64 (next.getD i 0))))
    (Hsl : Hid (src.length = sl)) (Hnl : Hid (next.length = nl)) (hslN : (sl : Int) ≤ 1099511627776) (hnlN : (nl : Int) ≤ 1099511627776) (hilN : (il : Int) ≤ 1099511627776) (HWs : Hid (∀ z ∈ src, i64 z)) (HWn : Hid (∀ z ∈ next, i64 z)) (hdst : i64 dst) (hdm : -1 ≤ dst) (hnn : i64 nn) (hof : 0 ≤ of ∧ of < 4294967296) (hrn : rnm op = nam op)
    (hE7 : R1 ++ line ⟨op, dst, src, nn, of⟩ next = E7) (hl7 : E7.length ≤ 68719476736)
    (hnorm : ∀ (v7 v8 v9 v48 v49 v50 v51 v52 v53 v54 v55 v56 v57 v58 v59 v60 v61 v62 v63 v64 v65 v66 v67 v68 v69 v70 v71 v72 v73 v74 v75 v76 v77 v78 v79 v80 v81 v82 v83 v84 v85 v86 v87 v88 v89 v90 v91 v92 v93 v94 v95 v96 v97 v98 v99 v100 v101 v102 v103 v104 v105 v106 v107 v108 v109 v110 v111 v112 v113 v114 v115 v116 v117 v118 v119 v120 v121 v122 v123 v124 v125 v126 v127 v128 v129 v130 v131 v132 v133 v134 v135 v136 v137 v138 v139 v140 v141 v142 v143 v144 v145 v146 v147 : Value) (w' : World), Below wr.heap.size wr w' → Q0 .normal ⟨#[z0, z1, z2, .string (str E7), z4, .pointer (some ⟨NB, 0, none⟩), .int .i64 ((k : Int) + 1), v7, v8, v9, z10, z11, z12, z13, z14, z15, z16, z17, z18, z19, z20, z21, z22, z23, z24, z25, z26, z27, z28, z29, z30, z31, z32, z33, z34, z35, z36, z37, z38, z39, z40, z41, z42, z43, z44, z45, z46, z47, v48, v49, v50, v51, v52, v53, v54, v55, v56, v57, v58, v59, v60, v61, v62, v63, v64, v65, v66, v67, v68, v69, v70, v71, v72, v73, v74, v75, v76, v77, v78, v79, v80, v81, v82, v83, v84, v85, v86, v87, v88, v89, v90, v91, v92, v93, v94, v95, v96, v97, v98, v99, v100, v101, v102, v103, v104, v105, v106, v107, v108, v109, v110, v111, v112, v113, v114, v115, v116, v117, v118, v119, v120, v121, v122, v123, v124, v125, v126, v127, v128, v129, v130, v131, v132, v133, v134, v135, v136, v137, v138, v139, v140, v141, v142, v143, v144, v145, v146, v147, z148], []⟩ w') :
    Code.wp Tryd.prog tbody Q0 ⟨#[z0, z1, z2, .string (str R1), z4, .pointer (some ⟨NB, 0, none⟩), .int .i64 (k : Int), z7, z8, z9, z10, z11, z12, z13, z14, z15, z16, z17, z18, z19, z20, z21, z22, z23, z24, z25, z26, z27, z28, z29, z30, z31, z32, z33, z34, z35, z36, z37, z38, z39, z40, z41, z42, z43, z44, z45, z46, z47, z48, z49, z50, z51, z52, z53, z54, z55, z56, z57, z58, z59, z60, z61, z62, z63, z64, z65, z66, z67, z68, z69, z70, z71, z72, z73, z74, z75, z76, z77, z78, z79, z80, z81, z82, z83, z84, z85, z86, z87, z88, z89, z90, z91, z92, z93, z94, z95, z96, z97, z98, z99, z100, z101, z102, z103, z104, z105, z106, z107, z108, z109, z110, z111, z112, z113, z114, z115, z116, z117, z118, z119, z120, z121, z122, z123, z124, z125, z126, z127, z128, z129, z130, z131, z132, z133, z134, z135, z136, z137, z138, z139, z140, z141, z142, z143, z144, z145, z146, z147, z148], []⟩ wr := by
  have HN := hide hnorm
  clear hnorm
  have h7 := List.all_eq_true.1 rn_ok _ (List.mem_range.2 hop)
  simp only [Bool.and_eq_true, beq_iff_eq, decide_eq_true_eq] at h7
  have HNm := hide (fun W => rnm_any op hop W)
  have HMm := hide (fun W => rmem_any op hop W)
  have HEn := hide (fun W => rends_any op hop W)
  rw [hrn] at HNm
  have hofi : i64 of := ⟨by omega, by omega⟩
  have HDd := hide (fun W => rdig_any dst hdst W); have HDn := hide (fun W => rdig_any nn hnn W); have HDo := hide (fun W => rdig_any of hofi W)
  have ldd := dec_len _ hdst; have ldn := dec_len _ hnn; have ldo := dec_len _ hofi
  have lnm := h7.2
  have s1 : ((str (nam op)).toList == [99, 111, 110, 115, 116]) = decide (op = 66) := by rw [str_toList, ← hrn]; exact h7.1.1.1.1.1.2
  have s2 : ((str (nam op)).toList == [103, 108, 111, 98, 97, 108, 46, 103, 101, 116]) = decide (op = 35) := by rw [str_toList, ← hrn]; exact h7.1.1.1.1.2
  have s3 : ((str (nam op)).toList == [103, 108, 111, 98, 97, 108, 46, 115, 101, 116]) = decide (op = 36) := by rw [str_toList, ← hrn]; exact h7.1.1.1.2
  have s4 : ((str (nam op)).toList == [99, 97, 108, 108]) = decide (op = 16) := by rw [str_toList, ← hrn]; exact h7.1.1.2
  have s5 : ((str (nam op)).toList == [99, 97, 108, 108, 95, 105, 110, 100, 105, 114, 101, 99, 116]) = decide (op = 17) := by rw [str_toList, ← hrn]; exact h7.1.2
  have HS1 := hide s1; have HS2 := hide s2; have HS3 := hide s3; have HS4 := hide s4; have HS5 := hide s5
  rw [line_eq] at hE7
  obtain ⟨C1, hC1⟩ : ∃ A, R1 ++ [32] = A := ⟨_, rfl⟩
  obtain ⟨C4, hC4⟩ : ∃ A, C1 ++ (if dst != -1 then [32, 114] ++ dec dst ++ [32, 61] else []) = A := ⟨_, rfl⟩
  obtain ⟨E1, hE1⟩ : ∃ A, C4 ++ [32] = A := ⟨_, rfl⟩
  obtain ⟨E2, hE2⟩ : ∃ A, E1 ++ nam op = A := ⟨_, rfl⟩
  obtain ⟨E3, hE3⟩ : ∃ A, E2 ++ pSrc src = A := ⟨_, rfl⟩
  obtain ⟨E4, hE4⟩ : ∃ A, E3 ++ (if numd op then [32] ++ dec nn else []) = A := ⟨_, rfl⟩
  obtain ⟨E5, hE5⟩ : ∃ A, E4 ++ (if acc op then [32, 43] ++ dec of else []) = A := ⟨_, rfl⟩
  obtain ⟨E6, hE6⟩ : ∃ A, E5 ++ (if ends op && decide (0 < nl) then [32, 45, 62] ++ pTo next else []) = A := ⟨_, rfl⟩
  have hE7' : E6 ++ [10] = E7 := by
    rw [← hE7, ← hE6, ← hE5, ← hE4, ← hE3, ← hE2, ← hE1, ← hC4, ← hC1, ← unhide Hnl]; simp only [List.append_assoc]; rfl
  have b6 : E6.length + 1 = E7.length := by rw [← hE7']; simp
  have b5 : E5.length ≤ E6.length := by rw [← hE6]; simp
  have b4 : E4.length ≤ E5.length := by rw [← hE5]; simp
  have b3 : E3.length ≤ E4.length := by rw [← hE4]; simp
  have b2 : E2.length + (pSrc src).length = E3.length := by rw [← hE3]; simp
  have b1 : E1.length ≤ E2.length := by rw [← hE2]; simp
  have b0 : C4.length ≤ E1.length := by rw [← hE1]; simp
  have bc : C1.length ≤ C4.length := by rw [← hC4]; simp
  have br : R1.length ≤ C1.length := by rw [← hC1]; simp
  have q11 := fun W => cat (A := str R1) (B := ⟨#[32]⟩) (C := str C1) rfl rfl (by rw [hC1]) (by simp; omega) W
  have q12 := fun W => cat (A := str C4) (B := ⟨#[32]⟩) (C := str E1) rfl rfl (by rw [hE1]) (by simp; omega) W
  have q13 := fun W => cat (A := str E1) (B := str (nam op)) (C := str E2) rfl rfl (by rw [hE2]) (by omega) W
  have q14 := fun W => cat (A := str E6) (B := ⟨#[10]⟩) (C := str E7) rfl rfl (by rw [hE7']) (by simp; omega) W
  have HB := hide (show C1.length ≤ 68719476736 ∧ E2.length + (pSrc src).length ≤ 68719476736 ∧ E3.length ≤ 68719476736 ∧ E4.length ≤ 68719476736 ∧ E5.length ≤ 68719476736 ∧ E6.length ≤ 68719476736 from ⟨by omega, by omega, by omega, by omega, by omega, by omega⟩)
  have HC4 := hide hC4; have HE3 := hide hE3; have HE4 := hide hE4; have HE5 := hide hE5; have HE6 := hide hE6
  have hst := fun i z h => fm_take (fun r => [32, 114] ++ dec r) src i z h
  have hsl2 := fun i => fm_le (fun r => [32, 114] ++ dec r) src i
  have HSt := hide hst; have HSl2 := hide hsl2; have HLd := hide (And.intro ldd (And.intro ldn ldo)); have HDst := hide hdm; have HOf := hide hof
  clear h7 s1 s2 s3 s4 s5 hst hsl2 hE7 hC1 hC4 hE1 hE2 hE3 hE4 hE5 hE6 hE7' b6 b5 b4 b3 b2 b1 b0 bc br ldd ldn ldo lnm hl7 hdst hdm hnn hof hofi hrn hop
  generalize str (nam op) = SN at *
  have hbi := World.block_lt_of_cell? wr _ f0
  simp only at hbi
  conv => arg 2; whnf
  go_upto_region 14 with fail
  have hal := one_alloc wr (.cells #[.int .u8 (op : Int), .int .i64 dst, .slice sa sl sc, .int .i64 nn, .int .u32 of] 55)
  have rx := heap_alloc_new wr (.cells #[.int .u8 (op : Int), .int .i64 dst, .slice sa sl sc, .int .i64 nn, .int .u32 of] 55)
  have hsz : wr.heap.size < (wr.alloc (.cells #[.int .u8 (op : Int), .int .i64 dst, .slice sa sl sc, .int .i64 nn, .int .u32 of] 55)).heap.size := (Array.getElem?_eq_some_iff.1 rx).1
  generalize wr.alloc (.cells #[.int .u8 (op : Int), .int .i64 dst, .slice sa sl sc, .int .i64 nn, .int .u32 of] 55) = W5 at *
  have hce5 : ∀ wx, Below W5.heap.size W5 wx → (wx.cell? ⟨wr.heap.size, 0, none⟩ = some (.int .u8 (op : Int)) ∧ wx.cell? ⟨wr.heap.size, 1, none⟩ = some (.int .i64 dst) ∧ wx.cell? ⟨wr.heap.size, 2, none⟩ = some (.slice sa sl sc) ∧ wx.cell? ⟨wr.heap.size, 3, none⟩ = some (.int .i64 nn) ∧ wx.cell? ⟨wr.heap.size, 4, none⟩ = some (.int .u32 of) ∧ wr.heap.size < wx.heap.size) ∧ (wx.cell? ⟨NB, 1, none⟩ = some (.slice an nl cn) ∧ NB < wx.heap.size) ∧ Below wr.heap.size wr wx := by
    intro wx hb
    have q := (hb.block _ hsz).trans rx
    have hbw : Below wr.heap.size wr wx := hal.trans (hb.mono hal.size)
    refine ⟨⟨?_, ?_, ?_, ?_, ?_, (Array.getElem?_eq_some_iff.1 q).1⟩, ⟨(hbw.cell (p := ⟨NB, 1, none⟩) yl).trans y1, Nat.lt_of_lt_of_le yl hbw.size⟩, hbw⟩ <;> (rw [cell_of_row wx _ _ _ _ _ q]; rfl)
  have HCe5 := hide hce5
  have hxHSS2 : ∀ wx, Below wr.heap.size wr wx → 0 < sl → ∃ (bs os : Nat), sa = some ⟨bs, os, none⟩ ∧ ∀ i, i < sl → wx.cell? ⟨bs, os + i, none⟩ = some (.int .i64 (src.getD i 0)) := by
    intro wx hb h0
    obtain ⟨bs, os, e, h⟩ := unhide HSS h0
    exact ⟨bs, os, e, fun i hi => (hb.cell (p := ⟨bs, os + i, none⟩) (World.block_lt_of_cell? wr _ (h i hi))).trans (h i hi)⟩
  have HSS2 := hide hxHSS2
  clear hxHSS2
  have hxHNN2 : ∀ wx, Below wr.heap.size wr wx → 0 < nl → ∃ (bs os : Nat), an = some ⟨bs, os, none⟩ ∧ ∀ i, i < nl → wx.cell? ⟨bs, os + i, none⟩ = some (.int .i64 (next.getD i 0)) := by
    intro wx hb h0
    obtain ⟨bs, os, e, h⟩ := unhide HNN h0
    exact ⟨bs, os, e, fun i hi => (hb.cell (p := ⟨bs, os + i, none⟩) (World.block_lt_of_cell? wr _ (h i hi))).trans (h i hi)⟩
  have HNN2 := hide hxHNN2
  clear hxHNN2
  clear f0 f1 f2 f3 f4 y0 y1 HSS HNN
  obtain ⟨⟨f0, f1, f2, f3, f4, fl⟩, ⟨y1, yl5⟩, _⟩ := hce5 W5 (Below.refl _ _)
  clear hce5 hal rx hsz
  generalize wr.heap.size = NX at *
  go_upto_if 64 with fail
  go_cut [3] from 48 to 147 (fun v wx => v = .string (str C4) ∧ wx = W5)
  case first =>
    by_cases hd0 : 0 ≤ dst
    · have td1 : decide (dst ≥ 0) = true := by simpa using hd0
      have td2 : decide (0 ≤ dst) = true := by simpa using hd0
      simp only [td1, td2]
      have hC4' := unhide HC4
      rw [show (dst != -1) = true by simp; omega, if_pos rfl] at hC4'
      have hLd := (unhide HLd).1
      have hBb := (unhide HB).1
      generalize dec dst = Dd at *
      obtain ⟨C5a, hC5a⟩ : ∃ A, C1 ++ [32, 114] = A := ⟨_, rfl⟩
      have lC5a : C5a.length = C1.length + 2 := by rw [← hC5a]; simp
      have q4 := fun W => cat (A := str C1) (B := ⟨#[32, 114]⟩) (C := str C5a) rfl rfl (by rw [hC5a]) (by simp; omega) W
      obtain ⟨C5b, hC5b⟩ : ∃ A, C5a ++ Dd = A := ⟨_, rfl⟩
      have lC5b : C5b.length = C5a.length + Dd.length := by rw [← hC5b]; simp
      have q5 := fun W => cat (A := str C5a) (B := str Dd) (C := str C5b) rfl rfl (by rw [hC5b]) (by omega) W
      obtain ⟨C5c, hC5c⟩ : ∃ A, C5b ++ [32, 61] = A := ⟨_, rfl⟩
      have lC5c : C5c.length = C5b.length + 2 := by rw [← hC5c]; simp
      have q6 := fun W => cat (A := str C5b) (B := ⟨#[32, 61]⟩) (C := str C5c) rfl rfl (by rw [hC5c]) (by simp; omega) W
      have HC5 := hide (show C5c = C4 by rw [← hC5c, ← hC5b, ← hC5a, ← hC4']; simp)
      clear hC5a hC5b hC5c lC5a lC5b lC5c hC4' hLd hBb hd0
      go_wp2_with fail
      refine (unhide HDd _).mono ?_
      rintro e ww ⟨rfl, rfl⟩
      go_wp2_with fail
      go_meet
      exact ⟨by rw [unhide HC5], rfl⟩
    · have td1 : decide (dst ≥ 0) = false := by simpa using hd0
      have td2 : decide (0 ≤ dst) = false := by simpa using hd0
      simp only [td1, td2]
      have HC5 := hide (show C1 = C4 by
        have h := unhide HC4
        have h2 := unhide HDst
        rw [show (dst != -1) = false by simp; omega] at h
        simpa using h)
      clear hd0
      go_wp2_with fail
      go_meet
      exact ⟨by rw [unhide HC5], rfl⟩
  case rest =>
    obtain ⟨rfl, rfl⟩ := hcut
    clear HC4 HDd HDst q11
    go_wp2_with fail
    refine (unhide HNm _).mono ?_
    rintro e w6 ⟨rfl, hb6⟩
    clear f0 f1 f2 f3 f4 fl y1 yl5
    obtain ⟨⟨f0, f1, f2, f3, f4, fl⟩, ⟨y1, yl5⟩, hw6⟩ := unhide HCe5 w6 hb6
    have HB6 := hide hb6; have HW6 := hide hw6
    clear hb6 hw6 q12
    go_wp2_with fail
    go_loopw [3, 8] (fun s c wq => ∃ (i : Nat) (L : List UInt8), s = .string (str L) ∧ c = .int .i64 i ∧ (i : Int) ≤ sl ∧ L = E2 ++ pSrc (src.take i) ∧ wq = w6) (fun _ c _ => sl - (intOf c).toNat)
    case atStart => exact ⟨0, E2, rfl, rfl, by omega, by simp [pSrc], rfl⟩
    case round =>
      obtain ⟨i, L, rfl, rfl, hi, hL, rfl⟩ := hrel
      have HL := hide hL
      clear hL
      by_cases hilt : (i : Int) < sl
      · obtain ⟨z, hz⟩ : ∃ z, src[i]? = some z := ⟨_, List.getElem?_eq_getElem (by have := unhide Hsl; omega)⟩
        obtain ⟨bs, os, rfl, hlb⟩ := unhide HSS2 _ (unhide HW6) (by omega)
        have hzd : src.getD i 0 = z := by simp [List.getD, hz]
        have cz := hlb i (by omega)
        rw [hzd] at cz
        have hbs := World.block_lt_of_cell? _ _ cz
        simp only at hbs
        have hiz := unhide HWs z (List.mem_of_getElem? hz)
        have HDz := hide (fun W => rdig_any z hiz W)
        have hlz := dec_len _ hiz
        have hnxt : E2 ++ pSrc (src.take (i + 1)) = L ++ ([32, 114] ++ dec z) := by
          have h1 := unhide HSt i z hz
          have h2 := unhide HL
          unfold pSrc at h2 ⊢
          rw [h1, h2]; simp
        have hbL : L.length ≤ 68719476736 := by
          have h1 := unhide HSl2 i
          have h2 := (unhide HB).2.1
          have h3 := unhide HL
          unfold pSrc at h2 h3
          rw [h3, List.length_append]; omega
        generalize dec z = Dz at *
        obtain ⟨G1, hG1⟩ : ∃ A, L ++ [32, 114] = A := ⟨_, rfl⟩
        have lG1 : G1.length = L.length + 2 := by rw [← hG1]; simp
        have q7 := fun W => cat (A := str L) (B := ⟨#[32, 114]⟩) (C := str G1) rfl rfl (by rw [hG1]) (by simp; omega) W
        obtain ⟨G2, hG2⟩ : ∃ A, G1 ++ Dz = A := ⟨_, rfl⟩
        have lG2 : G2.length = G1.length + Dz.length := by rw [← hG2]; simp
        have q8 := fun W => cat (A := str G1) (B := str Dz) (C := str G2) rfl rfl (by rw [hG2]) (by omega) W
        have HG := hide (show E2 ++ pSrc (src.take (i + 1)) = G2 by rw [hnxt, ← hG2, ← hG1]; simp)
        clear hz hlb hzd hiz hlz hnxt hbL hG1 hG2 lG1 lG2 hi
        go_wp2_with fail
        refine (unhide HDz _).mono ?_
        rintro e ww ⟨rfl, rfl⟩
        go_wp2
        go_roundw
        case rel => exact ⟨i + 1, G2, rfl, by go_num, by omega, (unhide HG).symm, trivial⟩
        case measure => simp [intOf]; omega
      · obtain rfl : sl = i := by omega
        have hLE : L = E3 := by rw [unhide HL, ← unhide HE3, ← unhide Hsl, List.take_length]
        subst hLE
        clear hi hilt HL HSt HSl2 HWs HE3 q13
        go_wp2_with fail
        refine (unhide HNm _).mono ?_
        rintro e w7 ⟨rfl, hb7⟩
        have hB7 := (unhide HB6).trans (hb7.mono (unhide HB6).size)
        clear f0 f1 f2 f3 f4 fl y1 yl5 hb7 HNm
        obtain ⟨⟨f0, f1, f2, f3, f4, fl⟩, ⟨y1, yl5⟩, hw7⟩ := unhide HCe5 w7 hB7
        have HB7 := hide hB7
        clear hB7 hw7 HB6 HW6
        go_upto_if 97 with fail
        go_cut [97] from 48 to 147 (fun v wx => v = .bool (numd op) ∧ wx = w7)
        case first =>
          by_cases o66 : op = 66
          · subst o66
            have t0 : (SN.toList == [99, 111, 110, 115, 116]) = true := by rw [unhide HS1]; rfl
            have HND := hide (show numd 66 = true by decide)
            simp only [t0]
            go_wp2_with fail
            go_meet
            exact ⟨by rw [unhide HND], rfl⟩
          by_cases o35 : op = 35
          · subst o35
            have t0 : (SN.toList == [99, 111, 110, 115, 116]) = false := by rw [unhide HS1]; rfl
            have t1 : (SN.toList == [103, 108, 111, 98, 97, 108, 46, 103, 101, 116]) = true := by rw [unhide HS2]; rfl
            have HND := hide (show numd 35 = true by decide)
            simp only [t0]
            go_wp2_with fail
            go_meet
            exact ⟨by rw [unhide HND], rfl⟩
          by_cases o36 : op = 36
          · subst o36
            have t0 : (SN.toList == [99, 111, 110, 115, 116]) = false := by rw [unhide HS1]; rfl
            have t1 : (SN.toList == [103, 108, 111, 98, 97, 108, 46, 103, 101, 116]) = false := by rw [unhide HS2]; rfl
            have t2 : (SN.toList == [103, 108, 111, 98, 97, 108, 46, 115, 101, 116]) = true := by rw [unhide HS3]; rfl
            have HND := hide (show numd 36 = true by decide)
            simp only [t0]
            go_wp2_with fail
            go_meet
            exact ⟨by rw [unhide HND], rfl⟩
          by_cases o16 : op = 16
          · subst o16
            have t0 : (SN.toList == [99, 111, 110, 115, 116]) = false := by rw [unhide HS1]; rfl
            have t1 : (SN.toList == [103, 108, 111, 98, 97, 108, 46, 103, 101, 116]) = false := by rw [unhide HS2]; rfl
            have t2 : (SN.toList == [103, 108, 111, 98, 97, 108, 46, 115, 101, 116]) = false := by rw [unhide HS3]; rfl
            have t3 : (SN.toList == [99, 97, 108, 108]) = true := by rw [unhide HS4]; rfl
            have HND := hide (show numd 16 = true by decide)
            simp only [t0]
            go_wp2_with fail
            go_meet
            exact ⟨by rw [unhide HND], rfl⟩
          by_cases o17 : op = 17
          · subst o17
            have t0 : (SN.toList == [99, 111, 110, 115, 116]) = false := by rw [unhide HS1]; rfl
            have t1 : (SN.toList == [103, 108, 111, 98, 97, 108, 46, 103, 101, 116]) = false := by rw [unhide HS2]; rfl
            have t2 : (SN.toList == [103, 108, 111, 98, 97, 108, 46, 115, 101, 116]) = false := by rw [unhide HS3]; rfl
            have t3 : (SN.toList == [99, 97, 108, 108]) = false := by rw [unhide HS4]; rfl
            have t4 : (SN.toList == [99, 97, 108, 108, 95, 105, 110, 100, 105, 114, 101, 99, 116]) = true := by rw [unhide HS5]; rfl
            have HND := hide (show numd 17 = true by decide)
            simp only [t0]
            go_wp2_with fail
            go_meet
            exact ⟨by rw [unhide HND], rfl⟩
          have t0 : (SN.toList == [99, 111, 110, 115, 116]) = false := by rw [unhide HS1]; simpa using o66
          have t1 : (SN.toList == [103, 108, 111, 98, 97, 108, 46, 103, 101, 116]) = false := by rw [unhide HS2]; simpa using o35
          have t2 : (SN.toList == [103, 108, 111, 98, 97, 108, 46, 115, 101, 116]) = false := by rw [unhide HS3]; simpa using o36
          have t3 : (SN.toList == [99, 97, 108, 108]) = false := by rw [unhide HS4]; simpa using o16
          have t4 : (SN.toList == [99, 97, 108, 108, 95, 105, 110, 100, 105, 114, 101, 99, 116]) = false := by rw [unhide HS5]; simpa using o17
          have HND := hide (show numd op = false by unfold numd; simp [o66, o35, o36, o16, o17])
          clear o66 o35 o36 o16 o17
          simp only [t0]
          go_wp2_with fail
          go_meet
          exact ⟨by rw [unhide HND], rfl⟩
        case rest =>
          obtain ⟨rfl, rfl⟩ := hcut
          clear HS1 HS2 HS3 HS4 HS5
          cases hnd : numd op with
          | false =>
            obtain rfl : E4 = L := by have h := unhide HE4; rw [hnd] at h; simpa using h.symm
            clear hnd HDn HE4
            go_wp2_with fail
            refine (unhide HMm _).mono ?_
            rintro e w8 ⟨rfl, hb8⟩
            have hB8 := (unhide HB7).trans (hb8.mono (unhide HB7).size)
            clear f0 f1 f2 f3 f4 fl y1 yl5 hb8 HMm HB7
            obtain ⟨⟨f0, f1, f2, f3, f4, fl⟩, ⟨y1, yl5⟩, hw8⟩ := unhide HCe5 w8 hB8
            have HW8 := hide hw8
            clear hB8 hw8 HCe5 f1 f2 f3
            go_upto_if 111 with fail
            go_cut [3] from 48 to 147 (fun v wx => v = .string (str E5) ∧ wx = w8)
            case first =>
              cases hnd : acc op with
              | false =>
                have HG := hide (show E4 = E5 by have h := unhide HE5; rw [hnd] at h; simpa using h)
                clear hnd
                go_wp2_with fail
                go_meet
                exact ⟨by rw [unhide HG], rfl⟩
              | true =>
                have h := unhide HE5
                rw [hnd, if_pos rfl] at h
                obtain ⟨ho0, ho1⟩ := unhide HOf
                have hwr : IntKind.i64.wrap of = of := by rw [IntKind.wrap_i64]; omega
                have hbL := (unhide HB).2.2.2.1
                have hlz := (unhide HLd).2.2
                generalize dec of = Dz at *
                obtain ⟨G5, hG5⟩ : ∃ A, E4 ++ [32, 43] = A := ⟨_, rfl⟩
                have lG5 : G5.length = E4.length + 2 := by rw [← hG5]; simp
                have q9 := fun W => cat (A := str E4) (B := ⟨#[32, 43]⟩) (C := str G5) rfl rfl (by rw [hG5]) (by simp; omega) W
                obtain ⟨G6, hG6⟩ : ∃ A, G5 ++ Dz = A := ⟨_, rfl⟩
                have lG6 : G6.length = G5.length + Dz.length := by rw [← hG6]; simp
                have q10 := fun W => cat (A := str G5) (B := str Dz) (C := str G6) rfl rfl (by rw [hG6]) (by omega) W
                have HG := hide (show G6 = E5 by rw [← h, ← hG6, ← hG5]; simp)
                clear hG5 hG6 lG5 lG6 h hbL hlz hnd
                go_wp2_with fail
                refine (unhide HDo _).mono ?_
                rintro e ww ⟨rfl, rfl⟩
                go_wp2_with fail
                go_meet
                exact ⟨by rw [unhide HG], rfl⟩
            case rest =>
              obtain ⟨rfl, rfl⟩ := hcut
              go_wp2_with fail
              refine (unhide HEn _).mono ?_
              rintro e ww ⟨rfl, rfl⟩
              clear HDo HE5 HLd
              cases hen : ends op with
              | false =>
                have HX := hide (show E5 = E6 by have h := unhide HE6; rw [hen] at h; simpa using h)
                clear hen HE6
                go_upto_if 127 with fail
                refine tx_next y1 yl5 Hnl (hide (unhide HNN2 _ (unhide HW8))) HWn (by have h := unhide HX; simpa  using h) (unhide HB).2.2.2.2.2 hnlN (fun v9 v128 v129 v130 v131 v132 v133 v134 v135 v136 v137 v138 v139 v140 v141 v142 v143 v144 v145 => ?_)
                dsimp only
                go_wp2
                exact (unhide HN) _ _ _ _ _ _ _ _ _ _ _ _ _ _ _ _ _ _ _ _ _ _ _ _ _ _ _ _ _ _ _ _ _ _ _ _ _ _ _ _ _ _ _ _ _ _ _ _ _ _ _ _ _ _ _ _ _ _ _ _ _ _ _ _ _ _ _ _ _ _ _ _ _ _ _ _ _ _ _ _ _ _ _ _ _ _ _ _ _ _ _ _ _ _ _ _ _ _ _ _ _ _ _ _ (unhide HW8)
              | true =>
                have h := unhide HE6
                rw [hen] at h
                clear hen HE6
                by_cases hn0 : 0 < nl
                · have hn1 : (0 : Int) < nl := by omega
                  have HX := hide h
                  clear h
                  go_upto_if 127 with fail
                  refine tx_next y1 yl5 Hnl (hide (unhide HNN2 _ (unhide HW8))) HWn (by have h := unhide HX; simpa [hn0] using h) (unhide HB).2.2.2.2.2 hnlN (fun v9 v128 v129 v130 v131 v132 v133 v134 v135 v136 v137 v138 v139 v140 v141 v142 v143 v144 v145 => ?_)
                  dsimp only
                  go_wp2
                  exact (unhide HN) _ _ _ _ _ _ _ _ _ _ _ _ _ _ _ _ _ _ _ _ _ _ _ _ _ _ _ _ _ _ _ _ _ _ _ _ _ _ _ _ _ _ _ _ _ _ _ _ _ _ _ _ _ _ _ _ _ _ _ _ _ _ _ _ _ _ _ _ _ _ _ _ _ _ _ _ _ _ _ _ _ _ _ _ _ _ _ _ _ _ _ _ _ _ _ _ _ _ _ _ _ _ _ _ (unhide HW8)
                · have hn1 : ¬ (0 : Int) < nl := by omega
                  have HX := hide h
                  clear h
                  go_upto_if 127 with fail
                  refine tx_next y1 yl5 Hnl (hide (unhide HNN2 _ (unhide HW8))) HWn (by have h := unhide HX; simpa [hn0] using h) (unhide HB).2.2.2.2.2 hnlN (fun v9 v128 v129 v130 v131 v132 v133 v134 v135 v136 v137 v138 v139 v140 v141 v142 v143 v144 v145 => ?_)
                  dsimp only
                  go_wp2
                  exact (unhide HN) _ _ _ _ _ _ _ _ _ _ _ _ _ _ _ _ _ _ _ _ _ _ _ _ _ _ _ _ _ _ _ _ _ _ _ _ _ _ _ _ _ _ _ _ _ _ _ _ _ _ _ _ _ _ _ _ _ _ _ _ _ _ _ _ _ _ _ _ _ _ _ _ _ _ _ _ _ _ _ _ _ _ _ _ _ _ _ _ _ _ _ _ _ _ _ _ _ _ _ _ _ _ _ _ (unhide HW8)
          | true =>
            have h := unhide HE4
            rw [hnd, if_pos rfl] at h
            have hbL := (unhide HB).2.2.1
            have hlz := (unhide HLd).2.1
            generalize dec nn = Dz at *
            obtain ⟨G3, hG3⟩ : ∃ A, L ++ [32] = A := ⟨_, rfl⟩
            have lG3 : G3.length = L.length + 1 := by rw [← hG3]; simp
            have q11 := fun W => cat (A := str L) (B := ⟨#[32]⟩) (C := str G3) rfl rfl (by rw [hG3]) (by simp; omega) W
            obtain ⟨G4, hG4⟩ : ∃ A, G3 ++ Dz = A := ⟨_, rfl⟩
            have lG4 : G4.length = G3.length + Dz.length := by rw [← hG4]; simp
            have q12 := fun W => cat (A := str G3) (B := str Dz) (C := str G4) rfl rfl (by rw [hG4]) (by omega) W
            obtain rfl : E4 = G4 := by rw [← h, ← hG4, ← hG3]; simp
            clear hG3 hG4 lG3 lG4 h hbL hlz hnd HE4
            go_wp2_with fail
            refine (unhide HDn _).mono ?_
            rintro e ww ⟨rfl, rfl⟩
            go_wp2_with fail
            refine (unhide HMm _).mono ?_
            rintro e w8 ⟨rfl, hb8⟩
            have hB8 := (unhide HB7).trans (hb8.mono (unhide HB7).size)
            clear f0 f1 f2 f3 f4 fl y1 yl5 hb8 HMm HB7
            obtain ⟨⟨f0, f1, f2, f3, f4, fl⟩, ⟨y1, yl5⟩, hw8⟩ := unhide HCe5 w8 hB8
            have HW8 := hide hw8
            clear hB8 hw8 HCe5 f1 f2 f3
            go_upto_if 111 with fail
            go_cut [3] from 48 to 147 (fun v wx => v = .string (str E5) ∧ wx = w8)
            case first =>
              cases hnd : acc op with
              | false =>
                have HG := hide (show E4 = E5 by have h := unhide HE5; rw [hnd] at h; simpa using h)
                clear hnd
                go_wp2_with fail
                go_meet
                exact ⟨by rw [unhide HG], rfl⟩
              | true =>
                have h := unhide HE5
                rw [hnd, if_pos rfl] at h
                obtain ⟨ho0, ho1⟩ := unhide HOf
                have hwr : IntKind.i64.wrap of = of := by rw [IntKind.wrap_i64]; omega
                have hbL := (unhide HB).2.2.2.1
                have hlz := (unhide HLd).2.2
                generalize dec of = Dz at *
                obtain ⟨G5, hG5⟩ : ∃ A, E4 ++ [32, 43] = A := ⟨_, rfl⟩
                have lG5 : G5.length = E4.length + 2 := by rw [← hG5]; simp
                have q9 := fun W => cat (A := str E4) (B := ⟨#[32, 43]⟩) (C := str G5) rfl rfl (by rw [hG5]) (by simp; omega) W
                obtain ⟨G6, hG6⟩ : ∃ A, G5 ++ Dz = A := ⟨_, rfl⟩
                have lG6 : G6.length = G5.length + Dz.length := by rw [← hG6]; simp
                have q10 := fun W => cat (A := str G5) (B := str Dz) (C := str G6) rfl rfl (by rw [hG6]) (by omega) W
                have HG := hide (show G6 = E5 by rw [← h, ← hG6, ← hG5]; simp)
                clear hG5 hG6 lG5 lG6 h hbL hlz hnd
                go_wp2_with fail
                refine (unhide HDo _).mono ?_
                rintro e ww ⟨rfl, rfl⟩
                go_wp2_with fail
                go_meet
                exact ⟨by rw [unhide HG], rfl⟩
            case rest =>
              obtain ⟨rfl, rfl⟩ := hcut
              go_wp2_with fail
              refine (unhide HEn _).mono ?_
              rintro e ww ⟨rfl, rfl⟩
              clear HDo HE5 HLd
              cases hen : ends op with
              | false =>
                have HX := hide (show E5 = E6 by have h := unhide HE6; rw [hen] at h; simpa using h)
                clear hen HE6
                go_upto_if 127 with fail
                refine tx_next y1 yl5 Hnl (hide (unhide HNN2 _ (unhide HW8))) HWn (by have h := unhide HX; simpa  using h) (unhide HB).2.2.2.2.2 hnlN (fun v9 v128 v129 v130 v131 v132 v133 v134 v135 v136 v137 v138 v139 v140 v141 v142 v143 v144 v145 => ?_)
                dsimp only
                go_wp2
                exact (unhide HN) _ _ _ _ _ _ _ _ _ _ _ _ _ _ _ _ _ _ _ _ _ _ _ _ _ _ _ _ _ _ _ _ _ _ _ _ _ _ _ _ _ _ _ _ _ _ _ _ _ _ _ _ _ _ _ _ _ _ _ _ _ _ _ _ _ _ _ _ _ _ _ _ _ _ _ _ _ _ _ _ _ _ _ _ _ _ _ _ _ _ _ _ _ _ _ _ _ _ _ _ _ _ _ _ (unhide HW8)
              | true =>
                have h := unhide HE6
                rw [hen] at h
                clear hen HE6
                by_cases hn0 : 0 < nl
                · have hn1 : (0 : Int) < nl := by omega
                  have HX := hide h
                  clear h
                  go_upto_if 127 with fail
                  refine tx_next y1 yl5 Hnl (hide (unhide HNN2 _ (unhide HW8))) HWn (by have h := unhide HX; simpa [hn0] using h) (unhide HB).2.2.2.2.2 hnlN (fun v9 v128 v129 v130 v131 v132 v133 v134 v135 v136 v137 v138 v139 v140 v141 v142 v143 v144 v145 => ?_)
                  dsimp only
                  go_wp2
                  exact (unhide HN) _ _ _ _ _ _ _ _ _ _ _ _ _ _ _ _ _ _ _ _ _ _ _ _ _ _ _ _ _ _ _ _ _ _ _ _ _ _ _ _ _ _ _ _ _ _ _ _ _ _ _ _ _ _ _ _ _ _ _ _ _ _ _ _ _ _ _ _ _ _ _ _ _ _ _ _ _ _ _ _ _ _ _ _ _ _ _ _ _ _ _ _ _ _ _ _ _ _ _ _ _ _ _ _ (unhide HW8)
                · have hn1 : ¬ (0 : Int) < nl := by omega
                  have HX := hide h
                  clear h
                  go_upto_if 127 with fail
                  refine tx_next y1 yl5 Hnl (hide (unhide HNN2 _ (unhide HW8))) HWn (by have h := unhide HX; simpa [hn0] using h) (unhide HB).2.2.2.2.2 hnlN (fun v9 v128 v129 v130 v131 v132 v133 v134 v135 v136 v137 v138 v139 v140 v141 v142 v143 v144 v145 => ?_)
                  dsimp only
                  go_wp2
                  exact (unhide HN) _ _ _ _ _ _ _ _ _ _ _ _ _ _ _ _ _ _ _ _ _ _ _ _ _ _ _ _ _ _ _ _ _ _ _ _ _ _ _ _ _ _ _ _ _ _ _ _ _ _ _ _ _ _ _ _ _ _ _ _ _ _ _ _ _ _ _ _ _ _ _ _ _ _ _ _ _ _ _ _ _ _ _ _ _ _ _ _ _ _ _ _ _ _ _ _ _ _ _ _ _ _ _ _ (unhide HW8)
end Vc
end Go.Proofs.YtgelkfmdkmopbaaDoor

/- The document's Text. By mkrtext.py. -/
namespace Go.Proofs.YtgelkfmdkmopbaaDoor
open Go.RowKit
namespace Vc
set_option linter.unusedVariables false
set_option linter.unusedSimpArgs false

set_option maxRecDepth 100000 in
set_option maxHeartbeats 12800000 in
theorem rtext_any (c : Co) (hc : WfC c) (hck : chk c = true) (g : Nat → Prop) (v : Value) (w : World) (hv : Bls w g c.bl v) (hl : (txt c).length ≤ 68719476736) :
    Calls Tryd.prog 17 #[.agg #[.int .i64 c.pa, .int .i64 c.re, .bool c.rs, v]] w fun e w' => e = .returned (.string (str (txt c))) ∧ Below w.heap.size w w' := by
  have hok := chk_ins hc hck
  have hlen := hc.len
  have hwf := hc.bl
  have hpa := hc.pa; have hre := hc.re
  have hdp := fun W => rdig_any c.pa hc.pa W
  have hdr := fun W => rdig_any c.re hc.re W
  have hlp := dec_len _ hc.pa; have hlr := dec_len _ hc.re
  obtain ⟨a, cp, rfl, hcp, _, hA⟩ := hv
  clear hc hck
  have hT : txt c = first c ++ txtB 0 c.bl := rfl
  have hF : first c = [114, 101, 103, 115, 32] ++ dec c.re ++ [32, 112, 97, 114, 97, 109, 115, 32] ++ dec c.pa ++ (if c.rs then [32, 114, 101, 115, 117, 108, 116] else []) ++ [10] := rfl
  have hL0 : (first c).length + (txtB 0 c.bl).length ≤ 68719476736 := by rw [← List.length_append]; exact hl
  have hbt := fun j b h => txtB_take c.bl j b h
  have hbl := fun j => txtB_le c.bl j
  obtain ⟨T1, hT1⟩ : ∃ T, txt c = T := ⟨_, rfl⟩
  obtain ⟨F1, hF1⟩ : ∃ F, first c = F := ⟨_, rfl⟩
  rw [hT1] at hT
  rw [hF1] at hT hF hL0
  rw [hT1]
  obtain ⟨pa, re, rs, bl⟩ := c
  simp only at *
  generalize dec pa = dp at *
  generalize dec re = dr at *
  have HT := hide hT; have HL0 := hide hL0; have HBt := hide hbt; have HBl := hide hbl; have HA := hide hA; have HOk := hide hok; have HWf := hide hwf; have HDp := hide hdp; have HDr := hide hdr
  clear hT hL0 hbt hbl hA hok hwf hdp hdr hl hT1 hF1 hpa hre
  have hb0 := one_alloc w (.cells #[.int .i64 pa, .int .i64 re, .bool rs, .slice a bl.length cp] 24)
  have rB := heap_alloc_new w (.cells #[.int .i64 pa, .int .i64 re, .bool rs, .slice a bl.length cp] 24)
  have HB0 := hide hb0; have HRB := hide rB
  clear hb0 rB
  generalize hnb : bl.length = n at *
  have HNb := hide hnb; clear hnb
  obtain ⟨A1, hA1⟩ : ∃ A, [114, 101, 103, 115, 32] ++ dr = A := ⟨_, rfl⟩
  have lA1 : A1.length = 5 + dr.length := by rw [← hA1]; simp; omega
  have q01 := fun W => cat (A := ⟨#[114, 101, 103, 115, 32]⟩) (B := str dr) (C := str A1) rfl rfl (by rw [hA1]) (by simp; omega) W
  obtain ⟨A2, hA2⟩ : ∃ A, A1 ++ [32, 112, 97, 114, 97, 109, 115, 32] = A := ⟨_, rfl⟩
  have lA2 : A2.length = A1.length + 8 := by rw [← hA2]; simp
  have q1 := fun W => cat (A := str A1) (B := ⟨#[32, 112, 97, 114, 97, 109, 115, 32]⟩) (C := str A2) rfl rfl (by rw [hA2]) (by simp; omega) W
  obtain ⟨A3, hA3⟩ : ∃ A, A2 ++ dp = A := ⟨_, rfl⟩
  have lA3 : A3.length = A2.length + dp.length := by rw [← hA3]; simp
  have q2 := fun W => cat (A := str A2) (B := str dp) (C := str A3) rfl rfl (by rw [hA3]) (by omega) W
  have hFF : ∃ A4, (if rs then A3 ++ [32, 114, 101, 115, 117, 108, 116] else A3) = A4 ∧ A4 ++ [10] = F1 ∧ A4.length ≤ 100 := by
    refine ⟨_, rfl, ?_, ?_⟩
    · rw [hF, ← hA3, ← hA2, ← hA1]; cases rs <;> simp
    · cases rs <;> simp <;> omega
  obtain ⟨A4, hA4, hA5, lA4⟩ := hFF
  have q02 := fun W => cat (A := str A3) (B := ⟨#[32, 114, 101, 115, 117, 108, 116]⟩) (C := str (A3 ++ [32, 114, 101, 115, 117, 108, 116])) rfl rfl rfl (by simp; omega) W
  have q03 := fun W => cat (A := str A4) (B := ⟨#[10]⟩) (C := str F1) rfl rfl (by rw [← hA5]) (by simp; omega) W
  have HA4 := hide hA4
  clear hA1 hA2 hA3 hA5 hF hA4 lA1 lA2 lA3 lA4 hlp hlr
  go_enter Tryd.func17, Tryd.ntmps17
  go_upto_region 1 with fail
  generalize w.alloc (.cells #[.int .i64 pa, .int .i64 re, .bool rs, .slice a n cp] 24) = W at *
  have hce : ∀ wx, Below W.heap.size W wx → wx.cell? ⟨w.heap.size, 0, none⟩ = some (.int .i64 pa) ∧ wx.cell? ⟨w.heap.size, 1, none⟩ = some (.int .i64 re) ∧ wx.cell? ⟨w.heap.size, 2, none⟩ = some (.bool rs) ∧ wx.cell? ⟨w.heap.size, 3, none⟩ = some (.slice a n cp) ∧ w.heap.size < wx.heap.size := by
    intro wx hb
    have q := (hb.block _ (Array.getElem?_eq_some_iff.1 (unhide HRB)).1).trans (unhide HRB)
    refine ⟨?_, ?_, ?_, ?_, (Array.getElem?_eq_some_iff.1 q).1⟩ <;> (rw [cell_of_row wx _ _ _ _ _ q]; rfl)
  have HCe := hide hce
  have HWW := hide (fun wx (h : Below W.heap.size W wx) => (unhide HB0).trans (h.mono (unhide HB0).size))
  obtain ⟨x0, x1, x2, x3, xl⟩ := hce W (Below.refl _ _)
  clear hce
  go_quiet ((first | (go_at_call_of 32 (Value.int .i64 re); exact Calls.quiet_of_same (unhide HDr _)) | (go_at_call_of 32 (Value.int .i64 pa); exact Calls.quiet_of_same (unhide HDp _)) | fail))
  generalize hWd : W.drewN nq = Wd at *
  have hbd : Below W.heap.size W Wd := by rw [← hWd]; exact drewn W _
  clear x0 x1 x2 x3 xl hWd
  obtain ⟨x0, x1, x2, x3, xl⟩ := unhide HCe Wd hbd
  have HBd := hide hbd
  clear hbd q01 HDp HDr
  go_upto_if 20 with fail
  go_cut [3] (fun v wx => v = .string (str A4) ∧ wx = Wd)
  case first =>
    cases rs with
    | false =>
      simp only [Bool.false_eq_true, if_false] at HA4
      go_wp2_with fail
      go_meet
      exact ⟨by rw [unhide HA4], rfl⟩
    | true =>
      simp only [if_true] at HA4
      go_wp2_with fail
      go_meet
      exact ⟨by rw [← unhide HA4], rfl⟩
  case rest =>
    obtain ⟨rfl, rfl⟩ := hcut
    go_wp2_with fail
    go_loopw [3, 4] (fun s c wr => ∃ (j : Nat) (L : List UInt8), s = .string (str L) ∧ c = .int .i64 j ∧ (j : Int) ≤ n ∧ L = F1 ++ txtB 0 (bl.take j) ∧ Below W.heap.size W wr) (fun _ c _ => n - (intOf c).toNat)
    case atStart => exact ⟨0, F1, rfl, rfl, by omega, by simp [txtB], unhide HBd⟩
    case round =>
      obtain ⟨j, P1, rfl, rfl, hj, hP1, hbel⟩ := hrel
      have HP1 := hide hP1; have HBel := hide hbel
      clear hP1 x0 x1 x2 x3 xl
      obtain ⟨x0, x1, x2, x3, xl⟩ := unhide HCe wr hbel
      by_cases hlt : (j : Int) < n
      · obtain ⟨x, hx⟩ : ∃ x, bl[j]? = some x := ⟨_, List.getElem?_eq_getElem (by have := unhide HNb; omega)⟩
        have hmem := List.mem_of_getElem? hx
        have hwx := unhide HWf x hmem
        have hox := unhide HOk x hmem
        have hlow := unhide HWW wr hbel
        obtain ⟨b, o, rfl, hgb, hblt, hit⟩ := unhide HA (by omega)
        obtain ⟨cs, hcl, ⟨vi, vn, rfl, hi, hn⟩, hce⟩ := hit j x hx
        have cc := fun i u hu => (hlow.cell (p := ⟨b, o + j * 3 + i, none⟩) hblt).trans (hce i u hu)
        have e0 := cc 0 _ rfl; have e1 := cc 1 _ rfl; have e2 := cc 2 _ rfl
        simp only [Nat.add_zero] at e0
        have hbw : b < wr.heap.size := World.block_lt_of_cell? wr _ e0
        have hq := unhide HBt j x hx
        have hq2 := unhide HBl (j + 1)
        have hP2 : F1 ++ txtB 0 (bl.take (j + 1)) = P1 ++ (hdB (j : Int) x.dep ++ insT x.ins x.next) := by rw [hq, unhide HP1]; simp
        have hPl : P1.length + ((hdB (j : Int) x.dep).length + (insT x.ins x.next).length) ≤ 68719476736 := by
          have a1 : (F1 ++ txtB 0 (bl.take (j + 1))).length = P1.length + ((hdB (j : Int) x.dep).length + (insT x.ins x.next).length) := by rw [hP2]; simp
          rw [List.length_append] at a1; have := unhide HL0; omega
        obtain ⟨ai, ci, rfl, hci, _, hII⟩ := hi
        obtain ⟨an, cn, rfl, hcn, _, hNN⟩ := hn
        obtain ⟨ins, next, dep⟩ := x
        simp only at *
        have hdep := hwx.dep; simp only at hdep
        have hileN := hwx.len; have hnleN := hwx.nlen
        simp only at hileN hnleN
        have hji : i64 (j : Int) := ⟨by omega, by omega⟩
        have hd1 := fun W => rdig_any (j : Int) hji W
        have hd2 := fun W => rdig_any dep hdep W
        have ld1 := dec_len _ hji; have ld2 := dec_len _ hdep
        have hhd : hdB (j : Int) dep = [98, 108, 111, 99, 107, 32] ++ dec (j : Int) ++ [32, 100, 101, 112, 116, 104, 32] ++ dec dep ++ [10] := rfl
        obtain ⟨H1, hH1⟩ : ∃ H, hdB (j : Int) dep = H := ⟨_, rfl⟩
        rw [hH1] at hP2 hPl hhd
        generalize dec (j : Int) = D1 at *
        generalize dec dep = D2 at *
        obtain ⟨B1, hB1⟩ : ∃ A, P1 ++ [98, 108, 111, 99, 107, 32] = A := ⟨_, rfl⟩
        have lB1 : B1.length = P1.length + 6 := by rw [← hB1]; simp
        have q3 := fun W => cat (A := str P1) (B := ⟨#[98, 108, 111, 99, 107, 32]⟩) (C := str B1) rfl rfl (by rw [hB1]) (by simp; omega) W
        obtain ⟨B2, hB2⟩ : ∃ A, B1 ++ D1 = A := ⟨_, rfl⟩
        have lB2 : B2.length = B1.length + D1.length := by rw [← hB2]; simp
        have q4 := fun W => cat (A := str B1) (B := str D1) (C := str B2) rfl rfl (by rw [hB2]) (by omega) W
        obtain ⟨B3, hB3⟩ : ∃ A, B2 ++ [32, 100, 101, 112, 116, 104, 32] = A := ⟨_, rfl⟩
        have lB3 : B3.length = B2.length + 7 := by rw [← hB3]; simp
        have q5 := fun W => cat (A := str B2) (B := ⟨#[32, 100, 101, 112, 116, 104, 32]⟩) (C := str B3) rfl rfl (by rw [hB3]) (by simp; omega) W
        obtain ⟨B4, hB4⟩ : ∃ A, B3 ++ D2 = A := ⟨_, rfl⟩
        have lB4 : B4.length = B3.length + D2.length := by rw [← hB4]; simp
        have q6 := fun W => cat (A := str B3) (B := str D2) (C := str B4) rfl rfl (by rw [hB4]) (by omega) W
        obtain ⟨B5, hB5⟩ : ∃ A, B4 ++ [10] = A := ⟨_, rfl⟩
        have lB5 : B5.length = B4.length + 1 := by rw [← hB5]; simp
        have q7 := fun W => cat (A := str B4) (B := ⟨#[10]⟩) (C := str B5) rfl rfl (by rw [hB5]) (by simp; omega) W
        have HP2 := hide (show F1 ++ txtB 0 (bl.take (j + 1)) = B5 ++ insT ins next by rw [hP2, hhd, ← hB5, ← hB4, ← hB3, ← hB2, ← hB1]; simp)
        have hPl2 : B5.length + (insT ins next).length ≤ 68719476736 := by
          have : B5.length = P1.length + H1.length := by rw [hhd, ← hB5, ← hB4, ← hB3, ← hB2, ← hB1]; simp <;> omega
          omega
        have HPl2 := hide hPl2
        have HD1 := hide hd1; have HD2 := hide hd2; have HII := hide hII; have HNN := hide hNN; have HWx := hide hwx; have HOx := hide hox
        have hitk := fun k z h => it_take ins next k z h
        have hitl := fun k => it_le ins next k
        have HIt := hide hitk; have HIl := hide hitl
        clear hx hmem hwx hox hlow hit hcl hce cc hq hq2 hP2 hPl hd1 hd2 hhd hH1 hII hNN hPl2 hB1 hB2 hB3 hB4 hB5 lB1 lB2 lB3 lB4 lB5 ld1 ld2 hdep hji hj hbel hitk hitl
        generalize hil : ins.length = il at *
        generalize hnl : next.length = nl at *
        have Hil := hide hil; have Hnl := hide hnl
        clear hil hnl
        go_upto_region 9 with fail
        have hal := one_alloc wr (.cells #[.slice ai il ci, .slice an nl cn, .int .i64 dep] 54)
        have rb := heap_alloc_new wr (.cells #[.slice ai il ci, .slice an nl cn, .int .i64 dep] 54)
        have HAl := hide hal; have HRb := hide rb
        clear hal rb e0 e1 e2 x0 x1 x2 x3 xl
        generalize wr.alloc (.cells #[.slice ai il ci, .slice an nl cn, .int .i64 dep] 54) = W3 at *
        have HW3 := hide ((unhide HBel).trans ((unhide HAl).mono (unhide HBel).size))
        have hce3 : ∀ wx, Below W3.heap.size W3 wx → (wx.cell? ⟨wr.heap.size, 0, none⟩ = some (.slice ai il ci) ∧ wx.cell? ⟨wr.heap.size, 1, none⟩ = some (.slice an nl cn) ∧ wx.cell? ⟨wr.heap.size, 2, none⟩ = some (.int .i64 dep) ∧ wr.heap.size < wx.heap.size) ∧ Below W.heap.size W wx := by
          intro wx hb
          have q := (hb.block _ (Array.getElem?_eq_some_iff.1 (unhide HRb)).1).trans (unhide HRb)
          refine ⟨⟨?_, ?_, ?_, (Array.getElem?_eq_some_iff.1 q).1⟩, (unhide HW3).trans (hb.mono (unhide HW3).size)⟩ <;> (rw [cell_of_row wx _ _ _ _ _ q]; rfl)
        have HCe3 := hide hce3
        obtain ⟨⟨y0, y1, y2, yl⟩, hbW⟩ := hce3 W3 (Below.refl _ _)
        clear hce3 hbW
        go_quiet ((first | (go_at_call_of 32 (Value.int .i64 (j : Int)); exact Calls.quiet_of_same (unhide HD1 _)) | (go_at_call_of 32 (Value.int .i64 dep); exact Calls.quiet_of_same (unhide HD2 _)) | fail))
        generalize hW4 : W3.drewN nq = W4 at *
        have hb34 : Below W3.heap.size W3 W4 := by rw [← hW4]; exact drewn W3 _
        have HB34 := hide hb34
        clear hW4 y0 y1 y2 yl  HD1 HD2
        obtain ⟨⟨y0, y1, y2, yl⟩, hbW⟩ := unhide HCe3 W4 hb34
        clear hb34 hbW
        go_wp2_with fail
        generalize wr = WO at *
        go_loopw [3, 6] (fun s c wq => ∃ (k : Nat) (L : List UInt8), s = .string (str L) ∧ c = .int .i64 k ∧ (k : Int) ≤ il ∧ L = B5 ++ insT (ins.take k) next ∧ Below W3.heap.size W3 wq) (fun _ c _ => il - (intOf c).toNat)
        case atStart => exact ⟨0, B5, rfl, rfl, by omega, by simp [insT], unhide HB34⟩
        case round =>
          obtain ⟨k, R1, rfl, rfl, hk, hR1, hb4⟩ := hrel
          have HR1 := hide hR1; have HB4 := hide hb4
          clear hR1 y0 y1 y2 yl
          obtain ⟨⟨y0, y1, y2, yl⟩, hbW⟩ := unhide HCe3 wr hb4
          have HBW := hide hbW; have HLow := hide (unhide HWW wr hbW)
          clear hbW hb4
          by_cases hklt : (k : Int) < il
          · obtain ⟨y, hy⟩ : ∃ y, ins[k]? = some y := ⟨_, List.getElem?_eq_getElem (by have := unhide Hil; omega)⟩
            have hmy := List.mem_of_getElem? hy
            have hwy := (unhide HWx).ins y hmy
            have hoy := unhide HOx y hmy
            obtain ⟨bi, oi, rfl, hgi, hbi, hit⟩ := unhide HII (by have := unhide Hil; omega)
            obtain ⟨cs, hcl, ⟨vs, rfl, hs⟩, hce⟩ := hit k y hy
            have cc := fun i u hu => ((unhide HLow).cell (p := ⟨bi, oi + k * 5 + i, none⟩) hbi).trans (hce i u hu)
            have f0 := cc 0 _ rfl; have f1 := cc 1 _ rfl; have f2 := cc 2 _ rfl; have f3 := cc 3 _ rfl; have f4 := cc 4 _ rfl
            simp only [Nat.add_zero] at f0
            have hbiw : bi < wr.heap.size := World.block_lt_of_cell? wr _ f0
            have hR2 : B5 ++ insT (ins.take (k + 1)) next = R1 ++ line y next := by rw [unhide HIt k y hy, unhide HR1]; simp
            have hRl : R1.length + (line y next).length ≤ 68719476736 := by
              have a1 := unhide HIl (k + 1)
              have a2 : (B5 ++ insT (ins.take (k + 1)) next).length = R1.length + (line y next).length := by rw [hR2, List.length_append]
              rw [List.length_append] at a2; have := unhide HPl2; omega
            obtain ⟨sa, sc, rfl, hsc, _, hSS⟩ := hs
            have hbo := (unhide HWx).next
            simp only at hbo
            obtain ⟨op, dst, src, nn, of⟩ := y
            simp only at *
            have g0 := hwy.op; have g1 := hwy.dst; have g2 := hwy.n; have g3 := hwy.of0; have g4 := hwy.of1; have g5 := hwy.src; have g6 := hwy.len
            simp only at g0 g1 g2 g3 g4 g5 g6
            have hSS2 : 0 < src.length → ∃ (bs os : Nat), sa = some ⟨bs, os, none⟩ ∧ ∀ i, i < src.length → wr.cell? ⟨bs, os + i, none⟩ = some (.int .i64 (src.getD i 0)) := by
              intro h0
              obtain ⟨bs, os, e, _, hlb⟩ := hSS h0
              exact ⟨bs, os, e, fun i hi => ((unhide HLow).cell (p := ⟨bs, os + i, none⟩) (World.block_lt_of_cell? w _ (hlb i hi))).trans (hlb i hi)⟩
            have hNN2 : 0 < nl → ∃ (bs os : Nat), an = some ⟨bs, os, none⟩ ∧ ∀ i, i < nl → wr.cell? ⟨bs, os + i, none⟩ = some (.int .i64 (next.getD i 0)) := by
              intro h0
              obtain ⟨bs, os, e, _, hlb⟩ := unhide HNN h0
              have hlb2 := fun i (hi : i < nl) => hlb i (by rw [unhide Hnl]; exact hi)
              exact ⟨bs, os, e, fun i hi => ((unhide HLow).cell (p := ⟨bs, os + i, none⟩) (World.block_lt_of_cell? w _ (hlb2 i hi))).trans (hlb2 i hi)⟩
            have hlE : (R1 ++ line ⟨op, dst, src, nn, of⟩ next).length ≤ 68719476736 := by rw [List.length_append]; exact hRl
            have HFin := hide hR2
            have HSS2 := hide hSS2; have HNN2 := hide hNN2
            clear hy hmy hit hcl hce cc hR2 hRl hSS hSS2 hNN2 hwy
            exact tx_ins hklt g0 y0 y1 yl f0 f1 f2 f3 f4 HSS2 HNN2 (hide rfl) Hnl (by omega) (by omega) (by omega) (hide g5) (hide hbo) g1 hoy.1 g2 ⟨g3, by omega⟩ hoy.2 rfl hlE (fun v7 v8 v9 v48 v49 v50 v51 v52 v53 v54 v55 v56 v57 v58 v59 v60 v61 v62 v63 v64 v65 v66 v67 v68 v69 v70 v71 v72 v73 v74 v75 v76 v77 v78 v79 v80 v81 v82 v83 v84 v85 v86 v87 v88 v89 v90 v91 v92 v93 v94 v95 v96 v97 v98 v99 v100 v101 v102 v103 v104 v105 v106 v107 v108 v109 v110 v111 v112 v113 v114 v115 v116 v117 v118 v119 v120 v121 v122 v123 v124 v125 v126 v127 v128 v129 v130 v131 v132 v133 v134 v135 v136 v137 v138 v139 v140 v141 v142 v143 v144 v145 v146 v147 w' hb' => by
              dsimp only
              have HB' := hide ((unhide HB4).trans (hb'.mono (unhide HB4).size))
              clear hb'
              go_wp2
              go_roundw
              case rel => exact ⟨k + 1, R1 ++ line ⟨op, dst, src, nn, of⟩ next, rfl, by go_num, by omega, (unhide HFin).symm, unhide HB'⟩
              case measure => simp [intOf]; omega)
          · obtain rfl : il = k := by omega
            have hPP : F1 ++ txtB 0 (bl.take (j + 1)) = R1 := by
              rw [unhide HP2, unhide HR1, ← unhide Hil, List.take_length]
            have HPP := hide hPP
            clear hPP hk hklt
            go_wp2
            go_roundw
            case rel => exact ⟨j + 1, R1, rfl, by go_num, by omega, (unhide HPP).symm, unhide HBW⟩
            case measure => simp [intOf]; omega
      · obtain rfl : n = j := by omega
        have hTT : P1 = T1 := by
          rw [unhide HT, unhide HP1, ← unhide HNb, List.take_length]
        have HTT := hide (show str P1 = str T1 by rw [hTT])
        have HLowE := hide (unhide HWW wr hbel)
        clear hj hlt hbel hTT
        go_wp2
        go_ret
        exact ⟨ret_str (unhide HTT), unhide HLowE⟩
end Vc
end Go.Proofs.YtgelkfmdkmopbaaDoor
