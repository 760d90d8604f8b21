/- LBack: what follows, part by part: each part tells what it holds. -/
import Derived.Test.YtcmidegffpehoaaDoorZA
import Derived.Test.YtcmidegffpehoaaDoorZB
import Derived.Test.YtcmidegffpehoaaDoorConv
import Derived.Deep.RegionHeld3
import Derived.Test.YtcmidegffpehoaaDoorScT
import Derived.PinnedBridge
import Derived.Test.YtcmidegffpehoaaDoorNum
import Derived.ProofKit
import Derived.OpenShut
import Derived.ShutString
import Derived.ChangeOld
import Derived.ChangeSame
import Derived.ChangeVars
import Derived.JoinedOf
import Derived.RowKit
import Derived.RowKitTokens
import Derived.LaidLaws
import Derived.LaidHandle
import Derived.Stop.Joined
import Derived.Test.YtcmidegffpehoaaDoorRows
import Derived.WalkKit
import Derived.Below
import Derived.Test.YtcmidegffpehoaaDoorTie
import Derived.Test.YtcmidegffpehoaaDoorCards

/- SectBack: what is joined is split as itself. -/
namespace Go.Proofs.YtcmidegffpehoaaDoor
open Go.RowKit
namespace Sc
set_option linter.unusedVariables false
set_option linter.unusedSimpArgs false

theorem row_take {w : World} {a : Option Addr} {len : Nat} {zs : List Int} (h : Row w a len zs) (m : Nat) (hm : m ≤ len) : Row w a m (zs.take m) := by
  obtain ⟨h1, h2, h3⟩ := h
  refine ⟨by simp; omega, fun z hz => h2 z (List.mem_of_mem_take hz), fun h0 => ?_⟩
  obtain ⟨b, o, e, hb, hc⟩ := h3 (by omega)
  refine ⟨b, o, e, hb, fun i hi => ?_⟩
  rw [hc i (by omega)]
  simp [List.getD, hi]
theorem row_grown {w w' : World} {a : Option Addr} {len : Nat} {zs : List Int} {r : Option Nat} (h : Row w a len zs) (hg : w.grownBy w' r) (hr : ∀ b o, a = some ⟨b, o, none⟩ → some b ≠ r) : Row w' a len zs := by
  refine ⟨h.1, h.2.1, fun h0 => ?_⟩
  obtain ⟨b, o, e, hb, hc⟩ := h.2.2 h0
  exact ⟨b, o, e, Nat.lt_of_lt_of_le hb hg.size, fun i hi => hg.cell (a := ⟨b, o + i, none⟩) (hc i hi) (hr b o e)⟩
theorem last_below {w w' : World} {ma : Option Addr} {l : List Sec} (hb : Below w.heap.size w w') (h : 0 < l.length → ∃ (bm om : Nat) (x5 : Option Addr) (L y5 : Nat) (r : List Sec) (s : Sec), ma = some ⟨bm, om, none⟩ ∧ l = r ++ [s] ∧ L = s.bs.length ∧ w.cell? ⟨bm, om + (l.length - 1) * 3 + 2, none⟩ = some (.slice x5 L y5)) :
    0 < l.length → ∃ (bm om : Nat) (x5 : Option Addr) (L y5 : Nat) (r : List Sec) (s : Sec), ma = some ⟨bm, om, none⟩ ∧ l = r ++ [s] ∧ L = s.bs.length ∧ w'.cell? ⟨bm, om + (l.length - 1) * 3 + 2, none⟩ = some (.slice x5 L y5) := by
  intro hl
  obtain ⟨bm, om, x5, L, y5, r, s, q1, q2, q3, q4⟩ := h hl
  exact ⟨bm, om, x5, L, y5, r, s, q1, q2, q3, (cel_move (hb.block bm (block_lt_of_cell q4)) _).trans q4⟩
set_option maxRecDepth 100000 in
set_option maxHeartbeats 12800000 in
theorem sback_any {v : Value} {l : List Sec} {cut : Int} {w : World} (h : SecL w l v) (hid : ∀ s ∈ l, 0 ≤ s.id ∧ s.id ≤ 255) (hbs : ∀ s ∈ l, ∀ z ∈ s.bs, 0 ≤ z ∧ z ≤ 255) (hE : ErrT w) (hT : U8 w) :
    Calls Tryd.prog 6 #[v, .int .i64 cut] w fun e w' => e = .returned (.bool true) ∧ Below w.heap.size w w' := by
  obtain ⟨va, vc, rfl, hvc, _, hit⟩ := h
  have HIt := hide hit; have HE := hide hE; have HT := hide hT; have HId := hide hid; have HBs := hide hbs
  clear hit hE hT hid hbs
  obtain ⟨i0, hi, hz0, hz1, hz2⟩ := info_parts infoS
  go_enter Tryd.func6, Tryd.ntmps6
  go_wp2_with fail
  go_loopg [5, 6] (l.length + 1) (fun gk s5 s6 wr => ∃ (k : Nat), s6 = .int .i64 k ∧ s5 = .int .i64 (sm (l.take k)) ∧ k ≤ l.length ∧ k ≤ 100 ∧ l.length - k < gk ∧ Hid (Below w.heap.size w wr))
  case atStart => exact ⟨0, rfl, rfl, by omega, by omega, by omega, hide (Below.refl _ _)⟩
  case round =>
    obtain ⟨k, rfl, rfl, hkl, hk1, hgk, HB⟩ := hrel
    by_cases hk : k < l.length ∧ k < 100
    · obtain ⟨g', rfl⟩ : ∃ g', gk = g' + 1 := ⟨gk - 1, by omega⟩
      have hkz : (k : Int) < (l.length : Int) := by omega
      have hkz2 : (k : Int) < 100 := by omega
      obtain ⟨b, o, rfl, hlt, hx⟩ := unhide HIt k hk.1
      have hst := sm_take l k hk.1
      have hsb := sm_bd (l.take k)
      have htl : (l.take k).length = k := by simp; omega
      rw [htl] at hsb
      obtain ⟨⟨id, at_, bs⟩, hs⟩ : ∃ s, l[k] = s := ⟨_, rfl⟩
      rw [hs] at hx hst
      obtain ⟨d0, d1, bv, d2', x1, y1, rfl, hy, _, r1, _⟩ := hx.below (unhide HB) hlt
      have d2 : wr.cell? ⟨b, o + k * 3 + 2, none⟩ = some (.slice x1 bs.length y1) := d2'
      simp only at hst
      have HSt := hide hst
      generalize sm (l.take k) = N at *
      generalize bs.length = L at *
      clear hst hs hx d0 d1 d2' r1 hy
      go_wp2
      go_roundg g'
      case measure => omega
      case rel => exact ⟨k + 1, by simp, by rw [unhide HSt], by omega, by omega, by omega, HB⟩
    · by_cases g0 : l.length ≤ 50
      · obtain rfl : k = l.length := by omega
        have g0b : decide (50 < l.length) = false := decide_eq_false (by omega)
        have g0z : ¬ ((50 : Int) < (l.length : Int)) := by omega
        have hnk : ¬ ((l.length : Int) < (l.length : Int)) := by omega
        rw [List.take_length]
        by_cases g1 : sm l ≤ 3000
        · have g1z : ¬ ((3000 : Int) < sm l) := by omega
          have hJl := jb_len g1 g0
          generalize sm l = N at *
          clear hk hk1 hgk hkl
          go_wp2_with fail
          go_loopg [7, 8] (l.length + 1) (fun gk s7 s8 wr => ∃ (k : Nat), s8 = .int .i64 k ∧ k ≤ l.length ∧ l.length - k < gk ∧ Hid (OwnS 37 wr w.heap.size (· < w.heap.size) s7 (l.take k)) ∧ Hid (Below w.heap.size w wr))
          case atStart => exact ⟨0, rfl, by omega, by omega, hide (OwnS_nil _ _ _ _), HB⟩
          case round =>
            clear HB
            obtain ⟨k, rfl, hkl, hgk, HO, HB⟩ := hrel
            by_cases hk : k < l.length
            · obtain ⟨g', rfl⟩ : ∃ g', gk = g' + 1 := ⟨gk - 1, by omega⟩
              have hkz : (k : Int) < (l.length : Int) := by omega
              obtain ⟨b, o, rfl, hlt, hx⟩ := unhide HIt k hk
              have htk := List.take_append_getElem hk
              have htl : (l.take k).length = k := by simp; omega
              obtain ⟨⟨id, at_, bs⟩, hs⟩ : ∃ s, l[k] = s := ⟨_, rfl⟩
              rw [hs] at hx htk
              have HTk := hide htk
              obtain ⟨d0', d1', bv, d2', hby⟩ := hx
              simp only at d0' d1' d2' hby
              have e0 := (cel_move ((unhide HB).block b hlt) _).trans d0'
              have e1 := (cel_move ((unhide HB).block b hlt) _).trans d1'
              have e2 := (cel_move ((unhide HB).block b hlt) _).trans d2'
              have hbz := hby.any (g' := (· < w.heap.size)) (fun k hk _ => hk)
              have hby0 := hby
              obtain ⟨x1, y1, rfl, _⟩ := hby0
              have hby3 := hbz.below (unhide HB)
              have hb4 := one_alloc wr (.cells (cel ⟨id, at_, bs⟩ (.slice x1 bs.length y1)).toArray 37)
              obtain ⟨xs, hxo, hit⟩ := (unhide HO).below hb4
              obtain ⟨sa, sc, rfl, _⟩ := (unhide HO).shape
              have hbyn : Byt (wr.alloc (.cells (cel ⟨id, at_, bs⟩ (.slice x1 bs.length y1)).toArray 37)) (own (· < w.heap.size) (.slice sa (l.take k).length sc)) bs (.slice x1 bs.length y1) := (hby3.below hb4).any fun k _ hk => ⟨fun e => by have := ((unhide HO).lt k e).1; have : k < w.heap.size := hk; omega, hk⟩
              have HXo := hide hxo; have HIt2 := hide hit; have HByn := hide hbyn
              have hwle : w.heap.size ≤ wr.heap.size := (unhide HB).size
              rw [htl] at HO HXo HByn ⊢
              clear hb4 hxo hit hbyn d0' d1' d2' hby hbz hby3 htk hs
              go_wp2_with (at_builtin; refine wpList_append_lies _ rfl (.tmp 55) (.tmp 60) 24 rfl w.heap.size 37 i0 (.agg #[.int .u8 0, .int .i64 0, .slice none 0 0]) 3 40 Tryd.underlying24 hi hz0 hz1 hz2 rfl (by decide) (.slice sa k sc) k xs rfl (unhide HXo) ⟨wr.heap.size, 0, none⟩ 1 1 (cel ⟨id, at_, bs⟩ (.slice x1 bs.length y1)) ?c0 rfl ?c1 ?c2 (by omega) ?c3 ?c4 ?c5 (wr.heap.size + 1) ?c6 ?_)
              case c1 => exact fun j u hj => hj
              case c2 => exact cel_one _ rfl
              case c3 => unfold maxLen; omega
              case c4 => omega
              case c5 => omega
              intro g capn w6 hown6 hgrow hat6 hlt6
              have hOn := OwnS.snoc (l := l.take k) (s := ⟨id, at_, bs⟩) (by rw [htl]; exact unhide HXo) (by rw [htl] at *; exact unhide HIt2) (unhide HByn) (by rw [htl]; exact hown6) hgrow (by rcases hat6 with e | e; exact .inl e; exact .inr (by rw [e]; simp))
              rw [htl, unhide HTk] at hOn
              have hbn : Below w.heap.size w w6 := ((unhide HB).trans ((one_alloc wr _).mono hwle)).trans ((Below.refl w.heap.size _).grown hgrow (by simp; omega) (fun k hk => ((unhide HO).lt k hk).1))
              have HOn := hide hOn; have HBn := hide hbn
              clear hOn hbn hown6 hgrow hat6 hlt6
              go_wp2
              go_roundg g'
              case measure => omega
              case rel => exact ⟨k + 1, by simp, by omega, by omega, HOn, HBn⟩
            · obtain rfl : k = l.length := by omega
              have hkz : ¬ ((l.length : Int) < (l.length : Int)) := by omega
              rw [List.take_length] at HO
              have hjo := join_any (unhide HO).secL (unhide HId) (unhide HBs) (by omega) (Utf8Tabs_below (unhide HT) (unhide HB))
              obtain ⟨oa, oc, rfl, hoc⟩ := (unhide HO).shape
              have HJo := hide hjo
              clear hjo hgk hkl hk
              go_wp2_with fail
              refine (unhide HJo).mono ?_
              rintro e w2 ⟨hb2, hy2, hn2⟩
              have HB2 := hide (Below.on (unhide HB) hb2)
              have HO2 := hide ((unhide HO).below hb2)
              have hownlt := (unhide HO).lt
              have HOl := hide hownlt
              clear hb2 HO HJo hownlt
              cases hjk : jok l 0 with
              | false =>
                obtain rfl := hn2 hjk
                clear hy2 hn2
                go_wp2_with fail
                refine (sure_any _ (Utf8Tabs_below (unhide HT) (unhide HB2))).mono ?_
                rintro e w5 ⟨rfl, hb5⟩
                have HB5 := hide (Below.on (unhide HB2) hb5); clear hb5
                go_wp2
                go_ret
                exact ⟨rfl, unhide HB5⟩
              | true =>
                obtain ⟨bv, rfl, hby⟩ := hy2 hjk
                clear hy2 hn2
                have hJ1 : (JB l).length ≤ 50000 := by omega
                have hSj := (S_join hJ1).1 hjk
                have hdr : (JB l).drop 8 = l.flatMap encS := List.drop_left' rfl
                have hJ8 : 8 ≤ (JB l).length := by simp [JB, hd]
                have HDr := hide hdr; have HJk := hide hjk
                obtain ⟨ba, cb, rfl, hcb, _, hrow, hgb⟩ := hby
                obtain ⟨bb, ob, rfl, hbb, _⟩ := hrow.2.2 (by omega)
                have hbw : wr.heap.size ≤ bb := by obtain ⟨b', o', e', hg'⟩ := hgb (by omega); simp at e'; omega
                clear hgb
                obtain ⟨ZS, hZS⟩ : ∃ ZS, JB l = ZS := ⟨_, rfl⟩
                rw [hZS] at hSj hrow hcb hJ1 hJ8 hJl HDr ⊢
                have HZS := hide hZS
                have hsp := split_o hrow hcb hJ1 (Utf8Tabs_below (unhide HT) (unhide HB2))
                rw [hSj] at hsp
                have HSp := hide hsp; have HRow := hide hrow
                clear hsp hSj hjk hdr hZS hrow
                go_wp2_with fail
                refine (unhide HSp).mono ?_
                rintro e w3 ⟨v1, rfl, hb3, hy3, _⟩
                rw [errV_0]
                have ho3 := hy3 rfl
                have hs3 := ho3.secL
                have hol := ho3.lt
                have HB3 := hide (Below.on (unhide HB2) hb3); have HO3 := hide ((unhide HO2).below hb3); have HR3 := hide ((unhide HRow).below (Nat.le_refl _) hb3)
                have hbb3 : bb < w3.heap.size := Nat.lt_of_lt_of_le hbb hb3.size
                have hpl := placed_len l 8
                obtain ⟨ma, mc, rfl, hmc, _, hmi⟩ := hs3
                simp only [hpl]
                have HMi := hide hmi
                have HOm := hide hol
                clear hy3 hb3 hmi HSp HO2 HRow HB2 ho3 hol
                go_wp2_with fail
                go_loopg [14, 15] (l.length + 1) (fun gk s14 s15 wr => ∃ (k : Nat) (top : Int), s15 = .int .i64 k ∧ s14 = .int .u8 top ∧ k ≤ l.length ∧ l.length - k < gk ∧ 0 ≤ top ∧ top ≤ 255 ∧ Hid (top = 0 ∨ ∃ s ∈ l, top ≤ s.id) ∧ Hid (Below w3.heap.size w3 wr))
                case atStart => exact ⟨0, 0, rfl, rfl, by omega, by omega, by omega, by omega, hide (.inl rfl), hide (Below.refl _ _)⟩
                case round =>
                  obtain ⟨k, top, rfl, rfl, hkl, hgk, ht0, ht1, HTo, HBr⟩ := hrel
                  by_cases hk : k < l.length
                  · obtain ⟨g', rfl⟩ : ∃ g', gk = g' + 1 := ⟨gk - 1, by omega⟩
                    have hkz2 : (k : Int) < (l.length : Int) := by omega
                    obtain ⟨b1, o1, rfl, hlt1, hx1⟩ := unhide HMi k (by omega)
                    obtain ⟨b2, o2, rfl, hlt2, hx2⟩ := unhide HIt k hk
                    obtain ⟨q, hq1, hq2, hq3, hq4⟩ := placed_at l ZS 8 (unhide HDr) k hk (by omega)
                    have hidk := unhide HId l[k] (List.getElem_mem hk)
                    have hto2 : max top l[k].id = 0 ∨ ∃ s ∈ l, max top l[k].id ≤ s.id := by
                      rcases unhide HTo with h | ⟨s, hs, h⟩
                      · exact .inr ⟨l[k], List.getElem_mem hk, by omega⟩
                      · by_cases hle : top ≤ l[k].id
                        · exact .inr ⟨l[k], List.getElem_mem hk, by omega⟩
                        · exact .inr ⟨s, hs, by omega⟩
                    have HTo2 := hide hto2
                    clear hto2 HTo
                    rw [hq2] at hx1
                    obtain ⟨⟨id, at_, bs⟩, hs⟩ : ∃ s, l[k] = s := ⟨_, rfl⟩
                    rw [hs] at hx1 hx2 hq3 hq4 hidk HTo2
                    simp only at hq3 hq4 hidk HTo2
                    obtain ⟨d0, d1, bv1, d2, hby1⟩ := hx1.below (unhide HBr) hlt1
                    obtain ⟨e0, e1, bv2, e2, hby2⟩ := hx2.below (Below.on (unhide HB3) (unhide HBr)) hlt2
                    simp only at d0 d1 d2 e0 e1 e2 hby1 hby2
                    obtain ⟨x1, y1, rfl, _, _, r1, _⟩ := hby1
                    obtain ⟨x2, y2, rfl, _, _, r2, _⟩ := hby2
                    obtain ⟨St, hSt⟩ : ∃ St, strOfNums bs = St := ⟨_, rfl⟩
                    have HSt := hide hSt
                    have k3 := convS (cap := y1) (r1.below (Nat.le_refl _) (Below.refl _ _).drew) HSt
                    have k4 := convS (cap := y2) (r2.below (Nat.le_refl _) (Below.refl _ _).drew) HSt
                    have hrb := (unhide HR3).below (Nat.le_refl _) (unhide HBr)
                    by_cases hqc : q = cb
                    · have hb0 : bs = [] := List.eq_nil_of_length_eq_zero (by omega)
                      subst hb0
                      have hqz : q = ZS.length := by omega
                      have hcz : cb = ZS.length := by omega
                      subst hcz
                      rw [hqz] at d1
                      have k5 := convS (cap := 0) ((row_none wr (some ⟨bb, ob, none⟩)).below (Nat.le_refl _) (Below.refl _ _).drew) HSt
                      exact bk3_b (q := 0) (L := 0) (by omega) hk (by omega) hvc (Nat.le_refl _) (by omega) g0 (by omega) (by omega) d0 d1 d2 e0 e2 k3 k4 k5 (fun v91 v92 v93 v94 v95 v96 v97 v98 v99 v100 v101 v102 v103 v104 v105 v106 v107 v108 v109 v110 v111 v112 v113 v114 v115 v116 v117 v118 v119 v120 v121 v122 v123 v124 v125 v126 v127 v128 v129 v130 v131 v132 v133 v134 v135 v136 v137 v138 v139 v140 v141 v142 v143 v144 v145 v146 v147 v148 v149 v150 v151 v152 v153 v154 v155 v156 v157 v158 v159 v160 v161 v162 v163 v164 v165 v166 v167 v168 v169 v170 v171 v172 v173 v174 v175 v176 v177 v178 v179 v180 v181 v182 v183 => by
                        dsimp only
                        go_wp2
                        go_roundg g'
                        case measure => omega
                        case rel => exact ⟨k + 1, max top id, by simp, by first | rfl | simp, by omega, by omega, by omega, by omega, HTo2, hide (unhide HBr).drew⟩)
                    · have hqc2 : ¬ cb = q := fun e => hqc e.symm
                      have hrs : Row wr (some ⟨bb, ob + q, none⟩) bs.length bs := by
                        rcases Nat.lt_or_ge q ZS.length with h | h
                        · have := (row_drop hrb q h)
                          have h2 := row_take this bs.length (by omega)
                          rw [hq4] at h2
                          exact h2
                        · have : bs = [] := List.eq_nil_of_length_eq_zero (by omega)
                          rw [this]; exact row_none _ _
                      have k5 := convS (cap := cb - q) (hrs.below (Nat.le_refl _) (Below.refl _ _).drew) HSt
                      exact bk3_a (by omega) hk (by omega) hvc hcb (by omega) g0 (by omega) (by omega) hqc hqc2 d0 d1 d2 e0 e2 k3 k4 k5 (fun v91 v92 v93 v94 v95 v96 v97 v98 v99 v100 v101 v102 v103 v104 v105 v106 v107 v108 v109 v110 v111 v112 v113 v114 v115 v116 v117 v118 v119 v120 v121 v122 v123 v124 v125 v126 v127 v128 v129 v130 v131 v132 v133 v134 v135 v136 v137 v138 v139 v140 v141 v142 v143 v144 v145 v146 v147 v148 v149 v150 v151 v152 v153 v154 v155 v156 v157 v158 v159 v160 v161 v162 v163 v164 v165 v166 v167 v168 v169 v170 v171 v172 v173 v174 v175 v176 v177 v178 v179 v180 v181 v182 v183 => by
                        dsimp only
                        go_wp2
                        go_roundg g'
                        case measure => omega
                        case rel => exact ⟨k + 1, max top id, by simp, by first | rfl | simp, by omega, by omega, by omega, by omega, HTo2, hide (unhide HBr).drew⟩)
                  · obtain rfl : k = l.length := by omega
                    have hkz3 : ¬ ((l.length : Int) < (l.length : Int)) := by omega
                    have HBw := hide (Below.on (unhide HB3) (unhide HBr))
                    have HOr := hide ((unhide HO3).below (unhide HBr))
                    have HRr := hide ((unhide HR3).below (Nat.le_refl _) (unhide HBr))
                    have hlast : 0 < l.length → ∃ (bm om : Nat) (x5 : Option Addr) (L y5 : Nat) (r : List Sec) (s : Sec), ma = some ⟨bm, om, none⟩ ∧ l = r ++ [s] ∧ L = s.bs.length ∧ wr.cell? ⟨bm, om + (l.length - 1) * 3 + 2, none⟩ = some (.slice x5 L y5) := by
                      intro hl
                      obtain ⟨r, s, hrs⟩ : ∃ r s, l = r ++ [s] := by
                        rcases List.eq_nil_or_concat l with h | ⟨r, s, h⟩
                        · rw [h] at hl; simp at hl
                        · exact ⟨r, s, by simpa using h⟩
                      obtain ⟨b1, o1, rfl, hlt1, hx1⟩ := unhide HMi (l.length - 1) (by omega)
                      obtain ⟨q, _, hq2, _, _⟩ := placed_at l ZS 8 (unhide HDr) (l.length - 1) (by omega) (by omega)
                      rw [hq2] at hx1
                      obtain ⟨_, _, bv1, d2, x5, y5, rfl, _⟩ := hx1.below (unhide HBr) hlt1
                      have hls : l[l.length - 1] = s := by simp [hrs]
                      simp only [hls] at d2
                      exact ⟨b1, o1, x5, _, y5, r, s, rfl, hrs, rfl, d2⟩
                    have hJn : ∀ r s, l = r ++ [s] → ∀ L, L = s.bs.length → L ≤ ZS.length := by
                      intro r s hrs L hL
                      rw [← unhide HZS, hrs, hL]
                      simp [JB, encS]; omega
                    have HLr := hide hlast; have HJn := hide hJn; have HLn := hide (fun r s hrs L hL => Nat.le_trans (hJn r s hrs L hL) hJl)
                    clear hlast hJn hgk hkl hk
                    by_cases hp : 0 < top
                    · have hb4 := one_alloc wr (.cells (cel ⟨top, 0, []⟩ (.slice none 0 0)).toArray 37)
                      obtain ⟨xs, hxo, hit⟩ := (unhide HOr).below hb4
                      have hrr4 := (unhide HRr).below (Nat.le_refl _) hb4
                      have HXo := hide hxo; have HIt2 := hide hit; have HRr4 := hide hrr4
                      have hwle : w.heap.size ≤ wr.heap.size := (unhide HBw).size
                      have hjm : jok (l ++ [⟨top, 0, []⟩]) 0 = false := jok_more hp l 0 (by
                        rcases unhide HTo with h | h
                        · omega
                        · exact .inr h)
                      have hid6 : ∀ s ∈ l ++ [(⟨top, 0, []⟩ : Sec)], 0 ≤ s.id ∧ s.id ≤ 255 := by
                        intro s hs
                        rcases List.mem_append.1 hs with h | h
                        · exact unhide HId s h
                        · simp at h; subst h; exact ⟨ht0, ht1⟩
                      have hbs6 : ∀ s ∈ l ++ [(⟨top, 0, []⟩ : Sec)], ∀ z ∈ s.bs, 0 ≤ z ∧ z ≤ 255 := by
                        intro s hs
                        rcases List.mem_append.1 hs with h | h
                        · exact unhide HBs s h
                        · simp at h; subst h; simp
                      have hjb6 : (JB (l ++ [(⟨top, 0, []⟩ : Sec)])).length ≤ 50000 := by
                        have e : JB (l ++ [(⟨top, 0, []⟩ : Sec)]) = JB l ++ encS ⟨top, 0, []⟩ := by simp [JB]
                        rw [e, unhide HZS]
                        have := Leb.bU_len 10 0
                        simp [encS]; omega
                      have HJm := hide hjm; have HId6 := hide hid6; have HBs6 := hide hbs6; have HJb6 := hide hjb6
                      clear hb4 hxo hit hrr4 hjm hid6 hbs6 hjb6
                      go_wp2_with (at_builtin; refine wpList_append_lies _ rfl (.tmp 187) (.tmp 190) 24 rfl w.heap.size 37 i0 (.agg #[.int .u8 0, .int .i64 0, .slice none 0 0]) 3 40 Tryd.underlying24 hi hz0 hz1 hz2 rfl (by decide) (.slice oa l.length oc) l.length xs rfl (unhide HXo) ⟨wr.heap.size, 0, none⟩ 1 1 (cel ⟨top, 0, []⟩ (.slice none 0 0)) rfl rfl ?e1 ?e2 (by omega) ?e3 ?e4 ?e5 (wr.heap.size + 1) ?e6 ?_)
                      case e1 => exact fun j u hj => hj
                      case e2 => exact cel_one _ rfl
                      case e3 => unfold maxLen; omega
                      case e4 => omega
                      case e5 => omega
                      intro g capn w6 hown6 hgrow hat6 hlt6
                      have hOn := OwnS.snoc (l := l) (s := ⟨top, 0, []⟩) (unhide HXo) (unhide HIt2) (Byt.nil _ _) hown6 hgrow (by rcases hat6 with e | e; exact .inl e; exact .inr (by rw [e]; simp))
                      have hbn : Below w.heap.size w w6 := ((unhide HBw).trans ((one_alloc wr _).mono hwle)).trans ((Below.refl w.heap.size _).grown hgrow (by simp; omega) (fun k hk => ((unhide HOr).lt k hk).1))
                      have hr6 := row_grown (unhide HRr4) hgrow (fun b o e h => by
                        simp at e
                        have := (unhide HOl b h.symm).2
                        omega)
                      have hla6 : 0 < l.length → ∃ (bm om : Nat) (x5 : Option Addr) (L y5 : Nat) (r : List Sec) (s : Sec), ma = some ⟨bm, om, none⟩ ∧ l = r ++ [s] ∧ L = s.bs.length ∧ w6.cell? ⟨bm, om + (l.length - 1) * 3 + 2, none⟩ = some (.slice x5 L y5) := by
                        intro hl
                        obtain ⟨bm, om, x5, L, y5, r, s, q1, q2, q3, q4⟩ := unhide HLr hl
                        refine ⟨bm, om, x5, L, y5, r, s, q1, q2, q3, hgrow.cell ((World.cell?_of_block (a := ⟨bm, om + (l.length - 1) * 3 + 2, none⟩) ((one_alloc wr _).block bm (block_lt_of_cell q4))).trans q4) (fun e => ?_)⟩
                        have h5 := (unhide HOm bm (by rw [q1]; rfl)).1
                        have h6 := (unhide HOl bm e.symm).2
                        omega
                      have hj6 := join_any hOn.secL (unhide HId6) (unhide HBs6) (unhide HJb6) (Utf8Tabs_below (unhide HT) hbn)
                      have HBn := hide hbn; have HR6 := hide hr6; have HLa6 := hide hla6; have HJ6 := hide hj6
                      clear hOn hbn hown6 hgrow hat6 hlt6 hr6 hla6 hj6 HXo HIt2 HId6 HBs6 HJb6 HOr HRr HLr HRr4
                      go_wp2_with fail
                      refine (unhide HJ6).mono ?_
                      rintro e w7 ⟨hb7, _, hn7⟩
                      obtain rfl := hn7 (unhide HJm)
                      have HB7 := hide (Below.on (unhide HBn) hb7)
                      have HR7 := hide ((unhide HR6).below (Nat.le_refl _) hb7)
                      have HL7 := hide (last_below hb7 (unhide HLa6))
                      clear hb7 hn7 HBn HR6 HLa6 HJ6
                      go_wp2_with fail
                      refine (num_hit 1 _ ((unhide HE).below (Nat.le_refl _) (unhide HB7))).mono ?_
                      rintro e w8 ⟨rfl, hb8⟩
                      have HBx := hide (Below.on (unhide HB7) hb8)
                      have HRx := hide ((unhide HR7).below (Nat.le_refl _) hb8)
                      have HLx := hide (last_below hb8 (unhide HL7))
                      clear hb8 HB7 HR7 HL7
                      have hcz : ZS.length ≤ cb ∧ ZS.length ≤ 3608 := ⟨hcb, hJl⟩
                      have HCz := hide hcz; have HG0 := hide g0
                      clear hcz hJ1 hcb hJl hJ8 g0 g0b g0z g1 g1z hnk hkz hkz3 hvc hoc hbw hbb hbb3 hmc hpl
                      by_cases hl0 : l.length = 0
                      · have hl1 : ¬ ((0 : Int) < (l.length : Int)) := by omega
                        have hl2 : ¬ (0 < l.length) := by omega
                        have hl3 : decide (0 < l.length) = false := decide_eq_false hl2
                        go_wp2_with fail
                        refine (sure_any _ (Utf8Tabs_below (unhide HT) (unhide HBx))).mono ?_
                        rintro e w9 ⟨rfl, hb9⟩
                        have HB9 := hide (Below.on (unhide HBx) hb9); clear hb9
                        go_wp2
                        go_ret
                        exact ⟨rfl, unhide HB9⟩
                      · have hl1 : (0 : Int) < (l.length : Int) := by omega
                        have hl2 : 0 < l.length := by omega
                        have hl3 : decide (0 < l.length) = true := decide_eq_true hl2
                        obtain ⟨bm, om, x5, L, y5, r, s, rfl, hrs, hsL, c5⟩ := unhide HLx hl2
                        have g0 := unhide HG0
                        have w5 : IntKind.i64.wrap ((l.length : Int) - 1) = ((l.length - 1 : Nat) : Int) := by rw [IntKind.wrap_i64]; omega
                        clear g0
                        by_cases hL0 : L = 0
                        · subst hL0
                          clear hsL hrs hl0
                          go_wp2_with fail
                          refine (sure_any _ (Utf8Tabs_below (unhide HT) (unhide HBx))).mono ?_
                          rintro e w9 ⟨rfl, hb9⟩
                          have HB9 := hide (Below.on (unhide HBx) hb9); clear hb9
                          go_wp2
                          go_ret
                          exact ⟨rfl, unhide HB9⟩
                        · have hL1 : (0 : Int) < (L : Int) := by omega
                          have hL2 : ¬ (L : Int) = 0 := by omega
                          have hLn : L ≤ 3608 := unhide HLn r s hrs L hsL
                          have h1 : 0 ≤ IntKind.u64.wrap cut := by rw [IntKind.wrap_u64]; omega
                          obtain ⟨K, hK⟩ := Int.eq_ofNat_of_zero_le (Int.emod_nonneg (IntKind.u64.wrap cut) hL2)
                          have eK : (IntKind.u64.wrap cut).tmod (L : Int) = (K : Int) := by rw [Int.tmod_eq_emod_of_nonneg h1]; exact hK
                          have hKL : K < L := by have := Int.emod_lt_of_pos (IntKind.u64.wrap cut) hL1; omega
                          have hJn : L ≤ ZS.length := unhide HJn r s hrs L hsL
                          have hcb := (unhide HCz).1
                          have hJl := (unhide HCz).2
                          have hJ1 : ZS.length ≤ 50000 := by omega
                          have hsc := S_cut (r := r) (s := s) (k := 1 + K) (by omega) (by omega) (by rw [← hrs, unhide HZS]; exact hJ1) (by rw [← hrs]; exact unhide HJk)
                          rw [← hrs, unhide HZS] at hsc
                          have hsp2 := split_any (row_take (unhide HRx) (ZS.length - (1 + K)) (by omega)) (show ZS.length - (1 + K) ≤ cb by omega) (by omega) (Utf8Tabs_below (unhide HT) (unhide HBx))
                          obtain ⟨RR, hRR⟩ : ∃ RR, S (ZS.take (ZS.length - (1 + K))) = RR := ⟨_, rfl⟩
                          rw [hRR] at hsc hsp2
                          unfold SpPost at hsp2
                          rw [hsc] at hsp2
                          obtain ⟨M, hM⟩ : ∃ M, ZS.length - (1 + K) = M := ⟨_, rfl⟩
                          rw [hM] at hsp2
                          have hMz : (ZS.length : Int) - (1 + (K : Int)) = (M : Int) := by omega
                          have hMc : M ≤ cb := by omega
                          have hMcz : (M : Int) ≤ (cb : Int) := by omega
                          have HSp2 := hide hsp2
                          have wL : IntKind.u64.wrap (L : Int) = (L : Int) := by rw [IntKind.wrap_u64]; omega
                          have hKz : (K : Int) < (L : Int) := by omega
                          have hLz : (L : Int) ≤ 3608 := by omega
                          have wK1 : IntKind.i64.wrap (1 + (K : Int)) = 1 + (K : Int) := by rw [IntKind.wrap_i64]; omega
                          have wK2 : IntKind.i64.wrap (M : Int) = (M : Int) := by rw [IntKind.wrap_i64]; omega
                          clear hsp2 hRR hsc hM hK h1 hJn hrs hsL hcb hJl hJ1 hLn hKL hl0
                          go_wp2_with fail
                          refine (unhide HSp2).mono ?_
                          rintro e w9 ⟨v9, rfl, hb9, _, _⟩
                          have HB9 := hide (Below.on (unhide HBx) hb9); clear hb9
                          go_wp2_with fail
                          refine (num_any 4 _ ((unhide HE).below (Nat.le_refl _) (unhide HB9))).mono ?_
                          rintro e w10 ⟨rfl, hb10⟩
                          have HB10 := hide (Below.on (unhide HB9) hb10); clear hb10
                          go_wp2_with fail
                          refine (sure_any _ (Utf8Tabs_below (unhide HT) (unhide HB10))).mono ?_
                          rintro e w11 ⟨rfl, hb11⟩
                          have HB11 := hide (Below.on (unhide HB10) hb11); clear hb11
                          go_wp2
                          go_ret
                          exact ⟨rfl, unhide HB11⟩
                    · have hp2 : top = 0 := by omega
                      subst hp2
                      have HBx := HBw; have HRx := HRr; have HLx := HLr
                      have hcz : ZS.length ≤ cb ∧ ZS.length ≤ 3608 := ⟨hcb, hJl⟩
                      have HCz := hide hcz; have HG0 := hide g0
                      clear hcz hJ1 hcb hJl hJ8 g0 g0b g0z g1 g1z hnk hkz hkz3 hvc hoc hbw hbb hbb3 hmc hpl
                      by_cases hl0 : l.length = 0
                      · have hl1 : ¬ ((0 : Int) < (l.length : Int)) := by omega
                        have hl2 : ¬ (0 < l.length) := by omega
                        have hl3 : decide (0 < l.length) = false := decide_eq_false hl2
                        go_wp2_with fail
                        refine (sure_any _ (Utf8Tabs_below (unhide HT) (unhide HBx))).mono ?_
                        rintro e w9 ⟨rfl, hb9⟩
                        have HB9 := hide (Below.on (unhide HBx) hb9); clear hb9
                        go_wp2
                        go_ret
                        exact ⟨rfl, unhide HB9⟩
                      · have hl1 : (0 : Int) < (l.length : Int) := by omega
                        have hl2 : 0 < l.length := by omega
                        have hl3 : decide (0 < l.length) = true := decide_eq_true hl2
                        obtain ⟨bm, om, x5, L, y5, r, s, rfl, hrs, hsL, c5⟩ := unhide HLx hl2
                        have g0 := unhide HG0
                        have w5 : IntKind.i64.wrap ((l.length : Int) - 1) = ((l.length - 1 : Nat) : Int) := by rw [IntKind.wrap_i64]; omega
                        clear g0
                        by_cases hL0 : L = 0
                        · subst hL0
                          clear hsL hrs hl0
                          go_wp2_with fail
                          refine (sure_any _ (Utf8Tabs_below (unhide HT) (unhide HBx))).mono ?_
                          rintro e w9 ⟨rfl, hb9⟩
                          have HB9 := hide (Below.on (unhide HBx) hb9); clear hb9
                          go_wp2
                          go_ret
                          exact ⟨rfl, unhide HB9⟩
                        · have hL1 : (0 : Int) < (L : Int) := by omega
                          have hL2 : ¬ (L : Int) = 0 := by omega
                          have hLn : L ≤ 3608 := unhide HLn r s hrs L hsL
                          have h1 : 0 ≤ IntKind.u64.wrap cut := by rw [IntKind.wrap_u64]; omega
                          obtain ⟨K, hK⟩ := Int.eq_ofNat_of_zero_le (Int.emod_nonneg (IntKind.u64.wrap cut) hL2)
                          have eK : (IntKind.u64.wrap cut).tmod (L : Int) = (K : Int) := by rw [Int.tmod_eq_emod_of_nonneg h1]; exact hK
                          have hKL : K < L := by have := Int.emod_lt_of_pos (IntKind.u64.wrap cut) hL1; omega
                          have hJn : L ≤ ZS.length := unhide HJn r s hrs L hsL
                          have hcb := (unhide HCz).1
                          have hJl := (unhide HCz).2
                          have hJ1 : ZS.length ≤ 50000 := by omega
                          have hsc := S_cut (r := r) (s := s) (k := 1 + K) (by omega) (by omega) (by rw [← hrs, unhide HZS]; exact hJ1) (by rw [← hrs]; exact unhide HJk)
                          rw [← hrs, unhide HZS] at hsc
                          have hsp2 := split_any (row_take (unhide HRx) (ZS.length - (1 + K)) (by omega)) (show ZS.length - (1 + K) ≤ cb by omega) (by omega) (Utf8Tabs_below (unhide HT) (unhide HBx))
                          obtain ⟨RR, hRR⟩ : ∃ RR, S (ZS.take (ZS.length - (1 + K))) = RR := ⟨_, rfl⟩
                          rw [hRR] at hsc hsp2
                          unfold SpPost at hsp2
                          rw [hsc] at hsp2
                          obtain ⟨M, hM⟩ : ∃ M, ZS.length - (1 + K) = M := ⟨_, rfl⟩
                          rw [hM] at hsp2
                          have hMz : (ZS.length : Int) - (1 + (K : Int)) = (M : Int) := by omega
                          have hMc : M ≤ cb := by omega
                          have hMcz : (M : Int) ≤ (cb : Int) := by omega
                          have HSp2 := hide hsp2
                          have wL : IntKind.u64.wrap (L : Int) = (L : Int) := by rw [IntKind.wrap_u64]; omega
                          have hKz : (K : Int) < (L : Int) := by omega
                          have hLz : (L : Int) ≤ 3608 := by omega
                          have wK1 : IntKind.i64.wrap (1 + (K : Int)) = 1 + (K : Int) := by rw [IntKind.wrap_i64]; omega
                          have wK2 : IntKind.i64.wrap (M : Int) = (M : Int) := by rw [IntKind.wrap_i64]; omega
                          clear hsp2 hRR hsc hM hK h1 hJn hrs hsL hcb hJl hJ1 hLn hKL hl0
                          go_wp2_with fail
                          refine (unhide HSp2).mono ?_
                          rintro e w9 ⟨v9, rfl, hb9, _, _⟩
                          have HB9 := hide (Below.on (unhide HBx) hb9); clear hb9
                          go_wp2_with fail
                          refine (num_any 4 _ ((unhide HE).below (Nat.le_refl _) (unhide HB9))).mono ?_
                          rintro e w10 ⟨rfl, hb10⟩
                          have HB10 := hide (Below.on (unhide HB9) hb10); clear hb10
                          go_wp2_with fail
                          refine (sure_any _ (Utf8Tabs_below (unhide HT) (unhide HB10))).mono ?_
                          rintro e w11 ⟨rfl, hb11⟩
                          have HB11 := hide (Below.on (unhide HB10) hb11); clear hb11
                          go_wp2
                          go_ret
                          exact ⟨rfl, unhide HB11⟩
        · have g1z : (3000 : Int) < sm l := by omega
          go_wp2_with fail
          refine (sure_any _ (Utf8Tabs_below (unhide HT) (unhide HB))).mono ?_
          rintro e w5 ⟨rfl, hb5⟩
          have HB5 := hide (Below.on (unhide HB) hb5); clear hb5
          go_wp2
          go_ret
          exact ⟨rfl, unhide HB5⟩
      · have g0b : decide (50 < l.length) = true := decide_eq_true (by omega)
        have g0z : (50 : Int) < (l.length : Int) := by omega
        have hkk : (k : Int) < (l.length : Int) → ¬ (k : Int) < 100 := by omega
        by_cases h1 : (k : Int) < (l.length : Int)
        · have h2 : ¬ (k : Int) < 100 := hkk h1
          go_wp2_with fail
          refine (sure_any _ (Utf8Tabs_below (unhide HT) (unhide HB))).mono ?_
          rintro e w5 ⟨rfl, hb5⟩
          have HB5 := hide (Below.on (unhide HB) hb5); clear hb5
          go_wp2
          go_ret
          exact ⟨rfl, unhide HB5⟩
        · go_wp2_with fail
          refine (sure_any _ (Utf8Tabs_below (unhide HT) (unhide HB))).mono ?_
          rintro e w5 ⟨rfl, hb5⟩
          have HB5 := hide (Below.on (unhide HB) hb5); clear hb5
          go_wp2
          go_ret
          exact ⟨rfl, unhide HB5⟩
end Sc
end Go.Proofs.YtcmidegffpehoaaDoor

/- The tables of unicode/utf8, as the rows list them. -/
namespace Go.Proofs.YtcmidegffpehoaaDoor
open Go.RowKit Go.Shelf
namespace Sc
set_option linter.unusedVariables false
def ren : Ren where
  t := fun n => if n = 5 then 5 else if n = 119 then 83 else if n = 138 then 85 else 86
  g := fun n => if n = 3 then 1 else 2
  f := fun n => n
theorem ren_types : U8Types Tryd.prog ren := ⟨by kernel_rfl, by kernel_rfl, by kernel_rfl, by kernel_rfl⟩
theorem ren_extra : U8Extra Tryd.prog ren := ⟨by kernel_rfl, by kernel_rfl, by kernel_rfl, by kernel_rfl, by kernel_rfl, by kernel_rfl, by kernel_rfl⟩
theorem accept_eq : (Rows.laid_unicode_utf8_acceptRanges : DataW Unit) = Lib.acceptData := by kernel_rfl
/-- the table's cells -/
def firstCells : Array Value := ((List.range 256).map fun c => Value.int .u8 (Lib.firstT c)).toArray
theorem u8_of_met {W : World} {l : List (String × DataW Unit)} (h : laidMet Tryd.prog l W) (m1 : ("unicode/utf8.first", Rows.laid_unicode_utf8_first) ∈ l) (m2 : ("unicode/utf8.acceptRanges", Rows.laid_unicode_utf8_acceptRanges) ∈ l) : U8 W := by
  have h1 := Lib.laidMet.reads h m1
  have h2 := Lib.laidMet.reads h m2
  rw [show Rows.laid_unicode_utf8_first = Lib.firstData from Pinned.utf8First_eq] at h1
  rw [accept_eq] at h2
  exact utf8Tabs_of_readsT ren_types ren_extra h1 h2
end Sc
end Go.Proofs.YtcmidegffpehoaaDoor

/- From the rows' condition on errors.errorType (beside other variables) to the variable's cell. After the guide's worked toy of errors.As. -/
namespace Go.Proofs.YtcmidegffpehoaaDoor
open Go.ChangeShapes Go.WideShapes Go.RowKit

theorem hownKnob : ownKnob Tryd.prog.godebug = none := by kernel_rfl
theorem het : Tryd.prog.globalNamed "errors.errorType" = some 0 := by kernel_rfl
theorem honeRow : ((List.range 135).filter fun t => Tryd.prog.rowNamed t [101, 114, 114, 111, 114]) = [26] := by kernel_rfl
theorem hsize : Tryd.prog.types.size = 135 := by kernel_rfl

theorem handle_of_met {W : World} (h : handlesMet Tryd.prog [("errors.errorType", Rows.laid_errors_errorType)] W) : ErrT W := by
  obtain ⟨name, u, ty, e1, e2, e3, e4, e5⟩ := h _ (List.mem_singleton.2 rfl)
  have en : name = [101, 114, 114, 111, 114] := (Option.some.inj e1).symm
  subst en
  obtain rfl : 91 = u := Option.some.inj (Eq.trans (by kernel_rfl) e2)
  have hm : ty ∈ (List.range 135).filter fun t => Tryd.prog.rowNamed t [101, 114, 114, 111, 114] := List.mem_filter.2 ⟨List.mem_range.2 (by rw [← hsize]; exact e3), e4⟩
  rw [honeRow] at hm
  obtain rfl := List.mem_singleton.1 hm
  have hh : typeHandle Tryd.prog 26 = .pointer (some ⟨3, 26, none⟩) := by kernel_rfl
  rw [hh] at e5
  have := World.var?_cell het e5 0
  unfold ErrT
  simpa using this
end Go.Proofs.YtcmidegffpehoaaDoor

/- SectBack returns true for every list of sections and every int, and leaves them: sections that are joined are split as themselves, each where its contents stand; with one more section of the top ID they cannot be joined; with bytes of the last one's contents cut off they end too early. Of unicode/utf8's tables and of errors.errorType it takes what the program's text lays (the card ties it). -/
namespace Go.Proofs.YtcmidegffpehoaaDoor.sectBack
open Go.ChangeShapes Go.WideShapes Go.ChangeAt Go.RowKit
open Go.ChangeMaps (open_string shut_string)
set_option linter.unusedVariables false

theorem own : ownKnob Tryd.prog.godebug = none := by kernel_rfl
theorem laidOut : laidOutB Tryd.prog = true := by kernel_rfl

def IsRow (k : IntKind) (w : World) (a : Option Addr) (len cap : Nat) (zs : List Int) : Prop :=
  (a = none ∧ len = 0 ∧ cap = 0 ∧ zs = []) ∨
  ∃ x, a = some x ∧ len ≤ cap ∧ cap ≤ maxLen ∧ zs.length = cap ∧ (∀ i, i < zs.length → w.cell? (x.add i) = some (.int k (zs.getD i 0))) ∧ ∀ n ∈ zs, (Lit.int k n).wf = true



set_option maxHeartbeats 400000 in
theorem walk (a0 : Option Addr) (len0 cap0 : Nat) (l0 : List Sc.Sec) (a1 : Int) (w : World) (hErr : ErrT w) (hU8 : Sc.U8 w) (hl0 : l0.length = len0) (w0 : Sc.SecL w l0 (.slice a0 len0 cap0) ∧ (∀ s ∈ l0, 0 ≤ s.id ∧ s.id ≤ 255) ∧ (∀ s ∈ l0, ∀ z ∈ s.bs, 0 ≤ z ∧ z ≤ 255)) :
    Calls Tryd.prog 6 #[.slice a0 len0 cap0, .int .i64 a1] w fun e w' => e = .returned (.bool true) ∧ Below w.heap.size w w' := by
  exact Sc.sback_any w0.1 w0.2.1 w0.2.2 hErr hU8

theorem laidWorld_met (os : Os) (args : Array Value) : laidMetH Tryd.prog Rows.sectBackRow.laid (({ World.holding Tryd.prog os ⟨#[], #[], []⟩ with heap := ((((World.holding Tryd.prog os ⟨#[], #[], []⟩).heap.modify 2 fun | .cells _ t frozen => .cells #[.int .u8 128, .int .u8 191, .int .u8 160, .int .u8 191, .int .u8 128, .int .u8 159, .int .u8 144, .int .u8 191, .int .u8 128, .int .u8 143, .int .u8 0, .int .u8 0, .int .u8 0, .int .u8 0, .int .u8 0, .int .u8 0, .int .u8 0, .int .u8 0, .int .u8 0, .int .u8 0, .int .u8 0, .int .u8 0, .int .u8 0, .int .u8 0, .int .u8 0, .int .u8 0, .int .u8 0, .int .u8 0, .int .u8 0, .int .u8 0, .int .u8 0, .int .u8 0] t frozen | o => o).modify 0 fun | .cells _ t frozen => .cells #[.iface 91 (.agg #[.pointer (some ⟨3, 26, none⟩)])] t frozen | o => o).modify 1 fun | .cells _ t frozen => .cells (Sc.firstCells) t frozen | o => o) } : World).forCall (fun _ _ => 0) ⟨#[], args, []⟩).memory :=
  laidMetH_of_parts (laidMet_of_run' 8 (by kernel_rfl) (by kernel_rfl)) (by kernel_rfl)

set_option maxRecDepth 100000 in
theorem lifted (os : Os) (started : os.Started) (H : Type) (enc : TypeId × Value → H) :
    ReturnsInHanded {} Tryd.checked os 6 .any (fun w args => (Rows.sectBackSpec.pre enc Tryd.prog Tryd.f6 [] false w args ∧ laidMetH Tryd.prog Rows.sectBackRow.laid w) ∧ sizedMet enc Tryd.prog Tryd.f6 (OpenSpec.ofChange Rows.sectBackSpec) false w args) (Rows.sectBackSpec.post enc Tryd.prog Tryd.f6 false true false false) := by
  refine returnsInHanded_of_change_and (C := Tryd.checked) (X := fun w _ => laidMetH Tryd.prog Rows.sectBackRow.laid w) (fun _ _ _ hh h => h.of_heap hh) own started (by kernel_rfl) Tryd.func6
    (ChangeSpec.witness_at (enc := enc) (C := Tryd.checked) (os := os) (X := fun w _ => laidMetH Tryd.prog Rows.sectBackRow.laid w) false ({ World.holding Tryd.prog os ⟨#[], #[], []⟩ with heap := ((((World.holding Tryd.prog os ⟨#[], #[], []⟩).heap.modify 2 fun | .cells _ t frozen => .cells #[.int .u8 128, .int .u8 191, .int .u8 160, .int .u8 191, .int .u8 128, .int .u8 159, .int .u8 144, .int .u8 191, .int .u8 128, .int .u8 143, .int .u8 0, .int .u8 0, .int .u8 0, .int .u8 0, .int .u8 0, .int .u8 0, .int .u8 0, .int .u8 0, .int .u8 0, .int .u8 0, .int .u8 0, .int .u8 0, .int .u8 0, .int .u8 0, .int .u8 0, .int .u8 0, .int .u8 0, .int .u8 0, .int .u8 0, .int .u8 0, .int .u8 0, .int .u8 0] t frozen | o => o).modify 0 fun | .cells _ t frozen => .cells #[.iface 91 (.agg #[.pointer (some ⟨3, 26, none⟩)])] t frozen | o => o).modify 1 fun | .cells _ t frozen => .cells (Sc.firstCells) t frozen | o => o) } : World) #[.slice none 0 0, .int .i64 0] 8 rfl (by kernel_rfl) (by kernel_rfl) (by kernel_rfl) (by kernel_rfl) (by kernel_rfl) (laidWorld_met os _)) ?_
  intro W base args ds gs before hval0 hW _ _ hL _
  have hLL : laidMet Tryd.prog [("unicode/utf8.acceptRanges", Rows.laid_unicode_utf8_acceptRanges), ("unicode/utf8.first", Rows.laid_unicode_utf8_first)] W ∧ handlesMet Tryd.prog [("errors.errorType", Rows.laid_errors_errorType)] W := hL
  have hg : ErrT W := handle_of_met hLL.2
  have hgU : Sc.U8 W := Sc.u8_of_met hLL.1 (by simp) (by simp)
  have hval : ∀ (j : Nat) t v, Tryd.f6.params[j]? = some t → args[j]? = some v → Value.okWide Tryd.prog W .any base t v := hval0
  have hW' := hW
  obtain ⟨p, q, hA0, hV, rfl, hfz, hnd⟩ := hW
  have hA : DataW.TrodAll enc Tryd.prog W 0 (fun _ => true) true Tryd.f6.params.toList args.toList ds p := hA0
  rw [Tryd.params6] at hA hval
  obtain ⟨v0, vs0, d0, ds0, p0, q0, hargs, rfl, rfl, h0, r0⟩ := trodAll_cons hA
  obtain ⟨v1, vs1, d1, ds1, p1, q1, rfl, rfl, rfl, h1, r1⟩ := trodAll_cons r0
  obtain ⟨rfl, rfl, rfl⟩ := trodAll_nil r1
  obtain rfl : args = #[v0, v1] := by cases args; simp_all
  obtain ⟨rfl, rfl⟩ := trodVars_none hV
  obtain ⟨a0, len0, cap0, rfl⟩ := okWide_slice Tryd.underlying29 (hval 0 29 v0 rfl rfl)
  obtain ⟨a1, rfl, rfl, rfl, w1⟩ := open_int Tryd.underlying3 (hval 1 3 v1 rfl rfl) h1
  have k0 := h0
  have lt0 : ∀ x ∈ p0, x.block < W.heap.size := by obtain ⟨m, hm⟩ := k0; exact DataW.trod_lt m _ _ _ hm
  obtain ⟨l0, hl0, w0⟩ := Sc.open_secs h0
  clear hA0 hval0
  refine (walk a0 len0 cap0 l0 a1 W hg hgU hl0 w0).mono fun e W' ⟨he, bel⟩ => ?_
  subst he
  exact ⟨_, rfl, _, _, _, [], _, [], hW', trodAll_mk1 (shut_bool Tryd.underlying4 _), (trodAll_cons_mk (Below.trod laidOut (by kernel_rfl) (of_decide_eq_true (by kernel_rfl)) k0 bel lt0) (trodAll_cons_mk (shut_int Tryd.underlying3 w1) trodAll_mk0)), rfl, bel.frame _, fun h => by cases h⟩

theorem over : Rows.sectBackRow.holds Tryd.pinned (OpenSpec.ofChange Rows.sectBackSpec) :=
  OpenClaim.holds_of_wide 6 Tryd.f6 rfl rfl rfl rfl rfl rfl rfl ⟨rfl, rfl, rfl, rfl, rfl⟩ rfl rfl rfl rfl rfl (by kernel_rfl) Tryd.func6 (by kernel_rfl)
    (of_decide_eq_true (by kernel_rfl)) (by unfold Func.isWrapper; first | (rw [if_pos (by decide +kernel)]; kernel_rfl) | (rw [if_neg (by decide +kernel)]; exact ⟨rfl, rfl⟩))
    (fun os started H enc _ => lifted os started H enc)

theorem proved : Rows.SectBackSaid := over
end Go.Proofs.YtcmidegffpehoaaDoor.sectBack

namespace Go.Proofs.YtcmidegffpehoaaDoor
theorem sectBack_holds : Rows.SectBackSaid := sectBack.proved
theorem sectBack_card : Rows.SectBackCardSaid :=
  Claim7.holds_tied_plain_at .later [] [.data, .handle, .pinned] true (true, "13d367442c9bb8b34d9d3ed94118f22436ef14892ce248c0f25d7c57a75074f6") true
    sectBack_holds (fun _ h => by cases h) (by kernel_rfl) (fun _ h => by cases h) sectBack_row_tie rfl ⟨rfl, rfl⟩ (by kernel_rfl) rfl
    (fun f fn hf hfn => by
      obtain rfl : 6 = f := Option.some.inj (Eq.trans (by kernel_rfl) hf)
      obtain rfl : fn = Tryd.f6 := (Option.some.inj (Tryd.func6.symm.trans hfn)).symm
      exact ⟨by kernel_rfl, fun j t ht => by
        rw [Tryd.params6] at ht
        rcases j with _ | _ | j
        · obtain rfl : t = 29 := by simpa using ht.symm
          exact (show Tryd.prog.wantsStandIn 29 = false by kernel_rfl)
        · obtain rfl : t = 3 := by simpa using ht.symm
          exact (show Tryd.prog.wantsStandIn 3 = false by kernel_rfl)
        · simp at ht⟩)
    (by kernel_rfl)
end Go.Proofs.YtcmidegffpehoaaDoor
