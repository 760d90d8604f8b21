/- LJoins: what follows, part by part: each part tells what it holds. -/
import Derived.Test.YtcmidegffpehoaaDoorScRb
import Derived.Test.YtcmidegffpehoaaDoorScRc
import Derived.Test.YtcmidegffpehoaaDoorG2
import Derived.Deep.RegionHeld3
import Derived.Test.YtcmidegffpehoaaDoorScF
import Derived.Test.YtcmidegffpehoaaDoorConv
import Derived.Test.YtcmidegffpehoaaDoorScT
import Derived.PinnedBridge
import Derived.Test.YtcmidegffpehoaaDoorNum
import Derived.ProofKit
import Derived.OpenShut
import Derived.ShutString
import Derived.ChangeOld
import Derived.ChangeSame
import Derived.ChangeVars
import Derived.JoinedOf
import Derived.RowKit
import Derived.RowKitTokens
import Derived.LaidLaws
import Derived.LaidHandle
import Derived.Stop.Joined
import Derived.Test.YtcmidegffpehoaaDoorRows
import Derived.WalkKit
import Derived.Below
import Derived.Test.YtcmidegffpehoaaDoorTie
import Derived.Test.YtcmidegffpehoaaDoorCards

/- The document's Split. -/
namespace Go.Proofs.YtcmidegffpehoaaDoor
open Go.RowKit
namespace Sc
set_option linter.unusedVariables false
set_option linter.unusedSimpArgs false
def RsPost (w : World) (R : Out) (e : Ending) (w' : World) : Prop :=
  ∃ v, e = .returned (.tuple #[v, .int .i64 R.at_, .int .i64 R.e]) ∧ Below w.heap.size w w' ∧ (R.e = 0 → SecL w' R.v v) ∧ (¬ R.e = 0 → v = .slice none 0 0)
/-- the greatest ID so far -/
def tops (acc : List Sec) (top : Int) : Prop := (∀ s ∈ acc, 0 ≤ s.id ∧ s.id ≤ top) ∧ (top = 0 ∨ ∃ s ∈ acc, s.id = top)
theorem tops_on {acc : List Sec} {top : Int} (h : tops acc top) (h0 : 0 ≤ top) (s : Sec) (hs : 0 ≤ s.id) : tops (acc ++ [s]) (max top s.id) := by
  refine ⟨fun x hx => ?_, ?_⟩
  · rcases List.mem_append.1 hx with hx | hx
    · have := h.1 x hx; omega
    · simp at hx; subst hx; omega
  · by_cases h1 : top ≤ s.id
    · exact .inr ⟨s, by simp, by omega⟩
    · rcases h.2 with h2 | ⟨x, hx, h2⟩
      · omega
      · exact .inr ⟨x, by simp [hx], by omega⟩
/-- what a section's reading gives, by its parts -/
theorem one_no {zs : List Int} {p : Nat} {top : Int} (h : mf (zs.getD p 0) top = false) : one zs p top = ⟨6, p, no⟩ := by unfold one; rw [h, if_neg (by decide)]
set_option maxRecDepth 100000 in
set_option maxHeartbeats 6400000 in
theorem rsplit_any {a : Option Addr} {n cap : Nat} {zs : List Int} {w : World} (h : Row w a n zs) (hc : n ≤ cap) (hn : n ≤ 4000) :
    Calls Tryd.prog 10 #[.slice a n cap] w (RsPost w (S zs)) := by
  have hl := h.1
  obtain ⟨i0, hi, hz0, hz1, hz2⟩ := info_parts infoR
  have hb0 := one_alloc w (.cells ((hd : List Int).map (Value.int .u8)).toArray 5)
  have hr0 := row_lit w hd (by decide)
  obtain ⟨R, hR⟩ : ∃ R, S zs = R := ⟨_, rfl⟩
  rw [hR]
  have HR := hide hR; have HH := hide h; have HB0 := hide hb0; have HR0 := hide hr0
  clear h hb0 hr0 hR
  go_enter Tryd.func10, Tryd.ntmps10
  go_wp2
  go_loopg [6] 9 (fun gk s6 wr => ∃ i : Nat, s6 = .int .i64 i ∧ i ≤ 8 ∧ i ≤ n ∧ 8 - i < gk ∧ Hid (Below (w.heap.size + 1) (w.alloc (.cells ((hd : List Int).map (Value.int .u8)).toArray 5)) wr) ∧ Hid (head 8 zs 0 = head (8 - i) zs i))
  case atStart => exact ⟨0, rfl, by omega, by omega, by omega, hide (Below.refl _ _), hide rfl⟩
  case round =>
    obtain ⟨i, rfl, hi8, hin, hgk, HBr, HE⟩ := hrel
    have hbr : Below w.heap.size w wr := (unhide HB0).trans ((unhide HBr).mono (by simp))
    have HB := hide hbr; clear hbr
    by_cases h8 : i < 8
    · obtain ⟨g', rfl⟩ : ∃ g', gk = g' + 1 := ⟨gk - 1, by omega⟩
      have h8z : (i : Int) < 8 := by omega
      obtain ⟨f, hf⟩ : ∃ f, 8 - i = f + 1 := ⟨7 - i, by omega⟩
      rw [hf] at HE
      by_cases hie : i = n
      · subst hie
        have hz : head 8 zs 0 = (4, i) := by have e := unhide HE; rw [e, ← hl]; exact head_end zs f
        have hRR : R = ⟨4, i, []⟩ := by rw [← unhide HR]; unfold S; rw [hz, if_neg (show ¬ (4 : Int) = 0 by decide)]
        subst hRR
        clear HE HR hz
        go_wp2
        go_ret3
        exact ⟨.slice none 0 0, rfl, unhide HB, fun e => absurd (show (4 : Int) = 0 from e) (by decide), fun _ => rfl⟩
      · have hiz : ¬ (i : Int) = (n : Int) := by omega
        have hil : (i : Int) < (n : Int) := by omega
        have hrw := (unhide HH).below (Nat.le_refl _) (unhide HB)
        obtain ⟨b, o, rfl, _, hcz⟩ := row_byte hrw (show i < n by omega)
        obtain ⟨hcy, _⟩ := row_at ((unhide HR0).below (by simp) (unhide HBr)) (show i < 8 by omega)
        rw [Nat.zero_add] at hcy
        obtain ⟨z, hzz⟩ : ∃ z, zs.getD i 0 = z := ⟨_, rfl⟩
        obtain ⟨y, hyy⟩ : ∃ y, hd.getD i 0 = y := ⟨_, rfl⟩
        rw [hzz] at hcz
        rw [hyy] at hcy
        have HZ := hide hzz; have HY := hide hyy
        clear hzz hyy hrw
        by_cases he : z = y
        · subst he
          have hz2 : Hid (head 8 zs 0 = head (8 - (i + 1)) zs (i + 1)) := by
            rw [show 8 - (i + 1) = f by omega]
            exact hide ((unhide HE).trans (head_on (by rw [hl]; exact hie) ((unhide HZ).trans (unhide HY).symm)))
          clear HE
          go_wp2_with fail
          go_quiet (fail)
          go_wp2
          go_roundg g'
          case measure => omega
          case rel => exact ⟨i + 1, by simp, by omega, by omega, by omega, hide (bdN (unhide HBr) _), hz2⟩
        · have hz2 : head 8 zs 0 = (6, i) := (unhide HE).trans (head_no (by rw [hl]; exact hie) (by rw [unhide HZ, unhide HY]; exact he))
          have hRR : R = ⟨6, i, []⟩ := by rw [← unhide HR]; unfold S; rw [hz2, if_neg (show ¬ (6 : Int) = 0 by decide)]
          subst hRR
          have heb : (z == y) = false := by simp [he]
          clear HE HR hz2
          go_wp2_with fail
          go_quiet (fail)
          go_wp2
          go_ret3
          exact ⟨.slice none 0 0, rfl, bdN (unhide HB) _, fun e => absurd (show (6 : Int) = 0 from e) (by decide), fun _ => rfl⟩
    · obtain rfl : i = 8 := by omega
      have hh : head 8 zs 0 = (0, 8) := unhide HE
      have hRR : SE zs 8 0 = R := by rw [← unhide HR]; unfold S; rw [hh, if_pos rfl]
      have HL0 := hide (show Left R zs [] 8 0 by rw [← hRR]; exact Left.first zs)
      clear HE HR hh hRR
      obtain ⟨b, o, rfl, hbl, _⟩ := row_byte (unhide HH) (show 0 < n by omega)
      go_wp2
      go_loopg [7, 8] (n + 1) (fun gk s7 s8 wr => ∃ (acc : List Sec) (p : Nat) (top : Int), s8 = .int .i64 p ∧ p ≤ n ∧ n - p < gk ∧ acc.length ≤ p ∧ 0 ≤ top ∧ top ≤ 11 ∧ Hid (OwnS 36 wr w.heap.size (fun _ => True) s7 acc) ∧ Hid (Below w.heap.size w wr) ∧ Hid (Left R zs acc p top) ∧ Hid (tops acc top))
      case atStart => exact ⟨[], 8, 0, rfl, by omega, by omega, by simp, by omega, by omega, hide (OwnS_nil _ _ _ _), HB, HL0, hide ⟨by simp, .inl rfl⟩⟩
      case round =>
        clear HL0 HB HBr
        obtain ⟨acc, p, top, rfl, hpn, hgk, hap, ht0, ht1, HO, HB, HL, HTo⟩ := hrel
        by_cases hp : p < n
        · obtain ⟨g', rfl⟩ : ∃ g', gk = g' + 1 := ⟨gk - 1, by omega⟩
          have hpz : (p : Int) < (n : Int) := by omega
          have hrw := (unhide HH).below (Nat.le_refl _) (unhide HB)
          obtain ⟨c0, hbl', hzz0, hzz1⟩ := row_at hrw hp
          have hR1 := fun e => (unhide HL).no (top := top) (by rw [hl]; exact hp) e
          have hR2 := fun e => (unhide HL).on (top := top) (by rw [hl]; exact hp) e
          obtain ⟨z, hz⟩ : ∃ z, zs.getD p 0 = z := ⟨_, rfl⟩
          have hno := @one_no zs p top
          rw [hz] at hno c0 hzz0 hzz1
          have HZ := hide hz; have HRw := hide hrw; have HR1 := hide hR1; have HR2 := hide hR2; have HNo := hide hno
          clear hz hrw hR1 hR2 HL hno
          obtain ⟨sa, sc, rfl, hsc⟩ := (unhide HO).shape
          by_cases z0 : z = 0
          · subst z0
            by_cases hL : (0 : Int) < (acc.length : Int)
            · exact rz_1 hc hn hl hp hpz hap (unhide HB).size hbl c0 HRw HZ HO hL (fun v2 v3 v4 v9 v10 v11 v12 v13 v14 v15 v16 v17 v18 v39 v40 v41 v42 v43 v44 v45 v46 v47 v48 v49 v50 v51 v52 v53 v54 v55 v56 v57 v58 v59 v60 v61 v62 v63 v64 v65 v66 v67 v68 v69 v70 v71 v72 v73 v74 v75 v76 v77 v78 v79 v80 v81 v82 v83 v84 v85 v86 v87 v88 v89 v90 v91 v92 v93 v94 v95 v96 v97 v98 v99 v100 v101 v102 v103 v104 v105 v106 v107 v108 v109 v110 v111 v112 v113 v114 v115 v116 v117 v118 v119 v120 v121 v122 v123 v124 v125 v126 v127 v128 v129 v130 v131 v132 v133 v134 v135 v136 v137 v138 v139 v140 v141 v142 v143 v144 v145 v146 v147 v148 v149 v150 v151 v152 v153 v154 v155 v156 v157 v158 v159 v160 v161 v s q w2 hb2 ho2 hid2 hown2 => by
                have hb9 := one_bd (top := top) (unhide HH).2.1 (show p < zs.length by rw [hl]; exact hp) (by rw [ho2])
                have hL9 := unhide HR2 (by rw [ho2])
                rw [ho2] at hb9 hL9
                simp only at hb9 hL9
                have hto9 := tops_on (unhide HTo) ht0 s (by rw [hid2]; exact Int.le_refl 0)
                dsimp only
                go_wp2
                go_roundg g'
                case measure => omega
                case rel => exact ⟨acc ++ [s], q, max top s.id, rfl, by omega, by omega, by simp; omega, by omega, by omega, hide hown2, hide ((unhide HB).trans hb2), hide hL9, hide hto9⟩) (fun v9 v10 v11 v12 v13 v14 v15 v16 v17 v18 v39 v40 v41 v42 v43 v44 v45 v46 v47 v48 v49 v50 v51 v52 v53 v54 v55 v56 v57 v58 v59 v60 v61 v62 v63 v64 v65 v66 v67 v68 v69 v70 v71 v72 v73 v74 v75 v76 v77 v78 v79 v80 v81 v82 v83 v84 v85 v86 v87 v88 v89 v90 v91 v92 v93 v94 v95 v96 v97 v98 v99 v100 v101 v102 v103 v104 v105 v106 v107 v108 v109 v110 v111 v112 v113 v114 v115 v116 v117 v118 v119 v120 v121 v122 v123 v124 v125 v126 v127 v128 v129 v130 v131 v132 v133 v134 v135 v136 v137 v138 v139 v140 v141 v142 v143 v144 v145 v146 v147 v148 v149 v150 v151 v152 v153 v154 v155 v156 v157 v158 v159 v160 v161 s7 s8 E A w2 hb2 hne2 ho2 => by
                have hh := unhide HR1 (by rw [ho2]; exact hne2)
                rw [ho2] at hh
                dsimp only
                go_wp2
                go_ret3
                exact ⟨.slice none 0 0, by rw [hh.1, hh.2]; rfl, (unhide HB).trans hb2, fun e => absurd (hh.1.symm.trans e) hne2, fun _ => rfl⟩)
            · exact rz_0 hc hn hl hp hpz hap (unhide HB).size hbl c0 HRw HZ HO hL (fun v2 v3 v4 v9 v10 v11 v12 v13 v14 v15 v16 v17 v18 v39 v40 v41 v42 v43 v44 v45 v46 v47 v48 v49 v50 v51 v52 v53 v54 v55 v56 v57 v58 v59 v60 v61 v62 v63 v64 v65 v66 v67 v68 v69 v70 v71 v72 v73 v74 v75 v76 v77 v78 v79 v80 v81 v82 v83 v84 v85 v86 v87 v88 v89 v90 v91 v92 v93 v94 v95 v96 v97 v98 v99 v100 v101 v102 v103 v104 v105 v106 v107 v108 v109 v110 v111 v112 v113 v114 v115 v116 v117 v118 v119 v120 v121 v122 v123 v124 v125 v126 v127 v128 v129 v130 v131 v132 v133 v134 v135 v136 v137 v138 v139 v140 v141 v142 v143 v144 v145 v146 v147 v148 v149 v150 v151 v152 v153 v154 v155 v156 v157 v158 v159 v160 v161 v s q w2 hb2 ho2 hid2 hown2 => by
                have hb9 := one_bd (top := top) (unhide HH).2.1 (show p < zs.length by rw [hl]; exact hp) (by rw [ho2])
                have hL9 := unhide HR2 (by rw [ho2])
                rw [ho2] at hb9 hL9
                simp only at hb9 hL9
                have hto9 := tops_on (unhide HTo) ht0 s (by rw [hid2]; exact Int.le_refl 0)
                dsimp only
                go_wp2
                go_roundg g'
                case measure => omega
                case rel => exact ⟨acc ++ [s], q, max top s.id, rfl, by omega, by omega, by simp; omega, by omega, by omega, hide hown2, hide ((unhide HB).trans hb2), hide hL9, hide hto9⟩) (fun v9 v10 v11 v12 v13 v14 v15 v16 v17 v18 v39 v40 v41 v42 v43 v44 v45 v46 v47 v48 v49 v50 v51 v52 v53 v54 v55 v56 v57 v58 v59 v60 v61 v62 v63 v64 v65 v66 v67 v68 v69 v70 v71 v72 v73 v74 v75 v76 v77 v78 v79 v80 v81 v82 v83 v84 v85 v86 v87 v88 v89 v90 v91 v92 v93 v94 v95 v96 v97 v98 v99 v100 v101 v102 v103 v104 v105 v106 v107 v108 v109 v110 v111 v112 v113 v114 v115 v116 v117 v118 v119 v120 v121 v122 v123 v124 v125 v126 v127 v128 v129 v130 v131 v132 v133 v134 v135 v136 v137 v138 v139 v140 v141 v142 v143 v144 v145 v146 v147 v148 v149 v150 v151 v152 v153 v154 v155 v156 v157 v158 v159 v160 v161 s7 s8 E A w2 hb2 hne2 ho2 => by
                have hh := unhide HR1 (by rw [ho2]; exact hne2)
                rw [ho2] at hh
                dsimp only
                go_wp2
                go_ret3
                exact ⟨.slice none 0 0, by rw [hh.1, hh.2]; rfl, (unhide HB).trans hb2, fun e => absurd (hh.1.symm.trans e) hne2, fun _ => rfl⟩)
          by_cases c11 : 11 < z
          · have ho := unhide HNo (by unfold mf; exact decide_eq_false (by omega))
            have hh := unhide HR1 (by rw [ho]; show ¬ (6 : Int) = 0; decide)
            rw [ho] at hh
            have HE1 := hide hh.1; have HE2 := hide hh.2
            clear ho hh HR1 HR2 HNo
            go_wp2
            go_ret3
            refine ⟨.slice none 0 0, ?_, unhide HB, fun e => absurd ((unhide HE1).symm.trans e) (show ¬ (6 : Int) = 0 by decide), fun _ => rfl⟩
            rw [unhide HE1, unhide HE2]
            rfl
          · have hsec := (unhide HO).secL
            have HSec := hide hsec; clear hsec
            go_wp2
            go_loopg [10] (acc.length + 1) (fun g3 s10 wx => ∃ i : Nat, s10 = .int .i64 i ∧ i ≤ acc.length ∧ acc.length - i < g3 ∧ wx = wr ∧ Hid (¬ z = 0 → ∀ j (hj : j < acc.length), j < i → acc[j].id < z))
            case atStart => exact ⟨0, rfl, by omega, by omega, rfl, hide (fun _ j _ hj => by omega)⟩
            case round =>
              obtain ⟨i, rfl, hia, hg3, rfl, HAll⟩ := hrel
              by_cases ztrue : True
              · have z0b : (0 : Int) < z := by omega
                by_cases hi1 : i < acc.length
                · obtain ⟨g4, rfl⟩ : ∃ g4, gk = g4 + 1 := ⟨gk - 1, by omega⟩
                  have hiz : (i : Int) < (acc.length : Int) := by omega
                  obtain ⟨xa, xc, hxe, _, _, hxi⟩ := unhide HSec
                  simp only [Value.slice.injEq] at hxe
                  obtain ⟨rfl, _, rfl⟩ := hxe
                  obtain ⟨xb, xo, rfl, hxl, hxc⟩ := hxi i hi1
                  have d0 := hxc.1
                  have hid := (unhide HTo).1 acc[i] (List.getElem_mem hi1)
                  obtain ⟨y, hy⟩ : ∃ y, acc[i].id = y := ⟨_, rfl⟩
                  rw [hy] at d0 hid
                  have HY := hide hy
                  clear hxi hxc hy
                  by_cases hyz : y < z
                  · have hall : ¬ z = 0 → ∀ j (hj : j < acc.length), j < i + 1 → acc[j].id < z := fun h0 j hj hj1 => by
                      by_cases hji : j < i
                      · exact unhide HAll h0 j hj hji
                      · obtain rfl : j = i := by omega
                        rw [unhide HY]; exact hyz
                    have HAll2 := hide hall; clear hall HAll
                    have hyz2 : ¬ (z ≤ y) := by omega
                    go_wp2
                    go_roundg g4
                    case measure => omega
                    case rel => exact ⟨i + 1, by simp, by omega, by omega, rfl, HAll2⟩
                  · have hyz2 : z ≤ y := by omega
                    have ho := unhide HNo (by unfold mf; exact decide_eq_false (by omega))
                    have hh := unhide HR1 (by rw [ho]; show ¬ (6 : Int) = 0; decide)
                    rw [ho] at hh
                    have HE1 := hide hh.1; have HE2 := hide hh.2
                    clear ho hh HR1 HR2 HNo
                    go_wp2
                    go_ret3
                    refine ⟨.slice none 0 0, ?_, unhide HB, fun e => absurd ((unhide HE1).symm.trans e) (show ¬ (6 : Int) = 0 by decide), fun _ => rfl⟩
                    rw [unhide HE1, unhide HE2]
                    rfl
                · obtain rfl : i = acc.length := by omega
                  have hall := unhide HAll z0
                  have htz : top < z := by
                    rcases (unhide HTo).2 with e | ⟨s, hs, e⟩
                    · omega
                    · obtain ⟨j, hj, rfl⟩ := List.getElem_of_mem hs
                      have := hall j hj hj; omega
                  have hmf : mf z top = true := by unfold mf; exact decide_eq_true (by omega)
                  clear hall HAll
                  have ho : one zs p top = one zs p top := rfl
                  conv at ho => rhs; unfold one
                  rw [unhide HZ, hmf, if_pos rfl] at ho
                  have HOo := hide ho; clear ho
                  by_cases hq : p + 1 = n
                  · have hdr : zs.drop (p + 1) = [] := List.drop_eq_nil_of_le (by omega)
                    have ho := unhide HOo
                    rw [hdr, tuE_nil 32 (by decide) (by decide), if_neg (by decide)] at ho
                    have hv0 := tuV_no (qs := []) (n := 32) (by rw [tuE_nil 32 (by decide) (by decide)]; decide)
                    have ht := fun a c => refTakeU_any a 0 c [] 32 wr (row_none _ a) (by omega)
                    rw [tuE_nil 32 (by decide) (by decide), hv0.1, hv0.2] at ht
                    have hh := unhide HR1 (by rw [ho]; show ¬ (4 : Int) = 0; decide)
                    rw [ho] at hh
                    have HTk := hide ht; have HE1 := hide hh.1; have HE2 := hide hh.2
                    clear hv0 ht hdr ho hh HOo HR1 HR2 HNo
                    subst hq
                    by_cases hcp : cap = p + 1
                    · subst hcp
                      clear hc
                      go_wp2_with fail
                      refine (unhide HTk _ _).mono ?_
                      rintro e w1 ⟨rfl, hb1⟩
                      have HB1 := hide (Below.on (unhide HB) hb1); clear hb1
                      go_wp2
                      go_ret3
                      refine ⟨.slice none 0 0, ?_, unhide HB1, fun e => absurd ((unhide HE1).symm.trans e) (show ¬ (4 : Int) = 0 by decide), fun _ => rfl⟩
                      rw [unhide HE1, unhide HE2]
                      rfl
                    · have hcq : ¬ p + 1 = cap := fun e => hcp e.symm
                      clear hcp
                      go_wp2_with fail
                      refine (unhide HTk _ _).mono ?_
                      rintro e w1 ⟨rfl, hb1⟩
                      have HB1 := hide (Below.on (unhide HB) hb1); clear hb1
                      go_wp2
                      go_ret3
                      refine ⟨.slice none 0 0, ?_, unhide HB1, fun e => absurd ((unhide HE1).symm.trans e) (show ¬ (4 : Int) = 0 by decide), fun _ => rfl⟩
                      rw [unhide HE1, unhide HE2]
                      rfl
                  · have hcq : ¬ p + 1 = cap := by omega
                    have hr1 := row_drop (unhide HRw) (p + 1) (by omega)
                    have ht := refTakeU_any _ _ (cap - (p + 1)) _ 32 _ hr1 (by omega)
                    have hby := hr1.2.1
                    have hln := hr1.1
                    obtain ⟨qs, hqs⟩ : ∃ qs, zs.drop (p + 1) = qs := ⟨_, rfl⟩
                    rw [hqs] at HOo ht hby hln
                    by_cases he : Leb.tuE qs 32 = 0
                    · have hv := tuV_32 hby he
                      have hb := tu_bd _ _ he
                      have ho := unhide HOo
                      rw [if_pos he] at ho
                      rw [he] at ht
                      obtain ⟨N, hN⟩ : ∃ N : Nat, (Leb.tuN qs 32).toNat = N := ⟨_, rfl⟩
                      have hNz : Leb.tuN qs 32 = (N : Int) := by omega
                      obtain ⟨V, hV⟩ : ∃ V : Nat, (Leb.tuV qs 32).toNat = V := ⟨_, rfl⟩
                      have hVz : Leb.tuV qs 32 = (V : Int) := by omega
                      rw [hNz, hVz] at ht
                      rw [hNz, hVz, Int.toNat_natCast, Int.toNat_natCast, hl] at ho
                      have hVb : (V : Int) < 4294967296 := by omega
                      have hNb : 1 ≤ N ∧ p + 1 + N ≤ n := by omega
                      have hNn := hNb.2
                      have hNz1 : (p : Int) + 1 + (N : Int) ≤ (n : Int) := by omega
                      have hnz : (n : Int) ≤ 4000 := by omega
                      have HTk := hide ht
                      by_cases hs : (n : Int) - ((p : Int) + 1 + (N : Int)) < (V : Int)
                      · rw [if_pos hs] at ho
                        have hh := unhide HR1 (by rw [ho]; show ¬ (4 : Int) = 0; decide)
                        rw [ho] at hh
                        have HE1 := hide hh.1; have HE2 := hide hh.2
                        clear ht hv hb he hN hNz hV hVz hby hln hqs hr1 hNb ho hh HOo HR1 HR2 HNo
                        by_cases hs1 : (n : Int) < (V : Int)
                        · have hs1b : decide (n < V) = true := decide_eq_true (by omega)
                          go_wp2_with fail
                          refine (unhide HTk).mono ?_
                          rintro e w1 ⟨rfl, hb1⟩
                          have HB1 := hide (Below.on (unhide HB) hb1); clear hb1
                          go_wp2
                          go_ret3
                          refine ⟨.slice none 0 0, ?_, unhide HB1, fun e => absurd ((unhide HE1).symm.trans e) (show ¬ (4 : Int) = 0 by decide), fun _ => rfl⟩
                          rw [unhide HE1, unhide HE2]
                          rfl
                        · have hs1b : decide (n < V) = false := decide_eq_false (by omega)
                          go_wp2_with fail
                          refine (unhide HTk).mono ?_
                          rintro e w1 ⟨rfl, hb1⟩
                          have HB1 := hide (Below.on (unhide HB) hb1); clear hb1
                          go_wp2
                          go_ret3
                          refine ⟨.slice none 0 0, ?_, unhide HB1, fun e => absurd ((unhide HE1).symm.trans e) (show ¬ (4 : Int) = 0 by decide), fun _ => rfl⟩
                          rw [unhide HE1, unhide HE2]
                          rfl
                      · rw [if_neg hs] at ho
                        rw [show judge z ((zs.drop (p + 1 + N)).take V) = 0 by unfold judge; rw [if_neg z0], if_pos rfl] at ho
                        have hon := unhide HR2 (by rw [ho])
                        rw [ho] at hon
                        simp only at hon
                        have HOn := hide hon
                        have hs0 : ¬ ((n : Int) < (V : Int)) := by omega
                        have hs0b : decide (n < V) = false := decide_eq_false (by omega)
                        have hVn : V ≤ 4000 := by omega
                        have hfv : p + 1 + N + V ≤ n := by omega
                        have hfz : (p : Int) + 1 + (N : Int) + (V : Int) ≤ (n : Int) := by omega
                        have hVz9 : (V : Int) ≤ 4000 := by omega
                        clear ht hv hb he hN hNz hV hVz hby hln hqs hr1 hNb ho hon HOo HR1 HR2 HNo hVb
                        have hsb : ¬ ((n : Int) - ((p : Int) + 1 + (N : Int)) < (V : Int)) := hs
                        by_cases hfq : p + 1 + N = cap
                        · have hnn : cap = n := by omega
                          subst hnn
                          obtain rfl : V = 0 := by omega
                          have hfz9 : (p : Int) + 1 + (N : Int) = (cap : Int) := by omega
                          rw [hfq] at HOn
                          rw [Nat.add_zero] at HOn
                          clear hc hfz hNz1 hsb hs0 hs0b hVz9
                          go_wp2_with fail
                          refine (unhide HTk).mono ?_
                          rintro e w1 ⟨rfl, hb1⟩
                          have HB1 := hide hb1; clear hb1
                          have hrv : Row w1 (some ⟨b, o, none⟩) 0 ((zs.drop cap).take 0) := row_none _ _
                          have hCl : ((zs.drop cap).take 0).length = 0 := hrv.1
                          obtain ⟨cs, hcs⟩ : ∃ cs, ((zs.drop cap).take 0) = cs := ⟨_, rfl⟩
                          rw [hcs] at hrv hCl HOn
                          have hcel : cel ⟨z, cap, cs⟩ ((.slice (some ⟨b, o, none⟩) 0 0)) = [.int .u8 z, .int .i64 (cap : Int), (.slice (some ⟨b, o, none⟩) 0 0)] := by simp [cel]; try omega
                          have hb3 := one_alloc w1 (.cells #[.int .u8 z, .int .i64 (cap : Int), (.slice (some ⟨b, o, none⟩) 0 0)] 36)
                          have hb4 := one_alloc (w1.alloc (.cells #[.int .u8 z, .int .i64 (cap : Int), (.slice (some ⟨b, o, none⟩) 0 0)] 36)) (.cells #[.int .u8 z, .int .i64 (cap : Int), (.slice (some ⟨b, o, none⟩) 0 0)] 36)
                          have hb34 := Below.on (unhide HB1) (Below.on hb3 hb4)
                          obtain ⟨xs, hxo, hit⟩ := (unhide HO).below hb34
                          have hbyn : Byt ((w1.alloc (.cells #[.int .u8 z, .int .i64 (cap : Int), (.slice (some ⟨b, o, none⟩) 0 0)] 36)).alloc (.cells #[.int .u8 z, .int .i64 (cap : Int), (.slice (some ⟨b, o, none⟩) 0 0)] 36)) (own (fun _ => True) (.slice sa acc.length sc)) cs ((.slice (some ⟨b, o, none⟩) 0 0)) := by
                            refine ⟨(some ⟨b, o, none⟩), 0, by rw [hCl], by rw [hCl]; omega, by simp, by rw [hCl]; exact hrv.below (Nat.le_refl _) (Below.on hb3 hb4), fun _ => ⟨b, _, rfl, fun e => ?_, trivial⟩⟩
                            have := ((unhide HO).lt b e).1
                            omega
                          have HXo := hide hxo; have HIt := hide hit; have HByn := hide hbyn; have HB34 := hide hb34; have HCel := hide hcel
                          have hwle : w.heap.size ≤ wr.heap.size := (unhide HB).size
                          have hw1s := (unhide HB1).size
                          have hacc : acc.length ≤ 4000 := by omega
                          clear hrv hcel hb3 hb4 hb34 hxo hit hbyn
                          go_wp2_with (at_builtin; refine wpList_append_lies _ rfl (.tmp 154) (.tmp 156) 29 rfl w.heap.size 36 i0 (.agg #[.int .u8 0, .int .i64 0, .slice none 0 0]) 3 40 Tryd.underlying29 hi hz0 hz1 hz2 rfl (by decide) (.slice sa acc.length sc) acc.length xs rfl (unhide HXo) ⟨w1.heap.size + 1, 0, none⟩ 1 1 [.int .u8 z, .int .i64 (cap : Int), (.slice (some ⟨b, o, none⟩) 0 0)] rfl rfl ?c1 ?c2 (by omega) ?c3 ?c4 ?c5 (w1.heap.size + 2) ?c6 ?_)
                          case c1 => intro j u hj; have := box_new (w1.alloc (.cells #[.int .u8 z, .int .i64 (cap : Int), (.slice (some ⟨b, o, none⟩) 0 0)] 36)) #[.int .u8 z, .int .i64 (cap : Int), (.slice (some ⟨b, o, none⟩) 0 0)] 36 j; rw [addr_add, Nat.zero_add]; simp only [World.size_alloc] at this; rw [this]; simpa using hj
                          case c2 => intro u hu; simp at hu; rcases hu with rfl | rfl | rfl <;> rfl
                          case c3 => unfold maxLen; omega
                          case c4 => omega
                          case c5 => simp; omega
                          case c6 => simp
                          intro g6 cap6 w6 hown6 hgrow6 hat6 hlt6
                          rw [← unhide HCel] at hown6
                          have hOn := OwnS.snoc (s := ⟨z, cap, cs⟩) (unhide HXo) (unhide HIt) (unhide HByn) hown6 hgrow6 (by rcases hat6 with e | e; exact .inl e; exact .inr (by rw [e]; simp))
                          have hbn : Below w.heap.size w w6 := (Below.on (unhide HB) (unhide HB34)).trans ((Below.refl w.heap.size _).grown hgrow6 (by simp; omega) (fun k hk => ((unhide HO).lt k hk).1))
                          have hto := tops_on (unhide HTo) ht0 ⟨z, cap, cs⟩ hzz0
                          have HOn6 := hide hOn; have HBn := hide hbn; have HTo6 := hide hto
                          clear hOn hbn hto hown6 hgrow6 hat6 hlt6
                          go_wp2
                          go_roundg g'
                          case measure => omega
                          case rel => exact ⟨acc ++ [⟨z, cap, cs⟩], cap, max top z, by simp; try omega, by omega, by omega, by simp; omega, by omega, by omega, by simpa using HOn6, HBn, hide (by have h9 := unhide HOn; rw [show (p : Int) + 1 + (N : Int) = (cap : Int) by omega] at h9; exact h9), HTo6⟩
                        · go_wp2_with fail
                          refine (unhide HTk).mono ?_
                          rintro e w1 ⟨rfl, hb1⟩
                          have HB1 := hide hb1; clear hb1
                          have hrv : Row w1 (some ⟨b, o + (p + 1 + N), none⟩) V ((zs.drop (p + 1 + N)).take V) := ((row_dropc (unhide HRw) (p + 1 + N) hNn).take V (by omega)).below (Nat.le_refl _) (unhide HB1)
                          have hCl : ((zs.drop (p + 1 + N)).take V).length = V := hrv.1
                          obtain ⟨cs, hcs⟩ : ∃ cs, ((zs.drop (p + 1 + N)).take V) = cs := ⟨_, rfl⟩
                          rw [hcs] at hrv hCl HOn
                          have hcel : cel ⟨z, p + 1 + N, cs⟩ ((.slice (some ⟨b, o + (p + 1 + N), none⟩) V (cap - (p + 1 + N)))) = [.int .u8 z, .int .i64 ((p : Int) + 1 + (N : Int)), (.slice (some ⟨b, o + (p + 1 + N), none⟩) V (cap - (p + 1 + N)))] := by simp [cel]; try omega
                          have hb3 := one_alloc w1 (.cells #[.int .u8 z, .int .i64 ((p : Int) + 1 + (N : Int)), (.slice (some ⟨b, o + (p + 1 + N), none⟩) V (cap - (p + 1 + N)))] 36)
                          have hb4 := one_alloc (w1.alloc (.cells #[.int .u8 z, .int .i64 ((p : Int) + 1 + (N : Int)), (.slice (some ⟨b, o + (p + 1 + N), none⟩) V (cap - (p + 1 + N)))] 36)) (.cells #[.int .u8 z, .int .i64 ((p : Int) + 1 + (N : Int)), (.slice (some ⟨b, o + (p + 1 + N), none⟩) V (cap - (p + 1 + N)))] 36)
                          have hb34 := Below.on (unhide HB1) (Below.on hb3 hb4)
                          obtain ⟨xs, hxo, hit⟩ := (unhide HO).below hb34
                          have hbyn : Byt ((w1.alloc (.cells #[.int .u8 z, .int .i64 ((p : Int) + 1 + (N : Int)), (.slice (some ⟨b, o + (p + 1 + N), none⟩) V (cap - (p + 1 + N)))] 36)).alloc (.cells #[.int .u8 z, .int .i64 ((p : Int) + 1 + (N : Int)), (.slice (some ⟨b, o + (p + 1 + N), none⟩) V (cap - (p + 1 + N)))] 36)) (own (fun _ => True) (.slice sa acc.length sc)) cs ((.slice (some ⟨b, o + (p + 1 + N), none⟩) V (cap - (p + 1 + N)))) := by
                            refine ⟨(some ⟨b, o + (p + 1 + N), none⟩), (cap - (p + 1 + N)), by rw [hCl], by rw [hCl]; omega, by simp, by rw [hCl]; exact hrv.below (Nat.le_refl _) (Below.on hb3 hb4), fun _ => ⟨b, _, rfl, fun e => ?_, trivial⟩⟩
                            have := ((unhide HO).lt b e).1
                            omega
                          have HXo := hide hxo; have HIt := hide hit; have HByn := hide hbyn; have HB34 := hide hb34; have HCel := hide hcel
                          have hwle : w.heap.size ≤ wr.heap.size := (unhide HB).size
                          have hw1s := (unhide HB1).size
                          have hacc : acc.length ≤ 4000 := by omega
                          clear hrv hcel hb3 hb4 hb34 hxo hit hbyn
                          go_wp2_with (at_builtin; refine wpList_append_lies _ rfl (.tmp 154) (.tmp 156) 29 rfl w.heap.size 36 i0 (.agg #[.int .u8 0, .int .i64 0, .slice none 0 0]) 3 40 Tryd.underlying29 hi hz0 hz1 hz2 rfl (by decide) (.slice sa acc.length sc) acc.length xs rfl (unhide HXo) ⟨w1.heap.size + 1, 0, none⟩ 1 1 [.int .u8 z, .int .i64 ((p : Int) + 1 + (N : Int)), (.slice (some ⟨b, o + (p + 1 + N), none⟩) V (cap - (p + 1 + N)))] rfl rfl ?c1 ?c2 (by omega) ?c3 ?c4 ?c5 (w1.heap.size + 2) ?c6 ?_)
                          case c1 => intro j u hj; have := box_new (w1.alloc (.cells #[.int .u8 z, .int .i64 ((p : Int) + 1 + (N : Int)), (.slice (some ⟨b, o + (p + 1 + N), none⟩) V (cap - (p + 1 + N)))] 36)) #[.int .u8 z, .int .i64 ((p : Int) + 1 + (N : Int)), (.slice (some ⟨b, o + (p + 1 + N), none⟩) V (cap - (p + 1 + N)))] 36 j; rw [addr_add, Nat.zero_add]; simp only [World.size_alloc] at this; rw [this]; simpa using hj
                          case c2 => intro u hu; simp at hu; rcases hu with rfl | rfl | rfl <;> rfl
                          case c3 => unfold maxLen; omega
                          case c4 => omega
                          case c5 => simp; omega
                          case c6 => simp
                          intro g6 cap6 w6 hown6 hgrow6 hat6 hlt6
                          rw [← unhide HCel] at hown6
                          have hOn := OwnS.snoc (s := ⟨z, p + 1 + N, cs⟩) (unhide HXo) (unhide HIt) (unhide HByn) hown6 hgrow6 (by rcases hat6 with e | e; exact .inl e; exact .inr (by rw [e]; simp))
                          have hbn : Below w.heap.size w w6 := (Below.on (unhide HB) (unhide HB34)).trans ((Below.refl w.heap.size _).grown hgrow6 (by simp; omega) (fun k hk => ((unhide HO).lt k hk).1))
                          have hto := tops_on (unhide HTo) ht0 ⟨z, p + 1 + N, cs⟩ hzz0
                          have HOn6 := hide hOn; have HBn := hide hbn; have HTo6 := hide hto
                          clear hOn hbn hto hown6 hgrow6 hat6 hlt6
                          go_wp2
                          go_roundg g'
                          case measure => omega
                          case rel => exact ⟨acc ++ [⟨z, p + 1 + N, cs⟩], p + 1 + N + V, max top z, by simp; try omega, by omega, by omega, by simp; omega, by omega, by omega, by simpa using HOn6, HBn, HOn, HTo6⟩
                    · have ho := unhide HOo
                      rw [if_neg he] at ho
                      rw [(tuV_no he).1, (tuV_no he).2] at ht
                      have hh := unhide HR1 (by rw [ho]; exact he)
                      rw [ho] at hh
                      have HTk := hide ht; have HE := hide he; have HE1 := hide hh.1; have HE2 := hide hh.2
                      have heb : (Leb.tuE qs 32 == 0) = false := by simp [he]
                      generalize Leb.tuE qs 32 = E at *
                      clear ht he hby hln hqs hr1 ho hh HOo HR1 HR2 HNo
                      go_wp2_with fail
                      refine (unhide HTk).mono ?_
                      rintro e w1 ⟨rfl, hb1⟩
                      have HB1 := hide (Below.on (unhide HB) hb1); clear hb1
                      go_wp2
                      go_ret3
                      refine ⟨.slice none 0 0, ?_, unhide HB1, fun e => absurd ((unhide HE1).symm.trans e) (unhide HE), fun _ => rfl⟩
                      rw [unhide HE1, unhide HE2]
                      rfl
              · exact absurd trivial ztrue
        · obtain rfl : p = n := by omega
          have hT := (unhide HL).last (by omega)
          have HTT := hide hT
          clear hT hgk
          obtain ⟨sa, sc, rfl, hsc⟩ := (unhide HO).shape
          go_wp2
          go_ret3
          refine ⟨.slice sa acc.length sc, ?_, unhide HB, fun _ => ?_, fun e => absurd (by rw [unhide HTT]) e⟩
          · rw [unhide HTT]; rfl
          · rw [unhide HTT]; exact (unhide HO).secL
end Sc
end Go.Proofs.YtcmidegffpehoaaDoor

/- The document's Join. -/
namespace Go.Proofs.YtcmidegffpehoaaDoor
open Go.RowKit
namespace Sc
set_option linter.unusedVariables false
set_option linter.unusedSimpArgs false
theorem row_lit8 (w : World) : Row (w.alloc (.cells ((hd : List Int).map (Value.int .u8)).toArray 5)) (some ⟨w.heap.size, 0, none⟩) 8 hd := row_lit w hd (by decide)
theorem own_bel {w w' : World} {B n : Nat} {v : Value} {xs : List Value} (h : w.ownsRow B 5 1 v n xs) (hb : Below w.heap.size w w') : w'.ownsRow B 5 1 v n xs := by
  rcases h.2 with ⟨h1, h2⟩ | ⟨g, cap, cur, h1, h2, h3, h4⟩
  · exact ⟨h.1, .inl ⟨h1, h2⟩⟩
  · exact ⟨h.1, .inr ⟨g, cap, cur, h1, h2, (hb.block g (Array.getElem?_eq_some_iff.1 h3).1).trans h3, h4⟩⟩
def RJ (w : World) (l : List Sec) (e : Ending) (w' : World) : Prop :=
  Below w.heap.size w w' ∧ (jok l 0 = true → ∃ v, e = .returned (.tuple #[v, .int .i64 0]) ∧ Byt w' (w.heap.size ≤ ·) (JB l) v) ∧ (jok l 0 = false → e = .returned (.tuple #[.slice none 0 0, .int .i64 1]))
set_option maxRecDepth 100000 in
set_option maxHeartbeats 6400000 in
theorem rjoin_any {v : Value} {l : List Sec} {w : World} (h : SecL w l v) (hid : ∀ s ∈ l, 0 ≤ s.id ∧ s.id ≤ 255) (hbs : ∀ s ∈ l, ∀ z ∈ s.bs, 0 ≤ z ∧ z ≤ 255) (hsz : (JB l).length ≤ 3608) (hll : l.length ≤ 50) :
    Calls Tryd.prog 14 #[v] w (RJ w l) := by
  have hb1 := one_alloc w (.cells ((hd : List Int).map (Value.int .u8)).toArray 5)
  have hr0 := row_lit8 w
  obtain ⟨va, vc, rfl, hvc, _, hit⟩ := h
  have HIt := hide hit; have HB1 := hide hb1; have HR0 := hide hr0; have HId := hide hid; have HSz := hide hsz; have HBs := hide hbs
  clear hit hb1 hr0 hid hsz hbs
  go_enter Tryd.func14, Tryd.ntmps14
  go_wp2_with fail
  go_loopg [4, 5] (l.length + 1) (fun gk s4 s5 wr => ∃ (k : Nat), s5 = .int .i64 k ∧ k ≤ l.length ∧ l.length - k < gk ∧ Hid (Bld wr w.heap.size s4 (hd ++ (l.take k).flatMap encS)) ∧ Hid (Below w.heap.size w wr))
  case atStart => exact ⟨0, rfl, by omega, by omega, hide (.inr ⟨w.heap.size, rfl, Nat.le_refl _, by rw [List.take_zero, List.flatMap_nil, List.append_nil]; exact unhide HR0⟩), HB1⟩
  case round =>
    obtain ⟨k, rfl, hkl, hgk, HBl, HB⟩ := hrel
    by_cases hk : k < l.length
    · obtain ⟨g', rfl⟩ : ∃ g', gk = g' + 1 := ⟨gk - 1, by omega⟩
      have hkz : (k : Int) < (l.length : Int) := by omega
      obtain ⟨b, o, rfl, hlt, hc⟩ := unhide HIt k hk
      have hidk := unhide HId l[k] (List.getElem_mem hk)
      have hfl := flat_len l k hk
      have htf := take_flat l k hk
      obtain ⟨⟨id, at_, bs⟩, hs⟩ : ∃ s, l[k] = s := ⟨_, rfl⟩
      rw [hs] at hc hidk hfl htf
      obtain ⟨d0', d1', bv, d2', hbyt⟩ := hc
      simp only at d0' d1' d2' hidk hbyt
      have e0 : wr.cell? ⟨b, o + k * 3, none⟩ = some (.int .u8 id) := (cel_move ((unhide HB).block b hlt) _).trans d0'
      obtain ⟨ba, bc, rfl, hbc, hbn, hbr, _⟩ := hbyt
      have e2 : wr.cell? ⟨b, o + k * 3 + 2, none⟩ = some (.slice ba bs.length bc) := (cel_move ((unhide HB).block b hlt) _).trans d2'
      obtain ⟨xs, hxs⟩ : ∃ xs, hd ++ (l.take k).flatMap encS = xs := ⟨_, rfl⟩
      have hxn : hd ++ (l.take (k + 1)).flatMap encS = xs ++ ([id] ++ Leb.bU 10 bs.length ++ bs) := by
        rw [htf, ← hxs]; simp [encS]
      have hPb := Leb.bU_pos 10 (bs.length : Int)
      have hLb := Leb.bU_len 10 (bs.length : Int)
      have hxl : 8 ≤ xs.length := by rw [← hxs]; simp [hd]
      have hxm : xs.length + bs.length ≤ 3608 := by
        have h1 := unhide HSz
        have h2 : xs.length = 8 + ((l.take k).flatMap encS).length := by rw [← hxs]; simp [hd]; omega
        have h3 : (encS ⟨id, at_, bs⟩).length = 1 + (Leb.bU 10 bs.length).length + bs.length := by simp [encS]; omega
        have h4 : (JB l).length = 8 + (l.flatMap encS).length := by simp [JB, hd]; omega
        omega
      rw [hxs] at HBl
      have hwle : w.heap.size ≤ wr.heap.size := (unhide HB).size
      -- what the steps ask
      have hal := (Below.refl wr.heap.size wr).drew.alloc (Nat.le_refl _) (.cells #[.int .u8 id] 5)
      have hblA : Bld (wr.drew.alloc (.cells #[.int .u8 id] 5)) w.heap.size u4 xs := (unhide HBl).below hal (by omega)
      have hrowA : Row (wr.drew.alloc (.cells #[.int .u8 id] 5)) (some ⟨wr.heap.size, 0, none⟩) 1 [id] := row_lit wr.drew [id] (by intro z hz; simp at hz; rw [hz]; exact hidk)
      have hbA : Below w.heap.size w (wr.drew.alloc (.cells #[.int .u8 id] 5)) := (unhide HB).trans (hal.mono hwle)
      have hpu := fun W => refU_any (bs.length : Int) W (by omega) (by omega)
      have HBlA := hide hblA; have HRowA := hide hrowA; have HBA := hide hbA; have HPu := hide hpu; have HXn := hide hxn; have HBr := hide hbr
      have HD0 := hide d0'; have HD2 := hide d2'
      clear hal hblA hrowA hbA hpu hxn hbr d0' d1' d2' hs hfl htf hxs HBl
      generalize hLL : (Leb.bU 10 bs.length).length = LL at *
      have HLL := hide hLL; clear hLL
      have u64L : IntKind.u64.wrap (bs.length : Int) = (bs.length : Int) := by rw [IntKind.wrap_u64]; omega
      go_wp2_with fail
      go_region_held3 (fun w' => w'.cell? ⟨b, o + k * 3, none⟩ = some (.int .u8 id) ∧ w'.cell? ⟨b, o + k * 3 + 2, none⟩ = some (.slice ba bs.length bc))
        (first | go_keep)
        (first
          | (refine step_append_lay _ rfl (.tmp 16) (.tmp 22) rfl w.heap.size u4 xs rfl (unhide HBlA) (by omega) ⟨wr.heap.size, 0, none⟩ 1 1 [id] rfl (unhide HRowA) (by omega) (by omega) (by simp; omega) ?_
             intro g3 cap3 w3 hown3 hb3
             have HB3 := hide ((unhide HBA).trans hb3)
             have HO3 := hide hown3
             have c30 : w3.cell? ⟨b, o + k * 3, none⟩ = some (.int .u8 id) := (cel_move ((unhide HB3).block b hlt) _).trans (unhide HD0)
             have c32 : w3.cell? ⟨b, o + k * 3 + 2, none⟩ = some (.slice ba bs.length bc) := (cel_move ((unhide HB3).block b hlt) _).trans (unhide HD2)
             clear hown3 hb3)
          | (go_at_call 26
             refine (unhide HPu _).mono ?_
             rintro e w4 ⟨g4, cap4, rfl, hrow4, hcap4, hg4, hb4⟩
             have HB4 := hide (Below.on (unhide HB3) hb4)
             have HRow4 := hide hrow4
             have HO4 := hide (own_bel (unhide HO3) hb4)
             have c40 : w4.cell? ⟨b, o + k * 3, none⟩ = some (.int .u8 id) := (cel_move ((unhide HB4).block b hlt) _).trans (unhide HD0)
             have c42 : w4.cell? ⟨b, o + k * 3 + 2, none⟩ = some (.slice ba bs.length bc) := (cel_move ((unhide HB4).block b hlt) _).trans (unhide HD2)
             clear hrow4 hcap4 hg4 hb4)
          | (refine step_append_row _ rfl (.tmp 23) (.tmp 31) rfl w.heap.size _ (xs.length + 1) (xs ++ [id]) rfl (unhide HO4) (some ⟨g4, 0, none⟩) LL cap4 (Leb.bU 10 bs.length) rfl (unhide HRow4) (by simp) (by omega) (unhide HB4).size ?_
             intro v5 w5 hown5 hb5
             have HB5 := hide ((unhide HB4).trans hb5)
             have HO5 := hide hown5
             obtain ⟨a5, c5, rfl⟩ := own_shape' hown5
             have c50 : w5.cell? ⟨b, o + k * 3, none⟩ = some (.int .u8 id) := (cel_move ((unhide HB5).block b hlt) _).trans (unhide HD0)
             have c52 : w5.cell? ⟨b, o + k * 3 + 2, none⟩ = some (.slice ba bs.length bc) := (cel_move ((unhide HB5).block b hlt) _).trans (unhide HD2)
             clear hown5 hb5)
          | (refine step_append_row _ rfl (.tmp 32) (.tmp 37) rfl w.heap.size _ (xs.length + 1 + LL) (xs ++ [id] ++ Leb.bU 10 bs.length) rfl (unhide HO5) ba bs.length bc bs rfl ((unhide HBr).below (Nat.le_refl _) (unhide HB5)) hbn (by omega) (unhide HB5).size ?_
             intro v6 w6 hown6 hb6
             have HB6 := hide ((unhide HB5).trans hb6)
             have HO6 := hide hown6
             obtain ⟨a6, c6, rfl⟩ := own_shape' hown6
             have c60 : w6.cell? ⟨b, o + k * 3, none⟩ = some (.int .u8 id) := (cel_move ((unhide HB6).block b hlt) _).trans (unhide HD0)
             have c62 : w6.cell? ⟨b, o + k * 3 + 2, none⟩ = some (.slice ba bs.length bc) := (cel_move ((unhide HB6).block b hlt) _).trans (unhide HD2)
             clear hown6 hb6))
      have hbl6 : Bld w6 w.heap.size (.slice a6 (xs.length + 1 + LL + bs.length) c6) (hd ++ (l.take (k + 1)).flatMap encS) := by
        rw [unhide HXn]
        have e : xs ++ ([id] ++ Leb.bU 10 bs.length ++ bs) = xs ++ [id] ++ Leb.bU 10 bs.length ++ bs := by simp
        rw [e]
        refine .inl ?_
        have e2 : (xs ++ [id] ++ Leb.bU 10 bs.length ++ bs).length = xs.length + 1 + LL + bs.length := by have := unhide HLL; simp; omega
        rw [e2]
        exact unhide HO6
      have HBl6 := hide hbl6
      clear hbl6 c60 c62
      go_wp2
      go_roundg g'
      case measure => omega
      case rel => exact ⟨k + 1, by simp, by omega, by omega, HBl6, HB6⟩
    · obtain rfl : k = l.length := by omega
      have hkz : ¬ ((l.length : Int) < (l.length : Int)) := by omega
      rw [List.take_length] at HBl
      have hJ1 : (JB l).length ≤ 50000 := by have := unhide HSz; omega
      have hby := bld_byt (unhide HBl) (jb_bytes hJ1 (unhide HId) (unhide HBs))
      have hby' : Byt wr (w.heap.size ≤ ·) (JB l) u4 := hby
      obtain ⟨ba, bc, rfl, hbc, hbn, hbr, hbg⟩ := hby'
      have hrs := rsplit_any hbr hbc (by have := unhide HSz; omega)
      have hj1 := (S_join hJ1).1
      have hj2 := (S_join hJ1).2
      have HBy := hide hby
      cases hjk : jok l 0 with
      | true =>
        rw [hj1 hjk] at hrs
        have HRs := hide hrs; have HJk := hide hjk
        clear hrs hj1 hj2 hby hbr hbg hJ1 hjk
        go_wp2_with fail
        refine (unhide HRs).mono ?_
        rintro e w1 ⟨v1, rfl, hb1, _, _⟩
        have HB1' := hide (Below.on (unhide HB) hb1); have HBy1 := hide ((unhide HBy).below hb1)
        clear hb1
        go_wp2
        go_ret2
        exact ⟨unhide HB1', fun _ => ⟨_, rfl, unhide HBy1⟩, fun e => absurd ((unhide HJk).symm.trans e) (by decide)⟩
      | false =>
        have hne := hj2 hjk
        obtain ⟨R, hR⟩ : ∃ R, S (JB l) = R := ⟨_, rfl⟩
        rw [hR] at hrs hne
        have HRs := hide hrs; have HJk := hide hjk
        have hne2 : (R.e == 0) = false := by simp [hne]
        clear hrs hj1 hj2 hby hbr hbg hJ1 hjk hR
        go_wp2_with fail
        refine (unhide HRs).mono ?_
        rintro e w1 ⟨v1, rfl, hb1, _, _⟩
        have HB1' := hide (Below.on (unhide HB) hb1)
        clear hb1
        go_wp2
        go_ret2
        exact ⟨unhide HB1', fun e => absurd ((unhide HJk).symm.trans e) (by decide), fun _ => rfl⟩
end Sc
end Go.Proofs.YtcmidegffpehoaaDoor

/- The statements' sameSections: of two lists that are the same. -/
namespace Go.Proofs.YtcmidegffpehoaaDoor
open Go.RowKit
namespace Sc
set_option linter.unusedVariables false
set_option linter.unusedSimpArgs false
set_option maxRecDepth 100000 in
set_option maxHeartbeats 3200000 in
theorem same_any {v1 v2 : Value} {l : List Sec} {w : World} (h1 : SecL w l v1) (h2 : SecL w l v2) (hl : l.length ≤ 50000) :
    Calls Tryd.prog 11 #[v1, v2] w fun e w' => e = .returned (.bool true) ∧ Below w.heap.size w w' := by
  obtain ⟨a1, c1, rfl, _, _, hi1⟩ := h1
  obtain ⟨a2, c2, rfl, _, _, hi2⟩ := h2
  have H1 := hide hi1; have H2 := hide hi2
  clear hi1 hi2
  go_enter Tryd.func11, Tryd.ntmps11
  go_wp2
  go_loopg [5] (l.length + 1) (fun gk s5 wr => ∃ (i : Nat), s5 = .int .i64 i ∧ i ≤ l.length ∧ l.length - i < gk ∧ Hid (Below w.heap.size w wr))
  case atStart => exact ⟨0, rfl, by omega, by omega, hide (Below.refl _ _)⟩
  case round =>
    obtain ⟨i, rfl, hil, hgk, HB⟩ := hrel
    by_cases hi : i < l.length
    · obtain ⟨g', rfl⟩ : ∃ g', gk = g' + 1 := ⟨gk - 1, by omega⟩
      have hiz : (i : Int) < (l.length : Int) := by omega
      obtain ⟨b1, o1, rfl, hlt1, hx1⟩ := unhide H1 i hi
      obtain ⟨b2, o2, rfl, hlt2, hx2⟩ := unhide H2 i hi
      have hc1 := hx1.below (unhide HB) hlt1
      have hc2 := hx2.below (unhide HB) hlt2
      obtain ⟨⟨id, at_, bs⟩, hs⟩ : ∃ s, l[i] = s := ⟨_, rfl⟩
      rw [hs] at hc1 hc2
      obtain ⟨d0, d1, bv1, d2, hby1⟩ := hc1
      obtain ⟨e0, e1, bv2, e2, hby2⟩ := hc2
      simp only at d0 d1 d2 e0 e1 e2 hby1 hby2
      obtain ⟨x1, y1, rfl, _, _, r1, _⟩ := hby1
      obtain ⟨x2, y2, rfl, _, _, r2, _⟩ := hby2
      obtain ⟨St, hSt⟩ : ∃ St, strOfNums bs = St := ⟨_, rfl⟩
      have HSt := hide hSt
      have k1 := convS (cap := y1) r1 HSt
      have k2 := convS (cap := y2) r2 HSt
      have k3 := convS (cap := y1) (r1.below (Nat.le_refl _) (Below.refl _ _).drew) HSt
      have k4 := convS (cap := y2) (r2.below (Nat.le_refl _) (Below.refl _ _).drew) HSt
      clear hs hSt r1 r2 hx1 hx2
      generalize bs.length = L at *
      go_wp2_with fail
      go_region_held3 (fun w' => w'.cell? ⟨b1, o1 + i * 3, none⟩ = some (.int .u8 id) ∧ w'.cell? ⟨b1, o1 + i * 3 + 1, none⟩ = some (.int .i64 at_) ∧ w'.cell? ⟨b1, o1 + i * 3 + 2, none⟩ = some (.slice x1 L y1) ∧
          w'.cell? ⟨b2, o2 + i * 3, none⟩ = some (.int .u8 id) ∧ w'.cell? ⟨b2, o2 + i * 3 + 1, none⟩ = some (.int .i64 at_) ∧ w'.cell? ⟨b2, o2 + i * 3 + 2, none⟩ = some (.slice x2 L y2) ∧
          Sem.run Tryd.prog (convert 22 9 (.slice x1 L y1)) w' = .ok (.string St) w' ∧ Sem.run Tryd.prog (convert 22 9 (.slice x2 L y2)) w' = .ok (.string St) w')
        (first | go_keep) (fail)
      go_wp2
      go_roundg g'
      case measure => omega
      case rel => exact ⟨i + 1, by simp, by omega, by omega, hide (unhide HB).drew⟩
    · obtain rfl : i = l.length := by omega
      go_wp2
      go_ret
      exact ⟨rfl, unhide HB⟩
end Sc
end Go.Proofs.YtcmidegffpehoaaDoor

/- SectJoins: any sections as bytes. -/
namespace Go.Proofs.YtcmidegffpehoaaDoor
open Go.RowKit
namespace Sc
set_option linter.unusedVariables false
set_option linter.unusedSimpArgs false
set_option maxRecDepth 100000 in
set_option maxHeartbeats 12800000 in
theorem joins_any {v : Value} {l : List Sec} {w : World} (h : SecL w l v) (hid : ∀ s ∈ l, 0 ≤ s.id ∧ s.id ≤ 255) (hbs : ∀ s ∈ l, ∀ z ∈ s.bs, 0 ≤ z ∧ z ≤ 255) (hE : ErrT w) (hT : U8 w) :
    Calls Tryd.prog 4 #[v] w fun e w' => e = .returned (.bool true) ∧ Below w.heap.size w w' := by
  have hsl := h
  obtain ⟨va, vc, rfl, hvc, _, hit⟩ := h
  have HSl := hide hsl; clear hsl
  have HIt := hide hit; have HE := hide hE; have HT := hide hT; have HId := hide hid; have HBs := hide hbs
  clear hit hE hT hid hbs
  obtain ⟨i0, hi, hz0, hz1, hz2⟩ := info_parts infoS
  go_enter Tryd.func4, Tryd.ntmps4
  go_wp2_with fail
  go_loopg [3, 4] (l.length + 1) (fun gk s3 s4 wr => ∃ (k : Nat), s4 = .int .i64 k ∧ s3 = .int .i64 (sm (l.take k)) ∧ k ≤ l.length ∧ k ≤ 100 ∧ l.length - k < gk ∧ Hid (Below w.heap.size w wr))
  case atStart => exact ⟨0, rfl, rfl, by omega, by omega, by omega, hide (Below.refl _ _)⟩
  case round =>
    obtain ⟨k, rfl, rfl, hkl, hk1, hgk, HB⟩ := hrel
    by_cases hk : k < l.length ∧ k < 100
    · obtain ⟨g', rfl⟩ : ∃ g', gk = g' + 1 := ⟨gk - 1, by omega⟩
      have hkz : (k : Int) < (l.length : Int) := by omega
      have hkz2 : (k : Int) < 100 := by omega
      obtain ⟨b, o, rfl, hlt, hx⟩ := unhide HIt k hk.1
      have hst := sm_take l k hk.1
      have hsb := sm_bd (l.take k)
      have htl : (l.take k).length = k := by simp; omega
      rw [htl] at hsb
      obtain ⟨⟨id, at_, bs⟩, hs⟩ : ∃ s, l[k] = s := ⟨_, rfl⟩
      rw [hs] at hx hst
      obtain ⟨d0, d1, bv, d2', x1, y1, rfl, hy, _, r1, _⟩ := hx.below (unhide HB) hlt
      have d2 : wr.cell? ⟨b, o + k * 3 + 2, none⟩ = some (.slice x1 bs.length y1) := d2'
      simp only at hst
      have HSt := hide hst
      generalize sm (l.take k) = N at *
      generalize bs.length = L at *
      clear hst hs hx d0 d1 d2' r1 hy
      go_wp2
      go_roundg g'
      case measure => omega
      case rel => exact ⟨k + 1, by simp, by rw [unhide HSt], by omega, by omega, by omega, HB⟩
    · by_cases g0 : l.length ≤ 50
      · obtain rfl : k = l.length := by omega
        have g0b : decide (50 < l.length) = false := decide_eq_false (by omega)
        have g0z : ¬ ((50 : Int) < (l.length : Int)) := by omega
        have hnk : ¬ ((l.length : Int) < (l.length : Int)) := by omega
        rw [List.take_length]
        by_cases g1 : sm l ≤ 3000
        · have g1z : ¬ ((3000 : Int) < sm l) := by omega
          have hJl := jb_len g1 g0
          generalize sm l = N at *
          clear hk hk1 hgk hkl
          go_wp2_with fail
          go_loopg [5, 6] (l.length + 1) (fun gk s5 s6 wr => ∃ (k : Nat), s6 = .int .i64 k ∧ k ≤ l.length ∧ l.length - k < gk ∧ Hid (OwnS 37 wr w.heap.size (· < w.heap.size) s5 (l.take k)) ∧ Hid (Below w.heap.size w wr))
          case atStart => exact ⟨0, rfl, by omega, by omega, hide (OwnS_nil _ _ _ _), HB⟩
          case round =>
            clear HB
            obtain ⟨k, rfl, hkl, hgk, HO, HB⟩ := hrel
            by_cases hk : k < l.length
            · obtain ⟨g', rfl⟩ : ∃ g', gk = g' + 1 := ⟨gk - 1, by omega⟩
              have hkz : (k : Int) < (l.length : Int) := by omega
              obtain ⟨b, o, rfl, hlt, hx⟩ := unhide HIt k hk
              have htk := List.take_append_getElem hk
              have htl : (l.take k).length = k := by simp; omega
              obtain ⟨⟨id, at_, bs⟩, hs⟩ : ∃ s, l[k] = s := ⟨_, rfl⟩
              rw [hs] at hx htk
              have HTk := hide htk
              obtain ⟨d0', d1', bv, d2', hby⟩ := hx
              simp only at d0' d1' d2' hby
              have e0 := (cel_move ((unhide HB).block b hlt) _).trans d0'
              have e1 := (cel_move ((unhide HB).block b hlt) _).trans d1'
              have e2 := (cel_move ((unhide HB).block b hlt) _).trans d2'
              have hbz := hby.any (g' := (· < w.heap.size)) (fun k hk _ => hk)
              have hby0 := hby
              obtain ⟨x1, y1, rfl, _⟩ := hby0
              have hby3 := hbz.below (unhide HB)
              have hb4 := one_alloc wr (.cells (cel ⟨id, at_, bs⟩ (.slice x1 bs.length y1)).toArray 37)
              obtain ⟨xs, hxo, hit⟩ := (unhide HO).below hb4
              obtain ⟨sa, sc, rfl, _⟩ := (unhide HO).shape
              have hbyn : Byt (wr.alloc (.cells (cel ⟨id, at_, bs⟩ (.slice x1 bs.length y1)).toArray 37)) (own (· < w.heap.size) (.slice sa (l.take k).length sc)) bs (.slice x1 bs.length y1) := (hby3.below hb4).any fun k _ hk => ⟨fun e => by have := ((unhide HO).lt k e).1; have : k < w.heap.size := hk; omega, hk⟩
              have HXo := hide hxo; have HIt2 := hide hit; have HByn := hide hbyn
              have hwle : w.heap.size ≤ wr.heap.size := (unhide HB).size
              rw [htl] at HO HXo HByn ⊢
              clear hb4 hxo hit hbyn d0' d1' d2' hby hbz hby3 htk hs
              go_wp2_with (at_builtin; refine wpList_append_lies _ rfl (.tmp 44) (.tmp 49) 24 rfl w.heap.size 37 i0 (.agg #[.int .u8 0, .int .i64 0, .slice none 0 0]) 3 40 Tryd.underlying24 hi hz0 hz1 hz2 rfl (by decide) (.slice sa k sc) k xs rfl (unhide HXo) ⟨wr.heap.size, 0, none⟩ 1 1 (cel ⟨id, at_, bs⟩ (.slice x1 bs.length y1)) ?c0 rfl ?c1 ?c2 (by omega) ?c3 ?c4 ?c5 (wr.heap.size + 1) ?c6 ?_)
              case c1 => exact fun j u hj => hj
              case c2 => exact cel_one _ rfl
              case c3 => unfold maxLen; omega
              case c4 => omega
              case c5 => omega
              intro g capn w6 hown6 hgrow hat6 hlt6
              have hOn := OwnS.snoc (l := l.take k) (s := ⟨id, at_, bs⟩) (by rw [htl]; exact unhide HXo) (by rw [htl] at *; exact unhide HIt2) (unhide HByn) (by rw [htl]; exact hown6) hgrow (by rcases hat6 with e | e; exact .inl e; exact .inr (by rw [e]; simp))
              rw [htl, unhide HTk] at hOn
              have hbn : Below w.heap.size w w6 := ((unhide HB).trans ((one_alloc wr _).mono hwle)).trans ((Below.refl w.heap.size _).grown hgrow (by simp; omega) (fun k hk => ((unhide HO).lt k hk).1))
              have HOn := hide hOn; have HBn := hide hbn
              clear hOn hbn hown6 hgrow hat6 hlt6
              go_wp2
              go_roundg g'
              case measure => omega
              case rel => exact ⟨k + 1, by simp, by omega, by omega, HOn, HBn⟩
            · obtain rfl : k = l.length := by omega
              have hkz : ¬ ((l.length : Int) < (l.length : Int)) := by omega
              rw [List.take_length] at HO
              have hjo := join_any (unhide HO).secL (unhide HId) (unhide HBs) (by omega) (Utf8Tabs_below (unhide HT) (unhide HB))
              have hrj := fun wx (hb : Below w.heap.size w wx) => rjoin_any (v := .slice va l.length vc) (l := l) ((unhide HSl).below hb) (unhide HId) (unhide HBs) hJl g0
              obtain ⟨oa, oc, rfl, hoc⟩ := (unhide HO).shape
              have HJo := hide hjo; have HRj := hide hrj
              clear hjo hrj hgk hkl hk
              go_wp2_with fail
              refine (unhide HJo).mono ?_
              rintro e w2 ⟨hb2, hy2, hn2⟩
              have HB2 := hide (Below.on (unhide HB) hb2)
              have HO2 := hide ((unhide HO).below hb2)
              clear hb2 HO HJo
              cases hjk : jok l 0 with
              | false =>
                obtain rfl := hn2 hjk
                have HJk := hide hjk
                clear hy2 hn2 hjk
                go_wp2_with fail
                refine (unhide HRj _ (unhide HB2)).mono ?_
                rintro e w3 ⟨hb3, _, hn3⟩
                obtain rfl := hn3 (unhide HJk)
                have HB3 := hide (Below.on (unhide HB2) hb3)
                have HO3 := hide ((unhide HO2).below hb3)
                clear hb3 hn3
                obtain ⟨St, hSt⟩ : ∃ St, strOfNums [] = St := ⟨_, rfl⟩
                have HSt := hide hSt
                have k1 := convS (cap := 0) (row_none w3 none) HSt
                clear hSt
                go_wp2_with fail
                refine (num_hit 1 _ ((unhide HE).below (Nat.le_refl _) (unhide HB3))).mono ?_
                rintro e w4 ⟨rfl, hb4⟩
                have HB4 := hide (Below.on (unhide HB3) hb4)
                have hsa := same_any ((unhide HO3).below hb4).secL ((unhide HSl).below (unhide HB4)) (by omega)
                have HSa := hide hsa
                clear hb4 hsa
                go_wp2_with fail
                refine (unhide HSa).mono ?_
                rintro e w5 ⟨rfl, hb5⟩
                have HB5 := hide (Below.on (unhide HB4) hb5); clear hb5
                go_wp2_with fail
                refine (sure_any _ (Utf8Tabs_below (unhide HT) (unhide HB5))).mono ?_
                rintro e w6 ⟨rfl, hb6⟩
                have HB6 := hide (Below.on (unhide HB5) hb6); clear hb6
                go_wp2
                go_ret
                exact ⟨rfl, unhide HB6⟩
              | true =>
                obtain ⟨bv, rfl, hby⟩ := hy2 hjk
                have HJk := hide hjk; have HBy := hide hby
                obtain ⟨ba, cb, rfl, _⟩ := hby
                clear hy2 hn2 hjk
                go_wp2_with fail
                refine (unhide HRj _ (unhide HB2)).mono ?_
                rintro e w3 ⟨hb3, hy3, _⟩
                obtain ⟨cv, rfl, hcy⟩ := hy3 (unhide HJk)
                have HB3 := hide (Below.on (unhide HB2) hb3)
                have HO3 := hide ((unhide HO2).below hb3)
                obtain ⟨ca, cc, rfl, _, _, hcr, _⟩ := hcy
                have hbr : Row w3 ba (JB l).length (JB l) := by
                  obtain ⟨a', c', e', _, _, hr', _⟩ := (unhide HBy).below hb3
                  simp at e'
                  rw [e'.1]; exact hr'
                obtain ⟨St, hSt⟩ : ∃ St, strOfNums (JB l) = St := ⟨_, rfl⟩
                have HSt := hide hSt
                have k1 := convS (cap := cb) hbr HSt
                have k2 := convS (cap := cc) hcr HSt
                clear hSt hb3 hy3 hcr hbr HBy
                go_wp2_with fail
                refine (num_nil _).mono ?_
                rintro e w4 ⟨rfl, hb4⟩
                have HB4 := hide (Below.on (unhide HB3) hb4)
                have hsa := same_any ((unhide HO3).below hb4).secL ((unhide HSl).below (unhide HB4)) (by omega)
                have HSa := hide hsa
                clear hb4 hsa
                go_wp2_with fail
                refine (unhide HSa).mono ?_
                rintro e w5 ⟨rfl, hb5⟩
                have HB5 := hide (Below.on (unhide HB4) hb5); clear hb5
                go_wp2_with fail
                refine (sure_any _ (Utf8Tabs_below (unhide HT) (unhide HB5))).mono ?_
                rintro e w6 ⟨rfl, hb6⟩
                have HB6 := hide (Below.on (unhide HB5) hb6); clear hb6
                go_wp2
                go_ret
                exact ⟨rfl, unhide HB6⟩
        · have g1z : (3000 : Int) < sm l := by omega
          go_wp2_with fail
          refine (sure_any _ (Utf8Tabs_below (unhide HT) (unhide HB))).mono ?_
          rintro e w5 ⟨rfl, hb5⟩
          have HB5 := hide (Below.on (unhide HB) hb5); clear hb5
          go_wp2
          go_ret
          exact ⟨rfl, unhide HB5⟩
      · have g0b : decide (50 < l.length) = true := decide_eq_true (by omega)
        have g0z : (50 : Int) < (l.length : Int) := by omega
        have hkk : (k : Int) < (l.length : Int) → ¬ (k : Int) < 100 := by omega
        by_cases h1 : (k : Int) < (l.length : Int)
        · have h2 : ¬ (k : Int) < 100 := hkk h1
          go_wp2_with fail
          refine (sure_any _ (Utf8Tabs_below (unhide HT) (unhide HB))).mono ?_
          rintro e w5 ⟨rfl, hb5⟩
          have HB5 := hide (Below.on (unhide HB) hb5); clear hb5
          go_wp2
          go_ret
          exact ⟨rfl, unhide HB5⟩
        · go_wp2_with fail
          refine (sure_any _ (Utf8Tabs_below (unhide HT) (unhide HB))).mono ?_
          rintro e w5 ⟨rfl, hb5⟩
          have HB5 := hide (Below.on (unhide HB) hb5); clear hb5
          go_wp2
          go_ret
          exact ⟨rfl, unhide HB5⟩
end Sc
end Go.Proofs.YtcmidegffpehoaaDoor

/- The tables of unicode/utf8, as the rows list them. -/
namespace Go.Proofs.YtcmidegffpehoaaDoor
open Go.RowKit Go.Shelf
namespace Sc
set_option linter.unusedVariables false
def ren : Ren where
  t := fun n => if n = 5 then 5 else if n = 119 then 83 else if n = 138 then 85 else 86
  g := fun n => if n = 3 then 1 else 2
  f := fun n => n
theorem ren_types : U8Types Tryd.prog ren := ⟨by kernel_rfl, by kernel_rfl, by kernel_rfl, by kernel_rfl⟩
theorem ren_extra : U8Extra Tryd.prog ren := ⟨by kernel_rfl, by kernel_rfl, by kernel_rfl, by kernel_rfl, by kernel_rfl, by kernel_rfl, by kernel_rfl⟩
theorem accept_eq : (Rows.laid_unicode_utf8_acceptRanges : DataW Unit) = Lib.acceptData := by kernel_rfl
/-- the table's cells -/
def firstCells : Array Value := ((List.range 256).map fun c => Value.int .u8 (Lib.firstT c)).toArray
theorem u8_of_met {W : World} {l : List (String × DataW Unit)} (h : laidMet Tryd.prog l W) (m1 : ("unicode/utf8.first", Rows.laid_unicode_utf8_first) ∈ l) (m2 : ("unicode/utf8.acceptRanges", Rows.laid_unicode_utf8_acceptRanges) ∈ l) : U8 W := by
  have h1 := Lib.laidMet.reads h m1
  have h2 := Lib.laidMet.reads h m2
  rw [show Rows.laid_unicode_utf8_first = Lib.firstData from Pinned.utf8First_eq] at h1
  rw [accept_eq] at h2
  exact utf8Tabs_of_readsT ren_types ren_extra h1 h2
end Sc
end Go.Proofs.YtcmidegffpehoaaDoor

/- From the rows' condition on errors.errorType (beside other variables) to the variable's cell. After the guide's worked toy of errors.As. -/
namespace Go.Proofs.YtcmidegffpehoaaDoor
open Go.ChangeShapes Go.WideShapes Go.RowKit

theorem hownKnob : ownKnob Tryd.prog.godebug = none := by kernel_rfl
theorem het : Tryd.prog.globalNamed "errors.errorType" = some 0 := by kernel_rfl
theorem honeRow : ((List.range 135).filter fun t => Tryd.prog.rowNamed t [101, 114, 114, 111, 114]) = [26] := by kernel_rfl
theorem hsize : Tryd.prog.types.size = 135 := by kernel_rfl

theorem handle_of_met {W : World} (h : handlesMet Tryd.prog [("errors.errorType", Rows.laid_errors_errorType)] W) : ErrT W := by
  obtain ⟨name, u, ty, e1, e2, e3, e4, e5⟩ := h _ (List.mem_singleton.2 rfl)
  have en : name = [101, 114, 114, 111, 114] := (Option.some.inj e1).symm
  subst en
  obtain rfl : 91 = u := Option.some.inj (Eq.trans (by kernel_rfl) e2)
  have hm : ty ∈ (List.range 135).filter fun t => Tryd.prog.rowNamed t [101, 114, 114, 111, 114] := List.mem_filter.2 ⟨List.mem_range.2 (by rw [← hsize]; exact e3), e4⟩
  rw [honeRow] at hm
  obtain rfl := List.mem_singleton.1 hm
  have hh : typeHandle Tryd.prog 26 = .pointer (some ⟨3, 26, none⟩) := by kernel_rfl
  rw [hh] at e5
  have := World.var?_cell het e5 0
  unfold ErrT
  simpa using this
end Go.Proofs.YtcmidegffpehoaaDoor

/- SectJoins returns true for every list of sections, and leaves it: any sections as the bytes of a module, or the error. Of unicode/utf8's tables and of errors.errorType it takes what the program's text lays (the card ties it). -/
namespace Go.Proofs.YtcmidegffpehoaaDoor.sectJoins
open Go.ChangeShapes Go.WideShapes Go.ChangeAt Go.RowKit
open Go.ChangeMaps (open_string shut_string)
set_option linter.unusedVariables false

theorem own : ownKnob Tryd.prog.godebug = none := by kernel_rfl
theorem laidOut : laidOutB Tryd.prog = true := by kernel_rfl

def IsRow (k : IntKind) (w : World) (a : Option Addr) (len cap : Nat) (zs : List Int) : Prop :=
  (a = none ∧ len = 0 ∧ cap = 0 ∧ zs = []) ∨
  ∃ x, a = some x ∧ len ≤ cap ∧ cap ≤ maxLen ∧ zs.length = cap ∧ (∀ i, i < zs.length → w.cell? (x.add i) = some (.int k (zs.getD i 0))) ∧ ∀ n ∈ zs, (Lit.int k n).wf = true



set_option maxHeartbeats 400000 in
theorem walk (a0 : Option Addr) (len0 cap0 : Nat) (l0 : List Sc.Sec) (w : World) (hErr : ErrT w) (hU8 : Sc.U8 w) (hl0 : l0.length = len0) (w0 : Sc.SecL w l0 (.slice a0 len0 cap0) ∧ (∀ s ∈ l0, 0 ≤ s.id ∧ s.id ≤ 255) ∧ (∀ s ∈ l0, ∀ z ∈ s.bs, 0 ≤ z ∧ z ≤ 255)) :
    Calls Tryd.prog 4 #[.slice a0 len0 cap0] w fun e w' => e = .returned (.bool true) ∧ Below w.heap.size w w' := by
  exact Sc.joins_any w0.1 w0.2.1 w0.2.2 hErr hU8

theorem laidWorld_met (os : Os) (args : Array Value) : laidMetH Tryd.prog Rows.sectJoinsRow.laid (({ World.holding Tryd.prog os ⟨#[], #[], []⟩ with heap := ((((World.holding Tryd.prog os ⟨#[], #[], []⟩).heap.modify 2 fun | .cells _ t frozen => .cells #[.int .u8 128, .int .u8 191, .int .u8 160, .int .u8 191, .int .u8 128, .int .u8 159, .int .u8 144, .int .u8 191, .int .u8 128, .int .u8 143, .int .u8 0, .int .u8 0, .int .u8 0, .int .u8 0, .int .u8 0, .int .u8 0, .int .u8 0, .int .u8 0, .int .u8 0, .int .u8 0, .int .u8 0, .int .u8 0, .int .u8 0, .int .u8 0, .int .u8 0, .int .u8 0, .int .u8 0, .int .u8 0, .int .u8 0, .int .u8 0, .int .u8 0, .int .u8 0] t frozen | o => o).modify 0 fun | .cells _ t frozen => .cells #[.iface 91 (.agg #[.pointer (some ⟨3, 26, none⟩)])] t frozen | o => o).modify 1 fun | .cells _ t frozen => .cells (Sc.firstCells) t frozen | o => o) } : World).forCall (fun _ _ => 0) ⟨#[], args, []⟩).memory :=
  laidMetH_of_parts (laidMet_of_run' 8 (by kernel_rfl) (by kernel_rfl)) (by kernel_rfl)

set_option maxRecDepth 100000 in
theorem lifted (os : Os) (started : os.Started) (H : Type) (enc : TypeId × Value → H) :
    ReturnsInHanded {} Tryd.checked os 4 .any (fun w args => (Rows.sectJoinsSpec.pre enc Tryd.prog Tryd.f4 [] false w args ∧ laidMetH Tryd.prog Rows.sectJoinsRow.laid w) ∧ sizedMet enc Tryd.prog Tryd.f4 (OpenSpec.ofChange Rows.sectJoinsSpec) false w args) (Rows.sectJoinsSpec.post enc Tryd.prog Tryd.f4 false true false false) := by
  refine returnsInHanded_of_change_and (C := Tryd.checked) (X := fun w _ => laidMetH Tryd.prog Rows.sectJoinsRow.laid w) (fun _ _ _ hh h => h.of_heap hh) own started (by kernel_rfl) Tryd.func4
    (ChangeSpec.witness_at (enc := enc) (C := Tryd.checked) (os := os) (X := fun w _ => laidMetH Tryd.prog Rows.sectJoinsRow.laid w) false ({ World.holding Tryd.prog os ⟨#[], #[], []⟩ with heap := ((((World.holding Tryd.prog os ⟨#[], #[], []⟩).heap.modify 2 fun | .cells _ t frozen => .cells #[.int .u8 128, .int .u8 191, .int .u8 160, .int .u8 191, .int .u8 128, .int .u8 159, .int .u8 144, .int .u8 191, .int .u8 128, .int .u8 143, .int .u8 0, .int .u8 0, .int .u8 0, .int .u8 0, .int .u8 0, .int .u8 0, .int .u8 0, .int .u8 0, .int .u8 0, .int .u8 0, .int .u8 0, .int .u8 0, .int .u8 0, .int .u8 0, .int .u8 0, .int .u8 0, .int .u8 0, .int .u8 0, .int .u8 0, .int .u8 0, .int .u8 0, .int .u8 0] t frozen | o => o).modify 0 fun | .cells _ t frozen => .cells #[.iface 91 (.agg #[.pointer (some ⟨3, 26, none⟩)])] t frozen | o => o).modify 1 fun | .cells _ t frozen => .cells (Sc.firstCells) t frozen | o => o) } : World) #[.slice none 0 0] 8 rfl (by kernel_rfl) (by kernel_rfl) (by kernel_rfl) (by kernel_rfl) (by kernel_rfl) (laidWorld_met os _)) ?_
  intro W base args ds gs before hval0 hW _ _ hL _
  have hLL : laidMet Tryd.prog [("unicode/utf8.acceptRanges", Rows.laid_unicode_utf8_acceptRanges), ("unicode/utf8.first", Rows.laid_unicode_utf8_first)] W ∧ handlesMet Tryd.prog [("errors.errorType", Rows.laid_errors_errorType)] W := hL
  have hg : ErrT W := handle_of_met hLL.2
  have hgU : Sc.U8 W := Sc.u8_of_met hLL.1 (by simp) (by simp)
  have hval : ∀ (j : Nat) t v, Tryd.f4.params[j]? = some t → args[j]? = some v → Value.okWide Tryd.prog W .any base t v := hval0
  have hW' := hW
  obtain ⟨p, q, hA0, hV, rfl, hfz, hnd⟩ := hW
  have hA : DataW.TrodAll enc Tryd.prog W 0 (fun _ => true) true Tryd.f4.params.toList args.toList ds p := hA0
  rw [Tryd.params4] at hA hval
  obtain ⟨v0, vs0, d0, ds0, p0, q0, hargs, rfl, rfl, h0, r0⟩ := trodAll_cons hA
  obtain ⟨rfl, rfl, rfl⟩ := trodAll_nil r0
  obtain rfl : args = #[v0] := by cases args; simp_all
  obtain ⟨rfl, rfl⟩ := trodVars_none hV
  obtain ⟨a0, len0, cap0, rfl⟩ := okWide_slice Tryd.underlying29 (hval 0 29 v0 rfl rfl)
  have k0 := h0
  have lt0 : ∀ x ∈ p0, x.block < W.heap.size := by obtain ⟨m, hm⟩ := k0; exact DataW.trod_lt m _ _ _ hm
  obtain ⟨l0, hl0, w0⟩ := Sc.open_secs h0
  clear hA0 hval0
  refine (walk a0 len0 cap0 l0 W hg hgU hl0 w0).mono fun e W' ⟨he, bel⟩ => ?_
  subst he
  exact ⟨_, rfl, _, _, _, [], _, [], hW', trodAll_mk1 (shut_bool Tryd.underlying4 _), (trodAll_cons_mk (Below.trod laidOut (by kernel_rfl) (of_decide_eq_true (by kernel_rfl)) k0 bel lt0) trodAll_mk0), rfl, bel.frame _, fun h => by cases h⟩

theorem over : Rows.sectJoinsRow.holds Tryd.pinned (OpenSpec.ofChange Rows.sectJoinsSpec) :=
  OpenClaim.holds_of_wide 4 Tryd.f4 rfl rfl rfl rfl rfl rfl rfl ⟨rfl, rfl, rfl, rfl, rfl⟩ rfl rfl rfl rfl rfl (by kernel_rfl) Tryd.func4 (by kernel_rfl)
    (of_decide_eq_true (by kernel_rfl)) (by unfold Func.isWrapper; first | (rw [if_pos (by decide +kernel)]; kernel_rfl) | (rw [if_neg (by decide +kernel)]; exact ⟨rfl, rfl⟩))
    (fun os started H enc _ => lifted os started H enc)

theorem proved : Rows.SectJoinsSaid := over
end Go.Proofs.YtcmidegffpehoaaDoor.sectJoins

namespace Go.Proofs.YtcmidegffpehoaaDoor
theorem sectJoins_holds : Rows.SectJoinsSaid := sectJoins.proved
theorem sectJoins_card : Rows.SectJoinsCardSaid :=
  Claim7.holds_tied_plain_at .later [] [.data, .handle, .pinned] true (true, "13d367442c9bb8b34d9d3ed94118f22436ef14892ce248c0f25d7c57a75074f6") true
    sectJoins_holds (fun _ h => by cases h) (by kernel_rfl) (fun _ h => by cases h) sectJoins_row_tie rfl ⟨rfl, rfl⟩ (by kernel_rfl) rfl
    (fun f fn hf hfn => by
      obtain rfl : 4 = f := Option.some.inj (Eq.trans (by kernel_rfl) hf)
      obtain rfl : fn = Tryd.f4 := (Option.some.inj (Tryd.func4.symm.trans hfn)).symm
      exact ⟨by kernel_rfl, fun j t ht => by
        rw [Tryd.params4] at ht
        rcases j with _ | j
        · obtain rfl : t = 29 := by simpa using ht.symm
          exact (show Tryd.prog.wantsStandIn 29 = false by kernel_rfl)
        · simp at ht⟩)
    (by kernel_rfl)
end Go.Proofs.YtcmidegffpehoaaDoor
