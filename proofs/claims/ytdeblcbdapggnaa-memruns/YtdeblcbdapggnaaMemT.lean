/- The document's set: a byte written. -/
import Derived.Test.YtdeblcbdapggnaaMemO
namespace Go.Proofs.Ytdeblcbdapggnaa
open Go.RowKit Mm
set_option linter.unusedVariables false

theorem Try.info49 : (Try.prog.info? 49).map (fun i => (i.zero, i.size, i.bytes)) = some (some (.agg #[.int .u64 0, .int .u8 0]), 2, 16) := by kernel_rfl
theorem two_new (w : World) (x y : Value) (t : TypeId) : ∀ j u, [x, y][j]? = some u → (w.alloc (.cells #[x, y] t)).cell? ((⟨w.heap.size, 0, none⟩ : Addr).add j) = some u := by
  intro j u hj
  match j, hj with
  | 0, hj => simp at hj; subst hj; simp [Addr.add]
  | 1, hj => simp at hj; subst hj; simp [Addr.add]

/-- what one append does -/
theorem app_one (B : Nat) (w wr w2 : World) (s v' : Value) (acc : List (Int × Int)) (x : Int × Int) (hbel : Below B w wr) (hB : B ≤ wr.heap.size) (hown : wr.ownsRow B 49 2 s acc.length (cl acc))
    (hown3 : w2.ownsRow B 49 2 v' (acc.length + 1) (cl acc ++ [.int .u64 x.1, .int .u8 x.2]))
    (hgrow : (wr.alloc (.cells #[.int .u64 x.1, .int .u8 x.2] 49)).grownBy w2 s.ownBlock) :
    ∃ g cap, v' = .slice (some ⟨g, 0, none⟩) (acc ++ [x]).length cap ∧ w2.ownsRow B 49 2 (.slice (some ⟨g, 0, none⟩) (acc ++ [x]).length cap) (acc ++ [x]).length (cl (acc ++ [x])) ∧ Below B w w2 ∧ B ≤ w2.heap.size := by
  have h1 : Below B w w2 := (hbel.alloc hB _).grown hgrow (by simp; omega) (fun k hk => (hown.lt k hk).1)
  have hl : (acc ++ [x]).length = acc.length + 1 := by simp
  have hex : ∃ g cap, v' = .slice (some ⟨g, 0, none⟩) (acc.length + 1) cap := by
    rcases hown3.2 with ⟨_, h0⟩ | ⟨g, cap, _, h, _⟩
    · omega
    · exact ⟨g, cap, h⟩
  obtain ⟨g, cap, rfl⟩ := hex
  refine ⟨g, cap, by rw [hl], ?_, h1, by have := h1.size; have := (hown3.lt g rfl); omega⟩
  rw [hl, cl_app]
  exact hown3

theorem setL_1 (a b p c : Int) (r : List (Int × Int)) (h : a ≤ p) (e : p = a) : setL a b false ((p, c) :: r) = (a, b) :: setL a b true r := by rw [setL, if_pos ⟨rfl, h⟩, if_pos e]
theorem setL_2 (a b p c : Int) (r : List (Int × Int)) (h : a ≤ p) (e : ¬ p = a) : setL a b false ((p, c) :: r) = (a, b) :: (p, c) :: setL a b true r := by rw [setL, if_pos ⟨rfl, h⟩, if_neg e]
theorem setL_3 (a b p c : Int) (r : List (Int × Int)) (h : ¬ a ≤ p) : setL a b false ((p, c) :: r) = (p, c) :: setL a b false r := by rw [setL, if_neg (by omega), if_neg (by omega)]
theorem setL_4 (a b p c : Int) (r : List (Int × Int)) (e : p = a) : setL a b true ((p, c) :: r) = setL a b true r := by rw [setL, if_neg (by simp), if_pos e]
theorem setL_5 (a b p c : Int) (r : List (Int × Int)) (e : ¬ p = a) : setL a b true ((p, c) :: r) = (p, c) :: setL a b true r := by rw [setL, if_neg (by simp), if_neg e]

/-- what the last stores leave -/
theorem set_fin (S : Nat) (w W w3 : World) (v : Value) (n : Nat) (xs : List Value) (v1 v2 v3 v4 : Value) (hW : Below S w W) (hb : Below (S + 2) W w3) (hS : S ≤ W.heap.size) (ho : w3.ownsRow (S + 2) 49 2 v n xs) :
    ((((w3.setCell ⟨S, 2, none⟩ v1).setCell ⟨S + 1, 0, none⟩ v2).setCell ⟨S + 1, 1, none⟩ v3).setCell ⟨S + 1, 2, none⟩ v4).ownsRow S 49 2 v n xs ∧
      Below S w ((((w3.setCell ⟨S, 2, none⟩ v1).setCell ⟨S + 1, 0, none⟩ v2).setCell ⟨S + 1, 1, none⟩ v3).setCell ⟨S + 1, 2, none⟩ v4) := by
  have h1 := ownsRow_setCell_below (ownsRow_setCell_below (ownsRow_setCell_below (ownsRow_setCell_below ho (a := ⟨S, 2, none⟩) (by simp) v1) (a := ⟨S + 1, 0, none⟩) (by simp) v2) (a := ⟨S + 1, 1, none⟩) (by simp) v3) (a := ⟨S + 1, 2, none⟩) (by simp) v4
  refine ⟨⟨h1.1, ?_⟩, ((((hW.trans (hb.mono (by omega))).setCell (p := ⟨S, 2, none⟩) (by simp) v1).setCell (p := ⟨S + 1, 0, none⟩) (by simp) v2).setCell (p := ⟨S + 1, 1, none⟩) (by simp) v3).setCell (p := ⟨S + 1, 2, none⟩) (by simp) v4⟩
  rcases h1.2 with hn | ⟨g', cap', cur, rfl, hg, r⟩
  · exact .inl hn
  · exact .inr ⟨g', cap', cur, rfl, by omega, r⟩

/-- the relation of set's loop -/
def SetRel (w2 : World) (B : Nat) (a b : Int) (L : List (Int × Int)) (s d i : Value) (wr : World) : Prop :=
  ∃ (j : Nat) (acc : List (Int × Int)) (dn : Bool) (ad : Option Addr) (cap : Nat), j ≤ L.length ∧ i = .int .i64 j ∧ d = .bool dn ∧ s = .slice ad acc.length cap ∧
    acc.length ≤ j + dn.toNat ∧ acc ++ setL a b dn (L.drop j) = setL a b (decide (b = 0)) L ∧ wr.ownsRow B 49 2 (.slice ad acc.length cap) acc.length (cl acc) ∧ Below B w2 wr ∧ B ≤ wr.heap.size

set_option maxHeartbeats 4000000 in
theorem set_any {w : World} {B : Nat} {v : Value} {L : List (Int × Int)} (h : LRow w B v L) (P k a b : Int) (ha : 0 ≤ a ∧ a < 65536) (hb : 0 ≤ b ∧ b ≤ 255) :
    Calls Try.prog 20 #[.agg #[.int .i64 P, .int .i64 k, v], .int .u64 a, .int .u8 b] w fun e w' => ∃ ad cap, e = .returned (.agg #[.int .i64 P, .int .i64 k, .slice ad (setL a b (decide (b = 0)) L).length cap]) ∧
      w'.ownsRow w.heap.size 49 2 (.slice ad (setL a b (decide (b = 0)) L).length cap) (setL a b (decide (b = 0)) L).length (cl (setL a b (decide (b = 0)) L)) ∧ Below w.heap.size w w' := by
  obtain ⟨ad, cap, rfl, hc1, hc2, hcell⟩ := h.shape
  have hs := h.small
  have hbd := fun i hi => bd_at h.bd i hi
  unfold maxLen at hc2
  obtain ⟨i0, hi, hz0, hz1, hz2⟩ := info_parts Try.info49
  obtain ⟨a0, a1⟩ := ha
  obtain ⟨b0, b1⟩ := hb
  obtain ⟨W, hW⟩ : ∃ W, (w.alloc (.cells #[.int .i64 P, .int .i64 k, .slice ad L.length cap] 31)).alloc (.cells #[.int .i64 0, .int .i64 0, .slice none 0 0] 31) = W := ⟨_, rfl⟩
  have hW1 : Below w.heap.size w W := by rw [← hW]; exact ((Below.refl _ _).alloc (Nat.le_refl _) _).alloc (by simp) _
  have hWs : W.heap.size = w.heap.size + 2 := by rw [← hW]; simp
  have hW0 : W.heap[w.heap.size]? = some (.cells #[.int .i64 P, .int .i64 k, .slice ad L.length cap] 31 (0, 0)) := by
    rw [← hW, Below.heap_alloc _ _ _ (by simp)]; exact heap_alloc_new _ _
  have hW2 : W.heap[w.heap.size + 1]? = some (.cells #[.int .i64 0, .int .i64 0, .slice none 0 0] 31 (0, 0)) := by
    rw [← hW]; have := heap_alloc_new (w.alloc (.cells #[.int .i64 P, .int .i64 k, .slice ad L.length cap] 31)) (.cells #[.int .i64 0, .int .i64 0, .slice none 0 0] 31); simpa using this
  have hbb : (b == 0) = decide (b = 0) := by rw [Bool.eq_iff_iff]; simp
  have HC := hide hcell; have HB := hide hbd; have HW := hide hW; have H1 := hide hW1; have HS := hide hWs; have H0 := hide hW0; have H2 := hide hW2; have HBB := hide hbb
  clear hcell hbd h hW hW1 hWs hW0 hW2 hbb
  obtain ⟨R, hR⟩ : ∃ R, setL a b (decide (b = 0)) L = R := ⟨_, rfl⟩
  rw [hR]
  have HR0 := hide hR
  clear hR
  go_enter Try.func20, Try.ntmps20
  go_wp2_with fail
  rw [unhide HW, unhide HBB]
  go_loopw [7, 8, 9] (fun s d i wr => SetRel W (w.heap.size + 2) a b L s d i wr) (fun _ _ i _ => (L.length - intOf i).toNat)
  case atStart => exact ⟨0, [], decide (b = 0), none, 0, by omega, rfl, rfl, rfl, by simp, by simp, World.ownsRow_nil _ _ _ _, Below.refl _ _, by rw [unhide HS]; omega⟩
  case round =>
    obtain ⟨j, acc, dn, ads, caps, hj, rfl, rfl, rfl, hal, heq, hown, hbel, hsz⟩ := hrel
    have hR := unhide HR0
    rw [hR] at heq
    have hx0 := (hbel.block w.heap.size (by omega)).trans (unhide H0)
    have hx1 := (hbel.block (w.heap.size + 1) (by omega)).trans (unhide H2)
    have hq2 : wr.cell? ⟨w.heap.size, 2, none⟩ = some (.slice ad L.length cap) := by rw [cell_of_row wr _ 2 _ _ _ hx0]; rfl
    by_cases hlt : j < L.length
    · obtain ⟨g, rfl, hg, _, hcs⟩ := unhide HC (by omega)
      obtain ⟨c1, c2⟩ := hcs j hlt
      have hbx := unhide HB j hlt
      rw [drop_at j hlt] at heq
      generalize L[j]?.getD (0, 0) = x at *
      obtain ⟨p, c⟩ := x
      have hWg : ∀ o, wr.cell? ⟨g, o, none⟩ = w.cell? ⟨g, o, none⟩ := fun o => (hbel.cell (p := ⟨g, o, none⟩) (by simp; omega)).trans ((unhide H1).cell (p := ⟨g, o, none⟩) (by simpa using hg))
      have d1 : wr.cell? ⟨g, j * 2, none⟩ = some (.int .u64 p) := (hWg _).trans c1
      have d2 : wr.cell? ⟨g, j * 2 + 1, none⟩ = some (.int .u8 c) := (hWg _).trans c2
      have hp0 := hbx.1.1; have hp1 := hbx.1.2
      have hj2 : (j : Int) < L.length := by omega
      have hal2 : acc.length ≤ 65537 := by cases dn <;> simp at hal <;> omega
      have HAL := hide hal; have HO := hide hown; have HBE := hide hbel; have HSZ := hide hsz; have HR := hide hR; have HJ := hide hlt
      clear hal hown hbel hsz hx0 hx1 hcs c1 c2 hWg hbx hR hj
      cases dn
      · by_cases hap : a ≤ p
        · by_cases hpa : p = a
          · -- written, the old one dropped
            rw [setL_1 a b p c _ hap hpa] at heq
            have t : (p != a) = false := by simpa using hpa
            have HQ := hide heq
            clear heq hpa hlt
            go_wp2_with (at_builtin; refine wpList_append_own _ rfl (.tmp 31) (.tmp 35) 29 rfl (w.heap.size + 2) 49 i0 (.agg #[.int .u64 0, .int .u8 0]) 2 16 Try.underlying29 hi hz0 hz1 hz2 rfl (by decide) (.slice ads acc.length caps) acc.length (cl acc) rfl ((unhide HO).alloc _) ⟨wr.heap.size, 0, none⟩ 1 1 [.int .u64 a, .int .u8 b] rfl rfl (two_new _ _ _ _) ?c2 ?c3 ?c4 ?c5 ?_)
            case c2 => first | exact ⟨rfl, rfl⟩ | (intro u hu; simp at hu; rcases hu with rfl | rfl <;> rfl)
            case c3 => unfold maxLen; omega
            case c4 => omega
            case c5 => have := unhide HSZ; simp; omega
            intro v' w3 hown3 hgrow _
            obtain ⟨g1, cap1, hv1, ho1, hb1, hB1⟩ := app_one (w.heap.size + 2) W wr w3 _ v' acc (a, b) (unhide HBE) (unhide HSZ) (unhide HO) hown3 hgrow
            rw [hv1]
            have hq3 : w3.cell? ⟨w.heap.size, 2, none⟩ = some (.slice (some ⟨g, 0, none⟩) L.length cap) := by rw [cell_of_row w3 _ 2 _ _ _ ((hb1.block w.heap.size (by omega)).trans (unhide H0))]; rfl
            have hgl : g < w.heap.size := hg
            have hbr1 : ∀ o, w3.cell? ⟨g, o, none⟩ = wr.cell? ⟨g, o, none⟩ := fun o => (hb1.cell (p := ⟨g, o, none⟩) (by simp; omega)).trans (((unhide HBE).cell (p := ⟨g, o, none⟩) (by simp; omega)).symm)
            have d3 := (hbr1 _).trans d1
            have d4 := (hbr1 _).trans d2
            have HO1 := hide ho1; have HB1 := hide hb1; have HZ1 := hide hB1
            clear hown3 hgrow ho1 hb1 hB1 hv1 hbr1 d1 d2 hq2
            go_wp2
            go_roundw
            case rel => exact ⟨j + 1, acc ++ [(a, b)], true, _, _, by omega, by go_num, rfl, rfl, by have := unhide HAL; simp at this ⊢; omega, by rw [unhide HR, ← unhide HQ]; simp, unhide HO1, unhide HB1, unhide HZ1⟩
            case measure => simp [intOf]; omega
          · rw [setL_2 a b p c _ hap hpa] at heq
            have t : (p != a) = true := by simpa using hpa
            have HQ := hide heq
            clear heq hpa hlt
            go_wp2_with (at_builtin; refine wpList_append_own _ rfl (.tmp 31) (.tmp 35) 29 rfl (w.heap.size + 2) 49 i0 (.agg #[.int .u64 0, .int .u8 0]) 2 16 Try.underlying29 hi hz0 hz1 hz2 rfl (by decide) (.slice ads acc.length caps) acc.length (cl acc) rfl ((unhide HO).alloc _) ⟨wr.heap.size, 0, none⟩ 1 1 [.int .u64 a, .int .u8 b] rfl rfl (two_new _ _ _ _) ?c2 ?c3 ?c4 ?c5 ?_)
            case c2 => first | exact ⟨rfl, rfl⟩ | (intro u hu; simp at hu; rcases hu with rfl | rfl <;> rfl)
            case c3 => unfold maxLen; omega
            case c4 => omega
            case c5 => have := unhide HSZ; simp; omega
            intro v' w3 hown3 hgrow _
            obtain ⟨g1, cap1, hv1, ho1, hb1, hB1⟩ := app_one (w.heap.size + 2) W wr w3 _ v' acc (a, b) (unhide HBE) (unhide HSZ) (unhide HO) hown3 hgrow
            rw [hv1]
            have hq3 : w3.cell? ⟨w.heap.size, 2, none⟩ = some (.slice (some ⟨g, 0, none⟩) L.length cap) := by rw [cell_of_row w3 _ 2 _ _ _ ((hb1.block w.heap.size (by omega)).trans (unhide H0))]; rfl
            have hgl : g < w.heap.size := hg
            have hbr1 : ∀ o, w3.cell? ⟨g, o, none⟩ = wr.cell? ⟨g, o, none⟩ := fun o => (hb1.cell (p := ⟨g, o, none⟩) (by simp; omega)).trans (((unhide HBE).cell (p := ⟨g, o, none⟩) (by simp; omega)).symm)
            have d3 := (hbr1 _).trans d1
            have d4 := (hbr1 _).trans d2
            have HO1 := hide ho1; have HB1 := hide hb1; have HZ1 := hide hB1
            clear hown3 hgrow ho1 hb1 hB1 hv1 hbr1 d1 d2 hq2
            have hl1 : (acc ++ [(a, b)]).length ≤ 65538 := by simp; omega
            generalize hacc : acc ++ [(a, b)] = acc1 at *
            have HAC := hide hacc; clear hacc
            go_wp2_with (at_builtin; refine wpList_append_own _ rfl (.tmp 45) (.tmp 51) 29 rfl (w.heap.size + 2) 49 i0 (.agg #[.int .u64 0, .int .u8 0]) 2 16 Try.underlying29 hi hz0 hz1 hz2 rfl (by decide) (.slice (some ⟨g1, 0, none⟩) acc1.length cap1) acc1.length (cl acc1) rfl ((unhide HO1).alloc _) ⟨w3.heap.size, 0, none⟩ 1 1 [.int .u64 p, .int .u8 c] rfl rfl (two_new _ _ _ _) ?c2 ?c3 ?c4 ?c5 ?_)
            case c2 => first | exact ⟨rfl, rfl⟩ | (intro u hu; simp at hu; rcases hu with rfl | rfl <;> rfl)
            case c3 => unfold maxLen; omega
            case c4 => omega
            case c5 => have := unhide HZ1; simp; omega
            intro v'' w4 hown4 hgrow2 _
            obtain ⟨g2, cap2, hv2, ho2, hb2, hB2⟩ := app_one (w.heap.size + 2) W w3 w4 _ v'' acc1 (p, c) (unhide HB1) (unhide HZ1) (unhide HO1) hown4 hgrow2
            have HO2 := hide ho2; have HB2 := hide hb2; have HZ2 := hide hB2
            clear hown4 hgrow2 ho2 hb2 hB2
            rw [hv2]
            clear hv2
            go_wp2
            go_roundw
            case rel => exact ⟨j + 1, acc1 ++ [(p, c)], true, _, _, by omega, by go_num, rfl, rfl, by have := unhide HAL; rw [← unhide HAC]; simp at this ⊢; omega, by rw [unhide HR, ← unhide HQ, ← unhide HAC]; simp, unhide HO2, unhide HB2, unhide HZ2⟩
            case measure => simp [intOf]; omega
        · rw [setL_3 a b p c _ hap] at heq
          have t : (p != a) = true := by simp; omega
          have HQ := hide heq
          have hap2 : p < a := by omega
          clear heq hap hlt
          go_wp2_with (at_builtin; refine wpList_append_own _ rfl (.tmp 45) (.tmp 51) 29 rfl (w.heap.size + 2) 49 i0 (.agg #[.int .u64 0, .int .u8 0]) 2 16 Try.underlying29 hi hz0 hz1 hz2 rfl (by decide) (.slice ads acc.length caps) acc.length (cl acc) rfl ((unhide HO).alloc _) ⟨wr.heap.size, 0, none⟩ 1 1 [.int .u64 p, .int .u8 c] rfl rfl (two_new _ _ _ _) ?c2 ?c3 ?c4 ?c5 ?_)
          case c2 => first | exact ⟨rfl, rfl⟩ | (intro u hu; simp at hu; rcases hu with rfl | rfl <;> rfl)
          case c3 => unfold maxLen; omega
          case c4 => omega
          case c5 => have := unhide HSZ; simp; omega
          intro v' w3 hown3 hgrow _
          obtain ⟨g1, cap1, hv1, ho1, hb1, hB1⟩ := app_one (w.heap.size + 2) W wr w3 _ v' acc (p, c) (unhide HBE) (unhide HSZ) (unhide HO) hown3 hgrow
          rw [hv1]
          have HO1 := hide ho1; have HB1 := hide hb1; have HZ1 := hide hB1
          clear hown3 hgrow ho1 hb1 hB1 hv1
          go_wp2
          go_roundw
          case rel => exact ⟨j + 1, acc ++ [(p, c)], false, _, _, by omega, by go_num, rfl, rfl, by have := unhide HAL; simp at this ⊢; omega, by rw [unhide HR, ← unhide HQ]; simp, unhide HO1, unhide HB1, unhide HZ1⟩
          case measure => simp [intOf]; omega
      · by_cases hpa : p = a
        · rw [setL_4 a b p c _ hpa] at heq
          have t : (p != a) = false := by simpa using hpa
          have HQ := hide heq
          clear heq hpa hlt
          go_wp2
          go_roundw
          case rel => exact ⟨j + 1, acc, true, _, _, by omega, by go_num, rfl, rfl, by have := unhide HAL; simp at this ⊢; omega, by rw [unhide HR, ← unhide HQ], unhide HO, unhide HBE, unhide HSZ⟩
          case measure => simp [intOf]; omega
        · rw [setL_5 a b p c _ hpa] at heq
          have t : (p != a) = true := by simpa using hpa
          have HQ := hide heq
          clear heq hpa hlt
          go_wp2_with (at_builtin; refine wpList_append_own _ rfl (.tmp 45) (.tmp 51) 29 rfl (w.heap.size + 2) 49 i0 (.agg #[.int .u64 0, .int .u8 0]) 2 16 Try.underlying29 hi hz0 hz1 hz2 rfl (by decide) (.slice ads acc.length caps) acc.length (cl acc) rfl ((unhide HO).alloc _) ⟨wr.heap.size, 0, none⟩ 1 1 [.int .u64 p, .int .u8 c] rfl rfl (two_new _ _ _ _) ?c2 ?c3 ?c4 ?c5 ?_)
          case c2 => first | exact ⟨rfl, rfl⟩ | (intro u hu; simp at hu; rcases hu with rfl | rfl <;> rfl)
          case c3 => unfold maxLen; omega
          case c4 => omega
          case c5 => have := unhide HSZ; simp; omega
          intro v' w3 hown3 hgrow _
          obtain ⟨g1, cap1, hv1, ho1, hb1, hB1⟩ := app_one (w.heap.size + 2) W wr w3 _ v' acc (p, c) (unhide HBE) (unhide HSZ) (unhide HO) hown3 hgrow
          rw [hv1]
          have HO1 := hide ho1; have HB1 := hide hb1; have HZ1 := hide hB1
          clear hown3 hgrow ho1 hb1 hB1 hv1
          go_wp2
          go_roundw
          case rel => exact ⟨j + 1, acc ++ [(p, c)], true, _, _, by omega, by go_num, rfl, rfl, by have := unhide HAL; simp at this ⊢; omega, by rw [unhide HR, ← unhide HQ]; simp, unhide HO1, unhide HB1, unhide HZ1⟩
          case measure => simp [intOf]; omega
    · obtain rfl : j = L.length := by omega
      rw [List.drop_length] at heq
      have hal2 : acc.length ≤ 65537 := by cases dn <;> simp at hal <;> omega
      have hq2' := hq2
      have HO := hide hown; have HBE := hide hbel; have HSZ := hide hsz
      have HX0 := hide hx0; have HX1 := hide hx1
      clear hown hbel hsz hal hj hx0 hx1
      cases dn
      · have heq2 : acc ++ [(a, b)] = R := heq
        have HQ := hide heq2
        clear heq heq2 hR
        go_wp2_with (at_builtin; refine wpList_append_own _ rfl (.tmp 55) (.tmp 59) 29 rfl (w.heap.size + 2) 49 i0 (.agg #[.int .u64 0, .int .u8 0]) 2 16 Try.underlying29 hi hz0 hz1 hz2 rfl (by decide) (.slice ads acc.length caps) acc.length (cl acc) rfl ((unhide HO).alloc _) ⟨wr.heap.size, 0, none⟩ 1 1 [.int .u64 a, .int .u8 b] rfl rfl (two_new _ _ _ _) ?c2 ?c3 ?c4 ?c5 ?_)
        case c2 => first | exact ⟨rfl, rfl⟩ | (intro u hu; simp at hu; rcases hu with rfl | rfl <;> rfl)
        case c3 => unfold maxLen; omega
        case c4 => omega
        case c5 => have := unhide HSZ; simp; omega
        intro v' w3 hown3 hgrow _
        obtain ⟨g1, cap1, hv1, ho1, hb1, hB1⟩ := app_one (w.heap.size + 2) W wr w3 _ v' acc (a, b) (unhide HBE) (unhide HSZ) (unhide HO) hown3 hgrow
        rw [unhide HQ] at hv1 ho1
        have hx0 := (hb1.block w.heap.size (by omega)).trans (unhide H0)
        have hx1 := (hb1.block (w.heap.size + 1) (by omega)).trans (unhide H2)
        rw [hv1]
        clear hown3 hgrow hv1 hq2 hq2' HX0 HX1
        have q0 : w3.cell? ⟨w.heap.size, 0, none⟩ = some (.int .i64 P) := by rw [cell_of_row w3 _ 0 _ _ _ hx0]; rfl
        have q1 : w3.cell? ⟨w.heap.size, 1, none⟩ = some (.int .i64 k) := by rw [cell_of_row w3 _ 1 _ _ _ hx0]; rfl
        have q2 : w3.cell? ⟨w.heap.size, 2, none⟩ = some (.slice ad L.length cap) := by rw [cell_of_row w3 _ 2 _ _ _ hx0]; rfl
        have f2 := frozen_of_row w3 w.heap.size 2 _ _ hx0
        have r0 : w3.cell? ⟨w.heap.size + 1, 0, none⟩ = some (.int .i64 0) := by rw [cell_of_row w3 _ 0 _ _ _ hx1]; rfl
        have r1 : w3.cell? ⟨w.heap.size + 1, 1, none⟩ = some (.int .i64 0) := by rw [cell_of_row w3 _ 1 _ _ _ hx1]; rfl
        have r2 : w3.cell? ⟨w.heap.size + 1, 2, none⟩ = some (.slice none 0 0) := by rw [cell_of_row w3 _ 2 _ _ _ hx1]; rfl
        have g0 := frozen_of_row w3 (w.heap.size + 1) 0 _ _ hx1
        have g1' := frozen_of_row w3 (w.heap.size + 1) 1 _ _ hx1
        have g2 := frozen_of_row w3 (w.heap.size + 1) 2 _ _ hx1
        have HO1 := hide ho1; have HB1 := hide hb1; have HZ1 := hide hB1
        clear ho1 hb1 hB1 hx0 hx1
        have hfin := set_fin w.heap.size w W w3 (.slice (some ⟨g1, 0, none⟩) R.length cap1) _ (cl R) (.slice (some ⟨g1, 0, none⟩) R.length cap1) (.int .i64 P) (.int .i64 k) (.slice (some ⟨g1, 0, none⟩) R.length cap1) (unhide H1) (unhide HB1) (by have := (unhide H1).size; omega) (unhide HO1)
        have HF := hide hfin
        clear hfin
        go_wp2
        exact bodyPost_ret (v := .agg #[.int .i64 P, .int .i64 k, .slice (some ⟨g1, 0, none⟩) R.length cap1]) (by simp [results, Try.results20, go_sem, r0, r1, r2]) rfl ⟨_, _, rfl, (unhide HF).1, (unhide HF).2⟩
      · have heq2 : acc = R := by simpa [setL] using heq
        subst heq2
        have ho1 := unhide HO; have hb1 := unhide HBE; have hB1 := unhide HSZ
        have hx0 := unhide HX0; have hx1 := unhide HX1
        clear heq hR HX0 HX1 hq2 hq2'
        have q0 : wr.cell? ⟨w.heap.size, 0, none⟩ = some (.int .i64 P) := by rw [cell_of_row wr _ 0 _ _ _ hx0]; rfl
        have q1 : wr.cell? ⟨w.heap.size, 1, none⟩ = some (.int .i64 k) := by rw [cell_of_row wr _ 1 _ _ _ hx0]; rfl
        have q2 : wr.cell? ⟨w.heap.size, 2, none⟩ = some (.slice ad L.length cap) := by rw [cell_of_row wr _ 2 _ _ _ hx0]; rfl
        have f2 := frozen_of_row wr w.heap.size 2 _ _ hx0
        have r0 : wr.cell? ⟨w.heap.size + 1, 0, none⟩ = some (.int .i64 0) := by rw [cell_of_row wr _ 0 _ _ _ hx1]; rfl
        have r1 : wr.cell? ⟨w.heap.size + 1, 1, none⟩ = some (.int .i64 0) := by rw [cell_of_row wr _ 1 _ _ _ hx1]; rfl
        have r2 : wr.cell? ⟨w.heap.size + 1, 2, none⟩ = some (.slice none 0 0) := by rw [cell_of_row wr _ 2 _ _ _ hx1]; rfl
        have g0 := frozen_of_row wr (w.heap.size + 1) 0 _ _ hx1
        have g1' := frozen_of_row wr (w.heap.size + 1) 1 _ _ hx1
        have g2 := frozen_of_row wr (w.heap.size + 1) 2 _ _ hx1
        have HO1 := hide ho1; have HB1 := hide hb1; have HZ1 := hide hB1
        clear ho1 hb1 hB1 hx0 hx1
        have hfin := set_fin w.heap.size w W wr (.slice ads acc.length caps) _ (cl acc) (.slice ads acc.length caps) (.int .i64 P) (.int .i64 k) (.slice ads acc.length caps) (unhide H1) (unhide HB1) (by have := (unhide H1).size; omega) (unhide HO1)
        have HF := hide hfin
        clear hfin
        go_wp2
        exact bodyPost_ret (v := .agg #[.int .i64 P, .int .i64 k, .slice ads acc.length caps]) (by simp [results, Try.results20, go_sem, r0, r1, r2]) rfl ⟨_, _, rfl, (unhide HF).1, (unhide HF).2⟩
end Go.Proofs.Ytdeblcbdapggnaa
