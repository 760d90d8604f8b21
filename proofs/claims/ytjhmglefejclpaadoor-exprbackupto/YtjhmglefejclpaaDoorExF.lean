/- The statements' sure. -/
import Derived.Test.YtjhmglefejclpaaDoorExE
import Derived.Test.YtjhmglefejclpaaDoorNum
namespace Go.Proofs.YtjhmglefejclpaaDoor
open Go.RowKit
namespace Ex
set_option linter.unusedVariables false

theorem su1 : D [65, 5, 26, 11, 7] 0 0 0 false = ⟨0, 4, 2, ([⟨65, 5, 0, 0, 0, [], [], []⟩, ⟨26, 0, 0, 0, 0, [], [], []⟩], 11)⟩ := by kernel_rfl
theorem su2 : (D [67] 0 0 0 false).e = 8 ∧ (D [67] 0 0 0 false).at_ = 0 := ⟨by kernel_rfl, by kernel_rfl⟩
theorem row_lit (w : World) (zs : List Int) (hz : ∀ z ∈ zs, 0 ≤ z ∧ z ≤ 255) : Row (w.alloc (.cells (zs.map (Value.int .u8)).toArray 5)) (some ⟨w.heap.size, 0, none⟩) zs.length zs := by
  refine ⟨rfl, hz, fun _ => ⟨w.heap.size, 0, rfl, by simp, fun i hi => ?_⟩⟩
  rw [Nat.zero_add]
  simp [List.getD, hi]
theorem bs_lit (w : World) (zs : List Int) (hz : ∀ z ∈ zs, 0 ≤ z ∧ z ≤ 255) (hl : zs.length ≤ 1000) : Bs (w.alloc (.cells (zs.map (Value.int .u8)).toArray 5)) (some ⟨w.heap.size, 0, none⟩) zs.length zs.length zs :=
  ⟨row_lit w zs hz, by simp, Nat.le_refl _, by omega⟩
theorem su3 : cnt ([⟨65, 5, 0, 0, 0, [], [], []⟩, ⟨26, 0, 0, 0, 0, [], [], []⟩] : List Ins) = 2 := by rw [cnt_cons, cnt_cons, cnt_nil]
set_option maxRecDepth 100000 in
set_option maxHeartbeats 1600000 in
theorem sure_any (w : World) (hT : Tb w) (hE : ErrT w) : Calls Tryd.prog 10 #[] w fun e w' => e = .returned (.bool true) ∧ Below w.heap.size w w' := by
  have b1 := bs_lit w [65, 5, 26, 11, 7] (by decide) (by decide)
  have hb1 := one_alloc w (.cells (([65, 5, 26, 11, 7] : List Int).map (Value.int .u8)).toArray 5)
  have h1 := decode_any b1 (hT.below hb1)
  have h2 := fun (wx : World) (hx : Tb wx) => decode_any (bs_lit wx [67] (by decide) (by decide)) (hx.below (one_alloc wx _))
  rw [su1] at h1
  have HT := hide hT; have HE := hide hE; have H1 := hide h1; have H2 := hide h2; have HB1 := hide hb1
  clear hT hE h1 h2 b1 hb1
  go_enter Tryd.func10, Tryd.ntmps10
  go_wp2_with fail
  refine (unhide H1).mono ?_
  rintro e w1 ⟨v, rfl, _, hb2, hc, _⟩
  rw [errV_0]
  have hcode := hc rfl
  have hbb := Below.on (unhide HB1) hb2
  have HC := hide hcode
  obtain ⟨va, vc, rfl, hvc, _, hit⟩ := hcode
  obtain ⟨b, o, rfl, hgb, hit⟩ := hit (by decide)
  obtain ⟨ub, ue, ul, hcel, _⟩ := Items_get hit 0 (by decide)
  have c1 : w1.cell? ⟨b, o + 1, none⟩ = some (.int .i64 5) := by have := hcel.2.1; simpa using this
  have HB2 := hide hbb; have C1 := hide c1
  clear hb2 hc hbb hit hcel c1
  go_wp2_with fail
  refine (unhide H2 _ ((unhide HT).below (unhide HB2))).mono ?_
  rintro e w2 ⟨v, rfl, ⟨va2, vl2, vc2, rfl⟩, hb3, _, _⟩
  rw [su2.1, su2.2, errV_8]
  have hb3' := Below.on (one_alloc w1 (.cells (([67] : List Int).map (Value.int .u8)).toArray 5)) hb3
  have c1 := (hb3'.cell (p := ⟨b, o + 1, none⟩) (World.block_lt_of_cell? w1 _ (unhide C1))).trans (unhide C1)
  have HB3 := hide (Below.on (unhide HB2) hb3'); have HC2 := hide ((unhide HC).below hb3')
  clear hb3 hb3' HC HB2
  go_wp2_with fail
  refine (num_hit 8 _ ((unhide HE).below (Nat.le_refl _) (unhide HB3))).mono ?_
  rintro e w3 ⟨rfl, hb4⟩
  have HB4 := hide (Below.on (unhide HB3) hb4); have HC3 := hide ((unhide HC2).below hb4)
  clear hb4 HB3 HC2 c1
  go_wp2_with fail
  refine (count_any _ _ _ _ (unhide HC3) (by rw [su3]; decide)).mono ?_
  rintro e w4 ⟨rfl, hb5⟩
  rw [su3]
  have HB5 := hide (Below.on (unhide HB4) hb5)
  clear hb5 HB4
  go_wp2
  go_ret
  exact ⟨rfl, unhide HB5⟩
end Ex
end Go.Proofs.YtjhmglefejclpaaDoor
