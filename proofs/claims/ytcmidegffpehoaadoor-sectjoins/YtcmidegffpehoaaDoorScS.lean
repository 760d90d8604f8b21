/- The statements' sure, and idle. -/
import Derived.Test.YtcmidegffpehoaaDoorScF
import Derived.Test.YtcmidegffpehoaaDoorNum
import Derived.Test.YtcmidegffpehoaaDoorScX
namespace Go.Proofs.YtcmidegffpehoaaDoor
open Go.RowKit
namespace Sc
set_option linter.unusedVariables false

theorem su1 : S [0, 97, 115, 109, 1, 0, 0, 0, 1, 0] = ⟨0, 10, [⟨1, 10, []⟩]⟩ := by kernel_rfl
theorem su2 : vd [97] = true := by kernel_rfl
theorem su3 : vd [255] = false := by kernel_rfl
theorem row_lit (w : World) (zs : List Int) (hz : ∀ z ∈ zs, 0 ≤ z ∧ z ≤ 255) : Row (w.alloc (.cells (zs.map (Value.int .u8)).toArray 5)) (some ⟨w.heap.size, 0, none⟩) zs.length zs := by
  refine ⟨rfl, hz, fun _ => ⟨w.heap.size, 0, rfl, by simp, fun i hi => ?_⟩⟩
  rw [Nat.zero_add]
  simp [List.getD, hi]
set_option maxRecDepth 100000 in
set_option maxHeartbeats 1600000 in
theorem sure_any (w : World) (hT : U8 w) : Calls Tryd.prog 8 #[] w fun e w' => e = .returned (.bool true) ∧ Below w.heap.size w w' := by
  have hb1 := one_alloc w (.cells (([0, 97, 115, 109, 1, 0, 0, 0, 1, 0] : List Int).map (Value.int .u8)).toArray 5 (10, 11))
  have h1 := split_any (cap := 10) (row_mark w [0, 97, 115, 109, 1, 0, 0, 0, 1, 0] (by decide) (10, 11)) (by decide) (by decide) (Utf8Tabs_below hT hb1)
  have h2 := fun (wx : World) (hx : Below w.heap.size w wx) => text_any (cap := 1) (row_mark wx [97] (by decide) (1, 2)) (by decide) (by decide) (Utf8Tabs_below (Utf8Tabs_below hT hx) (one_alloc wx _))
  have h3 := fun (wx : World) (hx : Below w.heap.size w wx) => text_any (cap := 1) (row_lit wx [255] (by decide)) (by decide) (by decide) (Utf8Tabs_below (Utf8Tabs_below hT hx) (one_alloc wx _))
  rw [su1] at h1
  rw [su2] at h2
  rw [su3] at h3
  have H1 := hide h1; have H2 := hide h2; have H3 := hide h3; have HB1 := hide hb1
  clear hT h1 h2 h3 hb1
  have hcs := fun w C n c => conv_same w C n c
  go_enter Tryd.func8, Tryd.ntmps8
  go_wp2_with fail
  refine (unhide H1).mono ?_
  rintro e w1 ⟨v, rfl, hb2, hc, _⟩
  rw [errV_0]
  have hs := hc rfl
  have HB2 := hide (Below.on (unhide HB1) hb2)
  obtain ⟨va, vc, rfl, hvc, _, hit⟩ := hs
  obtain ⟨b, o, rfl, hlt, hc1, hc2, _⟩ := hit 0 (by decide)
  rw [Nat.zero_mul, Nat.add_zero] at hc1 hc2
  have hc1' : w1.cell? ⟨b, o, none⟩ = some (.int .u8 1) := hc1
  have hc2' : w1.cell? ⟨b, o + 1, none⟩ = some (.int .i64 10) := hc2
  clear hit hc hb2 hc1 hc2 hvc
  go_wp2_with fail
  refine (unhide H2 _ (unhide HB2)).mono ?_
  rintro e w2 ⟨rfl, hb3⟩
  have HB3 := hide (Below.on (unhide HB2) (Below.on (one_alloc _ _) hb3))
  clear hb3 hc1' hc2'
  go_wp2_with fail
  refine (unhide H3 _ (unhide HB3)).mono ?_
  rintro e w3 ⟨rfl, hb4⟩
  have HB4 := hide (Below.on (unhide HB3) (Below.on (one_alloc _ _) hb4))
  clear hb4
  go_wp2
  go_ret
  exact ⟨rfl, unhide HB4⟩
def idl (x : Int) : List Int := if x = 0 then [0, 1, 0] else [x, 0]
set_option maxRecDepth 100000 in
set_option maxHeartbeats 800000 in
theorem idle_any (x : Int) (w : World) (h0 : 0 ≤ x) (h1 : x ≤ 255) : Calls Tryd.prog 18 #[.int .u8 x] w fun e w' => e = .returned (.string (strOfNums (idl x))) ∧ Below w.heap.size w w' := by
  unfold idl
  by_cases c : x = 0
  · subst c
    rw [if_pos rfl]
    go_enter Tryd.func18, Tryd.ntmps18
    go_wp2
    go_ret
    exact ⟨rfl, Below.refl _ _⟩
  · rw [if_neg c]
    have hr := row_lit w [x, 0] (by intro z hz; simp at hz; omega)
    obtain ⟨St, hSt⟩ : ∃ St, strOfNums [x, 0] = St := ⟨_, rfl⟩
    have hcv : Sem.run Tryd.prog (convert 22 9 (.slice (some ⟨w.heap.size, 0, none⟩) 2 2)) (w.alloc (.cells #[.int .u8 x, .int .u8 0] 5)) = .ok (.string St) (w.alloc (.cells #[.int .u8 x, .int .u8 0] 5)) := by rw [← hSt]; exact conv (cap := 2) hr
    rw [hSt]
    clear hSt hr
    have cb : (x == 0) = false := by simp [c]
    go_enter Tryd.func18, Tryd.ntmps18
    go_wp2
    go_ret
    exact ⟨rfl, one_alloc _ _⟩
def okO (x y : Int) : Bool := decide (x ≤ 11 ∧ y ≤ 11 ∧ (x = 0 ∨ y = 0 ∨ x < y))
theorem order_all : ((List.range 14).all fun x => (List.range 14).all fun y => let R := S (hd ++ idl (x : Nat) ++ idl (y : Nat)); if okO (x : Nat) (y : Nat) then decide (R.e = 0) && decide (R.v.length = 2) else decide (R.e = 6)) = true := by kernel_rfl
theorem order_at {x y : Nat} (hx : x < 14) (hy : y < 14) : (okO x y = true → (S (hd ++ idl x ++ idl y)).e = 0 ∧ (S (hd ++ idl x ++ idl y)).v.length = 2) ∧ (okO x y = false → (S (hd ++ idl x ++ idl y)).e = 6) := by
  have h := List.all_eq_true.1 order_all x (List.mem_range.2 hx)
  have h2 := List.all_eq_true.1 h y (List.mem_range.2 hy)
  simp only at h2
  constructor
  · intro e; rw [e, if_pos rfl] at h2; simpa using h2
  · intro e; rw [e] at h2; simpa using h2
end Sc
end Go.Proofs.YtcmidegffpehoaaDoor
