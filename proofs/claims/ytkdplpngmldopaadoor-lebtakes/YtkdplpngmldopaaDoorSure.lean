/- sure(): what must come whatever the input is. -/
import Derived.Test.YtkdplpngmldopaaDoorLaws0
namespace Go.Proofs.YtkdplpngmldopaaDoor
open Go.RowKit
set_option linter.unusedVariables false

theorem su_u : Leb.tuV [229, 142, 38, 9] 32 = 624485 ∧ Leb.tuN [229, 142, 38, 9] 32 = 3 ∧ Leb.tuE [229, 142, 38, 9] 32 = 0 := by decide +kernel
theorem su_b : Leb.bS 10 (-123456) = [192, 187, 120] := by decide +kernel
theorem su_s : Leb.tsV [192, 187, 120] 32 = -123456 ∧ Leb.tsN [192, 187, 120] 32 = 3 ∧ Leb.tsE [192, 187, 120] 32 = 0 := by decide +kernel
theorem su_u1 : ((Leb.bU 10 127).length : Int) = 1 := by decide +kernel
theorem su_s1 : ((Leb.bS 10 64).length : Int) = 2 := by decide +kernel

theorem row4 (w : World) : Row (w.alloc (.cells #[.int .u8 229, .int .u8 142, .int .u8 38, .int .u8 9] 5)) (some ⟨w.heap.size, 0, none⟩) 4 [229, 142, 38, 9] := by
  refine ⟨rfl, by decide, fun _ => ⟨w.heap.size, 0, rfl, by simp, fun i hi => ?_⟩⟩
  rcases (show i = 0 ∨ i = 1 ∨ i = 2 ∨ i = 3 from by omega) with rfl | rfl | rfl | rfl <;> simp

set_option maxHeartbeats 400000 in
theorem sure_any (w : World) : Calls Tryd.prog 10 #[] w fun e w' => e = .returned (.bool true) ∧ Below w.heap.size w w' := by
  have hr4 := row4 w
  have HR := hide hr4; clear hr4
  go_enter Tryd.func10, Tryd.ntmps10
  go_wp2_with fail
  refine (takeU_b _ 4 4 [229, 142, 38, 9] 32 _ (unhide HR) (by omega) (by omega)).mono ?_
  rintro e w1 ⟨rfl, hb1⟩
  rw [su_u.1, su_u.2.1, su_u.2.2, errV_0]
  have HB1 := hide (Below.on ((Below.refl _ _).alloc (Nat.le_refl _) _) hb1); clear hb1 HR
  go_wp2_with fail
  refine (putS_b none 0 0 [] (-123456) _ (Row.nil _) (by omega) (by omega) (by omega)).mono ?_
  rintro e w2 ⟨g, cap, rfl, hrow, hcap, _, hb2⟩
  rw [su_b] at hrow hcap ⊢
  have HB2 := hide (Below.on (unhide HB1) hb2); have HR := hide hrow; clear hb2 hrow HB1
  go_wp2_with fail
  refine (takeS_b _ 3 cap [192, 187, 120] 32 _ (unhide HR) hcap (by omega)).mono ?_
  rintro e w3 ⟨rfl, hb3⟩
  rw [su_s.1, su_s.2.1, su_s.2.2, errV_0]
  have HB3 := hide (Below.on (unhide HB2) hb3); clear hb3 HB2 HR
  go_wp2_with fail
  refine (sizeU_any 127 _ (by omega) (by omega)).mono ?_
  rintro e w4 ⟨rfl, rfl⟩
  rw [su_u1]
  go_wp2_with fail
  refine (sizeS_any 64 _ (by omega) (by omega)).mono ?_
  rintro e w4 ⟨rfl, rfl⟩
  rw [su_s1]
  go_wp2_with fail
  go_ret
  exact ⟨rfl, unhide HB3⟩
end Go.Proofs.YtkdplpngmldopaaDoor
