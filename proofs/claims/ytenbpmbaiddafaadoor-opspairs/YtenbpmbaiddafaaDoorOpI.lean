/- The statements' sure. -/
import Derived.Test.YtenbpmbaiddafaaDoorOpH
namespace Go.Proofs.YtenbpmbaiddafaaDoor
open Go.RowKit
set_option linter.unusedVariables false

/-- what the tables hold -/
def Tb (w : World) : Prop := Nms w ∧ TC w 6 fmV ∧ TC w 4 abV
theorem Tb.below {w w' : World} (h : Tb w) (hb : Below w.heap.size w w') : Tb w' := ⟨h.1.below hb, h.2.1.below hb, h.2.2.below hb⟩
theorem Below.drewn (w : World) (k : Nat) : Below w.heap.size w (w.drewN k) := ⟨rfl, rfl, rfl, Nat.le_refl _, fun _ _ => rfl⟩

def addN : List UInt8 := [105, 54, 52, 46, 97, 100, 100]
set_option maxRecDepth 100000 in
theorem add_first : nm 124 = addN ∧ ∀ j, j < 124 → nm j ≠ addN := by decide

set_option maxRecDepth 100000 in
set_option maxHeartbeats 1600000 in
theorem sure_any (w : World) (hT : Tb w) :
    Calls Tryd.prog 14 #[] w fun e w' => e = .returned (.bool true) ∧ Below w.heap.size w w' := by
  have h1 := sign_yes 54 (by omega) w hT.2.1 ⟨54, 54, 4, 127, 127, 0⟩ (by rfl) (by decide)
  simp only [errV_0] at h1
  have h2 := fun wx (hx : Tb wx) => bytes_yes 52 (by omega) wx hx.2.2 hx.1 (by decide)
  rw [show ab 52 = 4 by rfl, show sfx (nm 52) = true by rfl] at h2
  simp only [errV_0] at h2
  have h3 := fun wx (hx : Tb wx) => op_yes addN 124 (by decide) (by omega) add_first.1 add_first.2 wx hx.1
  simp only [errV_0] at h3
  have h4 := fun wx (hx : Tb wx) => name_any 32 (by omega) wx hx.1
  rw [show nm 32 = [108, 111, 99, 97, 108, 46, 103, 101, 116] by rfl] at h4
  have hl : (pk 127 127 2).length = 2 := rfl
  simp only [hl] at h1
  have HT := hide hT; have H1 := hide h1; have H2 := hide h2; have H3 := hide h3; have H4 := hide h4
  clear hT h1 h2 h3 h4 hl
  go_enter Tryd.func14, Tryd.ntmps14
  go_wp2_with fail
  refine (unhide H1).mono ?_
  rintro e w1 ⟨v, rfl, ho, hb1⟩
  obtain ⟨ad, cap, rfl⟩ := own_slice ho
  have HB1 := hide hb1; clear hb1 ho
  go_wp2_with fail
  have hB : Below w.heap.size w (w1.alloc (.cells #[.slice ad 2 cap, .int .u8 0] 40)) := (unhide HB1).alloc (unhide HB1).size _
  have HW := hide ((unhide HT).below hB); have HB := hide hB; clear hB HT H1
  refine (unhide H2 _ (unhide HW)).mono ?_
  rintro e w2 ⟨rfl, k, rfl⟩
  go_wp2_with fail
  refine (unhide H3 _ ((unhide HW).below (Below.drewn _ k))).mono ?_
  rintro e w2 ⟨rfl, rfl⟩
  go_wp2_with fail
  refine (unhide H4 _ ((unhide HW).below (Below.drewn _ k))).mono ?_
  rintro e w2 ⟨rfl, rfl⟩
  go_wp2
  go_ret
  exact ⟨ret_bool (by rw [str_toList]; rfl), Below.on (unhide HB) (Below.drewn _ k)⟩
end Go.Proofs.YtenbpmbaiddafaaDoor
