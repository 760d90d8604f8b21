/- The closures of valid.Check at limits, data; hasTarget, exports of one; a module of one memory, one export, one data. -/
import Derived.Test.YtcljcnaglkbjcaaGreatDoorVaAL
import Derived.Test.YtcljcnaglkbjcaaGreatDoorVaAT
import Derived.Test.YtcljcnaglkbjcaaGreatDoorVaAF
import Derived.Test.YtcljcnaglkbjcaaGreatDoorVaAG
import Derived.Test.YtcljcnaglkbjcaaGreatDoorVaAE
import Derived.Test.YtcljcnaglkbjcaaGreatDoorVaAD
import Derived.Test.YtcljcnaglkbjcaaGreatDoorVaIL
import Derived.Test.YtcljcnaglkbjcaaGreatDoorOpF
import Derived.Maps.OwnOps
import Derived.Shelf.Abstract
namespace Go.Proofs.YtcljcnaglkbjcaaGreatDoor
open Go.RowKit Go.Maps Go.Shelf
set_option linter.unusedVariables false

set_option maxHeartbeats 1000000 in
theorem lim1_any (a x : Int) (h : Bool) (w : World) :
    Calls Tryz.prog 93 #[.agg #[.int .u32 a, .bool h, .int .u32 x]] w fun e w' => e = .returned (.bool (decide (a ≤ 256))) ∧ Below w.heap.size w w' := by
  go_enter Tryz.func93, Tryz.ntmps93
  go_wp2
  go_ret
  exact ⟨rfl, (Below.refl _ _).alloc (Nat.le_refl _) _⟩
set_option maxHeartbeats 1000000 in
theorem lim2_any (a x : Int) (h : Bool) (w : World) :
    Calls Tryz.prog 94 #[.agg #[.int .u32 a, .bool h, .int .u32 x]] w fun e w' => e = .returned (.bool (decide (a ≤ 16))) ∧ Below w.heap.size w w' := by
  go_enter Tryz.func94, Tryz.ntmps94
  go_wp2
  go_ret
  exact ⟨rfl, (Below.refl _ _).alloc (Nat.le_refl _) _⟩
set_option maxHeartbeats 1000000 in
theorem bounds_any (a x : Int) (h : Bool) (w : World) :
    Calls Tryz.prog 106 #[.agg #[.int .u32 a, .bool h, .int .u32 x]] w fun e w' => e = .returned (.bool (!h || decide (a ≤ x))) ∧ Below w.heap.size w w' := by
  cases h
  all_goals
    go_enter Tryz.func106, Tryz.ntmps106
    go_wp2
    go_ret
    exact ⟨ret_bool (by simp), (Below.refl _ _).alloc (Nat.le_refl _) _⟩

/-- the module that sure makes: one memory of a page, one export "m" of it, one data at 4096 -/
structure M0 (w : World) (bm bd be : Nat) (y : Value) : Prop where
  lim : w.heap[bm]? = some (.cells #[.int .u32 1, .bool false, .int .u32 0] 122 (0, 0))
  dat : w.heap[bd]? = some (.cells #[.int .u32 0, .int .u8 65, .int .i64 4096, .int .u32 0, .int .u32 0, .int .u8 0, .slice none 0 0, .slice none 0 0, .slice none 0 0, y] 128 (0, 0))
  exp : w.heap[be]? = some (.cells #[.string ⟨#[109]⟩, .int .u8 2, .int .u32 0] 129 (0, 0))
namespace M0
variable {w : World} {bm bd be : Nat} {y : Value}
theorem ltm (h : M0 w bm bd be y) : bm < w.heap.size := (Array.getElem?_eq_some_iff.1 h.lim).1
theorem ltd (h : M0 w bm bd be y) : bd < w.heap.size := (Array.getElem?_eq_some_iff.1 h.dat).1
theorem lte (h : M0 w bm bd be y) : be < w.heap.size := (Array.getElem?_eq_some_iff.1 h.exp).1
theorem below (h : M0 w bm bd be y) {w' : World} (hb : Below w.heap.size w w') : M0 w' bm bd be y :=
  ⟨(hb.block _ h.ltm).trans h.lim, (hb.block _ h.ltd).trans h.dat, (hb.block _ h.lte).trans h.exp⟩
theorem l0 (h : M0 w bm bd be y) : w.cell? ⟨bm, 0, none⟩ = some (.int .u32 1) := by rw [cell_of_row w bm 0 _ _ _ h.lim]; rfl
theorem l1 (h : M0 w bm bd be y) : w.cell? ⟨bm, 1, none⟩ = some (.bool false) := by rw [cell_of_row w bm 1 _ _ _ h.lim]; rfl
theorem l2 (h : M0 w bm bd be y) : w.cell? ⟨bm, 2, none⟩ = some (.int .u32 0) := by rw [cell_of_row w bm 2 _ _ _ h.lim]; rfl
theorem e0 (h : M0 w bm bd be y) : w.cell? ⟨be, 0, none⟩ = some (.string ⟨#[109]⟩) := by rw [cell_of_row w be 0 _ _ _ h.exp]; rfl
theorem e1 (h : M0 w bm bd be y) : w.cell? ⟨be, 1, none⟩ = some (.int .u8 2) := by rw [cell_of_row w be 1 _ _ _ h.exp]; rfl
theorem e2 (h : M0 w bm bd be y) : w.cell? ⟨be, 2, none⟩ = some (.int .u32 0) := by rw [cell_of_row w be 2 _ _ _ h.exp]; rfl
theorem d (h : M0 w bm bd be y) (j : Nat) : w.cell? ⟨bd, j, none⟩ = #[.int .u32 0, .int .u8 65, .int .i64 4096, .int .u32 0, .int .u32 0, .int .u8 0, .slice none 0 0, .slice none 0 0, .slice none 0 0, y][j]? := cell_of_row w bd j _ _ _ h.dat
end M0
def cvL : Nat → Nat → Value := fun _ j => #[Value.int .u32 1, .bool false, .int .u32 0].getD j (.bool false)
def cvD (y : Value) : Nat → Nat → Value := fun _ j => #[Value.int .u32 0, .int .u8 65, .int .i64 4096, .int .u32 0, .int .u32 0, .int .u8 0, .slice none 0 0, .slice none 0 0, .slice none 0 0, y].getD j (.bool false)

theorem all1_L {w : World} {bm bd be : Nat} {y : Value} (h : M0 w bm bd be y) (fn : Nat) (eg : ∀ args w, (callFunc fn args).run Tryz.prog w = .ok (.enter fn args) w) (r : Bool)
    (hf : ∀ W, Calls Tryz.prog fn #[.agg #[.int .u32 1, .bool false, .int .u32 0]] W fun e w' => e = .returned (.bool r) ∧ Below W.heap.size W w') :
    Calls Tryz.prog 92 #[.slice (some ⟨bm, 0, none⟩) 1 1, .func (.func fn) #[] #[]] w fun e w' => e = .returned (.bool r) ∧ Below w.heap.size w w' := by
  have := all_L bm 0 1 1 fn #[] eg cvL (fun _ => r) w (by omega) h.ltm (fun i hi j hj => by
    obtain rfl : i = 0 := by omega
    match j, hj with
    | 0, _ => exact h.l0
    | 1, _ => exact h.l1
    | 2, _ => exact h.l2) (fun i hi W hW => hf W)
  simpa using this
end Go.Proofs.YtcljcnaglkbjcaaGreatDoor
