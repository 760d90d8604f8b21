/- ops.Float: what it returns; a whole array read out of a variable. -/
import Derived.Test.YtjhmglefejclpaaDoorOpC
import Derived.Laws.Rows
namespace Go.Proofs.YtjhmglefejclpaaDoor
open Go.RowKit
set_option linter.unusedVariables false

/-- a variable's cells -/
def TC (w : World) (g : Nat) (vs : List Value) : Prop := g < w.heap.size ∧ ∃ t fr, w.heap[g]? = some (.cells vs.toArray t fr)
theorem TC.below {w w' : World} {g : Nat} {vs : List Value} (h : TC w g vs) (hb : Below w.heap.size w w') : TC w' g vs := by
  obtain ⟨h1, t, fr, h2⟩ := h
  exact ⟨Nat.lt_of_lt_of_le h1 hb.size, t, fr, (hb.block g h1).trans h2⟩

def flV : List Value := fls.flatMap fun x => [.int .u8 x.1, .int .u8 x.2]
def inF (n : Int) (x : Int × Int) : Bool := decide (x.1 ≤ n) && decide (n ≤ x.2)
def flt (n : Int) : Bool := fls.any (inF n)

/-- the j-th of the ranges, as cells -/
theorem fl_at : ∀ j : Nat, j < 7 → ∃ x, fls[j]? = some x ∧ (∀ wx, (Instr.index 156 (.agg flV.toArray) (.int .i64 (j : Int))).run Tryd.prog wx = .ok (.agg #[.int .u8 x.1, .int .u8 x.2]) wx) ∧ 0 ≤ x.1 ∧ x.1 ≤ 255 ∧ 0 ≤ x.2 ∧ x.2 ≤ 255 := by
  intro j hj
  match j, hj with
  | 0, _ => exact ⟨_, rfl, fun _ => by kernel_rfl, by decide⟩
  | 1, _ => exact ⟨_, rfl, fun _ => by kernel_rfl, by decide⟩
  | 2, _ => exact ⟨_, rfl, fun _ => by kernel_rfl, by decide⟩
  | 3, _ => exact ⟨_, rfl, fun _ => by kernel_rfl, by decide⟩
  | 4, _ => exact ⟨_, rfl, fun _ => by kernel_rfl, by decide⟩
  | 5, _ => exact ⟨_, rfl, fun _ => by kernel_rfl, by decide⟩
  | 6, _ => exact ⟨_, rfl, fun _ => by kernel_rfl, by decide⟩
  | j + 7, h => omega
theorem flt_yes {n : Int} {j : Nat} {x : Int × Int} (h : fls[j]? = some x) (h2 : inF n x = true) : flt n = true :=
  List.any_eq_true.2 ⟨x, List.mem_of_getElem? h, h2⟩
theorem flt_no {n : Int} (h : ∀ i x, i < 7 → fls[i]? = some x → inF n x = false) : flt n = false := by
  unfold flt
  rw [Bool.eq_false_iff]
  intro hh
  obtain ⟨x, hx, h2⟩ := List.any_eq_true.1 hh
  obtain ⟨i, hi⟩ := List.getElem?_of_mem hx
  have hl : i < fls.length := (List.getElem?_eq_some_iff.1 hi).1
  rw [h i x hl hi] at h2
  exact absurd h2 (by decide)

set_option maxRecDepth 100000 in
set_option maxHeartbeats 1600000 in
theorem float_any (n : Nat) (hn : n < 256) (w : World) (hT : TC w 1 flV) :
    Calls Tryd.prog 64 #[.int .u8 n] w fun e w' => e = .returned (.bool (flt n)) ∧ Below w.heap.size w w' := by
  obtain ⟨_, tt, fr, hg⟩ := hT
  have hla : flV.toArray.size = 14 := rfl
  have hat := fl_at
  generalize hA : flV.toArray = vs at *
  have HA := hide hat; clear hA hat
  go_enter Tryd.func64, Tryd.ntmps64
  go_wp2_with (refine wpList_load_row rfl 156 _ rfl 1 rfl tt _ fr _ hg Tryd.underlying156 rfl (by rw [hla]; kernel_rfl) ?_)
  clear hg
  generalize hB : w.heap.size = B at *
  have HB := hide hB; clear hB
  go_loopw [6] (fun c wr => ∃ (j : Nat), c = .int .i64 j ∧ (j : Int) ≤ 7 ∧ (∀ i x, i < j → fls[i]? = some x → inF n x = false) ∧ Below B w wr) (fun c _ => (7 - intOf c).toNat)
  case atStart => exact ⟨0, rfl, by omega, fun i x hi => absurd hi (by omega), Below.refl _ _⟩
  case round =>
    obtain ⟨j, rfl, hj, hno, hbel⟩ := hrel
    have HN := hide hno; have HBe := hide hbel
    clear hno hbel
    by_cases hlt : (j : Int) < 7
    · obtain ⟨x, hx, he, x0, x1, x2, x3⟩ := unhide HA j (by omega)
      obtain ⟨a, b⟩ := x
      simp only at he x0 x1 x2 x3
      have HX := hide hx; clear hx hj
      by_cases c1 : a ≤ (n : Int)
      · by_cases c2 : (n : Int) ≤ b
        · have hy := flt_yes (n := n) (unhide HX) (by simp [inF, c1, c2])
          have HY := hide hy; clear hy
          go_wp2
          go_ret
          exact ⟨ret_bool (unhide HY).symm, by rw [unhide HB]; exact (unhide HBe).alloc (Nat.le_trans (Nat.le_of_eq (unhide HB).symm) (unhide HBe).size) _⟩
        · have hno : inF (n : Int) (a, b) = false := by simp [inF, c2]
          have HF := hide hno; clear hno
          go_wp2
          go_roundw
          case rel => exact ⟨j + 1, by go_num, by omega, fun i x hi hx => by
            by_cases e : i = j
            · subst e
              obtain rfl := Option.some.inj ((unhide HX).symm.trans hx)
              exact unhide HF
            · exact unhide HN i x (by omega) hx, (unhide HBe).alloc (Nat.le_trans (Nat.le_of_eq (unhide HB).symm) (unhide HBe).size) _⟩
          case measure => simp [intOf]; omega
      · have hno : inF (n : Int) (a, b) = false := by simp [inF, c1]
        have HF := hide hno; clear hno
        go_wp2
        go_roundw
        case rel => exact ⟨j + 1, by go_num, by omega, fun i x hi hx => by
          by_cases e : i = j
          · subst e
            obtain rfl := Option.some.inj ((unhide HX).symm.trans hx)
            exact unhide HF
          · exact unhide HN i x (by omega) hx, (unhide HBe).alloc (Nat.le_trans (Nat.le_of_eq (unhide HB).symm) (unhide HBe).size) _⟩
        case measure => simp [intOf]; omega
    · obtain rfl : j = 7 := by omega
      clear hj hlt
      go_wp2
      go_ret
      exact ⟨ret_bool (flt_no (unhide HN)).symm, by rw [unhide HB]; exact unhide HBe⟩
end Go.Proofs.YtjhmglefejclpaaDoor
