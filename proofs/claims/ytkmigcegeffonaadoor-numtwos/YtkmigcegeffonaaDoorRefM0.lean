/- Rows of bools of the call's own, made by append; and as numbers. -/
import Derived.Test.YtkmigcegeffonaaDoorRefS
namespace Go.Proofs.YtkmigcegeffonaaDoor
open Go.RowKit Num
set_option linter.unusedVariables false

theorem infoB : (Tryd.prog.info? 4).map (fun i => (i.zero, i.size, i.bytes)) = some (some (.bool false), 1, 1) := by kernel_rfl
def bRow (f : Nat → Bool) (j : Nat) : List Value := ((List.range j).map f).map Value.bool
/-- what one append does to the relation of the document's loops -/
theorem rel_b (B : Nat) (w wr w2 : World) (s v' : Value) (f : Nat → Bool) (j : Nat) (c : Bool) (hc : c = f j) (hw : w.heap.size = B) (hbel : Below B w wr) (hB : B ≤ wr.heap.size) (hown : wr.ownsRow B 4 1 s j (bRow f j))
    (hown3 : w2.ownsRow B 4 1 v' (j + 1) (bRow f j ++ [.bool c]))
    (hgrow : (wr.alloc (.cells #[.bool c] 4)).grownBy w2 s.ownBlock) :
    w2.ownsRow B 4 1 v' (j + 1) (bRow f (j + 1)) ∧ Below B w w2 ∧ B ≤ w2.heap.size := by
  have h1 : Below B w w2 := (hbel.alloc hB _).grown hgrow (by simp; omega) (fun k hk => (hown.lt k hk).1)
  refine ⟨?_, h1, by have := h1.size; omega⟩
  unfold bRow at *
  rw [List.range_succ, List.map_append, List.map_append]
  simpa [← hc] using hown3
theorem own_b {w : World} {B n : Nat} {v : Value} {bs : List Bool} (h : w.ownsRow B 4 1 v n (bs.map Value.bool)) (hn : 1 ≤ n) :
    ∃ g cap, v = .slice (some ⟨g, 0, none⟩) n cap ∧ bs.length = n ∧ n ≤ cap ∧ ∀ j, j < n → w.cell? ⟨g, j, none⟩ = some (.bool (bs.getD j false)) := by
  have hl : bs.length = n := by have := h.1; simpa using this
  rcases h.2 with ⟨_, h0⟩ | ⟨g, cap, cur, rfl, hg, _, hc, _⟩
  · omega
  · refine ⟨g, cap, rfl, hl, hc, fun i hi => ?_⟩
    have := h.cellAt i (by omega)
    rw [this]
    simp [List.getD, List.getElem?_eq_getElem (show i < bs.length by omega)]
theorem bit_at (X i : Int) (k : Nat) (w : World) (h0 : 0 ≤ X) (h1 : X < 18446744073709551616) (hi : i = (k : Int)) (hk : k < 64) :
    Calls Tryd.prog 28 #[.int .u64 X, .int .i64 i] w fun e w' => e = .returned (.bool (bt X k)) ∧ w = w' := by
  subst hi; exact bit_any X k w h0 h1 hk
end Go.Proofs.YtkmigcegeffonaaDoor
