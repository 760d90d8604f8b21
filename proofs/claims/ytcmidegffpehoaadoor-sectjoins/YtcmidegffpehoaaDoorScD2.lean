/- takeSection. -/
import Derived.Test.YtcmidegffpehoaaDoorScD
namespace Go.Proofs.YtcmidegffpehoaaDoor
open Go.RowKit
namespace Sc
set_option linter.unusedVariables false
set_option linter.unusedSimpArgs false

def TakePost (w : World) (R : One) (e : Ending) (w' : World) : Prop := ∃ v, e = .returned (.tuple #[.agg #[.int .u8 R.s.id, .int .i64 R.s.at_, v], .int .i64 R.at_, errV R.e]) ∧ Byt w' (w.heap.size ≤ ·) R.s.bs v ∧ Below w.heap.size w w'
/-- an error -/
theorem take_err {w w1 : World} {R : One} {k : Int} {p : Nat} (hR : R = ⟨k, p, no⟩) (hb0 : Below w.heap.size w w1) (hk : ¬ k = 0) {e : Ending} (he : e = .returned (.tuple #[.agg #[.int .u8 0, .int .i64 0, .slice none 0 0], .int .i64 p, .iface 57 (.int .i64 k)])) : TakePost w R e (((w1.setCell ⟨w.heap.size, 0, none⟩ (.int .u8 0)).setCell ⟨w.heap.size, 1, none⟩ (.int .i64 0)).setCell ⟨w.heap.size, 2, none⟩ (.slice none 0 0)) := by
  subst hR
  refine ⟨.slice none 0 0, ?_, Byt.nil _ _, ((hb0.setCell (p := ⟨w.heap.size, 0, none⟩) (Nat.le_refl _) _).setCell (p := ⟨w.heap.size, 1, none⟩) (Nat.le_refl _) _).setCell (p := ⟨w.heap.size, 2, none⟩) (Nat.le_refl _) _⟩
  rw [he, errV_pos hk]
  rfl
/-- the section's own cells -/
theorem take_ok {w w3 : World} {R : One} {ID : Int} {q f : Nat} {cs : List Int} {va : Option Addr} {vc : Nat} (hR : R = ⟨0, q, ⟨ID, f, cs⟩⟩) (hb : Below w.heap.size w w3) (hby : Byt w3 (w.heap.size < ·) cs (.slice va cs.length vc)) {e : Ending}
    (he : e = .returned (.tuple #[.agg #[.int .u8 ID, .int .i64 f, .slice va cs.length vc], .int .i64 q, .nilIface])) :
    TakePost w R e (((w3.setCell ⟨w.heap.size, 0, none⟩ (.int .u8 ID)).setCell ⟨w.heap.size, 1, none⟩ (.int .i64 f)).setCell ⟨w.heap.size, 2, none⟩ (.slice va cs.length vc)) := by
  subst hR
  refine ⟨.slice va cs.length vc, ?_, ?_, ((hb.setCell (p := ⟨w.heap.size, 0, none⟩) (Nat.le_refl _) _).setCell (p := ⟨w.heap.size, 1, none⟩) (Nat.le_refl _) _).setCell (p := ⟨w.heap.size, 2, none⟩) (Nat.le_refl _) _⟩
  · rw [he]; show _ = Ending.returned (.tuple #[_, _, errV 0]); rw [errV_0]
  · refine hby.move (fun k hk hg => ⟨Nat.le_of_lt hg, ?_⟩) (by simp)
    have hne : k ≠ w.heap.size := Nat.ne_of_gt hg
    rw [Below.heap_setCell _ _ _ _ hne, Below.heap_setCell _ _ _ _ hne, Below.heap_setCell _ _ _ _ hne]
/-- the result's box, behind a call -/
theorem box3 {w w1 : World} {A : Array Value} {t : TypeId} (hb : Below (w.alloc (.cells A t)).heap.size (w.alloc (.cells A t)) w1) :
    (∀ j : Nat, w1.cell? ⟨w.heap.size, j, none⟩ = A[j]?) ∧ (∀ j : Nat, w1.frozen? ⟨w.heap.size, j, none⟩ = false) ∧ w.heap.size < w1.heap.size := by
  have hz : (w.alloc (.cells A t)).heap.size = w.heap.size + 1 := by simp
  have hs := hb.size
  have b0 := hb.block w.heap.size (by omega)
  refine ⟨fun j => ?_, fun j => ?_, by omega⟩
  · rw [World.cell?_of_block (a := ⟨w.heap.size, j, none⟩) b0]; simp
  · have e := heap_alloc_new w (.cells A t)
    simp [World.frozen?, b0.trans e]
end Sc
end Go.Proofs.YtcmidegffpehoaaDoor
