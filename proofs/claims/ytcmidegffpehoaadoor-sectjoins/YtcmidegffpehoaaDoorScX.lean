/- Conversions: a slice as itself; a string's bytes. -/
import Derived.Test.YtcmidegffpehoaaDoorScB
import Derived.Test.YtcmidegffpehoaaDoorConv
import Derived.Lib.ConvBytes
import Derived.Lib.SlBytesConst
namespace Go.Proofs.YtcmidegffpehoaaDoor
open Go.RowKit
namespace Sc
set_option linter.unusedVariables false
theorem conv_same (w : World) (C : Array Value) (n c : Nat) : (convert 22 22 (.slice (some ⟨w.heap.size, 0, none⟩) n c)).run Tryd.prog (w.alloc (.cells C 5)) = .ok (.slice (some ⟨w.heap.size, 0, none⟩) n c) (w.alloc (.cells C 5 (C.size, C.size + 1))) :=
  Lib.run_convert_bytes_const w _ _ C n c Tryd.underlying22 Tryd.underlying5
theorem row_mark (w : World) (zs : List Int) (hz : ∀ z ∈ zs, 0 ≤ z ∧ z ≤ 255) (f : Nat × Nat) : Row (w.alloc (.cells (zs.map (Value.int .u8)).toArray 5 f)) (some ⟨w.heap.size, 0, none⟩) zs.length zs := by
  refine ⟨rfl, hz, fun _ => ⟨w.heap.size, 0, rfl, by simp, fun i hi => ?_⟩⟩
  rw [Nat.zero_add]
  have e := heap_alloc_new w (.cells (zs.map (Value.int .u8)).toArray 5 f)
  unfold World.cell?
  simp only [e]
  simp [List.getD, hi]
theorem str_get (zs : List Int) (hz : ∀ z ∈ zs, 0 ≤ z ∧ z ≤ 255) (j : Nat) (hj : j < zs.length) : (((strOfNums zs).data.toList.getD j 0).toNat : Int) = zs.getD j 0 := by
  have h := hz zs[j] (List.getElem_mem hj)
  simp [strOfNums, List.getD, hj]
  omega
theorem str_size (zs : List Int) : (strOfNums zs).size = zs.length := by simp [strOfNums, ByteArray.size]
theorem str_row (w : World) (zs : List Int) (hz : ∀ z ∈ zs, 0 ≤ z ∧ z ≤ 255) : Row (Lib.bytesWorld w 5 (strOfNums zs)) (some ⟨w.heap.size, 0, none⟩) zs.length zs := by
  refine ⟨rfl, hz, fun hl => ⟨w.heap.size, 0, rfl, by rw [Lib.bytesWorld_size]; omega, fun i hi => ?_⟩⟩
  rw [Nat.zero_add, Lib.bytesWorld_cell w 5 (strOfNums zs) i (by rw [str_size]; exact hi), str_get zs hz i hi]
theorem str_below (w : World) (s : ByteArray) : Below w.heap.size w (Lib.bytesWorld w 5 s) := by
  refine ⟨rfl, rfl, rfl, by rw [Lib.bytesWorld_size]; omega, fun k hk => Lib.bytesWorld_at_old w 5 s k hk⟩
end Sc
end Go.Proofs.YtcmidegffpehoaaDoor
