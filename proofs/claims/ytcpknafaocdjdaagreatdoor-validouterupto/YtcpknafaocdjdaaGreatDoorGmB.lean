/- The loops of the statements' giveModule, taken out. -/
import Derived.Test.YtcpknafaocdjdaaGreatDoorGmA
import Derived.Deep.RegionHeld3
import Derived.Deep.AppendLies
namespace Go.Proofs.YtcpknafaocdjdaaGreatDoor
open Go.RowKit
namespace Gm
set_option linter.unusedVariables false
set_option linter.unusedSimpArgs false
/-- the loops of a body, those within others left out -/
def loops : Code → List Code
  | .loop c => [c]
  | .seq a b => loops a ++ loops b
  | .block _ c => loops c
  | .scope c => loops c
  | .cond _ a b => loops a ++ loops b
  | _ => []
theorem drew_below9 (w : World) : Below w.heap.size w w.drew := ⟨rfl, rfl, rfl, Nat.le_refl _, fun _ _ => rfl⟩
theorem new_cells (w : World) (cs : List Value) (t : TypeId) : ∀ j u, cs[j]? = some u → (w.alloc (.cells cs.toArray t)).cell? ((⟨w.heap.size, 0, none⟩ : Addr).add j) = some u := by
  intro j u hj
  rw [addr_add, Nat.zero_add]
  simp
  exact hj
noncomputable def gbody0 : Code := (((Tryz.f11.body.map loops).getD []).getD 0 .skip)
theorem gmInfo0 : (Tryz.prog.info? 96).map (fun i => (i.zero, i.size, i.bytes)) = some (some (.agg #[.slice none 0 0, .int .u8 0]), 2, 32) := by kernel_rfl
noncomputable def gbody1 : Code := (((Tryz.f11.body.map loops).getD []).getD 1 .skip)
theorem gmInfo1 : (Tryz.prog.info? 66).map (fun i => (i.zero, i.size, i.bytes)) = some (some (.agg #[.int .u32 0, .slice none 0 0, .slice none 0 0]), 3, 56) := by kernel_rfl
noncomputable def gbody2 : Code := (((Tryz.f11.body.map loops).getD []).getD 2 .skip)
theorem gmInfo2 : (Tryz.prog.info? 75).map (fun i => (i.zero, i.size, i.bytes)) = some (some (.agg #[.int .u32 0, .bool false, .int .u32 0]), 3, 12) := by kernel_rfl
noncomputable def gbody3 : Code := (((Tryz.f11.body.map loops).getD []).getD 3 .skip)
theorem gmInfo3 : (Tryz.prog.info? 75).map (fun i => (i.zero, i.size, i.bytes)) = some (some (.agg #[.int .u32 0, .bool false, .int .u32 0]), 3, 12) := by kernel_rfl
noncomputable def gbody4 : Code := (((Tryz.f11.body.map loops).getD []).getD 4 .skip)
theorem gmInfo4 : (Tryz.prog.info? 77).map (fun i => (i.zero, i.size, i.bytes)) = some (some (.agg #[.int .u8 0, .bool false, .int .u8 0, .int .i64 0, .int .u32 0, .int .u32 0, .int .u8 0, .slice none 0 0, .slice none 0 0, .slice none 0 0]), 10, 112) := by kernel_rfl
noncomputable def gbody5 : Code := (((Tryz.f11.body.map loops).getD []).getD 5 .skip)
theorem gmInfo5 : (Tryz.prog.info? 73).map (fun i => (i.zero, i.size, i.bytes)) = some (some (.agg #[.string ⟨#[]⟩, .int .u8 0, .int .u32 0]), 3, 24) := by kernel_rfl
noncomputable def gbody6 : Code := (((Tryz.f11.body.map loops).getD []).getD 6 .skip)
theorem gmInfo6 : (Tryz.prog.info? 79).map (fun i => (i.zero, i.size, i.bytes)) = some (some (.agg #[.int .u32 0, .int .u8 0, .int .i64 0, .int .u32 0, .int .u32 0, .int .u8 0, .slice none 0 0, .slice none 0 0, .slice none 0 0, .slice none 0 0]), 10, 136) := by kernel_rfl
noncomputable def gbody7 : Code := (((Tryz.f11.body.map loops).getD []).getD 7 .skip)
theorem gmInfo7 : (Tryz.prog.info? 81).map (fun i => (i.zero, i.size, i.bytes)) = some (some (.agg #[.int .u32 0, .int .u8 0, .int .i64 0, .int .u32 0, .int .u32 0, .int .u8 0, .slice none 0 0, .slice none 0 0, .slice none 0 0, .slice none 0 0]), 10, 136) := by kernel_rfl
end Gm
end Go.Proofs.YtcpknafaocdjdaaGreatDoor
