/- The statements' sure. -/
import Derived.Test.YtgelkfmdkmopbaaDoorVcM
namespace Go.Proofs.YtgelkfmdkmopbaaDoor
open Go.RowKit
namespace Vc
set_option linter.unusedVariables false

theorem txS0 : txS co0 = tx0 := by unfold txS; rw [chk0, txt0]; rfl
theorem txE0 : txE co0 = 0 := by unfold txE; rw [chk0, txt0]; rfl

set_option maxRecDepth 100000 in
set_option maxHeartbeats 3200000 in
theorem sure_any (w : World) (hT : Fms w) (hN : Nms w) (hP : P10 w) :
    Calls Tryd.prog 8 #[] w fun e w' => e = .returned (.bool true) ∧ Below w.heap.size w w' := by
  obtain ⟨hb4, hz4, _⟩ := wo0_rows w
  have hb5 := Below.on hb4 (one_alloc (wo0 w) (.cells #[.int .i64 1, .int .i64 2, .bool true, .slice (some ⟨w.heap.size + 3, 0, none⟩) 1 1] 29))
  have rB := heap_alloc_new (wo0 w) (.cells #[.int .i64 1, .int .i64 2, .bool true, .slice (some ⟨w.heap.size + 3, 0, none⟩) 1 1] 29)
  have hbl := (bls0 w).below (one_alloc (wo0 w) (.cells #[.int .i64 1, .int .i64 2, .bool true, .slice (some ⟨w.heap.size + 3, 0, none⟩) 1 1] 29))
  have ht := text_any co0 wf0 _ _ _ (TC.below hT hb5) (hN.below hb5) (hP.below hb5) hbl (fun k hk => Nat.lt_of_lt_of_le hk (one_alloc (wo0 w) _).size) (by decide) (by rw [txt0]; decide)
  rw [txS0, txE0, errV_0] at ht
  have hzz := fun W h => size_any 1 2 true co0.bl (fun k => k < (wo0 w).heap.size) (.slice (some ⟨w.heap.size + 3, 0, none⟩) 1 1) W h (by decide) (by decide)
  rw [show siz co0.bl = 2 from rfl] at hzz
  have hpu := fun W h => pur_any 106 (by decide) W h
  rw [pur0] at hpu
  have hen := fun W => vends_any 193 (by decide) W
  rw [show ends 193 = true from rfl] at hen
  have hS : ((str tx0).toList == [114, 101, 103, 115, 32, 50, 32, 112, 97, 114, 97, 109, 115, 32, 49, 32, 114, 101, 115, 117, 108, 116, 10, 98, 108, 111, 99, 107, 32, 48, 32, 100, 101, 112, 116, 104, 32, 48, 10, 32, 32, 114, 49, 32, 61, 32, 105, 51, 50, 46, 97, 100, 100, 32, 114, 48, 32, 114, 48, 10, 32, 32, 114, 101, 116, 117, 114, 110, 32, 114, 49, 10]) = true := by rw [str_toList]; decide
  generalize str tx0 = S at *
  have HTx := hide ht; have HZz := hide hzz; have HPu := hide hpu; have HEn := hide hen; have HB5 := hide hb5; have HBl := hide hbl; have HT := hide hT; have HRB := hide rB
  clear ht hzz hpu hen hb4 hz4 hb5 hbl hT hN hP rB
  go_enter Tryd.func8, Tryd.ntmps8
  go_wp2_with fail
  refine (unhide HTx).mono ?_
  rintro e w1 ⟨rfl, hb1⟩
  have hbb := Below.on (unhide HB5) hb1
  have c : w1.heap[w.heap.size + 4]? = some (.cells #[.int .i64 1, .int .i64 2, .bool true, .slice (some ⟨w.heap.size + 3, 0, none⟩) 1 1] 29 (0, 0)) := by
    have e4 : (wo0 w).heap.size = w.heap.size + 4 := (wo0_rows w).2.1
    rw [← e4]
    exact (hb1.block _ (by simp)).trans (unhide HRB)
  have k0 : w1.cell? ⟨w.heap.size + 4, 0, none⟩ = some (.int .i64 1) := by rw [cell_of_row w1 _ 0 _ _ _ c]; rfl
  have k1 : w1.cell? ⟨w.heap.size + 4, 1, none⟩ = some (.int .i64 2) := by rw [cell_of_row w1 _ 1 _ _ _ c]; rfl
  have k2 : w1.cell? ⟨w.heap.size + 4, 2, none⟩ = some (.bool true) := by rw [cell_of_row w1 _ 2 _ _ _ c]; rfl
  have k3 : w1.cell? ⟨w.heap.size + 4, 3, none⟩ = some (.slice (some ⟨w.heap.size + 3, 0, none⟩) 1 1) := by rw [cell_of_row w1 _ 3 _ _ _ c]; rfl
  have HBb := hide hbb
  have HZ2 := hide (unhide HZz _ ((unhide HBl).below hb1))
  clear hb1 hbb c HTx HRB HB5 HBl HZz
  go_wp2_with fail
  refine (unhide HZ2).mono ?_
  rintro e w2 ⟨rfl, hb2⟩
  have HB2 := hide (Below.on (unhide HBb) hb2)
  clear hb2 HZ2 k0 k1 k2 k3
  go_wp2_with fail
  refine (unhide HPu _ (TC.below (unhide HT) (unhide HB2))).mono ?_
  rintro e w3 ⟨rfl, hb3⟩
  have HB3 := hide (Below.on (unhide HB2) hb3)
  clear hb3
  go_wp2_with fail
  refine (unhide HEn _).mono ?_
  rintro e w4 ⟨rfl, rfl⟩
  go_wp2
  go_ret
  exact ⟨rfl, unhide HB3⟩
end Vc
end Go.Proofs.YtgelkfmdkmopbaaDoor
