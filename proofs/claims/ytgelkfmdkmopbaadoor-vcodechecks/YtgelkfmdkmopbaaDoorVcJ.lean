/- vcode.firstLine. -/
import Derived.Test.YtgelkfmdkmopbaaDoorVcG
import Derived.Test.YtgelkfmdkmopbaaDoorVcI
import Derived.Deep.RegionLaw
import Derived.Deep.RegionHeld3
namespace Go.Proofs.YtgelkfmdkmopbaaDoor
open Go.RowKit
namespace Vc
set_option linter.unusedVariables false

theorem str_app (a b : List UInt8) : str a ++ str b = str (a ++ b) := by
  simp [str, ByteArray.mk_append_mk]
theorem Bd.mono {w : World} {B B' : Nat} {v : Value} {xs : List UInt8} (h : Bd w B v xs) (hB : B' ≤ B) : Bd w B' v xs := by
  rcases h with h | ⟨g, cap, cur, fz, e, hg, h4⟩
  · exact .inl h
  · exact .inr ⟨g, cap, cur, fz, e, Nat.le_trans hB hg, h4⟩
theorem cat {a b : List UInt8} {A B C : ByteArray} (hA : A = str a) (hB : B = str b) (hC : str (a ++ b) = C) (hl : a.length + b.length ≤ 1099511627776) (w : World) : (Op.stringOp .add A B).run Tryd.prog w = .ok (.string C) w := by
  rw [hA, hB, run_string_add_sum (P := Tryd.prog) w _ _ (by rw [str_size, str_size]; omega), str_app, hC]
def first (c : Co) : List UInt8 := [114, 101, 103, 115, 32] ++ dec c.re ++ [32, 112, 97, 114, 97, 109, 115, 32] ++ dec c.pa ++ (if c.rs then [32, 114, 101, 115, 117, 108, 116] else []) ++ [10]

set_option maxRecDepth 100000 in
set_option maxHeartbeats 1600000 in
theorem first_any (c : Co) (hp : i64 c.pa) (hr : i64 c.re) (v : Value) (hv : ∃ a n k, v = .slice a n k) (w : World) (hP : P10 w) :
    Calls Tryd.prog 23 #[.agg #[.int .i64 c.pa, .int .i64 c.re, .bool c.rs, v]] w fun e w' => ∃ a n k, e = .returned (.slice a n k) ∧ Bd w' w.heap.size (.slice a n k) (first c) ∧ Below w.heap.size w w' := by
  obtain ⟨va, vn, vk, rfl⟩ := hv
  have hI := fun n h W hW => itoa_any n h W hW
  have hcv := fun W l h => conv_bd W l h
  have l1 := dec_len c.pa hp
  have l2 := dec_len c.re hr
  generalize hF : first c = L at *
  have HF := hide hF; clear hF
  obtain ⟨pa, re, rs, bl⟩ := c
  simp only [first] at *
  have hI1 := fun W hW => itoa_any re hr W hW
  have hI2 := fun W hW => itoa_any pa hp W hW
  have HI1 := hide hI1; have HI2 := hide hI2; have HCv := hide hcv; have HP := hide hP
  clear hI1 hI2 hI hcv hP hp hr
  generalize hd1 : dec re = d1 at *
  generalize hd2 : dec pa = d2 at *
  clear hd1 hd2
  obtain ⟨D1, hD1⟩ : ∃ D, str d1 = D := ⟨_, rfl⟩
  obtain ⟨D2, hD2⟩ : ∃ D, str d2 = D := ⟨_, rfl⟩
  rw [hD1] at HI1
  rw [hD2] at HI2
  obtain ⟨S1, hS1⟩ : ∃ S, str ([114, 101, 103, 115, 32] ++ d1) = S := ⟨_, rfl⟩
  obtain ⟨S2, hS2⟩ : ∃ S, str ([114, 101, 103, 115, 32] ++ d1 ++ [32, 112, 97, 114, 97, 109, 115, 32]) = S := ⟨_, rfl⟩
  obtain ⟨S3, hS3⟩ : ∃ S, str ([114, 101, 103, 115, 32] ++ d1 ++ [32, 112, 97, 114, 97, 109, 115, 32] ++ d2) = S := ⟨_, rfl⟩
  have q1 := fun w => cat (A := ⟨#[114, 101, 103, 115, 32]⟩) (B := D1) (C := S1) rfl hD1.symm hS1 (by simp; omega) w
  have q2 := fun w => cat (A := S1) (B := ⟨#[32, 112, 97, 114, 97, 109, 115, 32]⟩) (C := S2) hS1.symm rfl hS2 (by simp; omega) w
  have q3 := fun w => cat (A := S2) (B := D2) (C := S3) hS2.symm hD2.symm hS3 (by simp; omega) w
  have HS3 := hide hS3
  clear hS1 hS2 hS3 hD1 hD2
  have hb0 := one_alloc w (.cells #[.int .i64 pa, .int .i64 re, .bool rs, .slice va vn vk] 29)
  have rB := heap_alloc_new w (.cells #[.int .i64 pa, .int .i64 re, .bool rs, .slice va vn vk] 29)
  go_enter Tryd.func23, Tryd.ntmps23
  go_wp2_with fail
  generalize w.alloc (.cells #[.int .i64 pa, .int .i64 re, .bool rs, .slice va vn vk] 29) = W at *
  have hlt : w.heap.size < W.heap.size := (Array.getElem?_eq_some_iff.1 rB).1
  have HBc := hide (Below.on hb0 (drewn W 1))
  have cells : ∀ W', Below W.heap.size W W' → W'.cell? ⟨w.heap.size, 0, none⟩ = some (.int .i64 pa) ∧ W'.cell? ⟨w.heap.size, 1, none⟩ = some (.int .i64 re) ∧ W'.cell? ⟨w.heap.size, 2, none⟩ = some (.bool rs) := by
    intro W' h
    have q := (h.block _ hlt).trans rB
    refine ⟨?_, ?_, ?_⟩ <;> (rw [cell_of_row W' _ _ _ _ _ q]; rfl)
  have CE := hide cells
  obtain ⟨c0, c1, c2⟩ := cells W (Below.refl _ _)
  have HW := hide (drewn W 1)
  have HB0 := hide hb0
  clear hb0 rB hlt cells
  go_region_held3 (fun w' => w'.cell? ⟨w.heap.size, 0, none⟩ = some (.int .i64 pa) ∧ w'.cell? ⟨w.heap.size, 1, none⟩ = some (.int .i64 re) ∧ w'.cell? ⟨w.heap.size, 2, none⟩ = some (.bool rs))
    (first | go_keep | exact hk)
    (first
      | (go_at_call_of 24 (Value.int .i64 re); refine (unhide HI1 _ (P10.below (unhide HP) (Below.on (unhide HB0) (unhide HW)))).mono ?_; rintro e w3 ⟨rfl, hb3⟩; have hk := unhide CE _ (Below.on (unhide HW) hb3); have HW := hide (Below.on (unhide HW) hb3); clear hb3)
      | (go_at_call_of 24 (Value.int .i64 pa); refine (unhide HI2 _ (P10.below (unhide HP) (Below.on (unhide HB0) (unhide HW)))).mono ?_; rintro e w4 ⟨rfl, hb3⟩; have hk := unhide CE _ (Below.on (unhide HW) hb3); have HW := hide (Below.on (unhide HW) hb3); clear hb3))
  clear q1 q2 q3 HI1 HI2
  have c2 := hk.2.2
  have HBW := hide (Below.on (unhide HB0) (unhide HW))
  clear hk
  cases rs with
  | true =>
    obtain ⟨S4, hS4⟩ : ∃ S, str ([114, 101, 103, 115, 32] ++ d1 ++ [32, 112, 97, 114, 97, 109, 115, 32] ++ d2 ++ [32, 114, 101, 115, 117, 108, 116]) = S := ⟨_, rfl⟩
    obtain ⟨S5, hS5⟩ : ∃ S, str ([114, 101, 103, 115, 32] ++ d1 ++ [32, 112, 97, 114, 97, 109, 115, 32] ++ d2 ++ [32, 114, 101, 115, 117, 108, 116] ++ [10]) = S := ⟨_, rfl⟩
    have q4 := fun w => cat (A := S3) (B := ⟨#[32, 114, 101, 115, 117, 108, 116]⟩) (C := S4) (unhide HS3).symm rfl hS4 (by simp; omega) w
    have q5 := fun w => cat (A := S4) (B := ⟨#[10]⟩) (C := S5) hS4.symm rfl hS5 (by simp; omega) w
    have hc5 := fun W => unhide HCv W _ (show ([114, 101, 103, 115, 32] ++ d1 ++ [32, 112, 97, 114, 97, 109, 115, 32] ++ d2 ++ [32, 114, 101, 115, 117, 108, 116] ++ [10]).length ≤ 1099511627776 by simp; omega)
    rw [hS5, show [114, 101, 103, 115, 32] ++ d1 ++ [32, 112, 97, 114, 97, 109, 115, 32] ++ d2 ++ [32, 114, 101, 115, 117, 108, 116] ++ [10] = L from unhide HF] at hc5
    have HC5 := hide hc5
    clear hS4 hS5 hc5
    go_upto_region 4 with fail
    obtain ⟨k, w5, hrun, hbd, hb5⟩ := unhide HC5 w4
    have HBd := hide (hbd.mono (unhide HBW).size); have HB5 := hide (Below.on (unhide HBW) hb5)
    clear hbd hb5
    go_wp2
    go_ret
    exact ⟨_, _, _, rfl, unhide HBd, unhide HB5⟩
  | false =>
    obtain ⟨S5, hS5⟩ : ∃ S, str ([114, 101, 103, 115, 32] ++ d1 ++ [32, 112, 97, 114, 97, 109, 115, 32] ++ d2 ++ [] ++ [10]) = S := ⟨_, rfl⟩
    have q5 := fun w => cat (A := S3) (B := ⟨#[10]⟩) (C := S5) (unhide HS3).symm rfl (by rw [← hS5]; simp) (by simp; omega) w
    have hc5 := fun W => unhide HCv W _ (show ([114, 101, 103, 115, 32] ++ d1 ++ [32, 112, 97, 114, 97, 109, 115, 32] ++ d2 ++ [] ++ [10]).length ≤ 1099511627776 by simp; omega)
    rw [hS5, show [114, 101, 103, 115, 32] ++ d1 ++ [32, 112, 97, 114, 97, 109, 115, 32] ++ d2 ++ [] ++ [10] = L from unhide HF] at hc5
    have HC5 := hide hc5
    clear hS5 hc5
    go_upto_region 4 with fail
    obtain ⟨k, w5, hrun, hbd, hb5⟩ := unhide HC5 w4
    have HBd := hide (hbd.mono (unhide HBW).size); have HB5 := hide (Below.on (unhide HBW) hb5)
    clear hbd hb5
    go_wp2
    go_ret
    exact ⟨_, _, _, rfl, unhide HBd, unhide HB5⟩
end Vc
end Go.Proofs.YtgelkfmdkmopbaaDoor
