/- strings.HasSuffix with "_s"; ops.Bytes. -/
import Derived.Test.YtcljcnaglkbjcaaGreatDoorOpG
import Derived.BigQuiet
import Derived.Lib.Strings
namespace Go.Proofs.YtcljcnaglkbjcaaGreatDoor
open Go.RowKit
set_option linter.unusedVariables false

/-- does a text end with "_s"? -/
def sfx (l : List UInt8) : Bool := decide (2 ≤ l.length) && (l.drop (l.length - 2) == [95, 115])
theorem str_size (l : List UInt8) : (str l).size = l.length := rfl

theorem str_extract (l : List UInt8) (a b : Nat) : (str l).extract a b = str ((l.drop a).take (b - a)) := by
  have h := Lib.extract_data (str l) a b
  apply Go.WideShapes.bytes_inj
  rw [h]; rfl

set_option maxRecDepth 100000 in
set_option maxHeartbeats 1600000 in
theorem suffix_in (l : List UInt8) (w : World) (hl : l.length < 1000) :
    Calls Tryz.prog 125 #[.string (str l), .string ⟨#[95, 115]⟩] w fun e w' => e = .returned (.bool (sfx l)) ∧ w = w' := by
  have hz := str_size l
  generalize hs : str l = s at *
  have HS := hide hs; clear hs
  by_cases h2 : 2 ≤ l.length
  · have h3 : 2 ≤ s.size := by omega
    have h4 : s.size < 1000 := by omega
    have HZ := hide hz; clear hz hl h2
    go_enter Tryz.func125, Tryz.ntmps125
    go_wp2
    go_ret
    refine ⟨ret_bool ?_, rfl⟩
    rw [← unhide HS, str_extract, str_toList]
    unfold sfx
    have hz := unhide HZ
    rw [← unhide HS, str_size] at *
    rw [List.take_of_length_le (by simp)]
    simp [show 2 ≤ l.length by omega]
  · have h3 : ¬ (2 : Int) ≤ s.size := by omega
    have e : sfx l = false := by unfold sfx; simp [h2]
    rw [e]
    clear hz hl h2
    go_enter Tryz.func125, Tryz.ntmps125
    go_wp2
    go_ret
    exact ⟨rfl, rfl⟩
theorem suffix_any (l : List UInt8) (w : World) (hl : l.length < 1000) :
    Calls Tryz.prog 79 #[.string (str l), .string ⟨#[95, 115]⟩] w fun e w' => e = .returned (.bool (sfx l)) ∧ w = w' := by
  have hc := suffix_in l w hl
  have HC := hide hc; clear hc
  generalize str l = s at *
  go_enter Tryz.func79, Tryz.ntmps79
  go_wp2_with fail
  refine (unhide HC).mono ?_
  rintro e w1 ⟨rfl, rfl⟩
  go_wp2
  go_ret
  exact ⟨rfl, rfl⟩

def abV : List Value := abs'.map (Value.int .u8)
/-- how many bytes a number's access has; 0: it is none -/
def ab (n : Nat) : Int := abs'.getD n 0
theorem ab_bd : ∀ n, 0 ≤ ab n ∧ ab n ≤ 255 := by
  intro n
  have : ∀ z ∈ abs', 0 ≤ z ∧ z ≤ 255 := by decide
  by_cases h : n < abs'.length
  · have e : ab n = abs'[n] := by unfold ab; simp [List.getD, h]
    rw [e]; exact this _ (List.getElem_mem h)
  · have e : ab n = 0 := by unfold ab; simp [List.getD, h]
    omega
theorem ab_at {w : World} (hT : TC w 1 abV) (n : Nat) (hn : n < 63) : w.cell? ⟨1, n, none⟩ = some (.int .u8 (ab n)) := by
  obtain ⟨_, t, fr, hr⟩ := hT
  rw [cell_of_row w _ n _ _ _ hr]
  have hl : n < abs'.length := hn
  simp [abV, ab, List.getD, hl]
set_option maxRecDepth 100000 in
theorem nm_len : ∀ n, n < 256 → (nm n).length < 1000 := by decide

theorem Nms.of_heap {w w' : World} (h : Nms w) (e : w'.heap = w.heap) : Nms w' := by
  have hc : ∀ a, w'.cell? a = w.cell? a := fun a => by unfold World.cell?; rw [e]
  exact ⟨fun j s hj => (hc _).trans (h.1 j s hj), fun j s hj => (hc _).trans (h.2.1 j s hj), fun j s hj => (hc _).trans (h.2.2 j s hj)⟩
theorem drewN_heap (w : World) : ∀ k, (w.drewN k).heap = w.heap := fun k => by
  induction k with
  | zero => rfl
  | succ k ih => exact ih
set_option maxRecDepth 100000 in
set_option maxHeartbeats 1600000 in
theorem bytes_no (n : Nat) (hn : n < 256) (w : World) (hT : TC w 1 abV) (h0 : ab n = 0) :
    Calls Tryz.prog 51 #[.int .u8 n] w fun e w' => e = .returned (.tuple #[.int .i64 0, .bool false, errV 1]) ∧ w = w' := by
  rw [errV_1]
  by_cases h : n < 63
  · have hc := ab_at hT n h
    rw [h0] at hc
    clear hT h0
    go_enter Tryz.func51, Tryz.ntmps51
    go_wp2
    go_ret3
    exact ⟨rfl, rfl⟩
  · clear hT h0
    go_enter Tryz.func51, Tryz.ntmps51
    go_wp2
    go_ret3
    exact ⟨rfl, rfl⟩
set_option maxRecDepth 100000 in
set_option maxHeartbeats 1600000 in
theorem bytes_yes (n : Nat) (hn : n < 63) (w : World) (hT : TC w 1 abV) (hN : Nms w) (h0 : ab n ≠ 0) :
    Calls Tryz.prog 51 #[.int .u8 n] w fun e w' => e = .returned (.tuple #[.int .i64 (ab n), .bool (sfx (nm n)), errV 0]) ∧ ∃ k, w' = w.drewN k := by
  rw [errV_0]
  have hc := ab_at hT n hn
  have hnm := fun wx (h : Nms wx) => (name_any n (by omega) wx h).mono (fun _ _ q => And.intro q.1 q.2.symm)
  have hsf := fun wx => (suffix_any (nm n) wx (nm_len n (by omega))).mono (fun _ _ q => And.intro q.1 q.2.symm)
  generalize nm n = l at *
  have t : (ab n == 0) = false := by simpa using h0
  have hb := ab_bd n
  generalize ab n = a at *
  obtain ⟨b0, b1⟩ := hb
  have HN := hide hnm; have HF := hide hsf; have HW := hide hN
  clear hT h0 hnm hsf hN
  go_enter Tryz.func51, Tryz.ntmps51
  go_wp2_with fail
  go_quiet (first | (go_at_call 80; refine Calls.quiet_of_same (unhide HN _ ?_); exact (unhide HW).of_heap (drewN_heap w _)) | (go_at_call 79; exact Calls.quiet_of_same (unhide HF _)))
  go_wp2
  go_ret3
  exact ⟨rfl, _, rfl⟩
end Go.Proofs.YtcljcnaglkbjcaaGreatDoor
