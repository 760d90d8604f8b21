/- mandrelref04.Form where the name is told. -/
import Derived.Test.YtheopjcmhclgdaaGreatDoorRfE
namespace Go.Proofs.YtheopjcmhclgdaaGreatDoor
open Go.RowKit
set_option linter.unusedVariables false

/-- Name gives this text -/
def NameIs (n : Nat) (l : List UInt8) : Prop := ∀ w, Calls Tryz.prog 62 #[.int .u8 n] w fun e w' => e = .returned (.string (str l)) ∧ Below w.heap.size w w'
def FormIs (n : Nat) (f : Int) (b : Bool) : Prop := ∀ w, Calls Tryz.prog 63 #[.int .u8 n] w fun e w' => e = .returned (.tuple #[.int .i64 f, .bool b]) ∧ Below w.heap.size w w'
set_option maxRecDepth 100000 in
set_option maxHeartbeats 1600000 in
theorem f_none (n : Nat) (h : NameIs n []) : FormIs n 0 false := by
  intro w
  have h1 := h w
  rw [show str [] = ⟨#[]⟩ from rfl] at h1
  have H1 := hide h1; clear h h1
  go_enter Tryz.func63, Tryz.ntmps63
  go_wp2_with fail
  refine (unhide H1).mono ?_
  rintro e w1 ⟨rfl, hb⟩
  have HB := hide hb; clear hb
  go_wp2
  go_ret2
  exact ⟨rfl, unhide HB⟩
set_option maxRecDepth 100000 in
set_option maxHeartbeats 1600000 in
theorem f_i32_const (n : Nat) (h : NameIs n [105, 51, 50, 46, 99, 111, 110, 115, 116]) : FormIs n 1 true := by
  intro w
  have h1 := h w
  rw [show str [105, 51, 50, 46, 99, 111, 110, 115, 116] = ⟨#[105, 51, 50, 46, 99, 111, 110, 115, 116]⟩ from rfl] at h1
  have H1 := hide h1; clear h h1
  go_enter Tryz.func63, Tryz.ntmps63
  go_wp2_with fail
  refine (unhide H1).mono ?_
  rintro e w1 ⟨rfl, hb⟩
  have HB := hide hb; clear hb
  go_wp2
  go_ret2
  exact ⟨rfl, unhide HB⟩
set_option maxRecDepth 100000 in
set_option maxHeartbeats 1600000 in
theorem f_i64_const (n : Nat) (h : NameIs n [105, 54, 52, 46, 99, 111, 110, 115, 116]) : FormIs n 2 true := by
  intro w
  have h1 := h w
  rw [show str [105, 54, 52, 46, 99, 111, 110, 115, 116] = ⟨#[105, 54, 52, 46, 99, 111, 110, 115, 116]⟩ from rfl] at h1
  have H1 := hide h1; clear h h1
  go_enter Tryz.func63, Tryz.ntmps63
  go_wp2_with fail
  refine (unhide H1).mono ?_
  rintro e w1 ⟨rfl, hb⟩
  have HB := hide hb; clear hb
  go_wp2
  go_ret2
  exact ⟨rfl, unhide HB⟩
set_option maxRecDepth 100000 in
set_option maxHeartbeats 1600000 in
theorem f_br (n : Nat) (h : NameIs n [98, 114]) : FormIs n 3 true := by
  intro w
  have h1 := h w
  rw [show str [98, 114] = ⟨#[98, 114]⟩ from rfl] at h1
  have H1 := hide h1; clear h h1
  go_enter Tryz.func63, Tryz.ntmps63
  go_wp2_with fail
  refine (unhide H1).mono ?_
  rintro e w1 ⟨rfl, hb⟩
  have HB := hide hb; clear hb
  go_wp2
  go_ret2
  exact ⟨rfl, unhide HB⟩
set_option maxRecDepth 100000 in
set_option maxHeartbeats 1600000 in
theorem f_br_if (n : Nat) (h : NameIs n [98, 114, 95, 105, 102]) : FormIs n 3 true := by
  intro w
  have h1 := h w
  rw [show str [98, 114, 95, 105, 102] = ⟨#[98, 114, 95, 105, 102]⟩ from rfl] at h1
  have H1 := hide h1; clear h h1
  go_enter Tryz.func63, Tryz.ntmps63
  go_wp2_with fail
  refine (unhide H1).mono ?_
  rintro e w1 ⟨rfl, hb⟩
  have HB := hide hb; clear hb
  go_wp2
  go_ret2
  exact ⟨rfl, unhide HB⟩
set_option maxRecDepth 100000 in
set_option maxHeartbeats 1600000 in
theorem f_call (n : Nat) (h : NameIs n [99, 97, 108, 108]) : FormIs n 3 true := by
  intro w
  have h1 := h w
  rw [show str [99, 97, 108, 108] = ⟨#[99, 97, 108, 108]⟩ from rfl] at h1
  have H1 := hide h1; clear h h1
  go_enter Tryz.func63, Tryz.ntmps63
  go_wp2_with fail
  refine (unhide H1).mono ?_
  rintro e w1 ⟨rfl, hb⟩
  have HB := hide hb; clear hb
  go_wp2
  go_ret2
  exact ⟨rfl, unhide HB⟩
set_option maxRecDepth 100000 in
set_option maxHeartbeats 1600000 in
theorem f_local_get (n : Nat) (h : NameIs n [108, 111, 99, 97, 108, 46, 103, 101, 116]) : FormIs n 3 true := by
  intro w
  have h1 := h w
  rw [show str [108, 111, 99, 97, 108, 46, 103, 101, 116] = ⟨#[108, 111, 99, 97, 108, 46, 103, 101, 116]⟩ from rfl] at h1
  have H1 := hide h1; clear h h1
  go_enter Tryz.func63, Tryz.ntmps63
  go_wp2_with fail
  refine (unhide H1).mono ?_
  rintro e w1 ⟨rfl, hb⟩
  have HB := hide hb; clear hb
  go_wp2
  go_ret2
  exact ⟨rfl, unhide HB⟩
set_option maxRecDepth 100000 in
set_option maxHeartbeats 1600000 in
theorem f_local_set (n : Nat) (h : NameIs n [108, 111, 99, 97, 108, 46, 115, 101, 116]) : FormIs n 3 true := by
  intro w
  have h1 := h w
  rw [show str [108, 111, 99, 97, 108, 46, 115, 101, 116] = ⟨#[108, 111, 99, 97, 108, 46, 115, 101, 116]⟩ from rfl] at h1
  have H1 := hide h1; clear h h1
  go_enter Tryz.func63, Tryz.ntmps63
  go_wp2_with fail
  refine (unhide H1).mono ?_
  rintro e w1 ⟨rfl, hb⟩
  have HB := hide hb; clear hb
  go_wp2
  go_ret2
  exact ⟨rfl, unhide HB⟩
set_option maxRecDepth 100000 in
set_option maxHeartbeats 1600000 in
theorem f_local_tee (n : Nat) (h : NameIs n [108, 111, 99, 97, 108, 46, 116, 101, 101]) : FormIs n 3 true := by
  intro w
  have h1 := h w
  rw [show str [108, 111, 99, 97, 108, 46, 116, 101, 101] = ⟨#[108, 111, 99, 97, 108, 46, 116, 101, 101]⟩ from rfl] at h1
  have H1 := hide h1; clear h h1
  go_enter Tryz.func63, Tryz.ntmps63
  go_wp2_with fail
  refine (unhide H1).mono ?_
  rintro e w1 ⟨rfl, hb⟩
  have HB := hide hb; clear hb
  go_wp2
  go_ret2
  exact ⟨rfl, unhide HB⟩
set_option maxRecDepth 100000 in
set_option maxHeartbeats 1600000 in
theorem f_global_get (n : Nat) (h : NameIs n [103, 108, 111, 98, 97, 108, 46, 103, 101, 116]) : FormIs n 3 true := by
  intro w
  have h1 := h w
  rw [show str [103, 108, 111, 98, 97, 108, 46, 103, 101, 116] = ⟨#[103, 108, 111, 98, 97, 108, 46, 103, 101, 116]⟩ from rfl] at h1
  have H1 := hide h1; clear h h1
  go_enter Tryz.func63, Tryz.ntmps63
  go_wp2_with fail
  refine (unhide H1).mono ?_
  rintro e w1 ⟨rfl, hb⟩
  have HB := hide hb; clear hb
  go_wp2
  go_ret2
  exact ⟨rfl, unhide HB⟩
set_option maxRecDepth 100000 in
set_option maxHeartbeats 1600000 in
theorem f_global_set (n : Nat) (h : NameIs n [103, 108, 111, 98, 97, 108, 46, 115, 101, 116]) : FormIs n 3 true := by
  intro w
  have h1 := h w
  rw [show str [103, 108, 111, 98, 97, 108, 46, 115, 101, 116] = ⟨#[103, 108, 111, 98, 97, 108, 46, 115, 101, 116]⟩ from rfl] at h1
  have H1 := hide h1; clear h h1
  go_enter Tryz.func63, Tryz.ntmps63
  go_wp2_with fail
  refine (unhide H1).mono ?_
  rintro e w1 ⟨rfl, hb⟩
  have HB := hide hb; clear hb
  go_wp2
  go_ret2
  exact ⟨rfl, unhide HB⟩
set_option maxRecDepth 100000 in
set_option maxHeartbeats 1600000 in
theorem f_memory_size (n : Nat) (h : NameIs n [109, 101, 109, 111, 114, 121, 46, 115, 105, 122, 101]) : FormIs n 5 true := by
  intro w
  have h1 := h w
  rw [show str [109, 101, 109, 111, 114, 121, 46, 115, 105, 122, 101] = ⟨#[109, 101, 109, 111, 114, 121, 46, 115, 105, 122, 101]⟩ from rfl] at h1
  have H1 := hide h1; clear h h1
  go_enter Tryz.func63, Tryz.ntmps63
  go_wp2_with fail
  refine (unhide H1).mono ?_
  rintro e w1 ⟨rfl, hb⟩
  have HB := hide hb; clear hb
  go_wp2
  go_ret2
  exact ⟨rfl, unhide HB⟩
set_option maxRecDepth 100000 in
set_option maxHeartbeats 1600000 in
theorem f_memory_grow (n : Nat) (h : NameIs n [109, 101, 109, 111, 114, 121, 46, 103, 114, 111, 119]) : FormIs n 5 true := by
  intro w
  have h1 := h w
  rw [show str [109, 101, 109, 111, 114, 121, 46, 103, 114, 111, 119] = ⟨#[109, 101, 109, 111, 114, 121, 46, 103, 114, 111, 119]⟩ from rfl] at h1
  have H1 := hide h1; clear h h1
  go_enter Tryz.func63, Tryz.ntmps63
  go_wp2_with fail
  refine (unhide H1).mono ?_
  rintro e w1 ⟨rfl, hb⟩
  have HB := hide hb; clear hb
  go_wp2
  go_ret2
  exact ⟨rfl, unhide HB⟩
set_option maxRecDepth 100000 in
set_option maxHeartbeats 1600000 in
theorem f_block (n : Nat) (h : NameIs n [98, 108, 111, 99, 107]) : FormIs n 6 true := by
  intro w
  have h1 := h w
  rw [show str [98, 108, 111, 99, 107] = ⟨#[98, 108, 111, 99, 107]⟩ from rfl] at h1
  have H1 := hide h1; clear h h1
  go_enter Tryz.func63, Tryz.ntmps63
  go_wp2_with fail
  refine (unhide H1).mono ?_
  rintro e w1 ⟨rfl, hb⟩
  have HB := hide hb; clear hb
  go_wp2
  go_ret2
  exact ⟨rfl, unhide HB⟩
set_option maxRecDepth 100000 in
set_option maxHeartbeats 1600000 in
theorem f_loop (n : Nat) (h : NameIs n [108, 111, 111, 112]) : FormIs n 6 true := by
  intro w
  have h1 := h w
  rw [show str [108, 111, 111, 112] = ⟨#[108, 111, 111, 112]⟩ from rfl] at h1
  have H1 := hide h1; clear h h1
  go_enter Tryz.func63, Tryz.ntmps63
  go_wp2_with fail
  refine (unhide H1).mono ?_
  rintro e w1 ⟨rfl, hb⟩
  have HB := hide hb; clear hb
  go_wp2
  go_ret2
  exact ⟨rfl, unhide HB⟩
set_option maxRecDepth 100000 in
set_option maxHeartbeats 1600000 in
theorem f_if (n : Nat) (h : NameIs n [105, 102]) : FormIs n 7 true := by
  intro w
  have h1 := h w
  rw [show str [105, 102] = ⟨#[105, 102]⟩ from rfl] at h1
  have H1 := hide h1; clear h h1
  go_enter Tryz.func63, Tryz.ntmps63
  go_wp2_with fail
  refine (unhide H1).mono ?_
  rintro e w1 ⟨rfl, hb⟩
  have HB := hide hb; clear hb
  go_wp2
  go_ret2
  exact ⟨rfl, unhide HB⟩
set_option maxRecDepth 100000 in
set_option maxHeartbeats 1600000 in
theorem f_br_table (n : Nat) (h : NameIs n [98, 114, 95, 116, 97, 98, 108, 101]) : FormIs n 8 true := by
  intro w
  have h1 := h w
  rw [show str [98, 114, 95, 116, 97, 98, 108, 101] = ⟨#[98, 114, 95, 116, 97, 98, 108, 101]⟩ from rfl] at h1
  have H1 := hide h1; clear h h1
  go_enter Tryz.func63, Tryz.ntmps63
  go_wp2_with fail
  refine (unhide H1).mono ?_
  rintro e w1 ⟨rfl, hb⟩
  have HB := hide hb; clear hb
  go_wp2
  go_ret2
  exact ⟨rfl, unhide HB⟩
set_option maxRecDepth 100000 in
set_option maxHeartbeats 1600000 in
theorem f_call_indirect (n : Nat) (h : NameIs n [99, 97, 108, 108, 95, 105, 110, 100, 105, 114, 101, 99, 116]) : FormIs n 9 true := by
  intro w
  have h1 := h w
  rw [show str [99, 97, 108, 108, 95, 105, 110, 100, 105, 114, 101, 99, 116] = ⟨#[99, 97, 108, 108, 95, 105, 110, 100, 105, 114, 101, 99, 116]⟩ from rfl] at h1
  have H1 := hide h1; clear h h1
  go_enter Tryz.func63, Tryz.ntmps63
  go_wp2_with fail
  refine (unhide H1).mono ?_
  rintro e w1 ⟨rfl, hb⟩
  have HB := hide hb; clear hb
  go_wp2
  go_ret2
  exact ⟨rfl, unhide HB⟩
end Go.Proofs.YtheopjcmhclgdaaGreatDoor
