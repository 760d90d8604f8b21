/- mandrelref04.Bytes: what it returns. -/
import Derived.Test.YtcljcnaglkbjcaaGreatDoorRfG
namespace Go.Proofs.YtcljcnaglkbjcaaGreatDoor
open Go.RowKit
set_option linter.unusedVariables false

def BytesIs (n : Nat) (k : Int) (s b : Bool) : Prop := ∀ w, Calls Tryz.prog 53 #[.int .u8 n] w fun e w' => e = .returned (.tuple #[.int .i64 k, .bool s, .bool b]) ∧ Below w.heap.size w w'
set_option maxRecDepth 100000 in
set_option maxHeartbeats 1600000 in
theorem y_none (n : Nat) (h : NameIs n []) (hf : FormIs n 0 false) : BytesIs n 0 false false := by
  intro w
  have h1 := h w
  rw [str_nil] at h1
  have H1 := hide h1; clear h h1
  have hff := hf
  have HF := hide hff; clear hf hff
  go_enter Tryz.func53, Tryz.ntmps53
  go_wp2_with fail
  refine (unhide H1).mono ?_
  rintro e w1 ⟨rfl, hb1⟩
  have HB1 := hide hb1; clear hb1
  go_wp2_with fail
  refine (unhide HF _).mono ?_
  rintro e w2 ⟨rfl, hb2⟩
  have HB2 := hide (Below.on (unhide HB1) hb2); clear hb2 HB1
  go_wp2
  go_ret3
  exact ⟨rfl, unhide HB2⟩
set_option maxRecDepth 100000 in
set_option maxHeartbeats 1600000 in
theorem y_not (n : Nat) (l : List UInt8) (h : NameIs n l) (hn : l ≠ []) (f : Int) (hf : FormIs n f true) (f4 : (f != 4) = true) : BytesIs n 0 false false := by
  have hie : (str l).toList.isEmpty = false := str_ie hn
  intro w
  have h1 := h w
  have H1 := hide h1; clear h h1
  have hff := hf
  have HF := hide hff; clear hf hff
  clear hn
  generalize str l = s at *
  go_enter Tryz.func53, Tryz.ntmps53
  go_wp2_with fail
  refine (unhide H1).mono ?_
  rintro e w1 ⟨rfl, hb1⟩
  have HB1 := hide hb1; clear hb1
  go_wp2_with fail
  refine (unhide HF _).mono ?_
  rintro e w2 ⟨rfl, hb2⟩
  have HB2 := hide (Below.on (unhide HB1) hb2); clear hb2 HB1
  go_wp2
  go_ret3
  exact ⟨rfl, unhide HB2⟩
set_option maxRecDepth 100000 in
set_option maxHeartbeats 1600000 in
theorem yy_s1 (n : Nat) (s : ByteArray) (h : ∀ w, Calls Tryz.prog 82 #[.int .u8 n] w fun e w' => e = .returned (.string s) ∧ Below w.heap.size w w') (hf : FormIs n 4 true) (hz : 8 ≤ (s.size : Int)) (hz2 : (s.size : Int) < 100) (hie : s.toList.isEmpty = false) (u1 : ((s.extract (s.size - 2) s.size).toList == [95, 115]) = true) (v0 : (((s.extract 0 (s.size - 2)).extract (s.size - 2 - 1) (s.size - 2)).toList == [56]) = true) : BytesIs n 1 true true := by
  intro w
  have h1 := h w
  have H1 := hide h1; clear h h1
  have hff := hf
  have HF := hide hff; clear hf hff
  go_enter Tryz.func53, Tryz.ntmps53
  go_wp2_with fail
  refine (unhide H1).mono ?_
  rintro e w1 ⟨rfl, hb1⟩
  have HB1 := hide hb1; clear hb1
  go_wp2_with fail
  refine (unhide HF _).mono ?_
  rintro e w2 ⟨rfl, hb2⟩
  have HB2 := hide (Below.on (unhide HB1) hb2); clear hb2 HB1
  go_wp2
  go_ret3
  exact ⟨rfl, unhide HB2⟩
set_option maxRecDepth 100000 in
set_option maxHeartbeats 1600000 in
theorem yy_s2 (n : Nat) (s : ByteArray) (h : ∀ w, Calls Tryz.prog 82 #[.int .u8 n] w fun e w' => e = .returned (.string s) ∧ Below w.heap.size w w') (hf : FormIs n 4 true) (hz : 8 ≤ (s.size : Int)) (hz2 : (s.size : Int) < 100) (hie : s.toList.isEmpty = false) (u1 : ((s.extract (s.size - 2) s.size).toList == [95, 115]) = true) (v0 : (((s.extract 0 (s.size - 2)).extract (s.size - 2 - 1) (s.size - 2)).toList == [56]) = false) (v1 : (((s.extract 0 (s.size - 2)).extract (s.size - 2 - 1) (s.size - 2)).toList == [54]) = true) : BytesIs n 2 true true := by
  intro w
  have h1 := h w
  have H1 := hide h1; clear h h1
  have hff := hf
  have HF := hide hff; clear hf hff
  go_enter Tryz.func53, Tryz.ntmps53
  go_wp2_with fail
  refine (unhide H1).mono ?_
  rintro e w1 ⟨rfl, hb1⟩
  have HB1 := hide hb1; clear hb1
  go_wp2_with fail
  refine (unhide HF _).mono ?_
  rintro e w2 ⟨rfl, hb2⟩
  have HB2 := hide (Below.on (unhide HB1) hb2); clear hb2 HB1
  go_wp2
  go_ret3
  exact ⟨rfl, unhide HB2⟩
set_option maxRecDepth 100000 in
set_option maxHeartbeats 1600000 in
theorem yy_s4 (n : Nat) (s : ByteArray) (h : ∀ w, Calls Tryz.prog 82 #[.int .u8 n] w fun e w' => e = .returned (.string s) ∧ Below w.heap.size w w') (hf : FormIs n 4 true) (hz : 8 ≤ (s.size : Int)) (hz2 : (s.size : Int) < 100) (hie : s.toList.isEmpty = false) (u1 : ((s.extract (s.size - 2) s.size).toList == [95, 115]) = true) (v0 : (((s.extract 0 (s.size - 2)).extract (s.size - 2 - 1) (s.size - 2)).toList == [56]) = false) (v1 : (((s.extract 0 (s.size - 2)).extract (s.size - 2 - 1) (s.size - 2)).toList == [54]) = false) (v2 : (((s.extract 0 (s.size - 2)).extract (s.size - 2 - 1) (s.size - 2)).toList == [50]) = true) : BytesIs n 4 true true := by
  intro w
  have h1 := h w
  have H1 := hide h1; clear h h1
  have hff := hf
  have HF := hide hff; clear hf hff
  go_enter Tryz.func53, Tryz.ntmps53
  go_wp2_with fail
  refine (unhide H1).mono ?_
  rintro e w1 ⟨rfl, hb1⟩
  have HB1 := hide hb1; clear hb1
  go_wp2_with fail
  refine (unhide HF _).mono ?_
  rintro e w2 ⟨rfl, hb2⟩
  have HB2 := hide (Below.on (unhide HB1) hb2); clear hb2 HB1
  go_wp2
  go_ret3
  exact ⟨rfl, unhide HB2⟩
set_option maxRecDepth 100000 in
set_option maxHeartbeats 1600000 in
theorem yy_u1 (n : Nat) (s : ByteArray) (h : ∀ w, Calls Tryz.prog 82 #[.int .u8 n] w fun e w' => e = .returned (.string s) ∧ Below w.heap.size w w') (hf : FormIs n 4 true) (hz : 8 ≤ (s.size : Int)) (hz2 : (s.size : Int) < 100) (hie : s.toList.isEmpty = false) (u1 : ((s.extract (s.size - 2) s.size).toList == [95, 115]) = false) (u2 : ((s.extract (s.size - 2) s.size).toList == [95, 117]) = true) (v0 : (((s.extract 0 (s.size - 2)).extract (s.size - 2 - 1) (s.size - 2)).toList == [56]) = true) : BytesIs n 1 false true := by
  intro w
  have h1 := h w
  have H1 := hide h1; clear h h1
  have hff := hf
  have HF := hide hff; clear hf hff
  go_enter Tryz.func53, Tryz.ntmps53
  go_wp2_with fail
  refine (unhide H1).mono ?_
  rintro e w1 ⟨rfl, hb1⟩
  have HB1 := hide hb1; clear hb1
  go_wp2_with fail
  refine (unhide HF _).mono ?_
  rintro e w2 ⟨rfl, hb2⟩
  have HB2 := hide (Below.on (unhide HB1) hb2); clear hb2 HB1
  go_wp2
  go_ret3
  exact ⟨rfl, unhide HB2⟩
set_option maxRecDepth 100000 in
set_option maxHeartbeats 1600000 in
theorem yy_u2 (n : Nat) (s : ByteArray) (h : ∀ w, Calls Tryz.prog 82 #[.int .u8 n] w fun e w' => e = .returned (.string s) ∧ Below w.heap.size w w') (hf : FormIs n 4 true) (hz : 8 ≤ (s.size : Int)) (hz2 : (s.size : Int) < 100) (hie : s.toList.isEmpty = false) (u1 : ((s.extract (s.size - 2) s.size).toList == [95, 115]) = false) (u2 : ((s.extract (s.size - 2) s.size).toList == [95, 117]) = true) (v0 : (((s.extract 0 (s.size - 2)).extract (s.size - 2 - 1) (s.size - 2)).toList == [56]) = false) (v1 : (((s.extract 0 (s.size - 2)).extract (s.size - 2 - 1) (s.size - 2)).toList == [54]) = true) : BytesIs n 2 false true := by
  intro w
  have h1 := h w
  have H1 := hide h1; clear h h1
  have hff := hf
  have HF := hide hff; clear hf hff
  go_enter Tryz.func53, Tryz.ntmps53
  go_wp2_with fail
  refine (unhide H1).mono ?_
  rintro e w1 ⟨rfl, hb1⟩
  have HB1 := hide hb1; clear hb1
  go_wp2_with fail
  refine (unhide HF _).mono ?_
  rintro e w2 ⟨rfl, hb2⟩
  have HB2 := hide (Below.on (unhide HB1) hb2); clear hb2 HB1
  go_wp2
  go_ret3
  exact ⟨rfl, unhide HB2⟩
set_option maxRecDepth 100000 in
set_option maxHeartbeats 1600000 in
theorem yy_u4 (n : Nat) (s : ByteArray) (h : ∀ w, Calls Tryz.prog 82 #[.int .u8 n] w fun e w' => e = .returned (.string s) ∧ Below w.heap.size w w') (hf : FormIs n 4 true) (hz : 8 ≤ (s.size : Int)) (hz2 : (s.size : Int) < 100) (hie : s.toList.isEmpty = false) (u1 : ((s.extract (s.size - 2) s.size).toList == [95, 115]) = false) (u2 : ((s.extract (s.size - 2) s.size).toList == [95, 117]) = true) (v0 : (((s.extract 0 (s.size - 2)).extract (s.size - 2 - 1) (s.size - 2)).toList == [56]) = false) (v1 : (((s.extract 0 (s.size - 2)).extract (s.size - 2 - 1) (s.size - 2)).toList == [54]) = false) (v2 : (((s.extract 0 (s.size - 2)).extract (s.size - 2 - 1) (s.size - 2)).toList == [50]) = true) : BytesIs n 4 false true := by
  intro w
  have h1 := h w
  have H1 := hide h1; clear h h1
  have hff := hf
  have HF := hide hff; clear hf hff
  go_enter Tryz.func53, Tryz.ntmps53
  go_wp2_with fail
  refine (unhide H1).mono ?_
  rintro e w1 ⟨rfl, hb1⟩
  have HB1 := hide hb1; clear hb1
  go_wp2_with fail
  refine (unhide HF _).mono ?_
  rintro e w2 ⟨rfl, hb2⟩
  have HB2 := hide (Below.on (unhide HB1) hb2); clear hb2 HB1
  go_wp2
  go_ret3
  exact ⟨rfl, unhide HB2⟩
set_option maxRecDepth 100000 in
set_option maxHeartbeats 1600000 in
theorem yy_p1 (n : Nat) (s : ByteArray) (h : ∀ w, Calls Tryz.prog 82 #[.int .u8 n] w fun e w' => e = .returned (.string s) ∧ Below w.heap.size w w') (hf : FormIs n 4 true) (hz : 8 ≤ (s.size : Int)) (hz2 : (s.size : Int) < 100) (hie : s.toList.isEmpty = false) (u1 : ((s.extract (s.size - 2) s.size).toList == [95, 115]) = false) (u2 : ((s.extract (s.size - 2) s.size).toList == [95, 117]) = false) (v0 : ((s.extract (s.size - 1) s.size).toList == [56]) = true) : BytesIs n 1 false true := by
  intro w
  have h1 := h w
  have H1 := hide h1; clear h h1
  have hff := hf
  have HF := hide hff; clear hf hff
  go_enter Tryz.func53, Tryz.ntmps53
  go_wp2_with fail
  refine (unhide H1).mono ?_
  rintro e w1 ⟨rfl, hb1⟩
  have HB1 := hide hb1; clear hb1
  go_wp2_with fail
  refine (unhide HF _).mono ?_
  rintro e w2 ⟨rfl, hb2⟩
  have HB2 := hide (Below.on (unhide HB1) hb2); clear hb2 HB1
  go_wp2
  go_ret3
  exact ⟨rfl, unhide HB2⟩
set_option maxRecDepth 100000 in
set_option maxHeartbeats 1600000 in
theorem yy_p2 (n : Nat) (s : ByteArray) (h : ∀ w, Calls Tryz.prog 82 #[.int .u8 n] w fun e w' => e = .returned (.string s) ∧ Below w.heap.size w w') (hf : FormIs n 4 true) (hz : 8 ≤ (s.size : Int)) (hz2 : (s.size : Int) < 100) (hie : s.toList.isEmpty = false) (u1 : ((s.extract (s.size - 2) s.size).toList == [95, 115]) = false) (u2 : ((s.extract (s.size - 2) s.size).toList == [95, 117]) = false) (v0 : ((s.extract (s.size - 1) s.size).toList == [56]) = false) (v1 : ((s.extract (s.size - 1) s.size).toList == [54]) = true) : BytesIs n 2 false true := by
  intro w
  have h1 := h w
  have H1 := hide h1; clear h h1
  have hff := hf
  have HF := hide hff; clear hf hff
  go_enter Tryz.func53, Tryz.ntmps53
  go_wp2_with fail
  refine (unhide H1).mono ?_
  rintro e w1 ⟨rfl, hb1⟩
  have HB1 := hide hb1; clear hb1
  go_wp2_with fail
  refine (unhide HF _).mono ?_
  rintro e w2 ⟨rfl, hb2⟩
  have HB2 := hide (Below.on (unhide HB1) hb2); clear hb2 HB1
  go_wp2
  go_ret3
  exact ⟨rfl, unhide HB2⟩
set_option maxRecDepth 100000 in
set_option maxHeartbeats 1600000 in
theorem yy_p4 (n : Nat) (s : ByteArray) (h : ∀ w, Calls Tryz.prog 82 #[.int .u8 n] w fun e w' => e = .returned (.string s) ∧ Below w.heap.size w w') (hf : FormIs n 4 true) (hz : 8 ≤ (s.size : Int)) (hz2 : (s.size : Int) < 100) (hie : s.toList.isEmpty = false) (u1 : ((s.extract (s.size - 2) s.size).toList == [95, 115]) = false) (u2 : ((s.extract (s.size - 2) s.size).toList == [95, 117]) = false) (v0 : ((s.extract (s.size - 1) s.size).toList == [56]) = false) (v1 : ((s.extract (s.size - 1) s.size).toList == [54]) = false) (v2 : ((s.extract (s.size - 1) s.size).toList == [50]) = true) : BytesIs n 4 false true := by
  intro w
  have h1 := h w
  have H1 := hide h1; clear h h1
  have hff := hf
  have HF := hide hff; clear hf hff
  go_enter Tryz.func53, Tryz.ntmps53
  go_wp2_with fail
  refine (unhide H1).mono ?_
  rintro e w1 ⟨rfl, hb1⟩
  have HB1 := hide hb1; clear hb1
  go_wp2_with fail
  refine (unhide HF _).mono ?_
  rintro e w2 ⟨rfl, hb2⟩
  have HB2 := hide (Below.on (unhide HB1) hb2); clear hb2 HB1
  go_wp2
  go_ret3
  exact ⟨rfl, unhide HB2⟩
set_option maxRecDepth 100000 in
set_option maxHeartbeats 1600000 in
theorem yy_k127 (n : Nat) (s : ByteArray) (h : ∀ w, Calls Tryz.prog 82 #[.int .u8 n] w fun e w' => e = .returned (.string s) ∧ Below w.heap.size w w') (hf : FormIs n 4 true) (hz : 8 ≤ (s.size : Int)) (hz2 : (s.size : Int) < 100) (hie : s.toList.isEmpty = false) (u1 : ((s.extract (s.size - 2) s.size).toList == [95, 115]) = false) (u2 : ((s.extract (s.size - 2) s.size).toList == [95, 117]) = false) (v0 : ((s.extract (s.size - 1) s.size).toList == [56]) = false) (v1 : ((s.extract (s.size - 1) s.size).toList == [54]) = false) (v2 : ((s.extract (s.size - 1) s.size).toList == [50]) = false) (hk : ∀ w, Calls Tryz.prog 84 #[.string s] w fun e w' => e = .returned (.int .u8 127) ∧ w = w') : BytesIs n 4 false true := by
  have HK := hide hk; clear hk
  intro w
  have h1 := h w
  have H1 := hide h1; clear h h1
  have hff := hf
  have HF := hide hff; clear hf hff
  go_enter Tryz.func53, Tryz.ntmps53
  go_wp2_with fail
  refine (unhide H1).mono ?_
  rintro e w1 ⟨rfl, hb1⟩
  have HB1 := hide hb1; clear hb1
  go_wp2_with fail
  refine (unhide HF _).mono ?_
  rintro e w2 ⟨rfl, hb2⟩
  have HB2 := hide (Below.on (unhide HB1) hb2); clear hb2 HB1
  go_wp2_with fail
  refine (unhide HK _).mono ?_
  rintro e w3 ⟨rfl, rfl⟩
  go_wp2
  go_ret3
  exact ⟨rfl, unhide HB2⟩
set_option maxRecDepth 100000 in
set_option maxHeartbeats 1600000 in
theorem yy_k126 (n : Nat) (s : ByteArray) (h : ∀ w, Calls Tryz.prog 82 #[.int .u8 n] w fun e w' => e = .returned (.string s) ∧ Below w.heap.size w w') (hf : FormIs n 4 true) (hz : 8 ≤ (s.size : Int)) (hz2 : (s.size : Int) < 100) (hie : s.toList.isEmpty = false) (u1 : ((s.extract (s.size - 2) s.size).toList == [95, 115]) = false) (u2 : ((s.extract (s.size - 2) s.size).toList == [95, 117]) = false) (v0 : ((s.extract (s.size - 1) s.size).toList == [56]) = false) (v1 : ((s.extract (s.size - 1) s.size).toList == [54]) = false) (v2 : ((s.extract (s.size - 1) s.size).toList == [50]) = false) (hk : ∀ w, Calls Tryz.prog 84 #[.string s] w fun e w' => e = .returned (.int .u8 126) ∧ w = w') : BytesIs n 8 false true := by
  have HK := hide hk; clear hk
  intro w
  have h1 := h w
  have H1 := hide h1; clear h h1
  have hff := hf
  have HF := hide hff; clear hf hff
  go_enter Tryz.func53, Tryz.ntmps53
  go_wp2_with fail
  refine (unhide H1).mono ?_
  rintro e w1 ⟨rfl, hb1⟩
  have HB1 := hide hb1; clear hb1
  go_wp2_with fail
  refine (unhide HF _).mono ?_
  rintro e w2 ⟨rfl, hb2⟩
  have HB2 := hide (Below.on (unhide HB1) hb2); clear hb2 HB1
  go_wp2_with fail
  refine (unhide HK _).mono ?_
  rintro e w3 ⟨rfl, rfl⟩
  go_wp2
  go_ret3
  exact ⟨rfl, unhide HB2⟩
set_option maxRecDepth 100000 in
theorem y_40 (n : Nat) (h : NameIs n [105, 51, 50, 46, 108, 111, 97, 100]) (hf : FormIs n 4 true) : BytesIs n 4 false true :=
  yy_k127 n (str [105, 51, 50, 46, 108, 111, 97, 100]) h hf (by rw [str_size]; decide) (by rw [str_size]; decide) (by rw [str_toList]; rfl) (by simp only [str_size, str_extract, str_toList]; rfl) (by simp only [str_size, str_extract, str_toList]; rfl) (by simp only [str_size, str_extract, str_toList]; rfl) (by simp only [str_size, str_extract, str_toList]; rfl) (by simp only [str_size, str_extract, str_toList]; rfl) (fun w => kindr_any [105, 51, 50, 46, 108, 111, 97, 100] w (by decide))
set_option maxRecDepth 100000 in
theorem y_41 (n : Nat) (h : NameIs n [105, 54, 52, 46, 108, 111, 97, 100]) (hf : FormIs n 4 true) : BytesIs n 8 false true :=
  yy_k126 n (str [105, 54, 52, 46, 108, 111, 97, 100]) h hf (by rw [str_size]; decide) (by rw [str_size]; decide) (by rw [str_toList]; rfl) (by simp only [str_size, str_extract, str_toList]; rfl) (by simp only [str_size, str_extract, str_toList]; rfl) (by simp only [str_size, str_extract, str_toList]; rfl) (by simp only [str_size, str_extract, str_toList]; rfl) (by simp only [str_size, str_extract, str_toList]; rfl) (fun w => kindr_any [105, 54, 52, 46, 108, 111, 97, 100] w (by decide))
set_option maxRecDepth 100000 in
theorem y_44 (n : Nat) (h : NameIs n [105, 51, 50, 46, 108, 111, 97, 100, 56, 95, 115]) (hf : FormIs n 4 true) : BytesIs n 1 true true :=
  yy_s1 n (str [105, 51, 50, 46, 108, 111, 97, 100, 56, 95, 115]) h hf (by rw [str_size]; decide) (by rw [str_size]; decide) (by rw [str_toList]; rfl) (by simp only [str_size, str_extract, str_toList]; rfl) (by simp only [str_size, str_extract, str_toList]; rfl)
set_option maxRecDepth 100000 in
theorem y_45 (n : Nat) (h : NameIs n [105, 51, 50, 46, 108, 111, 97, 100, 56, 95, 117]) (hf : FormIs n 4 true) : BytesIs n 1 false true :=
  yy_u1 n (str [105, 51, 50, 46, 108, 111, 97, 100, 56, 95, 117]) h hf (by rw [str_size]; decide) (by rw [str_size]; decide) (by rw [str_toList]; rfl) (by simp only [str_size, str_extract, str_toList]; rfl) (by simp only [str_size, str_extract, str_toList]; rfl) (by simp only [str_size, str_extract, str_toList]; rfl)
set_option maxRecDepth 100000 in
theorem y_46 (n : Nat) (h : NameIs n [105, 51, 50, 46, 108, 111, 97, 100, 49, 54, 95, 115]) (hf : FormIs n 4 true) : BytesIs n 2 true true :=
  yy_s2 n (str [105, 51, 50, 46, 108, 111, 97, 100, 49, 54, 95, 115]) h hf (by rw [str_size]; decide) (by rw [str_size]; decide) (by rw [str_toList]; rfl) (by simp only [str_size, str_extract, str_toList]; rfl) (by simp only [str_size, str_extract, str_toList]; rfl) (by simp only [str_size, str_extract, str_toList]; rfl)
set_option maxRecDepth 100000 in
theorem y_47 (n : Nat) (h : NameIs n [105, 51, 50, 46, 108, 111, 97, 100, 49, 54, 95, 117]) (hf : FormIs n 4 true) : BytesIs n 2 false true :=
  yy_u2 n (str [105, 51, 50, 46, 108, 111, 97, 100, 49, 54, 95, 117]) h hf (by rw [str_size]; decide) (by rw [str_size]; decide) (by rw [str_toList]; rfl) (by simp only [str_size, str_extract, str_toList]; rfl) (by simp only [str_size, str_extract, str_toList]; rfl) (by simp only [str_size, str_extract, str_toList]; rfl) (by simp only [str_size, str_extract, str_toList]; rfl)
set_option maxRecDepth 100000 in
theorem y_48 (n : Nat) (h : NameIs n [105, 54, 52, 46, 108, 111, 97, 100, 56, 95, 115]) (hf : FormIs n 4 true) : BytesIs n 1 true true :=
  yy_s1 n (str [105, 54, 52, 46, 108, 111, 97, 100, 56, 95, 115]) h hf (by rw [str_size]; decide) (by rw [str_size]; decide) (by rw [str_toList]; rfl) (by simp only [str_size, str_extract, str_toList]; rfl) (by simp only [str_size, str_extract, str_toList]; rfl)
set_option maxRecDepth 100000 in
theorem y_49 (n : Nat) (h : NameIs n [105, 54, 52, 46, 108, 111, 97, 100, 56, 95, 117]) (hf : FormIs n 4 true) : BytesIs n 1 false true :=
  yy_u1 n (str [105, 54, 52, 46, 108, 111, 97, 100, 56, 95, 117]) h hf (by rw [str_size]; decide) (by rw [str_size]; decide) (by rw [str_toList]; rfl) (by simp only [str_size, str_extract, str_toList]; rfl) (by simp only [str_size, str_extract, str_toList]; rfl) (by simp only [str_size, str_extract, str_toList]; rfl)
set_option maxRecDepth 100000 in
theorem y_50 (n : Nat) (h : NameIs n [105, 54, 52, 46, 108, 111, 97, 100, 49, 54, 95, 115]) (hf : FormIs n 4 true) : BytesIs n 2 true true :=
  yy_s2 n (str [105, 54, 52, 46, 108, 111, 97, 100, 49, 54, 95, 115]) h hf (by rw [str_size]; decide) (by rw [str_size]; decide) (by rw [str_toList]; rfl) (by simp only [str_size, str_extract, str_toList]; rfl) (by simp only [str_size, str_extract, str_toList]; rfl) (by simp only [str_size, str_extract, str_toList]; rfl)
set_option maxRecDepth 100000 in
theorem y_51 (n : Nat) (h : NameIs n [105, 54, 52, 46, 108, 111, 97, 100, 49, 54, 95, 117]) (hf : FormIs n 4 true) : BytesIs n 2 false true :=
  yy_u2 n (str [105, 54, 52, 46, 108, 111, 97, 100, 49, 54, 95, 117]) h hf (by rw [str_size]; decide) (by rw [str_size]; decide) (by rw [str_toList]; rfl) (by simp only [str_size, str_extract, str_toList]; rfl) (by simp only [str_size, str_extract, str_toList]; rfl) (by simp only [str_size, str_extract, str_toList]; rfl) (by simp only [str_size, str_extract, str_toList]; rfl)
set_option maxRecDepth 100000 in
theorem y_52 (n : Nat) (h : NameIs n [105, 54, 52, 46, 108, 111, 97, 100, 51, 50, 95, 115]) (hf : FormIs n 4 true) : BytesIs n 4 true true :=
  yy_s4 n (str [105, 54, 52, 46, 108, 111, 97, 100, 51, 50, 95, 115]) h hf (by rw [str_size]; decide) (by rw [str_size]; decide) (by rw [str_toList]; rfl) (by simp only [str_size, str_extract, str_toList]; rfl) (by simp only [str_size, str_extract, str_toList]; rfl) (by simp only [str_size, str_extract, str_toList]; rfl) (by simp only [str_size, str_extract, str_toList]; rfl)
set_option maxRecDepth 100000 in
theorem y_53 (n : Nat) (h : NameIs n [105, 54, 52, 46, 108, 111, 97, 100, 51, 50, 95, 117]) (hf : FormIs n 4 true) : BytesIs n 4 false true :=
  yy_u4 n (str [105, 54, 52, 46, 108, 111, 97, 100, 51, 50, 95, 117]) h hf (by rw [str_size]; decide) (by rw [str_size]; decide) (by rw [str_toList]; rfl) (by simp only [str_size, str_extract, str_toList]; rfl) (by simp only [str_size, str_extract, str_toList]; rfl) (by simp only [str_size, str_extract, str_toList]; rfl) (by simp only [str_size, str_extract, str_toList]; rfl) (by simp only [str_size, str_extract, str_toList]; rfl)
set_option maxRecDepth 100000 in
theorem y_54 (n : Nat) (h : NameIs n [105, 51, 50, 46, 115, 116, 111, 114, 101]) (hf : FormIs n 4 true) : BytesIs n 4 false true :=
  yy_k127 n (str [105, 51, 50, 46, 115, 116, 111, 114, 101]) h hf (by rw [str_size]; decide) (by rw [str_size]; decide) (by rw [str_toList]; rfl) (by simp only [str_size, str_extract, str_toList]; rfl) (by simp only [str_size, str_extract, str_toList]; rfl) (by simp only [str_size, str_extract, str_toList]; rfl) (by simp only [str_size, str_extract, str_toList]; rfl) (by simp only [str_size, str_extract, str_toList]; rfl) (fun w => kindr_any [105, 51, 50, 46, 115, 116, 111, 114, 101] w (by decide))
set_option maxRecDepth 100000 in
theorem y_55 (n : Nat) (h : NameIs n [105, 54, 52, 46, 115, 116, 111, 114, 101]) (hf : FormIs n 4 true) : BytesIs n 8 false true :=
  yy_k126 n (str [105, 54, 52, 46, 115, 116, 111, 114, 101]) h hf (by rw [str_size]; decide) (by rw [str_size]; decide) (by rw [str_toList]; rfl) (by simp only [str_size, str_extract, str_toList]; rfl) (by simp only [str_size, str_extract, str_toList]; rfl) (by simp only [str_size, str_extract, str_toList]; rfl) (by simp only [str_size, str_extract, str_toList]; rfl) (by simp only [str_size, str_extract, str_toList]; rfl) (fun w => kindr_any [105, 54, 52, 46, 115, 116, 111, 114, 101] w (by decide))
set_option maxRecDepth 100000 in
theorem y_58 (n : Nat) (h : NameIs n [105, 51, 50, 46, 115, 116, 111, 114, 101, 56]) (hf : FormIs n 4 true) : BytesIs n 1 false true :=
  yy_p1 n (str [105, 51, 50, 46, 115, 116, 111, 114, 101, 56]) h hf (by rw [str_size]; decide) (by rw [str_size]; decide) (by rw [str_toList]; rfl) (by simp only [str_size, str_extract, str_toList]; rfl) (by simp only [str_size, str_extract, str_toList]; rfl) (by simp only [str_size, str_extract, str_toList]; rfl)
set_option maxRecDepth 100000 in
theorem y_59 (n : Nat) (h : NameIs n [105, 51, 50, 46, 115, 116, 111, 114, 101, 49, 54]) (hf : FormIs n 4 true) : BytesIs n 2 false true :=
  yy_p2 n (str [105, 51, 50, 46, 115, 116, 111, 114, 101, 49, 54]) h hf (by rw [str_size]; decide) (by rw [str_size]; decide) (by rw [str_toList]; rfl) (by simp only [str_size, str_extract, str_toList]; rfl) (by simp only [str_size, str_extract, str_toList]; rfl) (by simp only [str_size, str_extract, str_toList]; rfl) (by simp only [str_size, str_extract, str_toList]; rfl)
set_option maxRecDepth 100000 in
theorem y_60 (n : Nat) (h : NameIs n [105, 54, 52, 46, 115, 116, 111, 114, 101, 56]) (hf : FormIs n 4 true) : BytesIs n 1 false true :=
  yy_p1 n (str [105, 54, 52, 46, 115, 116, 111, 114, 101, 56]) h hf (by rw [str_size]; decide) (by rw [str_size]; decide) (by rw [str_toList]; rfl) (by simp only [str_size, str_extract, str_toList]; rfl) (by simp only [str_size, str_extract, str_toList]; rfl) (by simp only [str_size, str_extract, str_toList]; rfl)
set_option maxRecDepth 100000 in
theorem y_61 (n : Nat) (h : NameIs n [105, 54, 52, 46, 115, 116, 111, 114, 101, 49, 54]) (hf : FormIs n 4 true) : BytesIs n 2 false true :=
  yy_p2 n (str [105, 54, 52, 46, 115, 116, 111, 114, 101, 49, 54]) h hf (by rw [str_size]; decide) (by rw [str_size]; decide) (by rw [str_toList]; rfl) (by simp only [str_size, str_extract, str_toList]; rfl) (by simp only [str_size, str_extract, str_toList]; rfl) (by simp only [str_size, str_extract, str_toList]; rfl) (by simp only [str_size, str_extract, str_toList]; rfl)
set_option maxRecDepth 100000 in
theorem y_62 (n : Nat) (h : NameIs n [105, 54, 52, 46, 115, 116, 111, 114, 101, 51, 50]) (hf : FormIs n 4 true) : BytesIs n 4 false true :=
  yy_p4 n (str [105, 54, 52, 46, 115, 116, 111, 114, 101, 51, 50]) h hf (by rw [str_size]; decide) (by rw [str_size]; decide) (by rw [str_toList]; rfl) (by simp only [str_size, str_extract, str_toList]; rfl) (by simp only [str_size, str_extract, str_toList]; rfl) (by simp only [str_size, str_extract, str_toList]; rfl) (by simp only [str_size, str_extract, str_toList]; rfl) (by simp only [str_size, str_extract, str_toList]; rfl)
end Go.Proofs.YtcljcnaglkbjcaaGreatDoor
