/- mandrelref04.Name where it asks mandrelref02.Name. -/
import Derived.Test.YtglehoekehiaiaaGreatDoorK19
import Derived.Test.YtglehoekehiaiaaGreatDoorK20
namespace Go.Proofs.YtglehoekehiaiaaGreatDoor
open Go.RowKit
set_option linter.unusedVariables false
set_option linter.unusedSimpArgs false
set_option maxRecDepth 100000
set_option maxHeartbeats 32000000
theorem str_app (a b : List UInt8) : str a ++ str b = str (a ++ b) := by
  apply Go.WideShapes.bytes_inj
  show ((str a).append (str b)).data.toList = a ++ b
  simp [str]
theorem rg_5e (n : Nat) (h0 : 5 ≤ (n : Int)) (h1 : (n : Int) ≤ 11) (hN : ∀ w, Calls Tryz.prog 89 #[.int .u8 n] w fun e w' => e = .returned (.tuple #[.string (str []), .int .i64 0]) ∧ Below w.heap.size w w') (w : World) :
    Calls Tryz.prog 61 #[.int .u8 n] w fun e w' => e = .returned (.string (str [])) ∧ Below w.heap.size w w' := by
  rw [str_nil] at hN
  have HN := hide hN; clear hN
  have t26 : ((n : Int) == 26) = false := by simp; omega
  have t27 : ((n : Int) == 27) = false := by simp; omega
  have t40 : ((n : Int) == 40) = false := by simp; omega
  have t41 : ((n : Int) == 41) = false := by simp; omega
  have t167 : ((n : Int) == 167) = false := by simp; omega
  have t172 : ((n : Int) == 172) = false := by simp; omega
  have t173 : ((n : Int) == 173) = false := by simp; omega
  go_enter Tryz.func61, Tryz.ntmps61
  go_wp2_with fail
  refine (unhide HN _).mono ?_
  rintro e w1 ⟨rfl, hb⟩
  have HB := hide hb; clear hb
  go_wp2
  go_ret
  exact ⟨rfl, Below.on (below5 _ _ _ _ _ _) (unhide HB)⟩
theorem rg_18e (n : Nat) (h0 : 18 ≤ (n : Int)) (h1 : (n : Int) ≤ 25) (hN : ∀ w, Calls Tryz.prog 89 #[.int .u8 n] w fun e w' => e = .returned (.tuple #[.string (str []), .int .i64 0]) ∧ Below w.heap.size w w') (w : World) :
    Calls Tryz.prog 61 #[.int .u8 n] w fun e w' => e = .returned (.string (str [])) ∧ Below w.heap.size w w' := by
  rw [str_nil] at hN
  have HN := hide hN; clear hN
  have t26 : ((n : Int) == 26) = false := by simp; omega
  have t27 : ((n : Int) == 27) = false := by simp; omega
  have t40 : ((n : Int) == 40) = false := by simp; omega
  have t41 : ((n : Int) == 41) = false := by simp; omega
  have t167 : ((n : Int) == 167) = false := by simp; omega
  have t172 : ((n : Int) == 172) = false := by simp; omega
  have t173 : ((n : Int) == 173) = false := by simp; omega
  go_enter Tryz.func61, Tryz.ntmps61
  go_wp2_with fail
  refine (unhide HN _).mono ?_
  rintro e w1 ⟨rfl, hb⟩
  have HB := hide hb; clear hb
  go_wp2
  go_ret
  exact ⟨rfl, Below.on (below5 _ _ _ _ _ _) (unhide HB)⟩
theorem rg_28e (n : Nat) (h0 : 28 ≤ (n : Int)) (h1 : (n : Int) ≤ 31) (hN : ∀ w, Calls Tryz.prog 89 #[.int .u8 n] w fun e w' => e = .returned (.tuple #[.string (str []), .int .i64 0]) ∧ Below w.heap.size w w') (w : World) :
    Calls Tryz.prog 61 #[.int .u8 n] w fun e w' => e = .returned (.string (str [])) ∧ Below w.heap.size w w' := by
  rw [str_nil] at hN
  have HN := hide hN; clear hN
  have t26 : ((n : Int) == 26) = false := by simp; omega
  have t27 : ((n : Int) == 27) = false := by simp; omega
  have t40 : ((n : Int) == 40) = false := by simp; omega
  have t41 : ((n : Int) == 41) = false := by simp; omega
  have t167 : ((n : Int) == 167) = false := by simp; omega
  have t172 : ((n : Int) == 172) = false := by simp; omega
  have t173 : ((n : Int) == 173) = false := by simp; omega
  go_enter Tryz.func61, Tryz.ntmps61
  go_wp2_with fail
  refine (unhide HN _).mono ?_
  rintro e w1 ⟨rfl, hb⟩
  have HB := hide hb; clear hb
  go_wp2
  go_ret
  exact ⟨rfl, Below.on (below5 _ _ _ _ _ _) (unhide HB)⟩
theorem rg_37e (n : Nat) (h0 : 37 ≤ (n : Int)) (h1 : (n : Int) ≤ 39) (hN : ∀ w, Calls Tryz.prog 89 #[.int .u8 n] w fun e w' => e = .returned (.tuple #[.string (str []), .int .i64 0]) ∧ Below w.heap.size w w') (w : World) :
    Calls Tryz.prog 61 #[.int .u8 n] w fun e w' => e = .returned (.string (str [])) ∧ Below w.heap.size w w' := by
  rw [str_nil] at hN
  have HN := hide hN; clear hN
  have t26 : ((n : Int) == 26) = false := by simp; omega
  have t27 : ((n : Int) == 27) = false := by simp; omega
  have t40 : ((n : Int) == 40) = false := by simp; omega
  have t41 : ((n : Int) == 41) = false := by simp; omega
  have t167 : ((n : Int) == 167) = false := by simp; omega
  have t172 : ((n : Int) == 172) = false := by simp; omega
  have t173 : ((n : Int) == 173) = false := by simp; omega
  go_enter Tryz.func61, Tryz.ntmps61
  go_wp2_with fail
  refine (unhide HN _).mono ?_
  rintro e w1 ⟨rfl, hb⟩
  have HB := hide hb; clear hb
  go_wp2
  go_ret
  exact ⟨rfl, Below.on (below5 _ _ _ _ _ _) (unhide HB)⟩
theorem rg_42e (n : Nat) (h0 : 42 ≤ (n : Int)) (h1 : (n : Int) ≤ 43) (hN : ∀ w, Calls Tryz.prog 89 #[.int .u8 n] w fun e w' => e = .returned (.tuple #[.string (str []), .int .i64 0]) ∧ Below w.heap.size w w') (w : World) :
    Calls Tryz.prog 61 #[.int .u8 n] w fun e w' => e = .returned (.string (str [])) ∧ Below w.heap.size w w' := by
  rw [str_nil] at hN
  have HN := hide hN; clear hN
  have t26 : ((n : Int) == 26) = false := by simp; omega
  have t27 : ((n : Int) == 27) = false := by simp; omega
  have t40 : ((n : Int) == 40) = false := by simp; omega
  have t41 : ((n : Int) == 41) = false := by simp; omega
  have t167 : ((n : Int) == 167) = false := by simp; omega
  have t172 : ((n : Int) == 172) = false := by simp; omega
  have t173 : ((n : Int) == 173) = false := by simp; omega
  go_enter Tryz.func61, Tryz.ntmps61
  go_wp2_with fail
  refine (unhide HN _).mono ?_
  rintro e w1 ⟨rfl, hb⟩
  have HB := hide hb; clear hb
  go_wp2
  go_ret
  exact ⟨rfl, Below.on (below5 _ _ _ _ _ _) (unhide HB)⟩
theorem rg_56e (n : Nat) (h0 : 56 ≤ (n : Int)) (h1 : (n : Int) ≤ 57) (hN : ∀ w, Calls Tryz.prog 89 #[.int .u8 n] w fun e w' => e = .returned (.tuple #[.string (str []), .int .i64 0]) ∧ Below w.heap.size w w') (w : World) :
    Calls Tryz.prog 61 #[.int .u8 n] w fun e w' => e = .returned (.string (str [])) ∧ Below w.heap.size w w' := by
  rw [str_nil] at hN
  have HN := hide hN; clear hN
  have t26 : ((n : Int) == 26) = false := by simp; omega
  have t27 : ((n : Int) == 27) = false := by simp; omega
  have t40 : ((n : Int) == 40) = false := by simp; omega
  have t41 : ((n : Int) == 41) = false := by simp; omega
  have t167 : ((n : Int) == 167) = false := by simp; omega
  have t172 : ((n : Int) == 172) = false := by simp; omega
  have t173 : ((n : Int) == 173) = false := by simp; omega
  go_enter Tryz.func61, Tryz.ntmps61
  go_wp2_with fail
  refine (unhide HN _).mono ?_
  rintro e w1 ⟨rfl, hb⟩
  have HB := hide hb; clear hb
  go_wp2
  go_ret
  exact ⟨rfl, Below.on (below5 _ _ _ _ _ _) (unhide HB)⟩
theorem rg_67e (n : Nat) (h0 : 67 ≤ (n : Int)) (h1 : (n : Int) ≤ 166) (hN : ∀ w, Calls Tryz.prog 89 #[.int .u8 n] w fun e w' => e = .returned (.tuple #[.string (str []), .int .i64 0]) ∧ Below w.heap.size w w') (w : World) :
    Calls Tryz.prog 61 #[.int .u8 n] w fun e w' => e = .returned (.string (str [])) ∧ Below w.heap.size w w' := by
  rw [str_nil] at hN
  have HN := hide hN; clear hN
  have t26 : ((n : Int) == 26) = false := by simp; omega
  have t27 : ((n : Int) == 27) = false := by simp; omega
  have t40 : ((n : Int) == 40) = false := by simp; omega
  have t41 : ((n : Int) == 41) = false := by simp; omega
  have t167 : ((n : Int) == 167) = false := by simp; omega
  have t172 : ((n : Int) == 172) = false := by simp; omega
  have t173 : ((n : Int) == 173) = false := by simp; omega
  go_enter Tryz.func61, Tryz.ntmps61
  go_wp2_with fail
  refine (unhide HN _).mono ?_
  rintro e w1 ⟨rfl, hb⟩
  have HB := hide hb; clear hb
  go_wp2
  go_ret
  exact ⟨rfl, Below.on (below5 _ _ _ _ _ _) (unhide HB)⟩
theorem rg_67i (n : Nat) (h0 : 67 ≤ (n : Int)) (h1 : (n : Int) ≤ 166) (s : List UInt8) (hs : s ≠ []) (hl : s.length < 100) (hN : ∀ w, Calls Tryz.prog 89 #[.int .u8 n] w fun e w' => e = .returned (.tuple #[.string (str s), .int .i64 32]) ∧ Below w.heap.size w w') (w : World) :
    Calls Tryz.prog 61 #[.int .u8 n] w fun e w' => e = .returned (.string (str ([105, 51, 50, 46] ++ s))) ∧ Below w.heap.size w w' := by
  have he : (str s).toList.isEmpty = false := str_ie hs
  have hz : (str s).size < 100 := hl
  have hap : (⟨#[105, 51, 50, 46]⟩ : ByteArray) ++ str s = str ([105, 51, 50, 46] ++ s) := str_app _ _
  have HAp := hide hap
  have HN := hide hN; clear hN hs hl hap
  generalize str ([105, 51, 50, 46] ++ s) = r at *
  generalize str s = q at *
  have t26 : ((n : Int) == 26) = false := by simp; omega
  have t27 : ((n : Int) == 27) = false := by simp; omega
  have t40 : ((n : Int) == 40) = false := by simp; omega
  have t41 : ((n : Int) == 41) = false := by simp; omega
  have t167 : ((n : Int) == 167) = false := by simp; omega
  have t172 : ((n : Int) == 172) = false := by simp; omega
  have t173 : ((n : Int) == 173) = false := by simp; omega
  go_enter Tryz.func61, Tryz.ntmps61
  go_wp2_with fail
  refine (unhide HN _).mono ?_
  rintro e w1 ⟨rfl, hb⟩
  have HB := hide hb; clear hb
  go_wp2
  go_ret
  exact ⟨ret_str (unhide HAp), Below.on (below5 _ _ _ _ _ _) (unhide HB)⟩
theorem rg_67l (n : Nat) (h0 : 67 ≤ (n : Int)) (h1 : (n : Int) ≤ 166) (s : List UInt8) (hs : s ≠ []) (hl : s.length < 100) (hN : ∀ w, Calls Tryz.prog 89 #[.int .u8 n] w fun e w' => e = .returned (.tuple #[.string (str s), .int .i64 64]) ∧ Below w.heap.size w w') (w : World) :
    Calls Tryz.prog 61 #[.int .u8 n] w fun e w' => e = .returned (.string (str ([105, 54, 52, 46] ++ s))) ∧ Below w.heap.size w w' := by
  have he : (str s).toList.isEmpty = false := str_ie hs
  have hz : (str s).size < 100 := hl
  have hap : (⟨#[105, 54, 52, 46]⟩ : ByteArray) ++ str s = str ([105, 54, 52, 46] ++ s) := str_app _ _
  have HAp := hide hap
  have HN := hide hN; clear hN hs hl hap
  generalize str ([105, 54, 52, 46] ++ s) = r at *
  generalize str s = q at *
  have t26 : ((n : Int) == 26) = false := by simp; omega
  have t27 : ((n : Int) == 27) = false := by simp; omega
  have t40 : ((n : Int) == 40) = false := by simp; omega
  have t41 : ((n : Int) == 41) = false := by simp; omega
  have t167 : ((n : Int) == 167) = false := by simp; omega
  have t172 : ((n : Int) == 172) = false := by simp; omega
  have t173 : ((n : Int) == 173) = false := by simp; omega
  go_enter Tryz.func61, Tryz.ntmps61
  go_wp2_with fail
  refine (unhide HN _).mono ?_
  rintro e w1 ⟨rfl, hb⟩
  have HB := hide hb; clear hb
  go_wp2
  go_ret
  exact ⟨ret_str (unhide HAp), Below.on (below5 _ _ _ _ _ _) (unhide HB)⟩
theorem rg_168e (n : Nat) (h0 : 168 ≤ (n : Int)) (h1 : (n : Int) ≤ 171) (hN : ∀ w, Calls Tryz.prog 89 #[.int .u8 n] w fun e w' => e = .returned (.tuple #[.string (str []), .int .i64 0]) ∧ Below w.heap.size w w') (w : World) :
    Calls Tryz.prog 61 #[.int .u8 n] w fun e w' => e = .returned (.string (str [])) ∧ Below w.heap.size w w' := by
  rw [str_nil] at hN
  have HN := hide hN; clear hN
  have t26 : ((n : Int) == 26) = false := by simp; omega
  have t27 : ((n : Int) == 27) = false := by simp; omega
  have t40 : ((n : Int) == 40) = false := by simp; omega
  have t41 : ((n : Int) == 41) = false := by simp; omega
  have t167 : ((n : Int) == 167) = false := by simp; omega
  have t172 : ((n : Int) == 172) = false := by simp; omega
  have t173 : ((n : Int) == 173) = false := by simp; omega
  go_enter Tryz.func61, Tryz.ntmps61
  go_wp2_with fail
  refine (unhide HN _).mono ?_
  rintro e w1 ⟨rfl, hb⟩
  have HB := hide hb; clear hb
  go_wp2
  go_ret
  exact ⟨rfl, Below.on (below5 _ _ _ _ _ _) (unhide HB)⟩
theorem rg_174e (n : Nat) (h0 : 174 ≤ (n : Int)) (h1 : (n : Int) ≤ 255) (hN : ∀ w, Calls Tryz.prog 89 #[.int .u8 n] w fun e w' => e = .returned (.tuple #[.string (str []), .int .i64 0]) ∧ Below w.heap.size w w') (w : World) :
    Calls Tryz.prog 61 #[.int .u8 n] w fun e w' => e = .returned (.string (str [])) ∧ Below w.heap.size w w' := by
  rw [str_nil] at hN
  have HN := hide hN; clear hN
  have t26 : ((n : Int) == 26) = false := by simp; omega
  have t27 : ((n : Int) == 27) = false := by simp; omega
  have t40 : ((n : Int) == 40) = false := by simp; omega
  have t41 : ((n : Int) == 41) = false := by simp; omega
  have t167 : ((n : Int) == 167) = false := by simp; omega
  have t172 : ((n : Int) == 172) = false := by simp; omega
  have t173 : ((n : Int) == 173) = false := by simp; omega
  go_enter Tryz.func61, Tryz.ntmps61
  go_wp2_with fail
  refine (unhide HN _).mono ?_
  rintro e w1 ⟨rfl, hb⟩
  have HB := hide hb; clear hb
  go_wp2
  go_ret
  exact ⟨rfl, Below.on (below5 _ _ _ _ _ _) (unhide HB)⟩
end Go.Proofs.YtglehoekehiaiaaGreatDoor
