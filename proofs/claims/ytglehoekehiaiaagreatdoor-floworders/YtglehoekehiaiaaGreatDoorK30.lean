/- K30: what follows, part by part: each part tells what it holds. -/
import Derived.Test.YtglehoekehiaiaaGreatDoorK22
import Derived.Test.YtglehoekehiaiaaGreatDoorK29
namespace Go.Proofs.YtglehoekehiaiaaGreatDoor
open Go.RowKit
set_option linter.unusedVariables false
set_option linter.unusedSimpArgs false
set_option maxRecDepth 100000
set_option maxHeartbeats 32000000
namespace Vc
/- The document's Shape of an instruction. By mkshape.py. -/
def SIZE : List UInt8 := [109, 101, 109, 111, 114, 121, 46, 115, 105, 122, 101]
def GROW : List UInt8 := [109, 101, 109, 111, 114, 121, 46, 103, 114, 111, 119]
/-- the document's Sign, held against ops' tables, at one number -/
def okS (n : Nat) : Bool :=
 if nm n == [] || decide (n ≤ 36) then true
 else match fam n with
  | none => false
  | some x => decide (signF (nm n) (qn n).1 (qn n).2 = (pk x.x x.y 2, x.g)) && (!(formF (nm n) == 4) || decide (4 ≤ (nm n).length))
    && (formF (nm n) == 1 || formF (nm n) == 2 || formF (nm n) == 4 || nm n == SIZE || nm n == GROW || (qn n).2 == 32 || (qn n).2 == 64)
theorem okS_all : ((List.range 256).all okS) = true := by kernel_rfl
theorem signr_at (n : Nat) (hn : n < 256) (h36 : 36 < n) (h : nm n ≠ []) (x : Fam) (hx : fam n = some x) : SignIs n (pk x.x x.y 2) x.g true := by
 obtain ⟨y, e1, e2, e3⟩ := ok_some n hn h
 obtain rfl : y = x := Option.some.inj (e1.symm.trans hx)
 have h1 := List.all_eq_true.1 okS_all n (List.mem_range.2 hn)
 unfold okS at h1
 have hb : (nm n == [] || decide (n ≤ 36)) = false := by
  have : (nm n == []) = false := by simpa using h
  rw [this]; simp; omega
 rw [hb, hx] at h1
 simp only [Bool.false_eq_true, if_false, Bool.and_eq_true, Bool.or_eq_true, decide_eq_true_eq, beq_iff_eq, Bool.not_eq_true', beq_eq_false_iff_ne, ne_eq] at h1
 obtain ⟨⟨a3, a5⟩, a6⟩ := h1
 have := signr_any n (nm n) (namer_any n hn) h e3 (by omega) hn (qn n).1 (qn n).2 (fun b1 b2 b3 b4 b5 => by
  rcases a6 with (((((c | c) | c) | c) | c) | c) | c
  ·exact absurd c b1
  ·exact absurd c b2
  ·exact absurd c b3
  ·exact absurd c b4
  ·exact absurd c b5
  ·exact .inl c
  ·exact .inr c) (fun g => a5.resolve_left (by simp [g])) (fun w => Go.Proofs.YtglehoekehiaiaaGreatDoor.nam_any n hn w)
 rw [a3] at this
 exact this
theorem signr_no (n : Nat) (hn : n < 256) (h : nm n = [] ∨ n ≤ 36) : SignIs n [] 0 false := by
 have hN := namer_any n hn
 by_cases he : nm n = []
 ·rw [he] at hN; exact s_none n hN
 ·exact s_low n _ hN he (by rcases h with h | h; exact absurd h he; omega)
/-- how many it takes, what it gives, by its sign -/
def rsg (n : Nat) : Nat × Int := if n ≤ 36 then (0, 0) else match fam n with
 | none => (0, 0)
 | some x => ((pk x.x x.y 2).length, x.g)
theorem signr_rsg (n : Nat) (hn : n < 256) (w : World) : Calls Tryz.prog 87 #[.int .u8 n] w fun e w' => ∃ a cap b, e = .returned (.tuple #[.slice a (rsg n).1 cap, .int .u8 (rsg n).2, .bool b]) ∧ Below w.heap.size w w' := by
 by_cases h36 : n ≤ 36
 ·have h2 : rsg n = (0, 0) := by unfold rsg; rw [if_pos h36]
  rw [h2]
  refine (signr_no n hn (.inr h36) w).mono ?_
  rintro e w' ⟨v, rfl, ho, hb⟩
  obtain ⟨a, cap, rfl⟩ := own_slice ho
  exact ⟨a, cap, _, rfl, hb⟩
 ·cases hx : fam n with
  | none =>
    have h2 : rsg n = (0, 0) := by unfold rsg; rw [if_neg h36, hx]
    rw [h2]
    have hnm : nm n = [] := by
     by_cases h : nm n = []
     ·exact h
     ·obtain ⟨x, e, _⟩ := ok_some n hn h; rw [hx] at e; cases e
    refine (signr_no n hn (.inl hnm) w).mono ?_
    rintro e w' ⟨v, rfl, ho, hb⟩
    obtain ⟨a, cap, rfl⟩ := own_slice ho
    exact ⟨a, cap, _, rfl, hb⟩
  | some x =>
    have h2 : rsg n = ((pk x.x x.y 2).length, x.g) := by unfold rsg; rw [if_neg h36, hx]
    rw [h2]
    have hnm : nm n ≠ [] := fun h => by rw [ok_none n hn h] at hx; cases hx
    refine (signr_at n hn (by omega) hnm x hx w).mono ?_
    rintro e w' ⟨v, rfl, ho, hb⟩
    obtain ⟨a, cap, rfl⟩ := own_slice ho
    exact ⟨a, cap, _, rfl, hb⟩
def spec : List Nat := [66, 63, 35, 192, 64, 27, 36, 194, 195, 193, 0, 15, 16, 17]
def specN : List (List UInt8) := [[99, 111, 110, 115, 116], [109, 101, 109, 111, 114, 121, 46, 115, 105, 122, 101], [103, 108, 111, 98, 97, 108, 46, 103, 101, 116], [109, 111, 118, 101], [109, 101, 109, 111, 114, 121, 46, 103, 114, 111, 119], [115, 101, 108, 101, 99, 116], [103, 108, 111, 98, 97, 108, 46, 115, 101, 116], [98, 114, 97, 110, 99, 104], [116, 97, 98, 108, 101], [106, 117, 109, 112], [117, 110, 114, 101, 97, 99, 104, 97, 98, 108, 101], [114, 101, 116, 117, 114, 110], [99, 97, 108, 108], [99, 97, 108, 108, 95, 105, 110, 100, 105, 114, 101, 99, 116]]
/-- the document's Shape -/
def rsh (n : Nat) : Int × Int :=
 if n = 66 then (0, 1)
 else if n = 63 then (0, 1)
 else if n = 35 then (0, 1)
 else if n = 192 then (1, 1)
 else if n = 64 then (1, 1)
 else if n = 27 then (3, 1)
 else if n = 36 then (1, 0)
 else if n = 194 then (1, 0)
 else if n = 195 then (1, 0)
 else if n = 193 then (0, 0)
 else if n = 0 then (0, 0)
 else if n = 15 then (-1, 0)
 else if n = 16 then (-1, 2)
 else if n = 17 then (-1, 2)
 else (((rsg n).1 : Int), if (rsg n).2 = 0 then 0 else 1)
theorem spec_no : ((List.range 256).all fun n => spec.contains n || specN.all fun q => !(rnm n == q)) = true := by kernel_rfl
theorem rsg_len : ((List.range 256).all fun n => decide ((rsg n).1 ≤ 2) && decide (0 ≤ (rsg n).2) && decide ((rsg n).2 ≤ 255)) = true := by kernel_rfl
theorem rsh_66 (w : World) : Calls Tryz.prog 59 #[.int .u8 66] w fun e w' => e = .returned (.tuple #[.int .i64 (0), .int .i64 1]) ∧ Below w.heap.size w w' := by
 have hc := rnm_any 66 (by decide) w
 have e : ∀ q, ((str (rnm 66)).toList == q) = (rnm 66 == q) := fun q => by rw [str_toList]
 have e0 := (e [99, 111, 110, 115, 116]).trans (show _ = true by kernel_rfl)
 clear e
 generalize str (rnm 66) = S at *
 have HC := hide hc; clear hc
 go_enter Tryz.func59, Tryz.ntmps59
 go_wp2_with fail
 refine (unhide HC).mono ?_
 rintro e w1 ⟨rfl, hb⟩
 have HB := hide hb; clear hb
 go_wp2
 go_ret2
 exact ⟨rfl, unhide HB⟩
theorem rsh_63 (w : World) : Calls Tryz.prog 59 #[.int .u8 63] w fun e w' => e = .returned (.tuple #[.int .i64 (0), .int .i64 1]) ∧ Below w.heap.size w w' := by
 have hc := rnm_any 63 (by decide) w
 have e : ∀ q, ((str (rnm 63)).toList == q) = (rnm 63 == q) := fun q => by rw [str_toList]
 have e0 := (e [99, 111, 110, 115, 116]).trans (show _ = false by kernel_rfl)
 have e1 := (e [109, 101, 109, 111, 114, 121, 46, 115, 105, 122, 101]).trans (show _ = true by kernel_rfl)
 clear e
 generalize str (rnm 63) = S at *
 have HC := hide hc; clear hc
 go_enter Tryz.func59, Tryz.ntmps59
 go_wp2_with fail
 refine (unhide HC).mono ?_
 rintro e w1 ⟨rfl, hb⟩
 have HB := hide hb; clear hb
 go_wp2
 go_ret2
 exact ⟨rfl, unhide HB⟩
theorem rsh_35 (w : World) : Calls Tryz.prog 59 #[.int .u8 35] w fun e w' => e = .returned (.tuple #[.int .i64 (0), .int .i64 1]) ∧ Below w.heap.size w w' := by
 have hc := rnm_any 35 (by decide) w
 have e : ∀ q, ((str (rnm 35)).toList == q) = (rnm 35 == q) := fun q => by rw [str_toList]
 have e0 := (e [99, 111, 110, 115, 116]).trans (show _ = false by kernel_rfl)
 have e1 := (e [109, 101, 109, 111, 114, 121, 46, 115, 105, 122, 101]).trans (show _ = false by kernel_rfl)
 have e2 := (e [103, 108, 111, 98, 97, 108, 46, 103, 101, 116]).trans (show _ = true by kernel_rfl)
 clear e
 generalize str (rnm 35) = S at *
 have HC := hide hc; clear hc
 go_enter Tryz.func59, Tryz.ntmps59
 go_wp2_with fail
 refine (unhide HC).mono ?_
 rintro e w1 ⟨rfl, hb⟩
 have HB := hide hb; clear hb
 go_wp2
 go_ret2
 exact ⟨rfl, unhide HB⟩
theorem rsh_192 (w : World) : Calls Tryz.prog 59 #[.int .u8 192] w fun e w' => e = .returned (.tuple #[.int .i64 (1), .int .i64 1]) ∧ Below w.heap.size w w' := by
 have hc := rnm_any 192 (by decide) w
 have e : ∀ q, ((str (rnm 192)).toList == q) = (rnm 192 == q) := fun q => by rw [str_toList]
 have e0 := (e [99, 111, 110, 115, 116]).trans (show _ = false by kernel_rfl)
 have e1 := (e [109, 101, 109, 111, 114, 121, 46, 115, 105, 122, 101]).trans (show _ = false by kernel_rfl)
 have e2 := (e [103, 108, 111, 98, 97, 108, 46, 103, 101, 116]).trans (show _ = false by kernel_rfl)
 have e3 := (e [109, 111, 118, 101]).trans (show _ = true by kernel_rfl)
 clear e
 generalize str (rnm 192) = S at *
 have HC := hide hc; clear hc
 go_enter Tryz.func59, Tryz.ntmps59
 go_wp2_with fail
 refine (unhide HC).mono ?_
 rintro e w1 ⟨rfl, hb⟩
 have HB := hide hb; clear hb
 go_wp2
 go_ret2
 exact ⟨rfl, unhide HB⟩
theorem rsh_64 (w : World) : Calls Tryz.prog 59 #[.int .u8 64] w fun e w' => e = .returned (.tuple #[.int .i64 (1), .int .i64 1]) ∧ Below w.heap.size w w' := by
 have hc := rnm_any 64 (by decide) w
 have e : ∀ q, ((str (rnm 64)).toList == q) = (rnm 64 == q) := fun q => by rw [str_toList]
 have e0 := (e [99, 111, 110, 115, 116]).trans (show _ = false by kernel_rfl)
 have e1 := (e [109, 101, 109, 111, 114, 121, 46, 115, 105, 122, 101]).trans (show _ = false by kernel_rfl)
 have e2 := (e [103, 108, 111, 98, 97, 108, 46, 103, 101, 116]).trans (show _ = false by kernel_rfl)
 have e3 := (e [109, 111, 118, 101]).trans (show _ = false by kernel_rfl)
 have e4 := (e [109, 101, 109, 111, 114, 121, 46, 103, 114, 111, 119]).trans (show _ = true by kernel_rfl)
 clear e
 generalize str (rnm 64) = S at *
 have HC := hide hc; clear hc
 go_enter Tryz.func59, Tryz.ntmps59
 go_wp2_with fail
 refine (unhide HC).mono ?_
 rintro e w1 ⟨rfl, hb⟩
 have HB := hide hb; clear hb
 go_wp2
 go_ret2
 exact ⟨rfl, unhide HB⟩
theorem rsh_27 (w : World) : Calls Tryz.prog 59 #[.int .u8 27] w fun e w' => e = .returned (.tuple #[.int .i64 (3), .int .i64 1]) ∧ Below w.heap.size w w' := by
 have hc := rnm_any 27 (by decide) w
 have e : ∀ q, ((str (rnm 27)).toList == q) = (rnm 27 == q) := fun q => by rw [str_toList]
 have e0 := (e [99, 111, 110, 115, 116]).trans (show _ = false by kernel_rfl)
 have e1 := (e [109, 101, 109, 111, 114, 121, 46, 115, 105, 122, 101]).trans (show _ = false by kernel_rfl)
 have e2 := (e [103, 108, 111, 98, 97, 108, 46, 103, 101, 116]).trans (show _ = false by kernel_rfl)
 have e3 := (e [109, 111, 118, 101]).trans (show _ = false by kernel_rfl)
 have e4 := (e [109, 101, 109, 111, 114, 121, 46, 103, 114, 111, 119]).trans (show _ = false by kernel_rfl)
 have e5 := (e [115, 101, 108, 101, 99, 116]).trans (show _ = true by kernel_rfl)
 clear e
 generalize str (rnm 27) = S at *
 have HC := hide hc; clear hc
 go_enter Tryz.func59, Tryz.ntmps59
 go_wp2_with fail
 refine (unhide HC).mono ?_
 rintro e w1 ⟨rfl, hb⟩
 have HB := hide hb; clear hb
 go_wp2
 go_ret2
 exact ⟨rfl, unhide HB⟩
theorem rsh_36 (w : World) : Calls Tryz.prog 59 #[.int .u8 36] w fun e w' => e = .returned (.tuple #[.int .i64 (1), .int .i64 0]) ∧ Below w.heap.size w w' := by
 have hc := rnm_any 36 (by decide) w
 have e : ∀ q, ((str (rnm 36)).toList == q) = (rnm 36 == q) := fun q => by rw [str_toList]
 have e0 := (e [99, 111, 110, 115, 116]).trans (show _ = false by kernel_rfl)
 have e1 := (e [109, 101, 109, 111, 114, 121, 46, 115, 105, 122, 101]).trans (show _ = false by kernel_rfl)
 have e2 := (e [103, 108, 111, 98, 97, 108, 46, 103, 101, 116]).trans (show _ = false by kernel_rfl)
 have e3 := (e [109, 111, 118, 101]).trans (show _ = false by kernel_rfl)
 have e4 := (e [109, 101, 109, 111, 114, 121, 46, 103, 114, 111, 119]).trans (show _ = false by kernel_rfl)
 have e5 := (e [115, 101, 108, 101, 99, 116]).trans (show _ = false by kernel_rfl)
 have e6 := (e [103, 108, 111, 98, 97, 108, 46, 115, 101, 116]).trans (show _ = true by kernel_rfl)
 clear e
 generalize str (rnm 36) = S at *
 have HC := hide hc; clear hc
 go_enter Tryz.func59, Tryz.ntmps59
 go_wp2_with fail
 refine (unhide HC).mono ?_
 rintro e w1 ⟨rfl, hb⟩
 have HB := hide hb; clear hb
 go_wp2
 go_ret2
 exact ⟨rfl, unhide HB⟩
theorem rsh_194 (w : World) : Calls Tryz.prog 59 #[.int .u8 194] w fun e w' => e = .returned (.tuple #[.int .i64 (1), .int .i64 0]) ∧ Below w.heap.size w w' := by
 have hc := rnm_any 194 (by decide) w
 have e : ∀ q, ((str (rnm 194)).toList == q) = (rnm 194 == q) := fun q => by rw [str_toList]
 have e0 := (e [99, 111, 110, 115, 116]).trans (show _ = false by kernel_rfl)
 have e1 := (e [109, 101, 109, 111, 114, 121, 46, 115, 105, 122, 101]).trans (show _ = false by kernel_rfl)
 have e2 := (e [103, 108, 111, 98, 97, 108, 46, 103, 101, 116]).trans (show _ = false by kernel_rfl)
 have e3 := (e [109, 111, 118, 101]).trans (show _ = false by kernel_rfl)
 have e4 := (e [109, 101, 109, 111, 114, 121, 46, 103, 114, 111, 119]).trans (show _ = false by kernel_rfl)
 have e5 := (e [115, 101, 108, 101, 99, 116]).trans (show _ = false by kernel_rfl)
 have e6 := (e [103, 108, 111, 98, 97, 108, 46, 115, 101, 116]).trans (show _ = false by kernel_rfl)
 have e7 := (e [98, 114, 97, 110, 99, 104]).trans (show _ = true by kernel_rfl)
 clear e
 generalize str (rnm 194) = S at *
 have HC := hide hc; clear hc
 go_enter Tryz.func59, Tryz.ntmps59
 go_wp2_with fail
 refine (unhide HC).mono ?_
 rintro e w1 ⟨rfl, hb⟩
 have HB := hide hb; clear hb
 go_wp2
 go_ret2
 exact ⟨rfl, unhide HB⟩
theorem rsh_195 (w : World) : Calls Tryz.prog 59 #[.int .u8 195] w fun e w' => e = .returned (.tuple #[.int .i64 (1), .int .i64 0]) ∧ Below w.heap.size w w' := by
 have hc := rnm_any 195 (by decide) w
 have e : ∀ q, ((str (rnm 195)).toList == q) = (rnm 195 == q) := fun q => by rw [str_toList]
 have e0 := (e [99, 111, 110, 115, 116]).trans (show _ = false by kernel_rfl)
 have e1 := (e [109, 101, 109, 111, 114, 121, 46, 115, 105, 122, 101]).trans (show _ = false by kernel_rfl)
 have e2 := (e [103, 108, 111, 98, 97, 108, 46, 103, 101, 116]).trans (show _ = false by kernel_rfl)
 have e3 := (e [109, 111, 118, 101]).trans (show _ = false by kernel_rfl)
 have e4 := (e [109, 101, 109, 111, 114, 121, 46, 103, 114, 111, 119]).trans (show _ = false by kernel_rfl)
 have e5 := (e [115, 101, 108, 101, 99, 116]).trans (show _ = false by kernel_rfl)
 have e6 := (e [103, 108, 111, 98, 97, 108, 46, 115, 101, 116]).trans (show _ = false by kernel_rfl)
 have e7 := (e [98, 114, 97, 110, 99, 104]).trans (show _ = false by kernel_rfl)
 have e8 := (e [116, 97, 98, 108, 101]).trans (show _ = true by kernel_rfl)
 clear e
 generalize str (rnm 195) = S at *
 have HC := hide hc; clear hc
 go_enter Tryz.func59, Tryz.ntmps59
 go_wp2_with fail
 refine (unhide HC).mono ?_
 rintro e w1 ⟨rfl, hb⟩
 have HB := hide hb; clear hb
 go_wp2
 go_ret2
 exact ⟨rfl, unhide HB⟩
theorem rsh_193 (w : World) : Calls Tryz.prog 59 #[.int .u8 193] w fun e w' => e = .returned (.tuple #[.int .i64 (0), .int .i64 0]) ∧ Below w.heap.size w w' := by
 have hc := rnm_any 193 (by decide) w
 have e : ∀ q, ((str (rnm 193)).toList == q) = (rnm 193 == q) := fun q => by rw [str_toList]
 have e0 := (e [99, 111, 110, 115, 116]).trans (show _ = false by kernel_rfl)
 have e1 := (e [109, 101, 109, 111, 114, 121, 46, 115, 105, 122, 101]).trans (show _ = false by kernel_rfl)
 have e2 := (e [103, 108, 111, 98, 97, 108, 46, 103, 101, 116]).trans (show _ = false by kernel_rfl)
 have e3 := (e [109, 111, 118, 101]).trans (show _ = false by kernel_rfl)
 have e4 := (e [109, 101, 109, 111, 114, 121, 46, 103, 114, 111, 119]).trans (show _ = false by kernel_rfl)
 have e5 := (e [115, 101, 108, 101, 99, 116]).trans (show _ = false by kernel_rfl)
 have e6 := (e [103, 108, 111, 98, 97, 108, 46, 115, 101, 116]).trans (show _ = false by kernel_rfl)
 have e7 := (e [98, 114, 97, 110, 99, 104]).trans (show _ = false by kernel_rfl)
 have e8 := (e [116, 97, 98, 108, 101]).trans (show _ = false by kernel_rfl)
 have e9 := (e [106, 117, 109, 112]).trans (show _ = true by kernel_rfl)
 clear e
 generalize str (rnm 193) = S at *
 have HC := hide hc; clear hc
 go_enter Tryz.func59, Tryz.ntmps59
 go_wp2_with fail
 refine (unhide HC).mono ?_
 rintro e w1 ⟨rfl, hb⟩
 have HB := hide hb; clear hb
 go_wp2
 go_ret2
 exact ⟨rfl, unhide HB⟩
theorem rsh_0 (w : World) : Calls Tryz.prog 59 #[.int .u8 0] w fun e w' => e = .returned (.tuple #[.int .i64 (0), .int .i64 0]) ∧ Below w.heap.size w w' := by
 have hc := rnm_any 0 (by decide) w
 have e : ∀ q, ((str (rnm 0)).toList == q) = (rnm 0 == q) := fun q => by rw [str_toList]
 have e0 := (e [99, 111, 110, 115, 116]).trans (show _ = false by kernel_rfl)
 have e1 := (e [109, 101, 109, 111, 114, 121, 46, 115, 105, 122, 101]).trans (show _ = false by kernel_rfl)
 have e2 := (e [103, 108, 111, 98, 97, 108, 46, 103, 101, 116]).trans (show _ = false by kernel_rfl)
 have e3 := (e [109, 111, 118, 101]).trans (show _ = false by kernel_rfl)
 have e4 := (e [109, 101, 109, 111, 114, 121, 46, 103, 114, 111, 119]).trans (show _ = false by kernel_rfl)
 have e5 := (e [115, 101, 108, 101, 99, 116]).trans (show _ = false by kernel_rfl)
 have e6 := (e [103, 108, 111, 98, 97, 108, 46, 115, 101, 116]).trans (show _ = false by kernel_rfl)
 have e7 := (e [98, 114, 97, 110, 99, 104]).trans (show _ = false by kernel_rfl)
 have e8 := (e [116, 97, 98, 108, 101]).trans (show _ = false by kernel_rfl)
 have e9 := (e [106, 117, 109, 112]).trans (show _ = false by kernel_rfl)
 have e10 := (e [117, 110, 114, 101, 97, 99, 104, 97, 98, 108, 101]).trans (show _ = true by kernel_rfl)
 clear e
 generalize str (rnm 0) = S at *
 have HC := hide hc; clear hc
 go_enter Tryz.func59, Tryz.ntmps59
 go_wp2_with fail
 refine (unhide HC).mono ?_
 rintro e w1 ⟨rfl, hb⟩
 have HB := hide hb; clear hb
 go_wp2
 go_ret2
 exact ⟨rfl, unhide HB⟩
theorem rsh_15 (w : World) : Calls Tryz.prog 59 #[.int .u8 15] w fun e w' => e = .returned (.tuple #[.int .i64 (-1), .int .i64 0]) ∧ Below w.heap.size w w' := by
 have hc := rnm_any 15 (by decide) w
 have e : ∀ q, ((str (rnm 15)).toList == q) = (rnm 15 == q) := fun q => by rw [str_toList]
 have e0 := (e [99, 111, 110, 115, 116]).trans (show _ = false by kernel_rfl)
 have e1 := (e [109, 101, 109, 111, 114, 121, 46, 115, 105, 122, 101]).trans (show _ = false by kernel_rfl)
 have e2 := (e [103, 108, 111, 98, 97, 108, 46, 103, 101, 116]).trans (show _ = false by kernel_rfl)
 have e3 := (e [109, 111, 118, 101]).trans (show _ = false by kernel_rfl)
 have e4 := (e [109, 101, 109, 111, 114, 121, 46, 103, 114, 111, 119]).trans (show _ = false by kernel_rfl)
 have e5 := (e [115, 101, 108, 101, 99, 116]).trans (show _ = false by kernel_rfl)
 have e6 := (e [103, 108, 111, 98, 97, 108, 46, 115, 101, 116]).trans (show _ = false by kernel_rfl)
 have e7 := (e [98, 114, 97, 110, 99, 104]).trans (show _ = false by kernel_rfl)
 have e8 := (e [116, 97, 98, 108, 101]).trans (show _ = false by kernel_rfl)
 have e9 := (e [106, 117, 109, 112]).trans (show _ = false by kernel_rfl)
 have e10 := (e [117, 110, 114, 101, 97, 99, 104, 97, 98, 108, 101]).trans (show _ = false by kernel_rfl)
 have e11 := (e [114, 101, 116, 117, 114, 110]).trans (show _ = true by kernel_rfl)
 clear e
 generalize str (rnm 15) = S at *
 have HC := hide hc; clear hc
 go_enter Tryz.func59, Tryz.ntmps59
 go_wp2_with fail
 refine (unhide HC).mono ?_
 rintro e w1 ⟨rfl, hb⟩
 have HB := hide hb; clear hb
 go_wp2
 go_ret2
 exact ⟨rfl, unhide HB⟩
theorem rsh_16 (w : World) : Calls Tryz.prog 59 #[.int .u8 16] w fun e w' => e = .returned (.tuple #[.int .i64 (-1), .int .i64 2]) ∧ Below w.heap.size w w' := by
 have hc := rnm_any 16 (by decide) w
 have e : ∀ q, ((str (rnm 16)).toList == q) = (rnm 16 == q) := fun q => by rw [str_toList]
 have e0 := (e [99, 111, 110, 115, 116]).trans (show _ = false by kernel_rfl)
 have e1 := (e [109, 101, 109, 111, 114, 121, 46, 115, 105, 122, 101]).trans (show _ = false by kernel_rfl)
 have e2 := (e [103, 108, 111, 98, 97, 108, 46, 103, 101, 116]).trans (show _ = false by kernel_rfl)
 have e3 := (e [109, 111, 118, 101]).trans (show _ = false by kernel_rfl)
 have e4 := (e [109, 101, 109, 111, 114, 121, 46, 103, 114, 111, 119]).trans (show _ = false by kernel_rfl)
 have e5 := (e [115, 101, 108, 101, 99, 116]).trans (show _ = false by kernel_rfl)
 have e6 := (e [103, 108, 111, 98, 97, 108, 46, 115, 101, 116]).trans (show _ = false by kernel_rfl)
 have e7 := (e [98, 114, 97, 110, 99, 104]).trans (show _ = false by kernel_rfl)
 have e8 := (e [116, 97, 98, 108, 101]).trans (show _ = false by kernel_rfl)
 have e9 := (e [106, 117, 109, 112]).trans (show _ = false by kernel_rfl)
 have e10 := (e [117, 110, 114, 101, 97, 99, 104, 97, 98, 108, 101]).trans (show _ = false by kernel_rfl)
 have e11 := (e [114, 101, 116, 117, 114, 110]).trans (show _ = false by kernel_rfl)
 have e12 := (e [99, 97, 108, 108]).trans (show _ = true by kernel_rfl)
 clear e
 generalize str (rnm 16) = S at *
 have HC := hide hc; clear hc
 go_enter Tryz.func59, Tryz.ntmps59
 go_wp2_with fail
 refine (unhide HC).mono ?_
 rintro e w1 ⟨rfl, hb⟩
 have HB := hide hb; clear hb
 go_wp2
 go_ret2
 exact ⟨rfl, unhide HB⟩
theorem rsh_17 (w : World) : Calls Tryz.prog 59 #[.int .u8 17] w fun e w' => e = .returned (.tuple #[.int .i64 (-1), .int .i64 2]) ∧ Below w.heap.size w w' := by
 have hc := rnm_any 17 (by decide) w
 have e : ∀ q, ((str (rnm 17)).toList == q) = (rnm 17 == q) := fun q => by rw [str_toList]
 have e0 := (e [99, 111, 110, 115, 116]).trans (show _ = false by kernel_rfl)
 have e1 := (e [109, 101, 109, 111, 114, 121, 46, 115, 105, 122, 101]).trans (show _ = false by kernel_rfl)
 have e2 := (e [103, 108, 111, 98, 97, 108, 46, 103, 101, 116]).trans (show _ = false by kernel_rfl)
 have e3 := (e [109, 111, 118, 101]).trans (show _ = false by kernel_rfl)
 have e4 := (e [109, 101, 109, 111, 114, 121, 46, 103, 114, 111, 119]).trans (show _ = false by kernel_rfl)
 have e5 := (e [115, 101, 108, 101, 99, 116]).trans (show _ = false by kernel_rfl)
 have e6 := (e [103, 108, 111, 98, 97, 108, 46, 115, 101, 116]).trans (show _ = false by kernel_rfl)
 have e7 := (e [98, 114, 97, 110, 99, 104]).trans (show _ = false by kernel_rfl)
 have e8 := (e [116, 97, 98, 108, 101]).trans (show _ = false by kernel_rfl)
 have e9 := (e [106, 117, 109, 112]).trans (show _ = false by kernel_rfl)
 have e10 := (e [117, 110, 114, 101, 97, 99, 104, 97, 98, 108, 101]).trans (show _ = false by kernel_rfl)
 have e11 := (e [114, 101, 116, 117, 114, 110]).trans (show _ = false by kernel_rfl)
 have e12 := (e [99, 97, 108, 108]).trans (show _ = false by kernel_rfl)
 have e13 := (e [99, 97, 108, 108, 95, 105, 110, 100, 105, 114, 101, 99, 116]).trans (show _ = true by kernel_rfl)
 clear e
 generalize str (rnm 17) = S at *
 have HC := hide hc; clear hc
 go_enter Tryz.func59, Tryz.ntmps59
 go_wp2_with fail
 refine (unhide HC).mono ?_
 rintro e w1 ⟨rfl, hb⟩
 have HB := hide hb; clear hb
 go_wp2
 go_ret2
 exact ⟨rfl, unhide HB⟩
theorem rsh_no (n : Nat) (hn : n < 256) (hs : ¬ n ∈ spec) (w : World) : Calls Tryz.prog 59 #[.int .u8 n] w fun e w' => e = .returned (.tuple #[.int .i64 (rsg n).1, .int .i64 (if (rsg n).2 = 0 then 0 else 1)]) ∧ Below w.heap.size w w' := by
 have hc := rnm_any n hn w
 have hsg := fun W => signr_rsg n hn W
 have h1 := List.all_eq_true.1 spec_no n (List.mem_range.2 hn)
 have hsc : spec.contains n = false := by simpa using hs
 rw [hsc, Bool.false_or] at h1
 have h2 := List.all_eq_true.1 h1
 have h3 := List.all_eq_true.1 rsg_len n (List.mem_range.2 hn)
 simp only [Bool.and_eq_true, decide_eq_true_eq] at h3
 obtain ⟨⟨l1, l2⟩, l3⟩ := h3
 have e : ∀ q ∈ specN, ((str (rnm n)).toList == q) = false := fun q hq => by rw [str_toList]; have := h2 q hq; simpa using this
 have e0 := e [99, 111, 110, 115, 116] (by decide)
 have e1 := e [109, 101, 109, 111, 114, 121, 46, 115, 105, 122, 101] (by decide)
 have e2 := e [103, 108, 111, 98, 97, 108, 46, 103, 101, 116] (by decide)
 have e3 := e [109, 111, 118, 101] (by decide)
 have e4 := e [109, 101, 109, 111, 114, 121, 46, 103, 114, 111, 119] (by decide)
 have e5 := e [115, 101, 108, 101, 99, 116] (by decide)
 have e6 := e [103, 108, 111, 98, 97, 108, 46, 115, 101, 116] (by decide)
 have e7 := e [98, 114, 97, 110, 99, 104] (by decide)
 have e8 := e [116, 97, 98, 108, 101] (by decide)
 have e9 := e [106, 117, 109, 112] (by decide)
 have e10 := e [117, 110, 114, 101, 97, 99, 104, 97, 98, 108, 101] (by decide)
 have e11 := e [114, 101, 116, 117, 114, 110] (by decide)
 have e12 := e [99, 97, 108, 108] (by decide)
 have e13 := e [99, 97, 108, 108, 95, 105, 110, 100, 105, 114, 101, 99, 116] (by decide)
 clear e h1 h2 hsc hs
 generalize str (rnm n) = S at *
 generalize (rsg n).1 = L at *
 generalize (rsg n).2 = R at *
 have HC := hide hc; have HSg := hide hsg
 clear hc hsg
 by_cases hR : R = 0
 ·subst hR
  go_enter Tryz.func59, Tryz.ntmps59
  go_wp2_with fail
  refine (unhide HC).mono ?_
  rintro e w1 ⟨rfl, hb⟩
  have HB := hide hb; clear hb
  go_wp2_with fail
  refine (unhide HSg w1).mono ?_
  rintro e w2 ⟨a, cap, b, rfl, hb2⟩
  have HB2 := hide (Below.on (unhide HB) hb2); clear hb2
  go_wp2
  go_ret2
  exact ⟨rfl, unhide HB2⟩
 ·have tR : (R == 0) = false := by simpa using hR
  rw [if_neg hR]
  clear hR
  go_enter Tryz.func59, Tryz.ntmps59
  go_wp2_with fail
  refine (unhide HC).mono ?_
  rintro e w1 ⟨rfl, hb⟩
  have HB := hide hb; clear hb
  go_wp2_with fail
  refine (unhide HSg w1).mono ?_
  rintro e w2 ⟨a, cap, b, rfl, hb2⟩
  have HB2 := hide (Below.on (unhide HB) hb2); clear hb2
  go_wp2
  go_ret2
  exact ⟨rfl, unhide HB2⟩
theorem rsh_any (n : Nat) (hn : n < 256) (w : World) : Calls Tryz.prog 59 #[.int .u8 n] w fun e w' => e = .returned (.tuple #[.int .i64 (rsh n).1, .int .i64 (rsh n).2]) ∧ Below w.heap.size w w' := by
 by_cases hs : n ∈ spec
 ·simp only [spec, List.mem_cons, List.not_mem_nil, or_false] at hs
  rcases hs with rfl | rfl | rfl | rfl | rfl | rfl | rfl | rfl | rfl | rfl | rfl | rfl | rfl | rfl
  ·exact rsh_66 w
  ·exact rsh_63 w
  ·exact rsh_35 w
  ·exact rsh_192 w
  ·exact rsh_64 w
  ·exact rsh_27 w
  ·exact rsh_36 w
  ·exact rsh_194 w
  ·exact rsh_195 w
  ·exact rsh_193 w
  ·exact rsh_0 w
  ·exact rsh_15 w
  ·exact rsh_16 w
  ·exact rsh_17 w
 ·have h2 : rsh n = (((rsg n).1 : Int), if (rsg n).2 = 0 then 0 else 1) := by
     simp only [spec, List.mem_cons, List.not_mem_nil, or_false, not_or] at hs
     simp only [rsh, hs, if_false]
  rw [h2]
  exact rsh_no n hn hs w
/- The document's ins: may an instruction be? By mkrins.py. -/
def insR (re : Int) (rs : Bool) (x : In) : Bool :=
 if rnm x.op = [] then false
 else if allT x.src re = false then false
 else if 0 ≤ (rsh x.op).1 ∧ ¬ (x.src.length : Int) = (rsh x.op).1 then false
 else if x.dst < -1 then false
 else if re ≤ x.dst then false
 else if ¬ (rsh x.op).2 = 2 ∧ ¬ ((rsh x.op).2 = 1 ↔ 0 ≤ x.dst) then false
 else if x.op = 17 ∧ (x.src.length : Int) = 0 then false
 else if ¬ x.of = 0 ∧ acc x.op = false then false
 else if x.op = 15 then decide ((x.src.length : Int) = if rs then 1 else 0) && decide (x.n = 0)
 else if x.op = 35 ∨ x.op = 36 ∨ x.op = 16 ∨ x.op = 17 then decide (0 ≤ x.n)
 else if x.op = 66 then true
 else decide (x.n = 0)
/-- what an instruction's number says of it, the document's and ops' -/
def okO (n : Nat) (r : Bool) : Bool := match shp n r with
 | none => rnm n == []
 | some s => !(rnm n == []) && (if n = 15 then s.t == (if r then 1 else 0) && !s.m && !s.g && !s.e && rsh n == (-1, 0)
     else if n = 16 then s.t == 0 && s.m && s.e && rsh n == (-1, 2)
     else if n = 17 then s.t == 1 && s.m && s.e && rsh n == (-1, 2)
     else !s.m && !s.e && (rsh n == (s.t, if s.g then 1 else 0)) && decide (0 ≤ s.t))
theorem okO_all : ((List.range 256).all fun n => okO n true && okO n false) = true := by kernel_rfl
theorem okO_at (n : Nat) (hn : n < 256) (r : Bool) : okO n r = true := by
 have h := List.all_eq_true.1 okO_all n (List.mem_range.2 hn)
 rw [Bool.and_eq_true] at h
 cases r
 ·exact h.2
 ·exact h.1
theorem insR_eq (re : Int) (rs : Bool) (x : In) (hx : x.op < 256) : insR re rs x = insM re rs x := by
 have ho := okO_at x.op hx rs
 obtain ⟨op, dst, src, n, of⟩ := x
 simp only at *
 unfold okO at ho
 unfold insR insM may1
 simp only
 cases hs : shp op rs with
 | none =>
   rw [hs] at ho
   have hr : rnm op = [] := by simpa using ho
   rw [if_pos hr]; simp
 | some s =>
   rw [hs] at ho
   simp only [Bool.and_eq_true, Bool.not_eq_true', beq_eq_false_iff_ne, ne_eq] at ho
   obtain ⟨hr, ho⟩ := ho
   rw [if_neg hr]
   cases hal : allT src re with
   | false => simp
   | true =>
   simp only [Bool.true_eq_false, if_false, Bool.and_true]
   unfold mayS numM
   simp only
   obtain ⟨st, sm, sg, se⟩ := s
   simp only at ho ⊢
   have hL0 : (0 : Int) ≤ (src.length : Int) := by omega
   generalize (src.length : Int) = L at *
   generalize acc op = A at *
   by_cases h15 : op = 15
   ·subst h15
    have hnd : numd 15 = false := by decide
    rw [if_pos rfl] at ho
    simp only [Bool.and_eq_true, Bool.not_eq_true', beq_iff_eq] at ho
    obtain ⟨⟨⟨⟨h1, rfl⟩, rfl⟩, rfl⟩, h5⟩ := ho
    rw [h5, hnd, h1]
    cases rs <;> cases A <;> rw [Bool.eq_iff_iff] <;> simp <;> omega
   rw [if_neg h15] at ho
   by_cases h16 : op = 16
   ·subst h16
    have hnd : numd 16 = true := by decide
    rw [if_pos rfl] at ho
    simp only [Bool.and_eq_true, beq_iff_eq] at ho
    obtain ⟨⟨⟨h1, rfl⟩, rfl⟩, h5⟩ := ho
    rw [h5, hnd, h1]
    cases A <;> rw [Bool.eq_iff_iff] <;> simp <;> omega
   rw [if_neg h16] at ho
   by_cases h17 : op = 17
   ·subst h17
    have hnd : numd 17 = true := by decide
    rw [if_pos rfl] at ho
    simp only [Bool.and_eq_true, beq_iff_eq] at ho
    obtain ⟨⟨⟨h1, rfl⟩, rfl⟩, h5⟩ := ho
    rw [h5, hnd, h1]
    cases A <;> rw [Bool.eq_iff_iff] <;> simp <;> omega
   rw [if_neg h17] at ho
   simp only [Bool.and_eq_true, Bool.not_eq_true', beq_iff_eq, decide_eq_true_eq] at ho
   obtain ⟨⟨⟨rfl, rfl⟩, h5⟩, h6⟩ := ho
   have hnd : numd op = decide (op = 66 ∨ op = 35 ∨ op = 36) := by unfold numd; simp [h16, h17]
   rw [h5, hnd]
   by_cases h66 : op = 66
   ·subst h66
    cases A <;> cases sg <;> rw [Bool.eq_iff_iff] <;> simp <;> omega
   by_cases h35 : op = 35
   ·subst h35
    cases A <;> cases sg <;> rw [Bool.eq_iff_iff] <;> simp <;> omega
   by_cases h36 : op = 36
   ·subst h36
    cases A <;> cases sg <;> rw [Bool.eq_iff_iff] <;> simp <;> omega
   cases A <;> cases sg <;> rw [Bool.eq_iff_iff] <;> simp [h15, h16, h17, h66, h35, h36] <;> omega
end Vc
end Go.Proofs.YtglehoekehiaiaaGreatDoor
