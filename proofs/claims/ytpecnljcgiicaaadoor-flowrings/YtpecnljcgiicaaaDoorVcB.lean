/- shape: which instructions there are, how many registers they take, whether they give. -/
import Derived.Test.YtpecnljcgiicaaaDoorVcA
namespace Go.Proofs.YtpecnljcgiicaaaDoor
open Go.RowKit
namespace Vc
set_option linter.unusedVariables false

structure Shp where
  t : Int
  m : Bool
  g : Bool
  e : Bool
def shV (s : Shp) : Value := .agg #[.int .i64 s.t, .bool s.m, .bool s.g, .bool s.e]
/-- a sign: how many are taken, whether something is given -/
def sgn (n : Nat) : Option (Nat × Bool) := if n ≤ 36 then none else (fam n).map fun x => ((pk x.x x.y 2).length, x.g != 0)
def shp (n : Nat) (r : Bool) : Option Shp :=
  if n = 65 then none
  else if n = 192 then some ⟨1, false, true, false⟩
  else if n = 27 then some ⟨3, false, true, false⟩
  else if n = 35 then some ⟨0, false, true, false⟩
  else if n = 36 ∨ n = 194 ∨ n = 195 then some ⟨1, false, false, false⟩
  else if n = 16 then some ⟨0, true, false, true⟩
  else if n = 17 then some ⟨1, true, false, true⟩
  else if n = 193 ∨ n = 0 then some ⟨0, false, false, false⟩
  else if n = 15 then some ⟨if r then 1 else 0, false, false, false⟩
  else (sgn n).map fun p => ⟨p.1, false, p.2, false⟩
def ofV (o : Option Shp) : Value := match o with
  | none => .tuple #[.agg #[.int .i64 0, .bool false, .bool false, .bool false], .bool false]
  | some s => .tuple #[.agg #[.int .i64 s.t, .bool s.m, .bool s.g, .bool s.e], .bool true]
def Fms (w : World) : Prop := TC w 0 fmV

set_option maxRecDepth 100000 in
set_option maxHeartbeats 1600000 in
theorem ends_any (n : Nat) (hn : n < 256) (w : World) :
    Calls Tryd.prog 58 #[.int .u8 n] w fun e w' => e = .returned (.bool (decide (n = 0 ∨ n = 15 ∨ n = 193 ∨ n = 194 ∨ n = 195))) ∧ w' = w := by
  by_cases h0 : n = 0
  · subst h0
    go_enter Tryd.func58, Tryd.ntmps58
    go_wp2
    go_ret
    exact ⟨rfl, rfl⟩
  by_cases h1 : n = 15
  · subst h1
    go_enter Tryd.func58, Tryd.ntmps58
    go_wp2
    go_ret
    exact ⟨rfl, rfl⟩
  by_cases h2 : n = 193
  · subst h2
    go_enter Tryd.func58, Tryd.ntmps58
    go_wp2
    go_ret
    exact ⟨rfl, rfl⟩
  by_cases h3 : n = 194
  · subst h3
    go_enter Tryd.func58, Tryd.ntmps58
    go_wp2
    go_ret
    exact ⟨rfl, rfl⟩
  by_cases h4 : n = 195
  · subst h4
    go_enter Tryd.func58, Tryd.ntmps58
    go_wp2
    go_ret
    exact ⟨rfl, rfl⟩
  have t0 : ((n : Int) == 0) = false := by simp; omega
  have t1 : ((n : Int) == 15) = false := by simp; omega
  have t2 : ((n : Int) == 193) = false := by simp; omega
  have t3 : ((n : Int) == 194) = false := by simp; omega
  have t4 : ((n : Int) == 195) = false := by simp; omega
  rw [show decide (n = 0 ∨ n = 15 ∨ n = 193 ∨ n = 194 ∨ n = 195) = false by simp [h0, h1, h2, h3, h4]]
  clear h0 h1 h2 h3 h4
  go_enter Tryd.func58, Tryd.ntmps58
  go_wp2
  go_ret
  exact ⟨rfl, rfl⟩
def ends (n : Nat) : Bool := decide (n = 0 ∨ n = 15 ∨ n = 193 ∨ n = 194 ∨ n = 195)
theorem vends_any (n : Nat) (hn : n < 256) (w : World) :
    Calls Tryd.prog 48 #[.int .u8 n] w fun e w' => e = .returned (.bool (ends n)) ∧ w' = w := by
  have hc := ends_any n hn w
  rw [show decide (n = 0 ∨ n = 15 ∨ n = 193 ∨ n = 194 ∨ n = 195) = ends n from rfl] at hc
  have HC := hide hc; clear hc
  generalize ends n = b at *
  go_enter Tryd.func48, Tryd.ntmps48
  go_wp2_with fail
  refine (unhide HC).mono ?_
  rintro e w1 ⟨rfl, rfl⟩
  go_wp2
  go_ret
  exact ⟨rfl, rfl⟩

/-- has an instruction a use for N? -/
def numd (n : Nat) : Bool := decide (n = 66 ∨ n = 35 ∨ n = 36 ∨ n = 16 ∨ n = 17)
set_option maxRecDepth 100000 in
set_option maxHeartbeats 1600000 in
theorem numd_any (n : Nat) (hn : n < 256) (w : World) :
    Calls Tryd.prog 88 #[.int .u8 n] w fun e w' => e = .returned (.bool (numd n)) ∧ w' = w := by
  by_cases h0 : n = 66
  · subst h0
    go_enter Tryd.func88, Tryd.ntmps88
    go_wp2
    go_ret
    exact ⟨rfl, rfl⟩
  by_cases h1 : n = 35
  · subst h1
    go_enter Tryd.func88, Tryd.ntmps88
    go_wp2
    go_ret
    exact ⟨rfl, rfl⟩
  by_cases h2 : n = 36
  · subst h2
    go_enter Tryd.func88, Tryd.ntmps88
    go_wp2
    go_ret
    exact ⟨rfl, rfl⟩
  by_cases h3 : n = 16
  · subst h3
    go_enter Tryd.func88, Tryd.ntmps88
    go_wp2
    go_ret
    exact ⟨rfl, rfl⟩
  by_cases h4 : n = 17
  · subst h4
    go_enter Tryd.func88, Tryd.ntmps88
    go_wp2
    go_ret
    exact ⟨rfl, rfl⟩
  have t0 : ((n : Int) == 66) = false := by simp; omega
  have t1 : ((n : Int) == 35) = false := by simp; omega
  have t2 : ((n : Int) == 36) = false := by simp; omega
  have t3 : ((n : Int) == 16) = false := by simp; omega
  have t4 : ((n : Int) == 17) = false := by simp; omega
  rw [show numd n = false by simp [numd, h0, h1, h2, h3, h4]]
  clear h0 h1 h2 h3 h4
  go_enter Tryd.func88, Tryd.ntmps88
  go_wp2
  go_ret
  exact ⟨rfl, rfl⟩
/-- is it a load or a store? -/
def acc (n : Nat) : Bool := match fam n with
  | some x => x.o == 4
  | none => false
set_option maxRecDepth 100000 in
set_option maxHeartbeats 1600000 in
theorem acc_any (n : Nat) (hn : n < 256) (w : World) (hT : Fms w) :
    Calls Tryd.prog 77 #[.int .u8 n] w fun e w' => e = .returned (.bool (acc n)) ∧ Below w.heap.size w w' := by
  have hc := form_any n hn w hT
  unfold acc
  cases hf : fam n with
  | none =>
    rw [hf] at hc
    simp only [formR, errV_1] at hc
    have HC := hide hc; clear hc hf hT
    go_enter Tryd.func77, Tryd.ntmps77
    go_wp2_with fail
    refine (unhide HC).mono ?_
    rintro e w1 ⟨rfl, hb⟩
    have HB := hide hb; clear hb
    go_wp2
    go_ret
    exact ⟨rfl, unhide HB⟩
  | some x =>
    rw [hf] at hc
    obtain ⟨xa, xb, xo, xx, xy, xg⟩ := x
    simp only [formR, errV_0] at hc ⊢
    have HC := hide hc; clear hc hf hT
    go_enter Tryd.func77, Tryd.ntmps77
    go_wp2_with fail
    refine (unhide HC).mono ?_
    rintro e w1 ⟨rfl, hb⟩
    have HB := hide hb; clear hb
    go_wp2
    go_ret
    exact ⟨rfl, unhide HB⟩
/-- an instruction's name -/
def nam (n : Nat) : List UInt8 :=
  if n = 66 then [99, 111, 110, 115, 116]
  else if n = 192 then [109, 111, 118, 101]
  else if n = 193 then [106, 117, 109, 112]
  else if n = 194 then [98, 114, 97, 110, 99, 104]
  else if n = 195 then [116, 97, 98, 108, 101]
  else nm n
/-- may an end lead to so many? -/
def leads (n : Nat) (k : Int) : Bool :=
  if n = 193 then k == 1 else if n = 194 then k == 2 else if n = 195 then decide (1 ≤ k) && decide (k ≤ 257) else k == 0
set_option maxRecDepth 100000 in
set_option maxHeartbeats 1600000 in
theorem leads_any (n : Nat) (hn : n < 256) (k : Int) (w : World) :
    Calls Tryd.prog 50 #[.int .u8 n, .int .i64 k] w fun e w' => e = .returned (.bool (leads n k)) ∧ w' = w := by
  by_cases h0 : n = 193
  · subst h0
    go_enter Tryd.func50, Tryd.ntmps50
    go_wp2
    go_ret
    exact ⟨rfl, rfl⟩
  by_cases h1 : n = 194
  · subst h1
    go_enter Tryd.func50, Tryd.ntmps50
    go_wp2
    go_ret
    exact ⟨rfl, rfl⟩
  by_cases h2 : n = 195
  · subst h2
    by_cases a : 1 ≤ k
    · rw [show leads 195 k = decide (k ≤ 257) by simp [leads, a]]
      go_enter Tryd.func50, Tryd.ntmps50
      go_wp2
      go_ret
      exact ⟨rfl, rfl⟩
    · rw [show leads 195 k = false by simp [leads]; omega]
      go_enter Tryd.func50, Tryd.ntmps50
      go_wp2
      go_ret
      exact ⟨rfl, rfl⟩
  have t0 : ((n : Int) == 193) = false := by simp; omega
  have t1 : ((n : Int) == 194) = false := by simp; omega
  have t2 : ((n : Int) == 195) = false := by simp; omega
  rw [show leads n k = (k == 0) by simp [leads, h0, h1, h2]]
  clear h0 h1 h2
  go_enter Tryd.func50, Tryd.ntmps50
  go_wp2
  go_ret
  exact ⟨rfl, rfl⟩
theorem gives_any (x : In) (v : Value) (w : World) (hv : ∃ a n c, v = .slice a n c) :
    Calls Tryd.prog 76 #[.agg #[.int .u8 (x.op : Int), .int .i64 x.dst, v, .int .i64 x.n, .int .u32 x.of]] w fun e w' => e = .returned (.bool (x.dst != -1)) ∧ Below w.heap.size w w' := by
  obtain ⟨a, n, c, rfl⟩ := hv
  obtain ⟨op, dst, src, nn, of⟩ := x
  simp only
  go_enter Tryd.func76, Tryd.ntmps76
  go_wp2
  go_ret
  exact ⟨rfl, one_alloc _ _⟩
end Vc
end Go.Proofs.YtpecnljcgiicaaaDoor
