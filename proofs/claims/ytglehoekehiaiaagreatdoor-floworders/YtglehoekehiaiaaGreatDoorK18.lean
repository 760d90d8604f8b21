/- K18: what follows, part by part: each part tells what it holds. -/
import Derived.Test.YtglehoekehiaiaaGreatDoorK1
import Derived.BigQuiet
import Derived.Lib.Strings
namespace Go.Proofs.YtglehoekehiaiaaGreatDoor
open Go.RowKit
set_option linter.unusedVariables false
set_option linter.unusedSimpArgs false
set_option maxRecDepth 100000
set_option maxHeartbeats 32000000
/- What is asked of ops' tables here. -/
theorem str_size (l : List UInt8) : (str l).size = l.length := rfl
theorem str_extract (l : List UInt8) (a b : Nat) : (str l).extract a b = str ((l.drop a).take (b - a)) := by
  have h := Lib.extract_data (str l) a b
  apply Go.WideShapes.bytes_inj
  rw [h]; rfl
/-- what the tables hold -/
def Tb (w : World) : Prop := TC w 1 fmV
theorem Tb.below {w w' : World} (h : Tb w) (hb : Below w.heap.size w w') : Tb w' := TC.below h hb
theorem Below.drewn (w : World) (k : Nat) : Below w.heap.size w (w.drewN k) := ⟨rfl, rfl, rfl, Nat.le_refl _, fun _ _ => rfl⟩
/- The document's names as lists. -/
def q1 : List (List UInt8) := [[99, 108, 122], [99, 116, 122], [112, 111, 112, 99, 110, 116]]
def q2 : List (List UInt8) := [[97, 100, 100], [115, 117, 98], [109, 117, 108], [100, 105, 118, 95, 115], [100, 105, 118, 95, 117], [114, 101, 109, 95, 115], [114, 101, 109, 95, 117], [97, 110, 100], [111, 114], [120, 111, 114], [115, 104, 108], [115, 104, 114, 95, 115], [115, 104, 114, 95, 117], [114, 111, 116, 108], [114, 111, 116, 114]]
def q3 : List (List UInt8) := [[101, 113, 122], [101, 113], [110, 101], [108, 116, 95, 115], [108, 116, 95, 117], [103, 116, 95, 115], [103, 116, 95, 117], [108, 101, 95, 115], [108, 101, 95, 117], [103, 101, 95, 115], [103, 101, 95, 117]]
def c1 : List (List UInt8) := [[117, 110, 114, 101, 97, 99, 104, 97, 98, 108, 101], [110, 111, 112], [98, 108, 111, 99, 107], [108, 111, 111, 112], [105, 102]]
def c2 : List (List UInt8) := [[98, 114], [98, 114, 95, 105, 102], [98, 114, 95, 116, 97, 98, 108, 101], [114, 101, 116, 117, 114, 110], [99, 97, 108, 108], [99, 97, 108, 108, 95, 105, 110, 100, 105, 114, 101, 99, 116]]
def c3 : List (List UInt8) := [[108, 111, 99, 97, 108, 46, 103, 101, 116], [108, 111, 99, 97, 108, 46, 115, 101, 116], [108, 111, 99, 97, 108, 46, 116, 101, 101], [103, 108, 111, 98, 97, 108, 46, 103, 101, 116], [103, 108, 111, 98, 97, 108, 46, 115, 101, 116]]
def c4 : List (List UInt8) := [[105, 51, 50, 46, 108, 111, 97, 100, 56, 95, 115], [105, 51, 50, 46, 108, 111, 97, 100, 56, 95, 117], [105, 51, 50, 46, 108, 111, 97, 100, 49, 54, 95, 115], [105, 51, 50, 46, 108, 111, 97, 100, 49, 54, 95, 117], [105, 54, 52, 46, 108, 111, 97, 100, 56, 95, 115], [105, 54, 52, 46, 108, 111, 97, 100, 56, 95, 117], [105, 54, 52, 46, 108, 111, 97, 100, 49, 54, 95, 115], [105, 54, 52, 46, 108, 111, 97, 100, 49, 54, 95, 117], [105, 54, 52, 46, 108, 111, 97, 100, 51, 50, 95, 115], [105, 54, 52, 46, 108, 111, 97, 100, 51, 50, 95, 117], [105, 51, 50, 46, 115, 116, 111, 114, 101], [105, 54, 52, 46, 115, 116, 111, 114, 101]]
def c5 : List (List UInt8) := [[105, 51, 50, 46, 115, 116, 111, 114, 101, 56], [105, 51, 50, 46, 115, 116, 111, 114, 101, 49, 54], [105, 54, 52, 46, 115, 116, 111, 114, 101, 56], [105, 54, 52, 46, 115, 116, 111, 114, 101, 49, 54], [105, 54, 52, 46, 115, 116, 111, 114, 101, 51, 50], [109, 101, 109, 111, 114, 121, 46, 115, 105, 122, 101], [109, 101, 109, 111, 114, 121, 46, 103, 114, 111, 119], [105, 51, 50, 46, 99, 111, 110, 115, 116], [105, 54, 52, 46, 99, 111, 110, 115, 116]]
theorem below3 (w : World) (a b c : Obj) : Below w.heap.size w (((w.alloc a).alloc b).alloc c) :=
  (((Below.refl w.heap.size w).alloc (Nat.le_refl _) _).alloc (by simp) _).alloc (by simp; omega) _
theorem below5 (w : World) (a b c d e : Obj) : Below w.heap.size w (((((w.alloc a).alloc b).alloc c).alloc d).alloc e) :=
  ((below3 w a b c).alloc (by simp; omega) _).alloc (by simp; omega) _
theorem lkp (q : List (List UInt8)) (vs : List Value) (k : Nat) (h : k < vs.length) (e : vs = q.map fun s => Value.string (str s)) : vs[k] = .string (str (q.getD k [])) := by
  subst e
  have h2 : k < q.length := by simpa using h
  simp [List.getD, h2]
theorem ret_t2 {a b c : Value} (h : a = b) : Ending.returned (.tuple #[a, c]) = .returned (.tuple #[b, c]) := by rw [h]
theorem ret_v {a b : Value} (h : a = b) : Ending.returned a = .returned b := by rw [h]
/-- layer 2's name and bits of a number -/
def qn (n : Nat) : List UInt8 × Nat :=
  if 69 ≤ n ∧ n < 80 then (q3.getD (n - 69) [], 32)
  else if 80 ≤ n ∧ n < 91 then (q3.getD (n - 80) [], 64)
  else if 103 ≤ n ∧ n < 106 then (q1.getD (n - 103) [], 32)
  else if 106 ≤ n ∧ n < 121 then (q2.getD (n - 106) [], 32)
  else if 121 ≤ n ∧ n < 124 then (q1.getD (n - 121) [], 64)
  else if 124 ≤ n ∧ n < 139 then (q2.getD (n - 124) [], 64)
  else if n = 167 then ([119, 114, 97, 112], 64)
  else if n = 172 then ([101, 120, 116, 101, 110, 100, 95, 115], 32)
  else if n = 173 then ([101, 120, 116, 101, 110, 100, 95, 117], 32)
  else ([], 0)
/- The document's has and Kind. -/
/-- does a text begin with another one? -/
def hasF (l b : List UInt8) : Bool := decide (b.length ≤ l.length) && (l.take b.length == b)
theorem hasr_any (l b : List UInt8) (w : World) (hl : l.length < 1000) (hb : b.length < 1000) :
    Calls Tryz.prog 102 #[.string (str l), .string (str b)] w fun e w' => e = .returned (.bool (hasF l b)) ∧ w = w' := by
  have hz := str_size l
  have hy := str_size b
  generalize hs : str l = s at *
  generalize hq : str b = q at *
  have HS := hide (And.intro hs hq); clear hs hq
  by_cases h2 : b.length ≤ l.length
  · have h3 : (q.size : Int) ≤ (s.size : Int) := by omega
    have h4 : s.size < 1000 := by omega
    have h5 : q.size < 1000 := by omega
    have HZ := hide (And.intro hz hy); clear hz hy hl hb
    have H2 := hide h2; clear h2
    go_enter Tryz.func102, Tryz.ntmps102
    go_wp2
    go_ret
    refine ⟨ret_bool ?_, rfl⟩
    have e1 := (unhide HZ).2
    rw [e1]
    rw [← (unhide HS).1, ← (unhide HS).2, str_extract, str_toList, str_toList]
    unfold hasF
    simp [unhide H2]
  · have h3 : ¬ (q.size : Int) ≤ (s.size : Int) := by omega
    have e : hasF l b = false := by unfold hasF; simp [h2]
    rw [e]
    clear hz hy hl hb h2
    go_enter Tryz.func102, Tryz.ntmps102
    go_wp2
    go_ret
    exact ⟨rfl, rfl⟩
def kindF (l : List UInt8) : Int := if hasF l [105, 54, 52, 46] = true then 126 else 127
theorem kindr_any (l : List UInt8) (w : World) (hl : l.length < 1000) :
    Calls Tryz.prog 101 #[.string (str l)] w fun e w' => e = .returned (.int .u8 (kindF l)) ∧ w = w' := by
  have hc := hasr_any l [105, 54, 52, 46] w hl (by decide)
  unfold kindF
  generalize hasF l [105, 54, 52, 46] = b at *
  have HC := hide hc; clear hc
  generalize str l = s at *
  cases b
  all_goals
    go_enter Tryz.func101, Tryz.ntmps101
    go_wp2_with fail
    refine (unhide HC).mono ?_
    rintro e w1 ⟨rfl, rfl⟩
    go_wp2
    go_ret
    exact ⟨rfl, rfl⟩
/- mandrelref04.Form where the name is told. -/
/-- Name gives this text -/
def NameIs (n : Nat) (l : List UInt8) : Prop := ∀ w, Calls Tryz.prog 61 #[.int .u8 n] w fun e w' => e = .returned (.string (str l)) ∧ Below w.heap.size w w'
def FormIs (n : Nat) (f : Int) (b : Bool) : Prop := ∀ w, Calls Tryz.prog 88 #[.int .u8 n] w fun e w' => e = .returned (.tuple #[.int .i64 f, .bool b]) ∧ Below w.heap.size w w'
theorem f_none (n : Nat) (h : NameIs n []) : FormIs n 0 false := by
  intro w
  have h1 := h w
  rw [show str [] = ⟨#[]⟩ from rfl] at h1
  have H1 := hide h1; clear h h1
  go_enter Tryz.func88, Tryz.ntmps88
  go_wp2_with fail
  refine (unhide H1).mono ?_
  rintro e w1 ⟨rfl, hb⟩
  have HB := hide hb; clear hb
  go_wp2
  go_ret2
  exact ⟨rfl, unhide HB⟩
theorem f_i32_const (n : Nat) (h : NameIs n [105, 51, 50, 46, 99, 111, 110, 115, 116]) : FormIs n 1 true := by
  intro w
  have h1 := h w
  rw [show str [105, 51, 50, 46, 99, 111, 110, 115, 116] = ⟨#[105, 51, 50, 46, 99, 111, 110, 115, 116]⟩ from rfl] at h1
  have H1 := hide h1; clear h h1
  go_enter Tryz.func88, Tryz.ntmps88
  go_wp2_with fail
  refine (unhide H1).mono ?_
  rintro e w1 ⟨rfl, hb⟩
  have HB := hide hb; clear hb
  go_wp2
  go_ret2
  exact ⟨rfl, unhide HB⟩
theorem f_i64_const (n : Nat) (h : NameIs n [105, 54, 52, 46, 99, 111, 110, 115, 116]) : FormIs n 2 true := by
  intro w
  have h1 := h w
  rw [show str [105, 54, 52, 46, 99, 111, 110, 115, 116] = ⟨#[105, 54, 52, 46, 99, 111, 110, 115, 116]⟩ from rfl] at h1
  have H1 := hide h1; clear h h1
  go_enter Tryz.func88, Tryz.ntmps88
  go_wp2_with fail
  refine (unhide H1).mono ?_
  rintro e w1 ⟨rfl, hb⟩
  have HB := hide hb; clear hb
  go_wp2
  go_ret2
  exact ⟨rfl, unhide HB⟩
theorem f_br (n : Nat) (h : NameIs n [98, 114]) : FormIs n 3 true := by
  intro w
  have h1 := h w
  rw [show str [98, 114] = ⟨#[98, 114]⟩ from rfl] at h1
  have H1 := hide h1; clear h h1
  go_enter Tryz.func88, Tryz.ntmps88
  go_wp2_with fail
  refine (unhide H1).mono ?_
  rintro e w1 ⟨rfl, hb⟩
  have HB := hide hb; clear hb
  go_wp2
  go_ret2
  exact ⟨rfl, unhide HB⟩
theorem f_br_if (n : Nat) (h : NameIs n [98, 114, 95, 105, 102]) : FormIs n 3 true := by
  intro w
  have h1 := h w
  rw [show str [98, 114, 95, 105, 102] = ⟨#[98, 114, 95, 105, 102]⟩ from rfl] at h1
  have H1 := hide h1; clear h h1
  go_enter Tryz.func88, Tryz.ntmps88
  go_wp2_with fail
  refine (unhide H1).mono ?_
  rintro e w1 ⟨rfl, hb⟩
  have HB := hide hb; clear hb
  go_wp2
  go_ret2
  exact ⟨rfl, unhide HB⟩
theorem f_call (n : Nat) (h : NameIs n [99, 97, 108, 108]) : FormIs n 3 true := by
  intro w
  have h1 := h w
  rw [show str [99, 97, 108, 108] = ⟨#[99, 97, 108, 108]⟩ from rfl] at h1
  have H1 := hide h1; clear h h1
  go_enter Tryz.func88, Tryz.ntmps88
  go_wp2_with fail
  refine (unhide H1).mono ?_
  rintro e w1 ⟨rfl, hb⟩
  have HB := hide hb; clear hb
  go_wp2
  go_ret2
  exact ⟨rfl, unhide HB⟩
theorem f_local_get (n : Nat) (h : NameIs n [108, 111, 99, 97, 108, 46, 103, 101, 116]) : FormIs n 3 true := by
  intro w
  have h1 := h w
  rw [show str [108, 111, 99, 97, 108, 46, 103, 101, 116] = ⟨#[108, 111, 99, 97, 108, 46, 103, 101, 116]⟩ from rfl] at h1
  have H1 := hide h1; clear h h1
  go_enter Tryz.func88, Tryz.ntmps88
  go_wp2_with fail
  refine (unhide H1).mono ?_
  rintro e w1 ⟨rfl, hb⟩
  have HB := hide hb; clear hb
  go_wp2
  go_ret2
  exact ⟨rfl, unhide HB⟩
theorem f_local_set (n : Nat) (h : NameIs n [108, 111, 99, 97, 108, 46, 115, 101, 116]) : FormIs n 3 true := by
  intro w
  have h1 := h w
  rw [show str [108, 111, 99, 97, 108, 46, 115, 101, 116] = ⟨#[108, 111, 99, 97, 108, 46, 115, 101, 116]⟩ from rfl] at h1
  have H1 := hide h1; clear h h1
  go_enter Tryz.func88, Tryz.ntmps88
  go_wp2_with fail
  refine (unhide H1).mono ?_
  rintro e w1 ⟨rfl, hb⟩
  have HB := hide hb; clear hb
  go_wp2
  go_ret2
  exact ⟨rfl, unhide HB⟩
theorem f_local_tee (n : Nat) (h : NameIs n [108, 111, 99, 97, 108, 46, 116, 101, 101]) : FormIs n 3 true := by
  intro w
  have h1 := h w
  rw [show str [108, 111, 99, 97, 108, 46, 116, 101, 101] = ⟨#[108, 111, 99, 97, 108, 46, 116, 101, 101]⟩ from rfl] at h1
  have H1 := hide h1; clear h h1
  go_enter Tryz.func88, Tryz.ntmps88
  go_wp2_with fail
  refine (unhide H1).mono ?_
  rintro e w1 ⟨rfl, hb⟩
  have HB := hide hb; clear hb
  go_wp2
  go_ret2
  exact ⟨rfl, unhide HB⟩
theorem f_global_get (n : Nat) (h : NameIs n [103, 108, 111, 98, 97, 108, 46, 103, 101, 116]) : FormIs n 3 true := by
  intro w
  have h1 := h w
  rw [show str [103, 108, 111, 98, 97, 108, 46, 103, 101, 116] = ⟨#[103, 108, 111, 98, 97, 108, 46, 103, 101, 116]⟩ from rfl] at h1
  have H1 := hide h1; clear h h1
  go_enter Tryz.func88, Tryz.ntmps88
  go_wp2_with fail
  refine (unhide H1).mono ?_
  rintro e w1 ⟨rfl, hb⟩
  have HB := hide hb; clear hb
  go_wp2
  go_ret2
  exact ⟨rfl, unhide HB⟩
theorem f_global_set (n : Nat) (h : NameIs n [103, 108, 111, 98, 97, 108, 46, 115, 101, 116]) : FormIs n 3 true := by
  intro w
  have h1 := h w
  rw [show str [103, 108, 111, 98, 97, 108, 46, 115, 101, 116] = ⟨#[103, 108, 111, 98, 97, 108, 46, 115, 101, 116]⟩ from rfl] at h1
  have H1 := hide h1; clear h h1
  go_enter Tryz.func88, Tryz.ntmps88
  go_wp2_with fail
  refine (unhide H1).mono ?_
  rintro e w1 ⟨rfl, hb⟩
  have HB := hide hb; clear hb
  go_wp2
  go_ret2
  exact ⟨rfl, unhide HB⟩
theorem f_memory_size (n : Nat) (h : NameIs n [109, 101, 109, 111, 114, 121, 46, 115, 105, 122, 101]) : FormIs n 5 true := by
  intro w
  have h1 := h w
  rw [show str [109, 101, 109, 111, 114, 121, 46, 115, 105, 122, 101] = ⟨#[109, 101, 109, 111, 114, 121, 46, 115, 105, 122, 101]⟩ from rfl] at h1
  have H1 := hide h1; clear h h1
  go_enter Tryz.func88, Tryz.ntmps88
  go_wp2_with fail
  refine (unhide H1).mono ?_
  rintro e w1 ⟨rfl, hb⟩
  have HB := hide hb; clear hb
  go_wp2
  go_ret2
  exact ⟨rfl, unhide HB⟩
theorem f_memory_grow (n : Nat) (h : NameIs n [109, 101, 109, 111, 114, 121, 46, 103, 114, 111, 119]) : FormIs n 5 true := by
  intro w
  have h1 := h w
  rw [show str [109, 101, 109, 111, 114, 121, 46, 103, 114, 111, 119] = ⟨#[109, 101, 109, 111, 114, 121, 46, 103, 114, 111, 119]⟩ from rfl] at h1
  have H1 := hide h1; clear h h1
  go_enter Tryz.func88, Tryz.ntmps88
  go_wp2_with fail
  refine (unhide H1).mono ?_
  rintro e w1 ⟨rfl, hb⟩
  have HB := hide hb; clear hb
  go_wp2
  go_ret2
  exact ⟨rfl, unhide HB⟩
theorem f_block (n : Nat) (h : NameIs n [98, 108, 111, 99, 107]) : FormIs n 6 true := by
  intro w
  have h1 := h w
  rw [show str [98, 108, 111, 99, 107] = ⟨#[98, 108, 111, 99, 107]⟩ from rfl] at h1
  have H1 := hide h1; clear h h1
  go_enter Tryz.func88, Tryz.ntmps88
  go_wp2_with fail
  refine (unhide H1).mono ?_
  rintro e w1 ⟨rfl, hb⟩
  have HB := hide hb; clear hb
  go_wp2
  go_ret2
  exact ⟨rfl, unhide HB⟩
theorem f_loop (n : Nat) (h : NameIs n [108, 111, 111, 112]) : FormIs n 6 true := by
  intro w
  have h1 := h w
  rw [show str [108, 111, 111, 112] = ⟨#[108, 111, 111, 112]⟩ from rfl] at h1
  have H1 := hide h1; clear h h1
  go_enter Tryz.func88, Tryz.ntmps88
  go_wp2_with fail
  refine (unhide H1).mono ?_
  rintro e w1 ⟨rfl, hb⟩
  have HB := hide hb; clear hb
  go_wp2
  go_ret2
  exact ⟨rfl, unhide HB⟩
theorem f_if (n : Nat) (h : NameIs n [105, 102]) : FormIs n 7 true := by
  intro w
  have h1 := h w
  rw [show str [105, 102] = ⟨#[105, 102]⟩ from rfl] at h1
  have H1 := hide h1; clear h h1
  go_enter Tryz.func88, Tryz.ntmps88
  go_wp2_with fail
  refine (unhide H1).mono ?_
  rintro e w1 ⟨rfl, hb⟩
  have HB := hide hb; clear hb
  go_wp2
  go_ret2
  exact ⟨rfl, unhide HB⟩
theorem f_br_table (n : Nat) (h : NameIs n [98, 114, 95, 116, 97, 98, 108, 101]) : FormIs n 8 true := by
  intro w
  have h1 := h w
  rw [show str [98, 114, 95, 116, 97, 98, 108, 101] = ⟨#[98, 114, 95, 116, 97, 98, 108, 101]⟩ from rfl] at h1
  have H1 := hide h1; clear h h1
  go_enter Tryz.func88, Tryz.ntmps88
  go_wp2_with fail
  refine (unhide H1).mono ?_
  rintro e w1 ⟨rfl, hb⟩
  have HB := hide hb; clear hb
  go_wp2
  go_ret2
  exact ⟨rfl, unhide HB⟩
theorem f_call_indirect (n : Nat) (h : NameIs n [99, 97, 108, 108, 95, 105, 110, 100, 105, 114, 101, 99, 116]) : FormIs n 9 true := by
  intro w
  have h1 := h w
  rw [show str [99, 97, 108, 108, 95, 105, 110, 100, 105, 114, 101, 99, 116] = ⟨#[99, 97, 108, 108, 95, 105, 110, 100, 105, 114, 101, 99, 116]⟩ from rfl] at h1
  have H1 := hide h1; clear h h1
  go_enter Tryz.func88, Tryz.ntmps88
  go_wp2_with fail
  refine (unhide H1).mono ?_
  rintro e w1 ⟨rfl, hb⟩
  have HB := hide hb; clear hb
  go_wp2
  go_ret2
  exact ⟨rfl, unhide HB⟩
/- mandrelref04.Form: what it returns. -/
def formT : List (List UInt8 × Int) := [([105, 51, 50, 46, 99, 111, 110, 115, 116], 1), ([105, 54, 52, 46, 99, 111, 110, 115, 116], 2), ([98, 114], 3), ([98, 114, 95, 105, 102], 3), ([99, 97, 108, 108], 3), ([108, 111, 99, 97, 108, 46, 103, 101, 116], 3), ([108, 111, 99, 97, 108, 46, 115, 101, 116], 3), ([108, 111, 99, 97, 108, 46, 116, 101, 101], 3), ([103, 108, 111, 98, 97, 108, 46, 103, 101, 116], 3), ([103, 108, 111, 98, 97, 108, 46, 115, 101, 116], 3), ([109, 101, 109, 111, 114, 121, 46, 115, 105, 122, 101], 5), ([109, 101, 109, 111, 114, 121, 46, 103, 114, 111, 119], 5), ([98, 108, 111, 99, 107], 6), ([108, 111, 111, 112], 6), ([105, 102], 7), ([98, 114, 95, 116, 97, 98, 108, 101], 8), ([99, 97, 108, 108, 95, 105, 110, 100, 105, 114, 101, 99, 116], 9)]
def formH (l : List UInt8) : Bool := hasF (l.drop 1) [51, 50, 46, 108, 111, 97, 100] || hasF (l.drop 1) [54, 52, 46, 108, 111, 97, 100] || hasF (l.drop 1) [51, 50, 46, 115, 116, 111, 114, 101] || hasF (l.drop 1) [54, 52, 46, 115, 116, 111, 114, 101]
/-- the form of a name -/
def formF (l : List UInt8) : Int := match formT.find? (fun p => p.1 == l) with
  | some p => p.2
  | none => if formH l = true then 4 else 0
/-- a text that is none of those told -/
def Others (l : List UInt8) : Prop := formT.all (fun p => !(p.1 == l)) = true
theorem str_drop1 (l : List UInt8) : (str l).extract 1 (str l).size = str (l.drop 1) := by
  rw [str_extract, List.take_of_length_le]
  rw [str_size, List.length_drop]; omega
theorem toList_bne {l a : List UInt8} (h : ¬ l = a) : ((str l).toList == a) = false := by
  rw [str_toList, beq_eq_false_iff_ne]; exact h
theorem f_has0 (n : Nat) (l : List UInt8) (h : NameIs n l) (hn : l ≠ []) (hl : l.length < 100) (ho : Others l) (hb0 : hasF (l.drop 1) [51, 50, 46, 108, 111, 97, 100] = true) : FormIs n 4 true := by
  intro w
  have h1 := h w
  have H1 := hide h1; clear h h1
  have hie : (str l).toList.isEmpty = false := str_ie hn
  have hz : 1 ≤ (str l).size := by rw [str_size]; cases l with
    | nil => exact absurd rfl hn
    | cons a l => simp
  have hz2 : (str l).size < 100 := hl
  have t0 : ((str l).toList == [105, 51, 50, 46, 99, 111, 110, 115, 116]) = false := toList_bne (fun e => by subst e; revert ho; unfold Others; decide)
  have t1 : ((str l).toList == [105, 54, 52, 46, 99, 111, 110, 115, 116]) = false := toList_bne (fun e => by subst e; revert ho; unfold Others; decide)
  have t2 : ((str l).toList == [98, 114]) = false := toList_bne (fun e => by subst e; revert ho; unfold Others; decide)
  have t3 : ((str l).toList == [98, 114, 95, 105, 102]) = false := toList_bne (fun e => by subst e; revert ho; unfold Others; decide)
  have t4 : ((str l).toList == [99, 97, 108, 108]) = false := toList_bne (fun e => by subst e; revert ho; unfold Others; decide)
  have t5 : ((str l).toList == [108, 111, 99, 97, 108, 46, 103, 101, 116]) = false := toList_bne (fun e => by subst e; revert ho; unfold Others; decide)
  have t6 : ((str l).toList == [108, 111, 99, 97, 108, 46, 115, 101, 116]) = false := toList_bne (fun e => by subst e; revert ho; unfold Others; decide)
  have t7 : ((str l).toList == [108, 111, 99, 97, 108, 46, 116, 101, 101]) = false := toList_bne (fun e => by subst e; revert ho; unfold Others; decide)
  have t8 : ((str l).toList == [103, 108, 111, 98, 97, 108, 46, 103, 101, 116]) = false := toList_bne (fun e => by subst e; revert ho; unfold Others; decide)
  have t9 : ((str l).toList == [103, 108, 111, 98, 97, 108, 46, 115, 101, 116]) = false := toList_bne (fun e => by subst e; revert ho; unfold Others; decide)
  have t10 : ((str l).toList == [109, 101, 109, 111, 114, 121, 46, 115, 105, 122, 101]) = false := toList_bne (fun e => by subst e; revert ho; unfold Others; decide)
  have t11 : ((str l).toList == [109, 101, 109, 111, 114, 121, 46, 103, 114, 111, 119]) = false := toList_bne (fun e => by subst e; revert ho; unfold Others; decide)
  have t12 : ((str l).toList == [98, 108, 111, 99, 107]) = false := toList_bne (fun e => by subst e; revert ho; unfold Others; decide)
  have t13 : ((str l).toList == [108, 111, 111, 112]) = false := toList_bne (fun e => by subst e; revert ho; unfold Others; decide)
  have t14 : ((str l).toList == [105, 102]) = false := toList_bne (fun e => by subst e; revert ho; unfold Others; decide)
  have t15 : ((str l).toList == [98, 114, 95, 116, 97, 98, 108, 101]) = false := toList_bne (fun e => by subst e; revert ho; unfold Others; decide)
  have t16 : ((str l).toList == [99, 97, 108, 108, 95, 105, 110, 100, 105, 114, 101, 99, 116]) = false := toList_bne (fun e => by subst e; revert ho; unfold Others; decide)
  have hc0 := fun wx => hasr_any (l.drop 1) [51, 50, 46, 108, 111, 97, 100] wx (by rw [List.length_drop]; omega) (by decide)
  rw [hb0, ← str_drop1 l] at hc0
  have HC0 := hide hc0; clear hc0 hb0
  clear ho hn hl
  generalize str l = s at *
  go_enter Tryz.func88, Tryz.ntmps88
  go_wp2_with fail
  refine (unhide H1).mono ?_
  rintro e w1 ⟨rfl, hb⟩
  have HB := hide hb; clear hb
  go_wp2_with fail
  refine (unhide HC0 _).mono ?_
  rintro e w2 ⟨rfl, rfl⟩
  go_wp2
  go_ret2
  exact ⟨rfl, unhide HB⟩
theorem f_has1 (n : Nat) (l : List UInt8) (h : NameIs n l) (hn : l ≠ []) (hl : l.length < 100) (ho : Others l) (hb0 : hasF (l.drop 1) [51, 50, 46, 108, 111, 97, 100] = false) (hb1 : hasF (l.drop 1) [54, 52, 46, 108, 111, 97, 100] = true) : FormIs n 4 true := by
  intro w
  have h1 := h w
  have H1 := hide h1; clear h h1
  have hie : (str l).toList.isEmpty = false := str_ie hn
  have hz : 1 ≤ (str l).size := by rw [str_size]; cases l with
    | nil => exact absurd rfl hn
    | cons a l => simp
  have hz2 : (str l).size < 100 := hl
  have t0 : ((str l).toList == [105, 51, 50, 46, 99, 111, 110, 115, 116]) = false := toList_bne (fun e => by subst e; revert ho; unfold Others; decide)
  have t1 : ((str l).toList == [105, 54, 52, 46, 99, 111, 110, 115, 116]) = false := toList_bne (fun e => by subst e; revert ho; unfold Others; decide)
  have t2 : ((str l).toList == [98, 114]) = false := toList_bne (fun e => by subst e; revert ho; unfold Others; decide)
  have t3 : ((str l).toList == [98, 114, 95, 105, 102]) = false := toList_bne (fun e => by subst e; revert ho; unfold Others; decide)
  have t4 : ((str l).toList == [99, 97, 108, 108]) = false := toList_bne (fun e => by subst e; revert ho; unfold Others; decide)
  have t5 : ((str l).toList == [108, 111, 99, 97, 108, 46, 103, 101, 116]) = false := toList_bne (fun e => by subst e; revert ho; unfold Others; decide)
  have t6 : ((str l).toList == [108, 111, 99, 97, 108, 46, 115, 101, 116]) = false := toList_bne (fun e => by subst e; revert ho; unfold Others; decide)
  have t7 : ((str l).toList == [108, 111, 99, 97, 108, 46, 116, 101, 101]) = false := toList_bne (fun e => by subst e; revert ho; unfold Others; decide)
  have t8 : ((str l).toList == [103, 108, 111, 98, 97, 108, 46, 103, 101, 116]) = false := toList_bne (fun e => by subst e; revert ho; unfold Others; decide)
  have t9 : ((str l).toList == [103, 108, 111, 98, 97, 108, 46, 115, 101, 116]) = false := toList_bne (fun e => by subst e; revert ho; unfold Others; decide)
  have t10 : ((str l).toList == [109, 101, 109, 111, 114, 121, 46, 115, 105, 122, 101]) = false := toList_bne (fun e => by subst e; revert ho; unfold Others; decide)
  have t11 : ((str l).toList == [109, 101, 109, 111, 114, 121, 46, 103, 114, 111, 119]) = false := toList_bne (fun e => by subst e; revert ho; unfold Others; decide)
  have t12 : ((str l).toList == [98, 108, 111, 99, 107]) = false := toList_bne (fun e => by subst e; revert ho; unfold Others; decide)
  have t13 : ((str l).toList == [108, 111, 111, 112]) = false := toList_bne (fun e => by subst e; revert ho; unfold Others; decide)
  have t14 : ((str l).toList == [105, 102]) = false := toList_bne (fun e => by subst e; revert ho; unfold Others; decide)
  have t15 : ((str l).toList == [98, 114, 95, 116, 97, 98, 108, 101]) = false := toList_bne (fun e => by subst e; revert ho; unfold Others; decide)
  have t16 : ((str l).toList == [99, 97, 108, 108, 95, 105, 110, 100, 105, 114, 101, 99, 116]) = false := toList_bne (fun e => by subst e; revert ho; unfold Others; decide)
  have hc0 := fun wx => hasr_any (l.drop 1) [51, 50, 46, 108, 111, 97, 100] wx (by rw [List.length_drop]; omega) (by decide)
  rw [hb0, ← str_drop1 l] at hc0
  have HC0 := hide hc0; clear hc0 hb0
  have hc1 := fun wx => hasr_any (l.drop 1) [54, 52, 46, 108, 111, 97, 100] wx (by rw [List.length_drop]; omega) (by decide)
  rw [hb1, ← str_drop1 l] at hc1
  have HC1 := hide hc1; clear hc1 hb1
  clear ho hn hl
  generalize str l = s at *
  go_enter Tryz.func88, Tryz.ntmps88
  go_wp2_with fail
  refine (unhide H1).mono ?_
  rintro e w1 ⟨rfl, hb⟩
  have HB := hide hb; clear hb
  go_wp2_with fail
  refine (unhide HC0 _).mono ?_
  rintro e w2 ⟨rfl, rfl⟩
  go_wp2_with fail
  refine (unhide HC1 _).mono ?_
  rintro e w2 ⟨rfl, rfl⟩
  go_wp2
  go_ret2
  exact ⟨rfl, unhide HB⟩
theorem f_has2 (n : Nat) (l : List UInt8) (h : NameIs n l) (hn : l ≠ []) (hl : l.length < 100) (ho : Others l) (hb0 : hasF (l.drop 1) [51, 50, 46, 108, 111, 97, 100] = false) (hb1 : hasF (l.drop 1) [54, 52, 46, 108, 111, 97, 100] = false) (hb2 : hasF (l.drop 1) [51, 50, 46, 115, 116, 111, 114, 101] = true) : FormIs n 4 true := by
  intro w
  have h1 := h w
  have H1 := hide h1; clear h h1
  have hie : (str l).toList.isEmpty = false := str_ie hn
  have hz : 1 ≤ (str l).size := by rw [str_size]; cases l with
    | nil => exact absurd rfl hn
    | cons a l => simp
  have hz2 : (str l).size < 100 := hl
  have t0 : ((str l).toList == [105, 51, 50, 46, 99, 111, 110, 115, 116]) = false := toList_bne (fun e => by subst e; revert ho; unfold Others; decide)
  have t1 : ((str l).toList == [105, 54, 52, 46, 99, 111, 110, 115, 116]) = false := toList_bne (fun e => by subst e; revert ho; unfold Others; decide)
  have t2 : ((str l).toList == [98, 114]) = false := toList_bne (fun e => by subst e; revert ho; unfold Others; decide)
  have t3 : ((str l).toList == [98, 114, 95, 105, 102]) = false := toList_bne (fun e => by subst e; revert ho; unfold Others; decide)
  have t4 : ((str l).toList == [99, 97, 108, 108]) = false := toList_bne (fun e => by subst e; revert ho; unfold Others; decide)
  have t5 : ((str l).toList == [108, 111, 99, 97, 108, 46, 103, 101, 116]) = false := toList_bne (fun e => by subst e; revert ho; unfold Others; decide)
  have t6 : ((str l).toList == [108, 111, 99, 97, 108, 46, 115, 101, 116]) = false := toList_bne (fun e => by subst e; revert ho; unfold Others; decide)
  have t7 : ((str l).toList == [108, 111, 99, 97, 108, 46, 116, 101, 101]) = false := toList_bne (fun e => by subst e; revert ho; unfold Others; decide)
  have t8 : ((str l).toList == [103, 108, 111, 98, 97, 108, 46, 103, 101, 116]) = false := toList_bne (fun e => by subst e; revert ho; unfold Others; decide)
  have t9 : ((str l).toList == [103, 108, 111, 98, 97, 108, 46, 115, 101, 116]) = false := toList_bne (fun e => by subst e; revert ho; unfold Others; decide)
  have t10 : ((str l).toList == [109, 101, 109, 111, 114, 121, 46, 115, 105, 122, 101]) = false := toList_bne (fun e => by subst e; revert ho; unfold Others; decide)
  have t11 : ((str l).toList == [109, 101, 109, 111, 114, 121, 46, 103, 114, 111, 119]) = false := toList_bne (fun e => by subst e; revert ho; unfold Others; decide)
  have t12 : ((str l).toList == [98, 108, 111, 99, 107]) = false := toList_bne (fun e => by subst e; revert ho; unfold Others; decide)
  have t13 : ((str l).toList == [108, 111, 111, 112]) = false := toList_bne (fun e => by subst e; revert ho; unfold Others; decide)
  have t14 : ((str l).toList == [105, 102]) = false := toList_bne (fun e => by subst e; revert ho; unfold Others; decide)
  have t15 : ((str l).toList == [98, 114, 95, 116, 97, 98, 108, 101]) = false := toList_bne (fun e => by subst e; revert ho; unfold Others; decide)
  have t16 : ((str l).toList == [99, 97, 108, 108, 95, 105, 110, 100, 105, 114, 101, 99, 116]) = false := toList_bne (fun e => by subst e; revert ho; unfold Others; decide)
  have hc0 := fun wx => hasr_any (l.drop 1) [51, 50, 46, 108, 111, 97, 100] wx (by rw [List.length_drop]; omega) (by decide)
  rw [hb0, ← str_drop1 l] at hc0
  have HC0 := hide hc0; clear hc0 hb0
  have hc1 := fun wx => hasr_any (l.drop 1) [54, 52, 46, 108, 111, 97, 100] wx (by rw [List.length_drop]; omega) (by decide)
  rw [hb1, ← str_drop1 l] at hc1
  have HC1 := hide hc1; clear hc1 hb1
  have hc2 := fun wx => hasr_any (l.drop 1) [51, 50, 46, 115, 116, 111, 114, 101] wx (by rw [List.length_drop]; omega) (by decide)
  rw [hb2, ← str_drop1 l] at hc2
  have HC2 := hide hc2; clear hc2 hb2
  clear ho hn hl
  generalize str l = s at *
  go_enter Tryz.func88, Tryz.ntmps88
  go_wp2_with fail
  refine (unhide H1).mono ?_
  rintro e w1 ⟨rfl, hb⟩
  have HB := hide hb; clear hb
  go_wp2_with fail
  refine (unhide HC0 _).mono ?_
  rintro e w2 ⟨rfl, rfl⟩
  go_wp2_with fail
  refine (unhide HC1 _).mono ?_
  rintro e w2 ⟨rfl, rfl⟩
  go_wp2_with fail
  refine (unhide HC2 _).mono ?_
  rintro e w2 ⟨rfl, rfl⟩
  go_wp2
  go_ret2
  exact ⟨rfl, unhide HB⟩
theorem f_has3 (n : Nat) (l : List UInt8) (h : NameIs n l) (hn : l ≠ []) (hl : l.length < 100) (ho : Others l) (hb0 : hasF (l.drop 1) [51, 50, 46, 108, 111, 97, 100] = false) (hb1 : hasF (l.drop 1) [54, 52, 46, 108, 111, 97, 100] = false) (hb2 : hasF (l.drop 1) [51, 50, 46, 115, 116, 111, 114, 101] = false) (hb3 : hasF (l.drop 1) [54, 52, 46, 115, 116, 111, 114, 101] = true) : FormIs n 4 true := by
  intro w
  have h1 := h w
  have H1 := hide h1; clear h h1
  have hie : (str l).toList.isEmpty = false := str_ie hn
  have hz : 1 ≤ (str l).size := by rw [str_size]; cases l with
    | nil => exact absurd rfl hn
    | cons a l => simp
  have hz2 : (str l).size < 100 := hl
  have t0 : ((str l).toList == [105, 51, 50, 46, 99, 111, 110, 115, 116]) = false := toList_bne (fun e => by subst e; revert ho; unfold Others; decide)
  have t1 : ((str l).toList == [105, 54, 52, 46, 99, 111, 110, 115, 116]) = false := toList_bne (fun e => by subst e; revert ho; unfold Others; decide)
  have t2 : ((str l).toList == [98, 114]) = false := toList_bne (fun e => by subst e; revert ho; unfold Others; decide)
  have t3 : ((str l).toList == [98, 114, 95, 105, 102]) = false := toList_bne (fun e => by subst e; revert ho; unfold Others; decide)
  have t4 : ((str l).toList == [99, 97, 108, 108]) = false := toList_bne (fun e => by subst e; revert ho; unfold Others; decide)
  have t5 : ((str l).toList == [108, 111, 99, 97, 108, 46, 103, 101, 116]) = false := toList_bne (fun e => by subst e; revert ho; unfold Others; decide)
  have t6 : ((str l).toList == [108, 111, 99, 97, 108, 46, 115, 101, 116]) = false := toList_bne (fun e => by subst e; revert ho; unfold Others; decide)
  have t7 : ((str l).toList == [108, 111, 99, 97, 108, 46, 116, 101, 101]) = false := toList_bne (fun e => by subst e; revert ho; unfold Others; decide)
  have t8 : ((str l).toList == [103, 108, 111, 98, 97, 108, 46, 103, 101, 116]) = false := toList_bne (fun e => by subst e; revert ho; unfold Others; decide)
  have t9 : ((str l).toList == [103, 108, 111, 98, 97, 108, 46, 115, 101, 116]) = false := toList_bne (fun e => by subst e; revert ho; unfold Others; decide)
  have t10 : ((str l).toList == [109, 101, 109, 111, 114, 121, 46, 115, 105, 122, 101]) = false := toList_bne (fun e => by subst e; revert ho; unfold Others; decide)
  have t11 : ((str l).toList == [109, 101, 109, 111, 114, 121, 46, 103, 114, 111, 119]) = false := toList_bne (fun e => by subst e; revert ho; unfold Others; decide)
  have t12 : ((str l).toList == [98, 108, 111, 99, 107]) = false := toList_bne (fun e => by subst e; revert ho; unfold Others; decide)
  have t13 : ((str l).toList == [108, 111, 111, 112]) = false := toList_bne (fun e => by subst e; revert ho; unfold Others; decide)
  have t14 : ((str l).toList == [105, 102]) = false := toList_bne (fun e => by subst e; revert ho; unfold Others; decide)
  have t15 : ((str l).toList == [98, 114, 95, 116, 97, 98, 108, 101]) = false := toList_bne (fun e => by subst e; revert ho; unfold Others; decide)
  have t16 : ((str l).toList == [99, 97, 108, 108, 95, 105, 110, 100, 105, 114, 101, 99, 116]) = false := toList_bne (fun e => by subst e; revert ho; unfold Others; decide)
  have hc0 := fun wx => hasr_any (l.drop 1) [51, 50, 46, 108, 111, 97, 100] wx (by rw [List.length_drop]; omega) (by decide)
  rw [hb0, ← str_drop1 l] at hc0
  have HC0 := hide hc0; clear hc0 hb0
  have hc1 := fun wx => hasr_any (l.drop 1) [54, 52, 46, 108, 111, 97, 100] wx (by rw [List.length_drop]; omega) (by decide)
  rw [hb1, ← str_drop1 l] at hc1
  have HC1 := hide hc1; clear hc1 hb1
  have hc2 := fun wx => hasr_any (l.drop 1) [51, 50, 46, 115, 116, 111, 114, 101] wx (by rw [List.length_drop]; omega) (by decide)
  rw [hb2, ← str_drop1 l] at hc2
  have HC2 := hide hc2; clear hc2 hb2
  have hc3 := fun wx => hasr_any (l.drop 1) [54, 52, 46, 115, 116, 111, 114, 101] wx (by rw [List.length_drop]; omega) (by decide)
  rw [hb3, ← str_drop1 l] at hc3
  have HC3 := hide hc3; clear hc3 hb3
  clear ho hn hl
  generalize str l = s at *
  go_enter Tryz.func88, Tryz.ntmps88
  go_wp2_with fail
  refine (unhide H1).mono ?_
  rintro e w1 ⟨rfl, hb⟩
  have HB := hide hb; clear hb
  go_wp2_with fail
  refine (unhide HC0 _).mono ?_
  rintro e w2 ⟨rfl, rfl⟩
  go_wp2_with fail
  refine (unhide HC1 _).mono ?_
  rintro e w2 ⟨rfl, rfl⟩
  go_wp2_with fail
  refine (unhide HC2 _).mono ?_
  rintro e w2 ⟨rfl, rfl⟩
  go_wp2_with fail
  refine (unhide HC3 _).mono ?_
  rintro e w2 ⟨rfl, rfl⟩
  go_wp2
  go_ret2
  exact ⟨rfl, unhide HB⟩
theorem f_has4 (n : Nat) (l : List UInt8) (h : NameIs n l) (hn : l ≠ []) (hl : l.length < 100) (ho : Others l) (hb0 : hasF (l.drop 1) [51, 50, 46, 108, 111, 97, 100] = false) (hb1 : hasF (l.drop 1) [54, 52, 46, 108, 111, 97, 100] = false) (hb2 : hasF (l.drop 1) [51, 50, 46, 115, 116, 111, 114, 101] = false) (hb3 : hasF (l.drop 1) [54, 52, 46, 115, 116, 111, 114, 101] = false) : FormIs n 0 true := by
  intro w
  have h1 := h w
  have H1 := hide h1; clear h h1
  have hie : (str l).toList.isEmpty = false := str_ie hn
  have hz : 1 ≤ (str l).size := by rw [str_size]; cases l with
    | nil => exact absurd rfl hn
    | cons a l => simp
  have hz2 : (str l).size < 100 := hl
  have t0 : ((str l).toList == [105, 51, 50, 46, 99, 111, 110, 115, 116]) = false := toList_bne (fun e => by subst e; revert ho; unfold Others; decide)
  have t1 : ((str l).toList == [105, 54, 52, 46, 99, 111, 110, 115, 116]) = false := toList_bne (fun e => by subst e; revert ho; unfold Others; decide)
  have t2 : ((str l).toList == [98, 114]) = false := toList_bne (fun e => by subst e; revert ho; unfold Others; decide)
  have t3 : ((str l).toList == [98, 114, 95, 105, 102]) = false := toList_bne (fun e => by subst e; revert ho; unfold Others; decide)
  have t4 : ((str l).toList == [99, 97, 108, 108]) = false := toList_bne (fun e => by subst e; revert ho; unfold Others; decide)
  have t5 : ((str l).toList == [108, 111, 99, 97, 108, 46, 103, 101, 116]) = false := toList_bne (fun e => by subst e; revert ho; unfold Others; decide)
  have t6 : ((str l).toList == [108, 111, 99, 97, 108, 46, 115, 101, 116]) = false := toList_bne (fun e => by subst e; revert ho; unfold Others; decide)
  have t7 : ((str l).toList == [108, 111, 99, 97, 108, 46, 116, 101, 101]) = false := toList_bne (fun e => by subst e; revert ho; unfold Others; decide)
  have t8 : ((str l).toList == [103, 108, 111, 98, 97, 108, 46, 103, 101, 116]) = false := toList_bne (fun e => by subst e; revert ho; unfold Others; decide)
  have t9 : ((str l).toList == [103, 108, 111, 98, 97, 108, 46, 115, 101, 116]) = false := toList_bne (fun e => by subst e; revert ho; unfold Others; decide)
  have t10 : ((str l).toList == [109, 101, 109, 111, 114, 121, 46, 115, 105, 122, 101]) = false := toList_bne (fun e => by subst e; revert ho; unfold Others; decide)
  have t11 : ((str l).toList == [109, 101, 109, 111, 114, 121, 46, 103, 114, 111, 119]) = false := toList_bne (fun e => by subst e; revert ho; unfold Others; decide)
  have t12 : ((str l).toList == [98, 108, 111, 99, 107]) = false := toList_bne (fun e => by subst e; revert ho; unfold Others; decide)
  have t13 : ((str l).toList == [108, 111, 111, 112]) = false := toList_bne (fun e => by subst e; revert ho; unfold Others; decide)
  have t14 : ((str l).toList == [105, 102]) = false := toList_bne (fun e => by subst e; revert ho; unfold Others; decide)
  have t15 : ((str l).toList == [98, 114, 95, 116, 97, 98, 108, 101]) = false := toList_bne (fun e => by subst e; revert ho; unfold Others; decide)
  have t16 : ((str l).toList == [99, 97, 108, 108, 95, 105, 110, 100, 105, 114, 101, 99, 116]) = false := toList_bne (fun e => by subst e; revert ho; unfold Others; decide)
  have hc0 := fun wx => hasr_any (l.drop 1) [51, 50, 46, 108, 111, 97, 100] wx (by rw [List.length_drop]; omega) (by decide)
  rw [hb0, ← str_drop1 l] at hc0
  have HC0 := hide hc0; clear hc0 hb0
  have hc1 := fun wx => hasr_any (l.drop 1) [54, 52, 46, 108, 111, 97, 100] wx (by rw [List.length_drop]; omega) (by decide)
  rw [hb1, ← str_drop1 l] at hc1
  have HC1 := hide hc1; clear hc1 hb1
  have hc2 := fun wx => hasr_any (l.drop 1) [51, 50, 46, 115, 116, 111, 114, 101] wx (by rw [List.length_drop]; omega) (by decide)
  rw [hb2, ← str_drop1 l] at hc2
  have HC2 := hide hc2; clear hc2 hb2
  have hc3 := fun wx => hasr_any (l.drop 1) [54, 52, 46, 115, 116, 111, 114, 101] wx (by rw [List.length_drop]; omega) (by decide)
  rw [hb3, ← str_drop1 l] at hc3
  have HC3 := hide hc3; clear hc3 hb3
  clear ho hn hl
  generalize str l = s at *
  go_enter Tryz.func88, Tryz.ntmps88
  go_wp2_with fail
  refine (unhide H1).mono ?_
  rintro e w1 ⟨rfl, hb⟩
  have HB := hide hb; clear hb
  go_wp2_with fail
  refine (unhide HC0 _).mono ?_
  rintro e w2 ⟨rfl, rfl⟩
  go_wp2_with fail
  refine (unhide HC1 _).mono ?_
  rintro e w2 ⟨rfl, rfl⟩
  go_wp2_with fail
  refine (unhide HC2 _).mono ?_
  rintro e w2 ⟨rfl, rfl⟩
  go_wp2_with fail
  refine (unhide HC3 _).mono ?_
  rintro e w2 ⟨rfl, rfl⟩
  go_wp2
  go_ret2
  exact ⟨rfl, unhide HB⟩
theorem formr_any (n : Nat) (l : List UInt8) (h : NameIs n l) (hn : l ≠ []) (hl : l.length < 100) : FormIs n (formF l) true := by
  by_cases g0 : l = [105, 51, 50, 46, 99, 111, 110, 115, 116]
  · subst g0; exact f_i32_const n h
  by_cases g1 : l = [105, 54, 52, 46, 99, 111, 110, 115, 116]
  · subst g1; exact f_i64_const n h
  by_cases g2 : l = [98, 114]
  · subst g2; exact f_br n h
  by_cases g3 : l = [98, 114, 95, 105, 102]
  · subst g3; exact f_br_if n h
  by_cases g4 : l = [99, 97, 108, 108]
  · subst g4; exact f_call n h
  by_cases g5 : l = [108, 111, 99, 97, 108, 46, 103, 101, 116]
  · subst g5; exact f_local_get n h
  by_cases g6 : l = [108, 111, 99, 97, 108, 46, 115, 101, 116]
  · subst g6; exact f_local_set n h
  by_cases g7 : l = [108, 111, 99, 97, 108, 46, 116, 101, 101]
  · subst g7; exact f_local_tee n h
  by_cases g8 : l = [103, 108, 111, 98, 97, 108, 46, 103, 101, 116]
  · subst g8; exact f_global_get n h
  by_cases g9 : l = [103, 108, 111, 98, 97, 108, 46, 115, 101, 116]
  · subst g9; exact f_global_set n h
  by_cases g10 : l = [109, 101, 109, 111, 114, 121, 46, 115, 105, 122, 101]
  · subst g10; exact f_memory_size n h
  by_cases g11 : l = [109, 101, 109, 111, 114, 121, 46, 103, 114, 111, 119]
  · subst g11; exact f_memory_grow n h
  by_cases g12 : l = [98, 108, 111, 99, 107]
  · subst g12; exact f_block n h
  by_cases g13 : l = [108, 111, 111, 112]
  · subst g13; exact f_loop n h
  by_cases g14 : l = [105, 102]
  · subst g14; exact f_if n h
  by_cases g15 : l = [98, 114, 95, 116, 97, 98, 108, 101]
  · subst g15; exact f_br_table n h
  by_cases g16 : l = [99, 97, 108, 108, 95, 105, 110, 100, 105, 114, 101, 99, 116]
  · subst g16; exact f_call_indirect n h
  have ho : Others l := by
    unfold Others formT
    simp only [List.all_cons, List.all_nil, Bool.and_true, Bool.and_eq_true, Bool.not_eq_true', beq_eq_false_iff_ne, ne_eq]
    exact ⟨fun e => g0 e.symm, fun e => g1 e.symm, fun e => g2 e.symm, fun e => g3 e.symm, fun e => g4 e.symm, fun e => g5 e.symm, fun e => g6 e.symm, fun e => g7 e.symm, fun e => g8 e.symm, fun e => g9 e.symm, fun e => g10 e.symm, fun e => g11 e.symm, fun e => g12 e.symm, fun e => g13 e.symm, fun e => g14 e.symm, fun e => g15 e.symm, fun e => g16 e.symm⟩
  have hf : formF l = if formH l = true then 4 else 0 := by
    unfold formF
    rw [List.find?_eq_none.2 (fun p hp => by
      have := List.all_eq_true.1 ho p hp
      simpa using this)]
  rw [hf]
  unfold formH
  rcases hb0 : hasF (l.drop 1) [51, 50, 46, 108, 111, 97, 100] with _ | _
  · rcases hb1 : hasF (l.drop 1) [54, 52, 46, 108, 111, 97, 100] with _ | _
    · rcases hb2 : hasF (l.drop 1) [51, 50, 46, 115, 116, 111, 114, 101] with _ | _
      · rcases hb3 : hasF (l.drop 1) [54, 52, 46, 115, 116, 111, 114, 101] with _ | _
        · exact f_has4 n l h hn hl ho hb0 hb1 hb2 hb3
        · exact f_has3 n l h hn hl ho hb0 hb1 hb2 hb3
      · exact f_has2 n l h hn hl ho hb0 hb1 hb2
    · exact f_has1 n l h hn hl ho hb0 hb1
  · exact f_has0 n l h hn hl ho hb0
end Go.Proofs.YtglehoekehiaiaaGreatDoor
