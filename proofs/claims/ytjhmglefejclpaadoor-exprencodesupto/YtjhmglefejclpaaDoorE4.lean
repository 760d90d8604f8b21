/- E4: what follows, part by part: each part tells what it holds. -/
import Derived.Test.YtjhmglefejclpaaDoorE2
import Derived.BigQuiet
import Derived.Lib.Strings
import Derived.Test.YtjhmglefejclpaaDoorE3b

/- The document's has and Kind. -/
namespace Go.Proofs.YtjhmglefejclpaaDoor
open Go.RowKit
set_option linter.unusedVariables false

theorem str_size (l : List UInt8) : (str l).size = l.length := rfl
theorem str_extract (l : List UInt8) (a b : Nat) : (str l).extract a b = str ((l.drop a).take (b - a)) := by
  have h := Lib.extract_data (str l) a b
  apply Go.WideShapes.bytes_inj
  rw [h]; rfl
/-- does a text begin with another one? -/
def hasF (l b : List UInt8) : Bool := decide (b.length ≤ l.length) && (l.take b.length == b)
set_option maxRecDepth 100000 in
set_option maxHeartbeats 1600000 in
theorem hasr_any (l b : List UInt8) (w : World) (hl : l.length < 1000) (hb : b.length < 1000) :
    Calls Tryd.prog 45 #[.string (str l), .string (str b)] w fun e w' => e = .returned (.bool (hasF l b)) ∧ w = w' := by
  have hz := str_size l
  have hy := str_size b
  generalize hs : str l = s at *
  generalize hq : str b = q at *
  have HS := hide (And.intro hs hq); clear hs hq
  by_cases h2 : b.length ≤ l.length
  · have h3 : (q.size : Int) ≤ (s.size : Int) := by omega
    have h4 : s.size < 1000 := by omega
    have h5 : q.size < 1000 := by omega
    have HZ := hide (And.intro hz hy); clear hz hy hl hb
    have H2 := hide h2; clear h2
    go_enter Tryd.func45, Tryd.ntmps45
    go_wp2
    go_ret
    refine ⟨ret_bool ?_, rfl⟩
    have e1 := (unhide HZ).2
    rw [e1]
    rw [← (unhide HS).1, ← (unhide HS).2, str_extract, str_toList, str_toList]
    unfold hasF
    simp [unhide H2]
  · have h3 : ¬ (q.size : Int) ≤ (s.size : Int) := by omega
    have e : hasF l b = false := by unfold hasF; simp [h2]
    rw [e]
    clear hz hy hl hb h2
    go_enter Tryd.func45, Tryd.ntmps45
    go_wp2
    go_ret
    exact ⟨rfl, rfl⟩
end Go.Proofs.YtjhmglefejclpaaDoor

/- mandrelref04.Form where the name is told. -/
namespace Go.Proofs.YtjhmglefejclpaaDoor
open Go.RowKit
set_option linter.unusedVariables false

/-- Name gives this text -/
def NameIs (n : Nat) (l : List UInt8) : Prop := ∀ w, Calls Tryd.prog 44 #[.int .u8 n] w fun e w' => e = .returned (.string (str l)) ∧ Below w.heap.size w w'
def FormIs (n : Nat) (f : Int) (b : Bool) : Prop := ∀ w, Calls Tryd.prog 32 #[.int .u8 n] w fun e w' => e = .returned (.tuple #[.int .i64 f, .bool b]) ∧ Below w.heap.size w w'
set_option maxRecDepth 100000 in
set_option maxHeartbeats 1600000 in
theorem f_none (n : Nat) (h : NameIs n []) : FormIs n 0 false := by
  intro w
  have h1 := h w
  rw [show str [] = ⟨#[]⟩ from rfl] at h1
  have H1 := hide h1; clear h h1
  go_enter Tryd.func32, Tryd.ntmps32
  go_wp2_with fail
  refine (unhide H1).mono ?_
  rintro e w1 ⟨rfl, hb⟩
  have HB := hide hb; clear hb
  go_wp2
  go_ret2
  exact ⟨rfl, unhide HB⟩
set_option maxRecDepth 100000 in
set_option maxHeartbeats 1600000 in
theorem f_i32_const (n : Nat) (h : NameIs n [105, 51, 50, 46, 99, 111, 110, 115, 116]) : FormIs n 1 true := by
  intro w
  have h1 := h w
  rw [show str [105, 51, 50, 46, 99, 111, 110, 115, 116] = ⟨#[105, 51, 50, 46, 99, 111, 110, 115, 116]⟩ from rfl] at h1
  have H1 := hide h1; clear h h1
  go_enter Tryd.func32, Tryd.ntmps32
  go_wp2_with fail
  refine (unhide H1).mono ?_
  rintro e w1 ⟨rfl, hb⟩
  have HB := hide hb; clear hb
  go_wp2
  go_ret2
  exact ⟨rfl, unhide HB⟩
set_option maxRecDepth 100000 in
set_option maxHeartbeats 1600000 in
theorem f_i64_const (n : Nat) (h : NameIs n [105, 54, 52, 46, 99, 111, 110, 115, 116]) : FormIs n 2 true := by
  intro w
  have h1 := h w
  rw [show str [105, 54, 52, 46, 99, 111, 110, 115, 116] = ⟨#[105, 54, 52, 46, 99, 111, 110, 115, 116]⟩ from rfl] at h1
  have H1 := hide h1; clear h h1
  go_enter Tryd.func32, Tryd.ntmps32
  go_wp2_with fail
  refine (unhide H1).mono ?_
  rintro e w1 ⟨rfl, hb⟩
  have HB := hide hb; clear hb
  go_wp2
  go_ret2
  exact ⟨rfl, unhide HB⟩
set_option maxRecDepth 100000 in
set_option maxHeartbeats 1600000 in
theorem f_br (n : Nat) (h : NameIs n [98, 114]) : FormIs n 3 true := by
  intro w
  have h1 := h w
  rw [show str [98, 114] = ⟨#[98, 114]⟩ from rfl] at h1
  have H1 := hide h1; clear h h1
  go_enter Tryd.func32, Tryd.ntmps32
  go_wp2_with fail
  refine (unhide H1).mono ?_
  rintro e w1 ⟨rfl, hb⟩
  have HB := hide hb; clear hb
  go_wp2
  go_ret2
  exact ⟨rfl, unhide HB⟩
set_option maxRecDepth 100000 in
set_option maxHeartbeats 1600000 in
theorem f_br_if (n : Nat) (h : NameIs n [98, 114, 95, 105, 102]) : FormIs n 3 true := by
  intro w
  have h1 := h w
  rw [show str [98, 114, 95, 105, 102] = ⟨#[98, 114, 95, 105, 102]⟩ from rfl] at h1
  have H1 := hide h1; clear h h1
  go_enter Tryd.func32, Tryd.ntmps32
  go_wp2_with fail
  refine (unhide H1).mono ?_
  rintro e w1 ⟨rfl, hb⟩
  have HB := hide hb; clear hb
  go_wp2
  go_ret2
  exact ⟨rfl, unhide HB⟩
set_option maxRecDepth 100000 in
set_option maxHeartbeats 1600000 in
theorem f_call (n : Nat) (h : NameIs n [99, 97, 108, 108]) : FormIs n 3 true := by
  intro w
  have h1 := h w
  rw [show str [99, 97, 108, 108] = ⟨#[99, 97, 108, 108]⟩ from rfl] at h1
  have H1 := hide h1; clear h h1
  go_enter Tryd.func32, Tryd.ntmps32
  go_wp2_with fail
  refine (unhide H1).mono ?_
  rintro e w1 ⟨rfl, hb⟩
  have HB := hide hb; clear hb
  go_wp2
  go_ret2
  exact ⟨rfl, unhide HB⟩
set_option maxRecDepth 100000 in
set_option maxHeartbeats 1600000 in
theorem f_local_get (n : Nat) (h : NameIs n [108, 111, 99, 97, 108, 46, 103, 101, 116]) : FormIs n 3 true := by
  intro w
  have h1 := h w
  rw [show str [108, 111, 99, 97, 108, 46, 103, 101, 116] = ⟨#[108, 111, 99, 97, 108, 46, 103, 101, 116]⟩ from rfl] at h1
  have H1 := hide h1; clear h h1
  go_enter Tryd.func32, Tryd.ntmps32
  go_wp2_with fail
  refine (unhide H1).mono ?_
  rintro e w1 ⟨rfl, hb⟩
  have HB := hide hb; clear hb
  go_wp2
  go_ret2
  exact ⟨rfl, unhide HB⟩
set_option maxRecDepth 100000 in
set_option maxHeartbeats 1600000 in
theorem f_local_set (n : Nat) (h : NameIs n [108, 111, 99, 97, 108, 46, 115, 101, 116]) : FormIs n 3 true := by
  intro w
  have h1 := h w
  rw [show str [108, 111, 99, 97, 108, 46, 115, 101, 116] = ⟨#[108, 111, 99, 97, 108, 46, 115, 101, 116]⟩ from rfl] at h1
  have H1 := hide h1; clear h h1
  go_enter Tryd.func32, Tryd.ntmps32
  go_wp2_with fail
  refine (unhide H1).mono ?_
  rintro e w1 ⟨rfl, hb⟩
  have HB := hide hb; clear hb
  go_wp2
  go_ret2
  exact ⟨rfl, unhide HB⟩
set_option maxRecDepth 100000 in
set_option maxHeartbeats 1600000 in
theorem f_local_tee (n : Nat) (h : NameIs n [108, 111, 99, 97, 108, 46, 116, 101, 101]) : FormIs n 3 true := by
  intro w
  have h1 := h w
  rw [show str [108, 111, 99, 97, 108, 46, 116, 101, 101] = ⟨#[108, 111, 99, 97, 108, 46, 116, 101, 101]⟩ from rfl] at h1
  have H1 := hide h1; clear h h1
  go_enter Tryd.func32, Tryd.ntmps32
  go_wp2_with fail
  refine (unhide H1).mono ?_
  rintro e w1 ⟨rfl, hb⟩
  have HB := hide hb; clear hb
  go_wp2
  go_ret2
  exact ⟨rfl, unhide HB⟩
set_option maxRecDepth 100000 in
set_option maxHeartbeats 1600000 in
theorem f_global_get (n : Nat) (h : NameIs n [103, 108, 111, 98, 97, 108, 46, 103, 101, 116]) : FormIs n 3 true := by
  intro w
  have h1 := h w
  rw [show str [103, 108, 111, 98, 97, 108, 46, 103, 101, 116] = ⟨#[103, 108, 111, 98, 97, 108, 46, 103, 101, 116]⟩ from rfl] at h1
  have H1 := hide h1; clear h h1
  go_enter Tryd.func32, Tryd.ntmps32
  go_wp2_with fail
  refine (unhide H1).mono ?_
  rintro e w1 ⟨rfl, hb⟩
  have HB := hide hb; clear hb
  go_wp2
  go_ret2
  exact ⟨rfl, unhide HB⟩
set_option maxRecDepth 100000 in
set_option maxHeartbeats 1600000 in
theorem f_global_set (n : Nat) (h : NameIs n [103, 108, 111, 98, 97, 108, 46, 115, 101, 116]) : FormIs n 3 true := by
  intro w
  have h1 := h w
  rw [show str [103, 108, 111, 98, 97, 108, 46, 115, 101, 116] = ⟨#[103, 108, 111, 98, 97, 108, 46, 115, 101, 116]⟩ from rfl] at h1
  have H1 := hide h1; clear h h1
  go_enter Tryd.func32, Tryd.ntmps32
  go_wp2_with fail
  refine (unhide H1).mono ?_
  rintro e w1 ⟨rfl, hb⟩
  have HB := hide hb; clear hb
  go_wp2
  go_ret2
  exact ⟨rfl, unhide HB⟩
set_option maxRecDepth 100000 in
set_option maxHeartbeats 1600000 in
theorem f_memory_size (n : Nat) (h : NameIs n [109, 101, 109, 111, 114, 121, 46, 115, 105, 122, 101]) : FormIs n 5 true := by
  intro w
  have h1 := h w
  rw [show str [109, 101, 109, 111, 114, 121, 46, 115, 105, 122, 101] = ⟨#[109, 101, 109, 111, 114, 121, 46, 115, 105, 122, 101]⟩ from rfl] at h1
  have H1 := hide h1; clear h h1
  go_enter Tryd.func32, Tryd.ntmps32
  go_wp2_with fail
  refine (unhide H1).mono ?_
  rintro e w1 ⟨rfl, hb⟩
  have HB := hide hb; clear hb
  go_wp2
  go_ret2
  exact ⟨rfl, unhide HB⟩
set_option maxRecDepth 100000 in
set_option maxHeartbeats 1600000 in
theorem f_memory_grow (n : Nat) (h : NameIs n [109, 101, 109, 111, 114, 121, 46, 103, 114, 111, 119]) : FormIs n 5 true := by
  intro w
  have h1 := h w
  rw [show str [109, 101, 109, 111, 114, 121, 46, 103, 114, 111, 119] = ⟨#[109, 101, 109, 111, 114, 121, 46, 103, 114, 111, 119]⟩ from rfl] at h1
  have H1 := hide h1; clear h h1
  go_enter Tryd.func32, Tryd.ntmps32
  go_wp2_with fail
  refine (unhide H1).mono ?_
  rintro e w1 ⟨rfl, hb⟩
  have HB := hide hb; clear hb
  go_wp2
  go_ret2
  exact ⟨rfl, unhide HB⟩
set_option maxRecDepth 100000 in
set_option maxHeartbeats 1600000 in
theorem f_block (n : Nat) (h : NameIs n [98, 108, 111, 99, 107]) : FormIs n 6 true := by
  intro w
  have h1 := h w
  rw [show str [98, 108, 111, 99, 107] = ⟨#[98, 108, 111, 99, 107]⟩ from rfl] at h1
  have H1 := hide h1; clear h h1
  go_enter Tryd.func32, Tryd.ntmps32
  go_wp2_with fail
  refine (unhide H1).mono ?_
  rintro e w1 ⟨rfl, hb⟩
  have HB := hide hb; clear hb
  go_wp2
  go_ret2
  exact ⟨rfl, unhide HB⟩
set_option maxRecDepth 100000 in
set_option maxHeartbeats 1600000 in
theorem f_loop (n : Nat) (h : NameIs n [108, 111, 111, 112]) : FormIs n 6 true := by
  intro w
  have h1 := h w
  rw [show str [108, 111, 111, 112] = ⟨#[108, 111, 111, 112]⟩ from rfl] at h1
  have H1 := hide h1; clear h h1
  go_enter Tryd.func32, Tryd.ntmps32
  go_wp2_with fail
  refine (unhide H1).mono ?_
  rintro e w1 ⟨rfl, hb⟩
  have HB := hide hb; clear hb
  go_wp2
  go_ret2
  exact ⟨rfl, unhide HB⟩
set_option maxRecDepth 100000 in
set_option maxHeartbeats 1600000 in
theorem f_if (n : Nat) (h : NameIs n [105, 102]) : FormIs n 7 true := by
  intro w
  have h1 := h w
  rw [show str [105, 102] = ⟨#[105, 102]⟩ from rfl] at h1
  have H1 := hide h1; clear h h1
  go_enter Tryd.func32, Tryd.ntmps32
  go_wp2_with fail
  refine (unhide H1).mono ?_
  rintro e w1 ⟨rfl, hb⟩
  have HB := hide hb; clear hb
  go_wp2
  go_ret2
  exact ⟨rfl, unhide HB⟩
set_option maxRecDepth 100000 in
set_option maxHeartbeats 1600000 in
theorem f_br_table (n : Nat) (h : NameIs n [98, 114, 95, 116, 97, 98, 108, 101]) : FormIs n 8 true := by
  intro w
  have h1 := h w
  rw [show str [98, 114, 95, 116, 97, 98, 108, 101] = ⟨#[98, 114, 95, 116, 97, 98, 108, 101]⟩ from rfl] at h1
  have H1 := hide h1; clear h h1
  go_enter Tryd.func32, Tryd.ntmps32
  go_wp2_with fail
  refine (unhide H1).mono ?_
  rintro e w1 ⟨rfl, hb⟩
  have HB := hide hb; clear hb
  go_wp2
  go_ret2
  exact ⟨rfl, unhide HB⟩
set_option maxRecDepth 100000 in
set_option maxHeartbeats 1600000 in
theorem f_call_indirect (n : Nat) (h : NameIs n [99, 97, 108, 108, 95, 105, 110, 100, 105, 114, 101, 99, 116]) : FormIs n 9 true := by
  intro w
  have h1 := h w
  rw [show str [99, 97, 108, 108, 95, 105, 110, 100, 105, 114, 101, 99, 116] = ⟨#[99, 97, 108, 108, 95, 105, 110, 100, 105, 114, 101, 99, 116]⟩ from rfl] at h1
  have H1 := hide h1; clear h h1
  go_enter Tryd.func32, Tryd.ntmps32
  go_wp2_with fail
  refine (unhide H1).mono ?_
  rintro e w1 ⟨rfl, hb⟩
  have HB := hide hb; clear hb
  go_wp2
  go_ret2
  exact ⟨rfl, unhide HB⟩
end Go.Proofs.YtjhmglefejclpaaDoor

/- mandrelref04.Form: what it returns. -/
namespace Go.Proofs.YtjhmglefejclpaaDoor
open Go.RowKit
set_option linter.unusedVariables false

def formT : List (List UInt8 × Int) := [([105, 51, 50, 46, 99, 111, 110, 115, 116], 1), ([105, 54, 52, 46, 99, 111, 110, 115, 116], 2), ([98, 114], 3), ([98, 114, 95, 105, 102], 3), ([99, 97, 108, 108], 3), ([108, 111, 99, 97, 108, 46, 103, 101, 116], 3), ([108, 111, 99, 97, 108, 46, 115, 101, 116], 3), ([108, 111, 99, 97, 108, 46, 116, 101, 101], 3), ([103, 108, 111, 98, 97, 108, 46, 103, 101, 116], 3), ([103, 108, 111, 98, 97, 108, 46, 115, 101, 116], 3), ([109, 101, 109, 111, 114, 121, 46, 115, 105, 122, 101], 5), ([109, 101, 109, 111, 114, 121, 46, 103, 114, 111, 119], 5), ([98, 108, 111, 99, 107], 6), ([108, 111, 111, 112], 6), ([105, 102], 7), ([98, 114, 95, 116, 97, 98, 108, 101], 8), ([99, 97, 108, 108, 95, 105, 110, 100, 105, 114, 101, 99, 116], 9)]
def formH (l : List UInt8) : Bool := hasF (l.drop 1) [51, 50, 46, 108, 111, 97, 100] || hasF (l.drop 1) [54, 52, 46, 108, 111, 97, 100] || hasF (l.drop 1) [51, 50, 46, 115, 116, 111, 114, 101] || hasF (l.drop 1) [54, 52, 46, 115, 116, 111, 114, 101]
/-- the form of a name -/
def formF (l : List UInt8) : Int := match formT.find? (fun p => p.1 == l) with
  | some p => p.2
  | none => if formH l = true then 4 else 0
/-- a text that is none of those told -/
def Others (l : List UInt8) : Prop := formT.all (fun p => !(p.1 == l)) = true
theorem str_drop1 (l : List UInt8) : (str l).extract 1 (str l).size = str (l.drop 1) := by
  rw [str_extract, List.take_of_length_le]
  rw [str_size, List.length_drop]; omega
theorem toList_bne {l a : List UInt8} (h : ¬ l = a) : ((str l).toList == a) = false := by
  rw [str_toList, beq_eq_false_iff_ne]; exact h
set_option maxRecDepth 100000 in
set_option maxHeartbeats 1600000 in
theorem f_has0 (n : Nat) (l : List UInt8) (h : NameIs n l) (hn : l ≠ []) (hl : l.length < 100) (ho : Others l) (hb0 : hasF (l.drop 1) [51, 50, 46, 108, 111, 97, 100] = true) : FormIs n 4 true := by
  intro w
  have h1 := h w
  have H1 := hide h1; clear h h1
  have hie : (str l).toList.isEmpty = false := str_ie hn
  have hz : 1 ≤ (str l).size := by rw [str_size]; cases l with
    | nil => exact absurd rfl hn
    | cons a l => simp
  have hz2 : (str l).size < 100 := hl
  have t0 : ((str l).toList == [105, 51, 50, 46, 99, 111, 110, 115, 116]) = false := toList_bne (fun e => by subst e; revert ho; unfold Others; decide)
  have t1 : ((str l).toList == [105, 54, 52, 46, 99, 111, 110, 115, 116]) = false := toList_bne (fun e => by subst e; revert ho; unfold Others; decide)
  have t2 : ((str l).toList == [98, 114]) = false := toList_bne (fun e => by subst e; revert ho; unfold Others; decide)
  have t3 : ((str l).toList == [98, 114, 95, 105, 102]) = false := toList_bne (fun e => by subst e; revert ho; unfold Others; decide)
  have t4 : ((str l).toList == [99, 97, 108, 108]) = false := toList_bne (fun e => by subst e; revert ho; unfold Others; decide)
  have t5 : ((str l).toList == [108, 111, 99, 97, 108, 46, 103, 101, 116]) = false := toList_bne (fun e => by subst e; revert ho; unfold Others; decide)
  have t6 : ((str l).toList == [108, 111, 99, 97, 108, 46, 115, 101, 116]) = false := toList_bne (fun e => by subst e; revert ho; unfold Others; decide)
  have t7 : ((str l).toList == [108, 111, 99, 97, 108, 46, 116, 101, 101]) = false := toList_bne (fun e => by subst e; revert ho; unfold Others; decide)
  have t8 : ((str l).toList == [103, 108, 111, 98, 97, 108, 46, 103, 101, 116]) = false := toList_bne (fun e => by subst e; revert ho; unfold Others; decide)
  have t9 : ((str l).toList == [103, 108, 111, 98, 97, 108, 46, 115, 101, 116]) = false := toList_bne (fun e => by subst e; revert ho; unfold Others; decide)
  have t10 : ((str l).toList == [109, 101, 109, 111, 114, 121, 46, 115, 105, 122, 101]) = false := toList_bne (fun e => by subst e; revert ho; unfold Others; decide)
  have t11 : ((str l).toList == [109, 101, 109, 111, 114, 121, 46, 103, 114, 111, 119]) = false := toList_bne (fun e => by subst e; revert ho; unfold Others; decide)
  have t12 : ((str l).toList == [98, 108, 111, 99, 107]) = false := toList_bne (fun e => by subst e; revert ho; unfold Others; decide)
  have t13 : ((str l).toList == [108, 111, 111, 112]) = false := toList_bne (fun e => by subst e; revert ho; unfold Others; decide)
  have t14 : ((str l).toList == [105, 102]) = false := toList_bne (fun e => by subst e; revert ho; unfold Others; decide)
  have t15 : ((str l).toList == [98, 114, 95, 116, 97, 98, 108, 101]) = false := toList_bne (fun e => by subst e; revert ho; unfold Others; decide)
  have t16 : ((str l).toList == [99, 97, 108, 108, 95, 105, 110, 100, 105, 114, 101, 99, 116]) = false := toList_bne (fun e => by subst e; revert ho; unfold Others; decide)
  have hc0 := fun wx => hasr_any (l.drop 1) [51, 50, 46, 108, 111, 97, 100] wx (by rw [List.length_drop]; omega) (by decide)
  rw [hb0, ← str_drop1 l] at hc0
  have HC0 := hide hc0; clear hc0 hb0
  clear ho hn hl
  generalize str l = s at *
  go_enter Tryd.func32, Tryd.ntmps32
  go_wp2_with fail
  refine (unhide H1).mono ?_
  rintro e w1 ⟨rfl, hb⟩
  have HB := hide hb; clear hb
  go_wp2_with fail
  refine (unhide HC0 _).mono ?_
  rintro e w2 ⟨rfl, rfl⟩
  go_wp2
  go_ret2
  exact ⟨rfl, unhide HB⟩
set_option maxRecDepth 100000 in
set_option maxHeartbeats 1600000 in
theorem f_has1 (n : Nat) (l : List UInt8) (h : NameIs n l) (hn : l ≠ []) (hl : l.length < 100) (ho : Others l) (hb0 : hasF (l.drop 1) [51, 50, 46, 108, 111, 97, 100] = false) (hb1 : hasF (l.drop 1) [54, 52, 46, 108, 111, 97, 100] = true) : FormIs n 4 true := by
  intro w
  have h1 := h w
  have H1 := hide h1; clear h h1
  have hie : (str l).toList.isEmpty = false := str_ie hn
  have hz : 1 ≤ (str l).size := by rw [str_size]; cases l with
    | nil => exact absurd rfl hn
    | cons a l => simp
  have hz2 : (str l).size < 100 := hl
  have t0 : ((str l).toList == [105, 51, 50, 46, 99, 111, 110, 115, 116]) = false := toList_bne (fun e => by subst e; revert ho; unfold Others; decide)
  have t1 : ((str l).toList == [105, 54, 52, 46, 99, 111, 110, 115, 116]) = false := toList_bne (fun e => by subst e; revert ho; unfold Others; decide)
  have t2 : ((str l).toList == [98, 114]) = false := toList_bne (fun e => by subst e; revert ho; unfold Others; decide)
  have t3 : ((str l).toList == [98, 114, 95, 105, 102]) = false := toList_bne (fun e => by subst e; revert ho; unfold Others; decide)
  have t4 : ((str l).toList == [99, 97, 108, 108]) = false := toList_bne (fun e => by subst e; revert ho; unfold Others; decide)
  have t5 : ((str l).toList == [108, 111, 99, 97, 108, 46, 103, 101, 116]) = false := toList_bne (fun e => by subst e; revert ho; unfold Others; decide)
  have t6 : ((str l).toList == [108, 111, 99, 97, 108, 46, 115, 101, 116]) = false := toList_bne (fun e => by subst e; revert ho; unfold Others; decide)
  have t7 : ((str l).toList == [108, 111, 99, 97, 108, 46, 116, 101, 101]) = false := toList_bne (fun e => by subst e; revert ho; unfold Others; decide)
  have t8 : ((str l).toList == [103, 108, 111, 98, 97, 108, 46, 103, 101, 116]) = false := toList_bne (fun e => by subst e; revert ho; unfold Others; decide)
  have t9 : ((str l).toList == [103, 108, 111, 98, 97, 108, 46, 115, 101, 116]) = false := toList_bne (fun e => by subst e; revert ho; unfold Others; decide)
  have t10 : ((str l).toList == [109, 101, 109, 111, 114, 121, 46, 115, 105, 122, 101]) = false := toList_bne (fun e => by subst e; revert ho; unfold Others; decide)
  have t11 : ((str l).toList == [109, 101, 109, 111, 114, 121, 46, 103, 114, 111, 119]) = false := toList_bne (fun e => by subst e; revert ho; unfold Others; decide)
  have t12 : ((str l).toList == [98, 108, 111, 99, 107]) = false := toList_bne (fun e => by subst e; revert ho; unfold Others; decide)
  have t13 : ((str l).toList == [108, 111, 111, 112]) = false := toList_bne (fun e => by subst e; revert ho; unfold Others; decide)
  have t14 : ((str l).toList == [105, 102]) = false := toList_bne (fun e => by subst e; revert ho; unfold Others; decide)
  have t15 : ((str l).toList == [98, 114, 95, 116, 97, 98, 108, 101]) = false := toList_bne (fun e => by subst e; revert ho; unfold Others; decide)
  have t16 : ((str l).toList == [99, 97, 108, 108, 95, 105, 110, 100, 105, 114, 101, 99, 116]) = false := toList_bne (fun e => by subst e; revert ho; unfold Others; decide)
  have hc0 := fun wx => hasr_any (l.drop 1) [51, 50, 46, 108, 111, 97, 100] wx (by rw [List.length_drop]; omega) (by decide)
  rw [hb0, ← str_drop1 l] at hc0
  have HC0 := hide hc0; clear hc0 hb0
  have hc1 := fun wx => hasr_any (l.drop 1) [54, 52, 46, 108, 111, 97, 100] wx (by rw [List.length_drop]; omega) (by decide)
  rw [hb1, ← str_drop1 l] at hc1
  have HC1 := hide hc1; clear hc1 hb1
  clear ho hn hl
  generalize str l = s at *
  go_enter Tryd.func32, Tryd.ntmps32
  go_wp2_with fail
  refine (unhide H1).mono ?_
  rintro e w1 ⟨rfl, hb⟩
  have HB := hide hb; clear hb
  go_wp2_with fail
  refine (unhide HC0 _).mono ?_
  rintro e w2 ⟨rfl, rfl⟩
  go_wp2_with fail
  refine (unhide HC1 _).mono ?_
  rintro e w2 ⟨rfl, rfl⟩
  go_wp2
  go_ret2
  exact ⟨rfl, unhide HB⟩
set_option maxRecDepth 100000 in
set_option maxHeartbeats 1600000 in
theorem f_has2 (n : Nat) (l : List UInt8) (h : NameIs n l) (hn : l ≠ []) (hl : l.length < 100) (ho : Others l) (hb0 : hasF (l.drop 1) [51, 50, 46, 108, 111, 97, 100] = false) (hb1 : hasF (l.drop 1) [54, 52, 46, 108, 111, 97, 100] = false) (hb2 : hasF (l.drop 1) [51, 50, 46, 115, 116, 111, 114, 101] = true) : FormIs n 4 true := by
  intro w
  have h1 := h w
  have H1 := hide h1; clear h h1
  have hie : (str l).toList.isEmpty = false := str_ie hn
  have hz : 1 ≤ (str l).size := by rw [str_size]; cases l with
    | nil => exact absurd rfl hn
    | cons a l => simp
  have hz2 : (str l).size < 100 := hl
  have t0 : ((str l).toList == [105, 51, 50, 46, 99, 111, 110, 115, 116]) = false := toList_bne (fun e => by subst e; revert ho; unfold Others; decide)
  have t1 : ((str l).toList == [105, 54, 52, 46, 99, 111, 110, 115, 116]) = false := toList_bne (fun e => by subst e; revert ho; unfold Others; decide)
  have t2 : ((str l).toList == [98, 114]) = false := toList_bne (fun e => by subst e; revert ho; unfold Others; decide)
  have t3 : ((str l).toList == [98, 114, 95, 105, 102]) = false := toList_bne (fun e => by subst e; revert ho; unfold Others; decide)
  have t4 : ((str l).toList == [99, 97, 108, 108]) = false := toList_bne (fun e => by subst e; revert ho; unfold Others; decide)
  have t5 : ((str l).toList == [108, 111, 99, 97, 108, 46, 103, 101, 116]) = false := toList_bne (fun e => by subst e; revert ho; unfold Others; decide)
  have t6 : ((str l).toList == [108, 111, 99, 97, 108, 46, 115, 101, 116]) = false := toList_bne (fun e => by subst e; revert ho; unfold Others; decide)
  have t7 : ((str l).toList == [108, 111, 99, 97, 108, 46, 116, 101, 101]) = false := toList_bne (fun e => by subst e; revert ho; unfold Others; decide)
  have t8 : ((str l).toList == [103, 108, 111, 98, 97, 108, 46, 103, 101, 116]) = false := toList_bne (fun e => by subst e; revert ho; unfold Others; decide)
  have t9 : ((str l).toList == [103, 108, 111, 98, 97, 108, 46, 115, 101, 116]) = false := toList_bne (fun e => by subst e; revert ho; unfold Others; decide)
  have t10 : ((str l).toList == [109, 101, 109, 111, 114, 121, 46, 115, 105, 122, 101]) = false := toList_bne (fun e => by subst e; revert ho; unfold Others; decide)
  have t11 : ((str l).toList == [109, 101, 109, 111, 114, 121, 46, 103, 114, 111, 119]) = false := toList_bne (fun e => by subst e; revert ho; unfold Others; decide)
  have t12 : ((str l).toList == [98, 108, 111, 99, 107]) = false := toList_bne (fun e => by subst e; revert ho; unfold Others; decide)
  have t13 : ((str l).toList == [108, 111, 111, 112]) = false := toList_bne (fun e => by subst e; revert ho; unfold Others; decide)
  have t14 : ((str l).toList == [105, 102]) = false := toList_bne (fun e => by subst e; revert ho; unfold Others; decide)
  have t15 : ((str l).toList == [98, 114, 95, 116, 97, 98, 108, 101]) = false := toList_bne (fun e => by subst e; revert ho; unfold Others; decide)
  have t16 : ((str l).toList == [99, 97, 108, 108, 95, 105, 110, 100, 105, 114, 101, 99, 116]) = false := toList_bne (fun e => by subst e; revert ho; unfold Others; decide)
  have hc0 := fun wx => hasr_any (l.drop 1) [51, 50, 46, 108, 111, 97, 100] wx (by rw [List.length_drop]; omega) (by decide)
  rw [hb0, ← str_drop1 l] at hc0
  have HC0 := hide hc0; clear hc0 hb0
  have hc1 := fun wx => hasr_any (l.drop 1) [54, 52, 46, 108, 111, 97, 100] wx (by rw [List.length_drop]; omega) (by decide)
  rw [hb1, ← str_drop1 l] at hc1
  have HC1 := hide hc1; clear hc1 hb1
  have hc2 := fun wx => hasr_any (l.drop 1) [51, 50, 46, 115, 116, 111, 114, 101] wx (by rw [List.length_drop]; omega) (by decide)
  rw [hb2, ← str_drop1 l] at hc2
  have HC2 := hide hc2; clear hc2 hb2
  clear ho hn hl
  generalize str l = s at *
  go_enter Tryd.func32, Tryd.ntmps32
  go_wp2_with fail
  refine (unhide H1).mono ?_
  rintro e w1 ⟨rfl, hb⟩
  have HB := hide hb; clear hb
  go_wp2_with fail
  refine (unhide HC0 _).mono ?_
  rintro e w2 ⟨rfl, rfl⟩
  go_wp2_with fail
  refine (unhide HC1 _).mono ?_
  rintro e w2 ⟨rfl, rfl⟩
  go_wp2_with fail
  refine (unhide HC2 _).mono ?_
  rintro e w2 ⟨rfl, rfl⟩
  go_wp2
  go_ret2
  exact ⟨rfl, unhide HB⟩
set_option maxRecDepth 100000 in
set_option maxHeartbeats 1600000 in
theorem f_has3 (n : Nat) (l : List UInt8) (h : NameIs n l) (hn : l ≠ []) (hl : l.length < 100) (ho : Others l) (hb0 : hasF (l.drop 1) [51, 50, 46, 108, 111, 97, 100] = false) (hb1 : hasF (l.drop 1) [54, 52, 46, 108, 111, 97, 100] = false) (hb2 : hasF (l.drop 1) [51, 50, 46, 115, 116, 111, 114, 101] = false) (hb3 : hasF (l.drop 1) [54, 52, 46, 115, 116, 111, 114, 101] = true) : FormIs n 4 true := by
  intro w
  have h1 := h w
  have H1 := hide h1; clear h h1
  have hie : (str l).toList.isEmpty = false := str_ie hn
  have hz : 1 ≤ (str l).size := by rw [str_size]; cases l with
    | nil => exact absurd rfl hn
    | cons a l => simp
  have hz2 : (str l).size < 100 := hl
  have t0 : ((str l).toList == [105, 51, 50, 46, 99, 111, 110, 115, 116]) = false := toList_bne (fun e => by subst e; revert ho; unfold Others; decide)
  have t1 : ((str l).toList == [105, 54, 52, 46, 99, 111, 110, 115, 116]) = false := toList_bne (fun e => by subst e; revert ho; unfold Others; decide)
  have t2 : ((str l).toList == [98, 114]) = false := toList_bne (fun e => by subst e; revert ho; unfold Others; decide)
  have t3 : ((str l).toList == [98, 114, 95, 105, 102]) = false := toList_bne (fun e => by subst e; revert ho; unfold Others; decide)
  have t4 : ((str l).toList == [99, 97, 108, 108]) = false := toList_bne (fun e => by subst e; revert ho; unfold Others; decide)
  have t5 : ((str l).toList == [108, 111, 99, 97, 108, 46, 103, 101, 116]) = false := toList_bne (fun e => by subst e; revert ho; unfold Others; decide)
  have t6 : ((str l).toList == [108, 111, 99, 97, 108, 46, 115, 101, 116]) = false := toList_bne (fun e => by subst e; revert ho; unfold Others; decide)
  have t7 : ((str l).toList == [108, 111, 99, 97, 108, 46, 116, 101, 101]) = false := toList_bne (fun e => by subst e; revert ho; unfold Others; decide)
  have t8 : ((str l).toList == [103, 108, 111, 98, 97, 108, 46, 103, 101, 116]) = false := toList_bne (fun e => by subst e; revert ho; unfold Others; decide)
  have t9 : ((str l).toList == [103, 108, 111, 98, 97, 108, 46, 115, 101, 116]) = false := toList_bne (fun e => by subst e; revert ho; unfold Others; decide)
  have t10 : ((str l).toList == [109, 101, 109, 111, 114, 121, 46, 115, 105, 122, 101]) = false := toList_bne (fun e => by subst e; revert ho; unfold Others; decide)
  have t11 : ((str l).toList == [109, 101, 109, 111, 114, 121, 46, 103, 114, 111, 119]) = false := toList_bne (fun e => by subst e; revert ho; unfold Others; decide)
  have t12 : ((str l).toList == [98, 108, 111, 99, 107]) = false := toList_bne (fun e => by subst e; revert ho; unfold Others; decide)
  have t13 : ((str l).toList == [108, 111, 111, 112]) = false := toList_bne (fun e => by subst e; revert ho; unfold Others; decide)
  have t14 : ((str l).toList == [105, 102]) = false := toList_bne (fun e => by subst e; revert ho; unfold Others; decide)
  have t15 : ((str l).toList == [98, 114, 95, 116, 97, 98, 108, 101]) = false := toList_bne (fun e => by subst e; revert ho; unfold Others; decide)
  have t16 : ((str l).toList == [99, 97, 108, 108, 95, 105, 110, 100, 105, 114, 101, 99, 116]) = false := toList_bne (fun e => by subst e; revert ho; unfold Others; decide)
  have hc0 := fun wx => hasr_any (l.drop 1) [51, 50, 46, 108, 111, 97, 100] wx (by rw [List.length_drop]; omega) (by decide)
  rw [hb0, ← str_drop1 l] at hc0
  have HC0 := hide hc0; clear hc0 hb0
  have hc1 := fun wx => hasr_any (l.drop 1) [54, 52, 46, 108, 111, 97, 100] wx (by rw [List.length_drop]; omega) (by decide)
  rw [hb1, ← str_drop1 l] at hc1
  have HC1 := hide hc1; clear hc1 hb1
  have hc2 := fun wx => hasr_any (l.drop 1) [51, 50, 46, 115, 116, 111, 114, 101] wx (by rw [List.length_drop]; omega) (by decide)
  rw [hb2, ← str_drop1 l] at hc2
  have HC2 := hide hc2; clear hc2 hb2
  have hc3 := fun wx => hasr_any (l.drop 1) [54, 52, 46, 115, 116, 111, 114, 101] wx (by rw [List.length_drop]; omega) (by decide)
  rw [hb3, ← str_drop1 l] at hc3
  have HC3 := hide hc3; clear hc3 hb3
  clear ho hn hl
  generalize str l = s at *
  go_enter Tryd.func32, Tryd.ntmps32
  go_wp2_with fail
  refine (unhide H1).mono ?_
  rintro e w1 ⟨rfl, hb⟩
  have HB := hide hb; clear hb
  go_wp2_with fail
  refine (unhide HC0 _).mono ?_
  rintro e w2 ⟨rfl, rfl⟩
  go_wp2_with fail
  refine (unhide HC1 _).mono ?_
  rintro e w2 ⟨rfl, rfl⟩
  go_wp2_with fail
  refine (unhide HC2 _).mono ?_
  rintro e w2 ⟨rfl, rfl⟩
  go_wp2_with fail
  refine (unhide HC3 _).mono ?_
  rintro e w2 ⟨rfl, rfl⟩
  go_wp2
  go_ret2
  exact ⟨rfl, unhide HB⟩
set_option maxRecDepth 100000 in
set_option maxHeartbeats 1600000 in
theorem f_has4 (n : Nat) (l : List UInt8) (h : NameIs n l) (hn : l ≠ []) (hl : l.length < 100) (ho : Others l) (hb0 : hasF (l.drop 1) [51, 50, 46, 108, 111, 97, 100] = false) (hb1 : hasF (l.drop 1) [54, 52, 46, 108, 111, 97, 100] = false) (hb2 : hasF (l.drop 1) [51, 50, 46, 115, 116, 111, 114, 101] = false) (hb3 : hasF (l.drop 1) [54, 52, 46, 115, 116, 111, 114, 101] = false) : FormIs n 0 true := by
  intro w
  have h1 := h w
  have H1 := hide h1; clear h h1
  have hie : (str l).toList.isEmpty = false := str_ie hn
  have hz : 1 ≤ (str l).size := by rw [str_size]; cases l with
    | nil => exact absurd rfl hn
    | cons a l => simp
  have hz2 : (str l).size < 100 := hl
  have t0 : ((str l).toList == [105, 51, 50, 46, 99, 111, 110, 115, 116]) = false := toList_bne (fun e => by subst e; revert ho; unfold Others; decide)
  have t1 : ((str l).toList == [105, 54, 52, 46, 99, 111, 110, 115, 116]) = false := toList_bne (fun e => by subst e; revert ho; unfold Others; decide)
  have t2 : ((str l).toList == [98, 114]) = false := toList_bne (fun e => by subst e; revert ho; unfold Others; decide)
  have t3 : ((str l).toList == [98, 114, 95, 105, 102]) = false := toList_bne (fun e => by subst e; revert ho; unfold Others; decide)
  have t4 : ((str l).toList == [99, 97, 108, 108]) = false := toList_bne (fun e => by subst e; revert ho; unfold Others; decide)
  have t5 : ((str l).toList == [108, 111, 99, 97, 108, 46, 103, 101, 116]) = false := toList_bne (fun e => by subst e; revert ho; unfold Others; decide)
  have t6 : ((str l).toList == [108, 111, 99, 97, 108, 46, 115, 101, 116]) = false := toList_bne (fun e => by subst e; revert ho; unfold Others; decide)
  have t7 : ((str l).toList == [108, 111, 99, 97, 108, 46, 116, 101, 101]) = false := toList_bne (fun e => by subst e; revert ho; unfold Others; decide)
  have t8 : ((str l).toList == [103, 108, 111, 98, 97, 108, 46, 103, 101, 116]) = false := toList_bne (fun e => by subst e; revert ho; unfold Others; decide)
  have t9 : ((str l).toList == [103, 108, 111, 98, 97, 108, 46, 115, 101, 116]) = false := toList_bne (fun e => by subst e; revert ho; unfold Others; decide)
  have t10 : ((str l).toList == [109, 101, 109, 111, 114, 121, 46, 115, 105, 122, 101]) = false := toList_bne (fun e => by subst e; revert ho; unfold Others; decide)
  have t11 : ((str l).toList == [109, 101, 109, 111, 114, 121, 46, 103, 114, 111, 119]) = false := toList_bne (fun e => by subst e; revert ho; unfold Others; decide)
  have t12 : ((str l).toList == [98, 108, 111, 99, 107]) = false := toList_bne (fun e => by subst e; revert ho; unfold Others; decide)
  have t13 : ((str l).toList == [108, 111, 111, 112]) = false := toList_bne (fun e => by subst e; revert ho; unfold Others; decide)
  have t14 : ((str l).toList == [105, 102]) = false := toList_bne (fun e => by subst e; revert ho; unfold Others; decide)
  have t15 : ((str l).toList == [98, 114, 95, 116, 97, 98, 108, 101]) = false := toList_bne (fun e => by subst e; revert ho; unfold Others; decide)
  have t16 : ((str l).toList == [99, 97, 108, 108, 95, 105, 110, 100, 105, 114, 101, 99, 116]) = false := toList_bne (fun e => by subst e; revert ho; unfold Others; decide)
  have hc0 := fun wx => hasr_any (l.drop 1) [51, 50, 46, 108, 111, 97, 100] wx (by rw [List.length_drop]; omega) (by decide)
  rw [hb0, ← str_drop1 l] at hc0
  have HC0 := hide hc0; clear hc0 hb0
  have hc1 := fun wx => hasr_any (l.drop 1) [54, 52, 46, 108, 111, 97, 100] wx (by rw [List.length_drop]; omega) (by decide)
  rw [hb1, ← str_drop1 l] at hc1
  have HC1 := hide hc1; clear hc1 hb1
  have hc2 := fun wx => hasr_any (l.drop 1) [51, 50, 46, 115, 116, 111, 114, 101] wx (by rw [List.length_drop]; omega) (by decide)
  rw [hb2, ← str_drop1 l] at hc2
  have HC2 := hide hc2; clear hc2 hb2
  have hc3 := fun wx => hasr_any (l.drop 1) [54, 52, 46, 115, 116, 111, 114, 101] wx (by rw [List.length_drop]; omega) (by decide)
  rw [hb3, ← str_drop1 l] at hc3
  have HC3 := hide hc3; clear hc3 hb3
  clear ho hn hl
  generalize str l = s at *
  go_enter Tryd.func32, Tryd.ntmps32
  go_wp2_with fail
  refine (unhide H1).mono ?_
  rintro e w1 ⟨rfl, hb⟩
  have HB := hide hb; clear hb
  go_wp2_with fail
  refine (unhide HC0 _).mono ?_
  rintro e w2 ⟨rfl, rfl⟩
  go_wp2_with fail
  refine (unhide HC1 _).mono ?_
  rintro e w2 ⟨rfl, rfl⟩
  go_wp2_with fail
  refine (unhide HC2 _).mono ?_
  rintro e w2 ⟨rfl, rfl⟩
  go_wp2_with fail
  refine (unhide HC3 _).mono ?_
  rintro e w2 ⟨rfl, rfl⟩
  go_wp2
  go_ret2
  exact ⟨rfl, unhide HB⟩
theorem formr_any (n : Nat) (l : List UInt8) (h : NameIs n l) (hn : l ≠ []) (hl : l.length < 100) : FormIs n (formF l) true := by
  by_cases g0 : l = [105, 51, 50, 46, 99, 111, 110, 115, 116]
  · subst g0; exact f_i32_const n h
  by_cases g1 : l = [105, 54, 52, 46, 99, 111, 110, 115, 116]
  · subst g1; exact f_i64_const n h
  by_cases g2 : l = [98, 114]
  · subst g2; exact f_br n h
  by_cases g3 : l = [98, 114, 95, 105, 102]
  · subst g3; exact f_br_if n h
  by_cases g4 : l = [99, 97, 108, 108]
  · subst g4; exact f_call n h
  by_cases g5 : l = [108, 111, 99, 97, 108, 46, 103, 101, 116]
  · subst g5; exact f_local_get n h
  by_cases g6 : l = [108, 111, 99, 97, 108, 46, 115, 101, 116]
  · subst g6; exact f_local_set n h
  by_cases g7 : l = [108, 111, 99, 97, 108, 46, 116, 101, 101]
  · subst g7; exact f_local_tee n h
  by_cases g8 : l = [103, 108, 111, 98, 97, 108, 46, 103, 101, 116]
  · subst g8; exact f_global_get n h
  by_cases g9 : l = [103, 108, 111, 98, 97, 108, 46, 115, 101, 116]
  · subst g9; exact f_global_set n h
  by_cases g10 : l = [109, 101, 109, 111, 114, 121, 46, 115, 105, 122, 101]
  · subst g10; exact f_memory_size n h
  by_cases g11 : l = [109, 101, 109, 111, 114, 121, 46, 103, 114, 111, 119]
  · subst g11; exact f_memory_grow n h
  by_cases g12 : l = [98, 108, 111, 99, 107]
  · subst g12; exact f_block n h
  by_cases g13 : l = [108, 111, 111, 112]
  · subst g13; exact f_loop n h
  by_cases g14 : l = [105, 102]
  · subst g14; exact f_if n h
  by_cases g15 : l = [98, 114, 95, 116, 97, 98, 108, 101]
  · subst g15; exact f_br_table n h
  by_cases g16 : l = [99, 97, 108, 108, 95, 105, 110, 100, 105, 114, 101, 99, 116]
  · subst g16; exact f_call_indirect n h
  have ho : Others l := by
    unfold Others formT
    simp only [List.all_cons, List.all_nil, Bool.and_true, Bool.and_eq_true, Bool.not_eq_true', beq_eq_false_iff_ne, ne_eq]
    exact ⟨fun e => g0 e.symm, fun e => g1 e.symm, fun e => g2 e.symm, fun e => g3 e.symm, fun e => g4 e.symm, fun e => g5 e.symm, fun e => g6 e.symm, fun e => g7 e.symm, fun e => g8 e.symm, fun e => g9 e.symm, fun e => g10 e.symm, fun e => g11 e.symm, fun e => g12 e.symm, fun e => g13 e.symm, fun e => g14 e.symm, fun e => g15 e.symm, fun e => g16 e.symm⟩
  have hf : formF l = if formH l = true then 4 else 0 := by
    unfold formF
    rw [List.find?_eq_none.2 (fun p hp => by
      have := List.all_eq_true.1 ho p hp
      simpa using this)]
  rw [hf]
  unfold formH
  rcases hb0 : hasF (l.drop 1) [51, 50, 46, 108, 111, 97, 100] with _ | _
  · rcases hb1 : hasF (l.drop 1) [54, 52, 46, 108, 111, 97, 100] with _ | _
    · rcases hb2 : hasF (l.drop 1) [51, 50, 46, 115, 116, 111, 114, 101] with _ | _
      · rcases hb3 : hasF (l.drop 1) [54, 52, 46, 115, 116, 111, 114, 101] with _ | _
        · exact f_has4 n l h hn hl ho hb0 hb1 hb2 hb3
        · exact f_has3 n l h hn hl ho hb0 hb1 hb2 hb3
      · exact f_has2 n l h hn hl ho hb0 hb1 hb2
    · exact f_has1 n l h hn hl ho hb0 hb1
  · exact f_has0 n l h hn hl ho hb0
end Go.Proofs.YtjhmglefejclpaaDoor

/- mandrelref04.Float: what it returns. -/
namespace Go.Proofs.YtjhmglefejclpaaDoor
open Go.RowKit
set_option linter.unusedVariables false

def FlIs (n : Nat) (b : Bool) : Prop := ∀ w, Calls Tryd.prog 50 #[.int .u8 n] w fun e w' => e = .returned (.bool b) ∧ w = w'
set_option maxRecDepth 100000 in
set_option maxHeartbeats 1600000 in
theorem l_42 : FlIs 42 true := by
  intro w
  go_enter Tryd.func50, Tryd.ntmps50
  go_wp2
  go_ret
  first | exact ⟨rfl, rfl⟩ | exact ⟨ret_bool (decide_eq_true (by omega)), rfl⟩ | exact ⟨ret_bool (decide_eq_false (by omega)), rfl⟩ | exact ⟨ret_bool (by simp; omega), rfl⟩
set_option maxRecDepth 100000 in
set_option maxHeartbeats 1600000 in
theorem l_43 : FlIs 43 true := by
  intro w
  go_enter Tryd.func50, Tryd.ntmps50
  go_wp2
  go_ret
  first | exact ⟨rfl, rfl⟩ | exact ⟨ret_bool (decide_eq_true (by omega)), rfl⟩ | exact ⟨ret_bool (decide_eq_false (by omega)), rfl⟩ | exact ⟨ret_bool (by simp; omega), rfl⟩
set_option maxRecDepth 100000 in
set_option maxHeartbeats 1600000 in
theorem l_56 : FlIs 56 true := by
  intro w
  go_enter Tryd.func50, Tryd.ntmps50
  go_wp2
  go_ret
  first | exact ⟨rfl, rfl⟩ | exact ⟨ret_bool (decide_eq_true (by omega)), rfl⟩ | exact ⟨ret_bool (decide_eq_false (by omega)), rfl⟩ | exact ⟨ret_bool (by simp; omega), rfl⟩
set_option maxRecDepth 100000 in
set_option maxHeartbeats 1600000 in
theorem l_57 : FlIs 57 true := by
  intro w
  go_enter Tryd.func50, Tryd.ntmps50
  go_wp2
  go_ret
  first | exact ⟨rfl, rfl⟩ | exact ⟨ret_bool (decide_eq_true (by omega)), rfl⟩ | exact ⟨ret_bool (decide_eq_false (by omega)), rfl⟩ | exact ⟨ret_bool (by simp; omega), rfl⟩
set_option maxRecDepth 100000 in
set_option maxHeartbeats 1600000 in
theorem l_67 : FlIs 67 true := by
  intro w
  go_enter Tryd.func50, Tryd.ntmps50
  go_wp2
  go_ret
  first | exact ⟨rfl, rfl⟩ | exact ⟨ret_bool (decide_eq_true (by omega)), rfl⟩ | exact ⟨ret_bool (decide_eq_false (by omega)), rfl⟩ | exact ⟨ret_bool (by simp; omega), rfl⟩
set_option maxRecDepth 100000 in
set_option maxHeartbeats 1600000 in
theorem l_68 : FlIs 68 true := by
  intro w
  go_enter Tryd.func50, Tryd.ntmps50
  go_wp2
  go_ret
  first | exact ⟨rfl, rfl⟩ | exact ⟨ret_bool (decide_eq_true (by omega)), rfl⟩ | exact ⟨ret_bool (decide_eq_false (by omega)), rfl⟩ | exact ⟨ret_bool (by simp; omega), rfl⟩
set_option maxRecDepth 100000 in
set_option maxHeartbeats 1600000 in
theorem l_91 (n : Nat) (h0 : 91 ≤ (n : Int)) (h1 : (n : Int) ≤ 102) : FlIs n true := by
  intro w
  have t42 : ((n : Int) == 42) = false := by simp; omega
  have t43 : ((n : Int) == 43) = false := by simp; omega
  have t56 : ((n : Int) == 56) = false := by simp; omega
  have t57 : ((n : Int) == 57) = false := by simp; omega
  have t67 : ((n : Int) == 67) = false := by simp; omega
  have t68 : ((n : Int) == 68) = false := by simp; omega
  go_enter Tryd.func50, Tryd.ntmps50
  go_wp2
  go_ret
  first | exact ⟨rfl, rfl⟩ | exact ⟨ret_bool (decide_eq_true (by omega)), rfl⟩ | exact ⟨ret_bool (decide_eq_false (by omega)), rfl⟩ | exact ⟨ret_bool (by simp; omega), rfl⟩
set_option maxRecDepth 100000 in
set_option maxHeartbeats 1600000 in
theorem l_139 (n : Nat) (h0 : 139 ≤ (n : Int)) (h1 : (n : Int) ≤ 166) : FlIs n true := by
  intro w
  have t42 : ((n : Int) == 42) = false := by simp; omega
  have t43 : ((n : Int) == 43) = false := by simp; omega
  have t56 : ((n : Int) == 56) = false := by simp; omega
  have t57 : ((n : Int) == 57) = false := by simp; omega
  have t67 : ((n : Int) == 67) = false := by simp; omega
  have t68 : ((n : Int) == 68) = false := by simp; omega
  go_enter Tryd.func50, Tryd.ntmps50
  go_wp2
  go_ret
  first | exact ⟨rfl, rfl⟩ | exact ⟨ret_bool (decide_eq_true (by omega)), rfl⟩ | exact ⟨ret_bool (decide_eq_false (by omega)), rfl⟩ | exact ⟨ret_bool (by simp; omega), rfl⟩
set_option maxRecDepth 100000 in
set_option maxHeartbeats 1600000 in
theorem l_168 (n : Nat) (h0 : 168 ≤ (n : Int)) (h1 : (n : Int) ≤ 171) : FlIs n true := by
  intro w
  have t42 : ((n : Int) == 42) = false := by simp; omega
  have t43 : ((n : Int) == 43) = false := by simp; omega
  have t56 : ((n : Int) == 56) = false := by simp; omega
  have t57 : ((n : Int) == 57) = false := by simp; omega
  have t67 : ((n : Int) == 67) = false := by simp; omega
  have t68 : ((n : Int) == 68) = false := by simp; omega
  go_enter Tryd.func50, Tryd.ntmps50
  go_wp2
  go_ret
  first | exact ⟨rfl, rfl⟩ | exact ⟨ret_bool (decide_eq_true (by omega)), rfl⟩ | exact ⟨ret_bool (decide_eq_false (by omega)), rfl⟩ | exact ⟨ret_bool (by simp; omega), rfl⟩
set_option maxRecDepth 100000 in
set_option maxHeartbeats 1600000 in
theorem l_174 (n : Nat) (h0 : 174 ≤ (n : Int)) (h1 : (n : Int) ≤ 191) : FlIs n true := by
  intro w
  have t42 : ((n : Int) == 42) = false := by simp; omega
  have t43 : ((n : Int) == 43) = false := by simp; omega
  have t56 : ((n : Int) == 56) = false := by simp; omega
  have t57 : ((n : Int) == 57) = false := by simp; omega
  have t67 : ((n : Int) == 67) = false := by simp; omega
  have t68 : ((n : Int) == 68) = false := by simp; omega
  go_enter Tryd.func50, Tryd.ntmps50
  go_wp2
  go_ret
  first | exact ⟨rfl, rfl⟩ | exact ⟨ret_bool (decide_eq_true (by omega)), rfl⟩ | exact ⟨ret_bool (decide_eq_false (by omega)), rfl⟩ | exact ⟨ret_bool (by simp; omega), rfl⟩
set_option maxRecDepth 100000 in
set_option maxHeartbeats 1600000 in
theorem l_0 (n : Nat) (h0 : 0 ≤ (n : Int)) (h1 : (n : Int) ≤ 41) : FlIs n false := by
  intro w
  have t42 : ((n : Int) == 42) = false := by simp; omega
  have t43 : ((n : Int) == 43) = false := by simp; omega
  have t56 : ((n : Int) == 56) = false := by simp; omega
  have t57 : ((n : Int) == 57) = false := by simp; omega
  have t67 : ((n : Int) == 67) = false := by simp; omega
  have t68 : ((n : Int) == 68) = false := by simp; omega
  go_enter Tryd.func50, Tryd.ntmps50
  go_wp2
  go_ret
  first | exact ⟨rfl, rfl⟩ | exact ⟨ret_bool (decide_eq_true (by omega)), rfl⟩ | exact ⟨ret_bool (decide_eq_false (by omega)), rfl⟩ | exact ⟨ret_bool (by simp; omega), rfl⟩
set_option maxRecDepth 100000 in
set_option maxHeartbeats 1600000 in
theorem l_44 (n : Nat) (h0 : 44 ≤ (n : Int)) (h1 : (n : Int) ≤ 55) : FlIs n false := by
  intro w
  have t42 : ((n : Int) == 42) = false := by simp; omega
  have t43 : ((n : Int) == 43) = false := by simp; omega
  have t56 : ((n : Int) == 56) = false := by simp; omega
  have t57 : ((n : Int) == 57) = false := by simp; omega
  have t67 : ((n : Int) == 67) = false := by simp; omega
  have t68 : ((n : Int) == 68) = false := by simp; omega
  go_enter Tryd.func50, Tryd.ntmps50
  go_wp2
  go_ret
  first | exact ⟨rfl, rfl⟩ | exact ⟨ret_bool (decide_eq_true (by omega)), rfl⟩ | exact ⟨ret_bool (decide_eq_false (by omega)), rfl⟩ | exact ⟨ret_bool (by simp; omega), rfl⟩
set_option maxRecDepth 100000 in
set_option maxHeartbeats 1600000 in
theorem l_58 (n : Nat) (h0 : 58 ≤ (n : Int)) (h1 : (n : Int) ≤ 66) : FlIs n false := by
  intro w
  have t42 : ((n : Int) == 42) = false := by simp; omega
  have t43 : ((n : Int) == 43) = false := by simp; omega
  have t56 : ((n : Int) == 56) = false := by simp; omega
  have t57 : ((n : Int) == 57) = false := by simp; omega
  have t67 : ((n : Int) == 67) = false := by simp; omega
  have t68 : ((n : Int) == 68) = false := by simp; omega
  go_enter Tryd.func50, Tryd.ntmps50
  go_wp2
  go_ret
  first | exact ⟨rfl, rfl⟩ | exact ⟨ret_bool (decide_eq_true (by omega)), rfl⟩ | exact ⟨ret_bool (decide_eq_false (by omega)), rfl⟩ | exact ⟨ret_bool (by simp; omega), rfl⟩
set_option maxRecDepth 100000 in
set_option maxHeartbeats 1600000 in
theorem l_69 (n : Nat) (h0 : 69 ≤ (n : Int)) (h1 : (n : Int) ≤ 90) : FlIs n false := by
  intro w
  have t42 : ((n : Int) == 42) = false := by simp; omega
  have t43 : ((n : Int) == 43) = false := by simp; omega
  have t56 : ((n : Int) == 56) = false := by simp; omega
  have t57 : ((n : Int) == 57) = false := by simp; omega
  have t67 : ((n : Int) == 67) = false := by simp; omega
  have t68 : ((n : Int) == 68) = false := by simp; omega
  go_enter Tryd.func50, Tryd.ntmps50
  go_wp2
  go_ret
  first | exact ⟨rfl, rfl⟩ | exact ⟨ret_bool (decide_eq_true (by omega)), rfl⟩ | exact ⟨ret_bool (decide_eq_false (by omega)), rfl⟩ | exact ⟨ret_bool (by simp; omega), rfl⟩
set_option maxRecDepth 100000 in
set_option maxHeartbeats 1600000 in
theorem l_103 (n : Nat) (h0 : 103 ≤ (n : Int)) (h1 : (n : Int) ≤ 138) : FlIs n false := by
  intro w
  have t42 : ((n : Int) == 42) = false := by simp; omega
  have t43 : ((n : Int) == 43) = false := by simp; omega
  have t56 : ((n : Int) == 56) = false := by simp; omega
  have t57 : ((n : Int) == 57) = false := by simp; omega
  have t67 : ((n : Int) == 67) = false := by simp; omega
  have t68 : ((n : Int) == 68) = false := by simp; omega
  go_enter Tryd.func50, Tryd.ntmps50
  go_wp2
  go_ret
  first | exact ⟨rfl, rfl⟩ | exact ⟨ret_bool (decide_eq_true (by omega)), rfl⟩ | exact ⟨ret_bool (decide_eq_false (by omega)), rfl⟩ | exact ⟨ret_bool (by simp; omega), rfl⟩
set_option maxRecDepth 100000 in
set_option maxHeartbeats 1600000 in
theorem l_167 (n : Nat) (h0 : 167 ≤ (n : Int)) (h1 : (n : Int) ≤ 167) : FlIs n false := by
  intro w
  have t42 : ((n : Int) == 42) = false := by simp; omega
  have t43 : ((n : Int) == 43) = false := by simp; omega
  have t56 : ((n : Int) == 56) = false := by simp; omega
  have t57 : ((n : Int) == 57) = false := by simp; omega
  have t67 : ((n : Int) == 67) = false := by simp; omega
  have t68 : ((n : Int) == 68) = false := by simp; omega
  go_enter Tryd.func50, Tryd.ntmps50
  go_wp2
  go_ret
  first | exact ⟨rfl, rfl⟩ | exact ⟨ret_bool (decide_eq_true (by omega)), rfl⟩ | exact ⟨ret_bool (decide_eq_false (by omega)), rfl⟩ | exact ⟨ret_bool (by simp; omega), rfl⟩
set_option maxRecDepth 100000 in
set_option maxHeartbeats 1600000 in
theorem l_172 (n : Nat) (h0 : 172 ≤ (n : Int)) (h1 : (n : Int) ≤ 173) : FlIs n false := by
  intro w
  have t42 : ((n : Int) == 42) = false := by simp; omega
  have t43 : ((n : Int) == 43) = false := by simp; omega
  have t56 : ((n : Int) == 56) = false := by simp; omega
  have t57 : ((n : Int) == 57) = false := by simp; omega
  have t67 : ((n : Int) == 67) = false := by simp; omega
  have t68 : ((n : Int) == 68) = false := by simp; omega
  go_enter Tryd.func50, Tryd.ntmps50
  go_wp2
  go_ret
  first | exact ⟨rfl, rfl⟩ | exact ⟨ret_bool (decide_eq_true (by omega)), rfl⟩ | exact ⟨ret_bool (decide_eq_false (by omega)), rfl⟩ | exact ⟨ret_bool (by simp; omega), rfl⟩
set_option maxRecDepth 100000 in
set_option maxHeartbeats 1600000 in
theorem l_192 (n : Nat) (h0 : 192 ≤ (n : Int)) (h1 : (n : Int) ≤ 255) : FlIs n false := by
  intro w
  have t42 : ((n : Int) == 42) = false := by simp; omega
  have t43 : ((n : Int) == 43) = false := by simp; omega
  have t56 : ((n : Int) == 56) = false := by simp; omega
  have t57 : ((n : Int) == 57) = false := by simp; omega
  have t67 : ((n : Int) == 67) = false := by simp; omega
  have t68 : ((n : Int) == 68) = false := by simp; omega
  go_enter Tryd.func50, Tryd.ntmps50
  go_wp2
  go_ret
  first | exact ⟨rfl, rfl⟩ | exact ⟨ret_bool (decide_eq_true (by omega)), rfl⟩ | exact ⟨ret_bool (decide_eq_false (by omega)), rfl⟩ | exact ⟨ret_bool (by simp; omega), rfl⟩
set_option maxRecDepth 100000 in
theorem fl_all : (∀ n : Nat, n < 256 → ((91 ≤ n ∧ n ≤ 102) ∨ (139 ≤ n ∧ n ≤ 166) ∨ (168 ≤ n ∧ n ≤ 171) ∨ (174 ≤ n ∧ n ≤ 191)) → flt n = true) ∧ (∀ n : Nat, n < 256 → ((0 ≤ n ∧ n ≤ 41) ∨ (44 ≤ n ∧ n ≤ 55) ∨ (58 ≤ n ∧ n ≤ 66) ∨ (69 ≤ n ∧ n ≤ 90) ∨ (103 ≤ n ∧ n ≤ 138) ∨ (167 ≤ n ∧ n ≤ 167) ∨ (172 ≤ n ∧ n ≤ 173) ∨ (192 ≤ n ∧ n ≤ 255)) → flt n = false) := by decide
set_option maxRecDepth 100000 in
theorem flr_any (n : Nat) (hn : n < 256) : FlIs n (flt n) := by
  by_cases e42 : n = 42
  · subst e42; exact l_42
  by_cases e43 : n = 43
  · subst e43; exact l_43
  by_cases e56 : n = 56
  · subst e56; exact l_56
  by_cases e57 : n = 57
  · subst e57; exact l_57
  by_cases e67 : n = 67
  · subst e67; exact l_67
  by_cases e68 : n = 68
  · subst e68; exact l_68
  by_cases r91 : 91 ≤ n ∧ n ≤ 102
  · rw [fl_all.1 n hn (by omega)]
    exact l_91 n (by omega) (by omega)
  by_cases r139 : 139 ≤ n ∧ n ≤ 166
  · rw [fl_all.1 n hn (by omega)]
    exact l_139 n (by omega) (by omega)
  by_cases r168 : 168 ≤ n ∧ n ≤ 171
  · rw [fl_all.1 n hn (by omega)]
    exact l_168 n (by omega) (by omega)
  by_cases r174 : 174 ≤ n ∧ n ≤ 191
  · rw [fl_all.1 n hn (by omega)]
    exact l_174 n (by omega) (by omega)
  by_cases r0 : 0 ≤ n ∧ n ≤ 41
  · rw [fl_all.2 n hn (by omega)]
    exact l_0 n (by omega) (by omega)
  by_cases r44 : 44 ≤ n ∧ n ≤ 55
  · rw [fl_all.2 n hn (by omega)]
    exact l_44 n (by omega) (by omega)
  by_cases r58 : 58 ≤ n ∧ n ≤ 66
  · rw [fl_all.2 n hn (by omega)]
    exact l_58 n (by omega) (by omega)
  by_cases r69 : 69 ≤ n ∧ n ≤ 90
  · rw [fl_all.2 n hn (by omega)]
    exact l_69 n (by omega) (by omega)
  by_cases r103 : 103 ≤ n ∧ n ≤ 138
  · rw [fl_all.2 n hn (by omega)]
    exact l_103 n (by omega) (by omega)
  by_cases r167 : 167 ≤ n ∧ n ≤ 167
  · rw [fl_all.2 n hn (by omega)]
    exact l_167 n (by omega) (by omega)
  by_cases r172 : 172 ≤ n ∧ n ≤ 173
  · rw [fl_all.2 n hn (by omega)]
    exact l_172 n (by omega) (by omega)
  by_cases r192 : 192 ≤ n ∧ n ≤ 255
  · rw [fl_all.2 n hn (by omega)]
    exact l_192 n (by omega) (by omega)
  omega
end Go.Proofs.YtjhmglefejclpaaDoor

/- mandrelref04.Name of every number; Op. -/
namespace Go.Proofs.YtjhmglefejclpaaDoor
open Go.RowKit
set_option linter.unusedVariables false

set_option maxRecDepth 100000 in
theorem gap_all : ∀ n, n < 256 → ((5 ≤ n ∧ n ≤ 11) ∨ (18 ≤ n ∧ n ≤ 25) ∨ (28 ≤ n ∧ n ≤ 31) ∨ (37 ≤ n ∧ n ≤ 39) ∨ (42 ≤ n ∧ n ≤ 43) ∨ (56 ≤ n ∧ n ≤ 57) ∨ (168 ≤ n ∧ n ≤ 171) ∨ (174 ≤ n ∧ n ≤ 255)) → nm n = [] := by decide
set_option maxRecDepth 100000 in
theorem two_b : ((List.range 256).all fun n => !(decide (67 ≤ n) && decide (n ≤ 166)) || ((qn n).1 == [] && (qn n).2 == 0 && nm n == []) || ((qn n).2 == 32 && nm n == [105, 51, 50, 46] ++ (qn n).1 && !((qn n).1 == []) && decide ((qn n).1.length < 100)) || ((qn n).2 == 64 && nm n == [105, 54, 52, 46] ++ (qn n).1 && !((qn n).1 == []) && decide ((qn n).1.length < 100))) = true := by kernel_rfl
theorem two_all (n : Nat) (hn : n < 256) (h : 67 ≤ n ∧ n ≤ 166) : ((qn n = ([], 0) ∧ nm n = []) ∨ (qn n = ((qn n).1, 32) ∧ nm n = [105, 51, 50, 46] ++ (qn n).1 ∧ (qn n).1 ≠ [] ∧ (qn n).1.length < 100) ∨ (qn n = ((qn n).1, 64) ∧ nm n = [105, 54, 52, 46] ++ (qn n).1 ∧ (qn n).1 ≠ [] ∧ (qn n).1.length < 100)) := by
  have h1 := List.all_eq_true.1 two_b n (List.mem_range.2 hn)
  generalize qn n = x at *
  generalize nm n = y at *
  obtain ⟨x1, x2⟩ := x
  simp only [h.1, h.2, decide_true, Bool.and_true, Bool.not_true, Bool.false_or, Bool.or_eq_true, Bool.and_eq_true, beq_iff_eq, Bool.not_eq_true', beq_eq_false_iff_ne, decide_eq_true_eq] at h1
  rcases h1 with (⟨⟨h1, h2⟩, h3⟩ | ⟨⟨⟨h1, h2⟩, h3⟩, h4⟩) | ⟨⟨⟨h1, h2⟩, h3⟩, h4⟩
  · subst h1 h2; exact .inl ⟨rfl, h3⟩
  · subst h1; exact .inr (.inl ⟨rfl, h2, h3, h4⟩)
  · subst h1; exact .inr (.inr ⟨rfl, h2, h3, h4⟩)
set_option maxRecDepth 100000 in
theorem own_all : (∀ k, k < 5 → c1.getD k [] = nm k) ∧ (∀ k, k < 6 → c2.getD k [] = nm (12 + k)) ∧ (∀ k, k < 5 → c3.getD k [] = nm (32 + k)) ∧ (∀ k, k < 12 → c4.getD k [] = nm (44 + k)) ∧ (∀ k, k < 9 → c5.getD k [] = nm (58 + k)) := by decide
set_option maxRecDepth 100000 in
theorem namer_any (n : Nat) (hn : n < 256) : NameIs n (nm n) := by
  intro w
  by_cases a0 : n < 5
  · have := rn_0 (n - 0) (by omega) w
    rw [own_all.1 (n - 0) (by omega)] at this
    exact this
  by_cases a1 : 12 ≤ n ∧ n < 18
  · have := rn_12 (n - 12) (by omega) w
    rw [own_all.2.1 (n - 12) (by omega)] at this
    rw [show (12 : Int) + ((n - 12 : Nat) : Int) = n by omega, show 12 + (n - 12) = n by omega] at this
    exact this
  by_cases a2 : 32 ≤ n ∧ n < 37
  · have := rn_32 (n - 32) (by omega) w
    rw [own_all.2.2.1 (n - 32) (by omega)] at this
    rw [show (32 : Int) + ((n - 32 : Nat) : Int) = n by omega, show 32 + (n - 32) = n by omega] at this
    exact this
  by_cases a3 : 44 ≤ n ∧ n < 56
  · have := rn_44 (n - 44) (by omega) w
    rw [own_all.2.2.2.1 (n - 44) (by omega)] at this
    rw [show (44 : Int) + ((n - 44 : Nat) : Int) = n by omega, show 44 + (n - 44) = n by omega] at this
    exact this
  by_cases a4 : 58 ≤ n ∧ n < 67
  · have := rn_58 (n - 58) (by omega) w
    rw [own_all.2.2.2.2 (n - 58) (by omega)] at this
    rw [show (58 : Int) + ((n - 58 : Nat) : Int) = n by omega, show 58 + (n - 58) = n by omega] at this
    exact this
  by_cases e26 : n = 26
  · subst e26; exact rn_26 w
  by_cases e27 : n = 27
  · subst e27; exact rn_27 w
  by_cases e40 : n = 40
  · subst e40; exact rn_40 w
  by_cases e41 : n = 41
  · subst e41; exact rn_41 w
  by_cases e167 : n = 167
  · subst e167; exact rn_167 w
  by_cases e172 : n = 172
  · subst e172; exact rn_172 w
  by_cases e173 : n = 173
  · subst e173; exact rn_173 w
  by_cases b : 67 ≤ n ∧ n ≤ 166
  · have hq := fun wx => nam_any n hn wx
    rcases two_all n hn b with ⟨h1, h2⟩ | ⟨h1, h2, h3, h4⟩ | ⟨h1, h2, h3, h4⟩
    · rw [h1] at hq
      rw [h2]
      exact rg_67e n (by omega) (by omega) hq w
    · rw [h2]
      rw [h1] at hq
      exact rg_67i n (by omega) (by omega) _ h3 h4 hq w
    · rw [h2]
      rw [h1] at hq
      exact rg_67l n (by omega) (by omega) _ h3 h4 hq w
  have hg : (5 ≤ n ∧ n ≤ 11) ∨ (18 ≤ n ∧ n ≤ 25) ∨ (28 ≤ n ∧ n ≤ 31) ∨ (37 ≤ n ∧ n ≤ 39) ∨ (42 ≤ n ∧ n ≤ 43) ∨ (56 ≤ n ∧ n ≤ 57) ∨ (168 ≤ n ∧ n ≤ 171) ∨ (174 ≤ n ∧ n ≤ 255) := by omega
  rw [gap_all n hn hg]
  have hq := fun wx => nam_bad n hn (by omega) ⟨e167, e172, e173⟩ wx
  rcases hg with ⟨g1, g2⟩ | ⟨g1, g2⟩ | ⟨g1, g2⟩ | ⟨g1, g2⟩ | ⟨g1, g2⟩ | ⟨g1, g2⟩ | ⟨g1, g2⟩ | ⟨g1, g2⟩
  · exact rg_5e n (by omega) (by omega) hq w
  · exact rg_18e n (by omega) (by omega) hq w
  · exact rg_28e n (by omega) (by omega) hq w
  · exact rg_37e n (by omega) (by omega) hq w
  · exact rg_42e n (by omega) (by omega) hq w
  · exact rg_56e n (by omega) (by omega) hq w
  · exact rg_168e n (by omega) (by omega) hq w
  · exact rg_174e n (by omega) (by omega) hq w
end Go.Proofs.YtjhmglefejclpaaDoor

/- What the document says of every number's form: held against ops' tables. -/
namespace Go.Proofs.YtjhmglefejclpaaDoor
open Go.RowKit
set_option linter.unusedVariables false

/-- all that is to be held against each other, at one number -/
def okAt (n : Nat) : Bool :=
  if nm n == [] then (fam n).isNone
  else match fam n with
    | none => false
    | some x => x.o == formF (nm n) && decide ((nm n).length < 100)
set_option maxRecDepth 100000 in
theorem ok_all : ((List.range 256).all okAt) = true := by kernel_rfl
theorem ok_none (n : Nat) (hn : n < 256) (h : nm n = []) : fam n = none := by
  have h1 := List.all_eq_true.1 ok_all n (List.mem_range.2 hn)
  unfold okAt at h1
  rw [h] at h1
  simpa using h1
theorem ok_some (n : Nat) (hn : n < 256) (h : nm n ≠ []) : ∃ x, fam n = some x ∧ x.o = formF (nm n) ∧ (nm n).length < 100 := by
  have h1 := List.all_eq_true.1 ok_all n (List.mem_range.2 hn)
  unfold okAt at h1
  have hb : (nm n == []) = false := by simpa using h
  rw [hb] at h1
  cases hx : fam n with
  | none => rw [hx] at h1; simp at h1
  | some x =>
    rw [hx] at h1
    simp only [Bool.false_eq_true, if_false, Bool.and_eq_true, decide_eq_true_eq, beq_iff_eq] at h1
    exact ⟨x, rfl, h1.1, h1.2⟩
theorem formr_all (n : Nat) (hn : n < 256) : FormIs n (((fam n).map (·.o)).getD 0) (fam n).isSome := by
  by_cases h : nm n = []
  · rw [ok_none n hn h]
    have hN := namer_any n hn
    rw [h] at hN; exact f_none n hN
  · obtain ⟨y, e1, e2, e3⟩ := ok_some n hn h
    rw [e1]
    have := formr_any n _ (namer_any n hn) h e3
    rw [← e2] at this
    exact this
end Go.Proofs.YtjhmglefejclpaaDoor
