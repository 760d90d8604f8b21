/- mandrelref04.Form: what it returns. -/
import Derived.Test.YtheopjcmhclgdaaGreatDoorRfF
namespace Go.Proofs.YtheopjcmhclgdaaGreatDoor
open Go.RowKit
set_option linter.unusedVariables false

def formT : List (List UInt8 × Int) := [([105, 51, 50, 46, 99, 111, 110, 115, 116], 1), ([105, 54, 52, 46, 99, 111, 110, 115, 116], 2), ([98, 114], 3), ([98, 114, 95, 105, 102], 3), ([99, 97, 108, 108], 3), ([108, 111, 99, 97, 108, 46, 103, 101, 116], 3), ([108, 111, 99, 97, 108, 46, 115, 101, 116], 3), ([108, 111, 99, 97, 108, 46, 116, 101, 101], 3), ([103, 108, 111, 98, 97, 108, 46, 103, 101, 116], 3), ([103, 108, 111, 98, 97, 108, 46, 115, 101, 116], 3), ([109, 101, 109, 111, 114, 121, 46, 115, 105, 122, 101], 5), ([109, 101, 109, 111, 114, 121, 46, 103, 114, 111, 119], 5), ([98, 108, 111, 99, 107], 6), ([108, 111, 111, 112], 6), ([105, 102], 7), ([98, 114, 95, 116, 97, 98, 108, 101], 8), ([99, 97, 108, 108, 95, 105, 110, 100, 105, 114, 101, 99, 116], 9)]
def formH (l : List UInt8) : Bool := hasF (l.drop 1) [51, 50, 46, 108, 111, 97, 100] || hasF (l.drop 1) [54, 52, 46, 108, 111, 97, 100] || hasF (l.drop 1) [51, 50, 46, 115, 116, 111, 114, 101] || hasF (l.drop 1) [54, 52, 46, 115, 116, 111, 114, 101]
/-- the form of a name -/
def formF (l : List UInt8) : Int := match formT.find? (fun p => p.1 == l) with
  | some p => p.2
  | none => if formH l = true then 4 else 0
/-- a text that is none of those told -/
def Others (l : List UInt8) : Prop := formT.all (fun p => !(p.1 == l)) = true
theorem str_drop1 (l : List UInt8) : (str l).extract 1 (str l).size = str (l.drop 1) := by
  rw [str_extract, List.take_of_length_le]
  rw [str_size, List.length_drop]; omega
theorem toList_bne {l a : List UInt8} (h : ¬ l = a) : ((str l).toList == a) = false := by
  rw [str_toList, beq_eq_false_iff_ne]; exact h
set_option maxRecDepth 100000 in
set_option maxHeartbeats 1600000 in
theorem f_has0 (n : Nat) (l : List UInt8) (h : NameIs n l) (hn : l ≠ []) (hl : l.length < 100) (ho : Others l) (hb0 : hasF (l.drop 1) [51, 50, 46, 108, 111, 97, 100] = true) : FormIs n 4 true := by
  intro w
  have h1 := h w
  have H1 := hide h1; clear h h1
  have hie : (str l).toList.isEmpty = false := str_ie hn
  have hz : 1 ≤ (str l).size := by rw [str_size]; cases l with
    | nil => exact absurd rfl hn
    | cons a l => simp
  have hz2 : (str l).size < 100 := hl
  have t0 : ((str l).toList == [105, 51, 50, 46, 99, 111, 110, 115, 116]) = false := toList_bne (fun e => by subst e; revert ho; unfold Others; decide)
  have t1 : ((str l).toList == [105, 54, 52, 46, 99, 111, 110, 115, 116]) = false := toList_bne (fun e => by subst e; revert ho; unfold Others; decide)
  have t2 : ((str l).toList == [98, 114]) = false := toList_bne (fun e => by subst e; revert ho; unfold Others; decide)
  have t3 : ((str l).toList == [98, 114, 95, 105, 102]) = false := toList_bne (fun e => by subst e; revert ho; unfold Others; decide)
  have t4 : ((str l).toList == [99, 97, 108, 108]) = false := toList_bne (fun e => by subst e; revert ho; unfold Others; decide)
  have t5 : ((str l).toList == [108, 111, 99, 97, 108, 46, 103, 101, 116]) = false := toList_bne (fun e => by subst e; revert ho; unfold Others; decide)
  have t6 : ((str l).toList == [108, 111, 99, 97, 108, 46, 115, 101, 116]) = false := toList_bne (fun e => by subst e; revert ho; unfold Others; decide)
  have t7 : ((str l).toList == [108, 111, 99, 97, 108, 46, 116, 101, 101]) = false := toList_bne (fun e => by subst e; revert ho; unfold Others; decide)
  have t8 : ((str l).toList == [103, 108, 111, 98, 97, 108, 46, 103, 101, 116]) = false := toList_bne (fun e => by subst e; revert ho; unfold Others; decide)
  have t9 : ((str l).toList == [103, 108, 111, 98, 97, 108, 46, 115, 101, 116]) = false := toList_bne (fun e => by subst e; revert ho; unfold Others; decide)
  have t10 : ((str l).toList == [109, 101, 109, 111, 114, 121, 46, 115, 105, 122, 101]) = false := toList_bne (fun e => by subst e; revert ho; unfold Others; decide)
  have t11 : ((str l).toList == [109, 101, 109, 111, 114, 121, 46, 103, 114, 111, 119]) = false := toList_bne (fun e => by subst e; revert ho; unfold Others; decide)
  have t12 : ((str l).toList == [98, 108, 111, 99, 107]) = false := toList_bne (fun e => by subst e; revert ho; unfold Others; decide)
  have t13 : ((str l).toList == [108, 111, 111, 112]) = false := toList_bne (fun e => by subst e; revert ho; unfold Others; decide)
  have t14 : ((str l).toList == [105, 102]) = false := toList_bne (fun e => by subst e; revert ho; unfold Others; decide)
  have t15 : ((str l).toList == [98, 114, 95, 116, 97, 98, 108, 101]) = false := toList_bne (fun e => by subst e; revert ho; unfold Others; decide)
  have t16 : ((str l).toList == [99, 97, 108, 108, 95, 105, 110, 100, 105, 114, 101, 99, 116]) = false := toList_bne (fun e => by subst e; revert ho; unfold Others; decide)
  have hc0 := fun wx => hasr_any (l.drop 1) [51, 50, 46, 108, 111, 97, 100] wx (by rw [List.length_drop]; omega) (by decide)
  rw [hb0, ← str_drop1 l] at hc0
  have HC0 := hide hc0; clear hc0 hb0
  clear ho hn hl
  generalize str l = s at *
  go_enter Tryz.func63, Tryz.ntmps63
  go_wp2_with fail
  refine (unhide H1).mono ?_
  rintro e w1 ⟨rfl, hb⟩
  have HB := hide hb; clear hb
  go_wp2_with fail
  refine (unhide HC0 _).mono ?_
  rintro e w2 ⟨rfl, rfl⟩
  go_wp2
  go_ret2
  exact ⟨rfl, unhide HB⟩
set_option maxRecDepth 100000 in
set_option maxHeartbeats 1600000 in
theorem f_has1 (n : Nat) (l : List UInt8) (h : NameIs n l) (hn : l ≠ []) (hl : l.length < 100) (ho : Others l) (hb0 : hasF (l.drop 1) [51, 50, 46, 108, 111, 97, 100] = false) (hb1 : hasF (l.drop 1) [54, 52, 46, 108, 111, 97, 100] = true) : FormIs n 4 true := by
  intro w
  have h1 := h w
  have H1 := hide h1; clear h h1
  have hie : (str l).toList.isEmpty = false := str_ie hn
  have hz : 1 ≤ (str l).size := by rw [str_size]; cases l with
    | nil => exact absurd rfl hn
    | cons a l => simp
  have hz2 : (str l).size < 100 := hl
  have t0 : ((str l).toList == [105, 51, 50, 46, 99, 111, 110, 115, 116]) = false := toList_bne (fun e => by subst e; revert ho; unfold Others; decide)
  have t1 : ((str l).toList == [105, 54, 52, 46, 99, 111, 110, 115, 116]) = false := toList_bne (fun e => by subst e; revert ho; unfold Others; decide)
  have t2 : ((str l).toList == [98, 114]) = false := toList_bne (fun e => by subst e; revert ho; unfold Others; decide)
  have t3 : ((str l).toList == [98, 114, 95, 105, 102]) = false := toList_bne (fun e => by subst e; revert ho; unfold Others; decide)
  have t4 : ((str l).toList == [99, 97, 108, 108]) = false := toList_bne (fun e => by subst e; revert ho; unfold Others; decide)
  have t5 : ((str l).toList == [108, 111, 99, 97, 108, 46, 103, 101, 116]) = false := toList_bne (fun e => by subst e; revert ho; unfold Others; decide)
  have t6 : ((str l).toList == [108, 111, 99, 97, 108, 46, 115, 101, 116]) = false := toList_bne (fun e => by subst e; revert ho; unfold Others; decide)
  have t7 : ((str l).toList == [108, 111, 99, 97, 108, 46, 116, 101, 101]) = false := toList_bne (fun e => by subst e; revert ho; unfold Others; decide)
  have t8 : ((str l).toList == [103, 108, 111, 98, 97, 108, 46, 103, 101, 116]) = false := toList_bne (fun e => by subst e; revert ho; unfold Others; decide)
  have t9 : ((str l).toList == [103, 108, 111, 98, 97, 108, 46, 115, 101, 116]) = false := toList_bne (fun e => by subst e; revert ho; unfold Others; decide)
  have t10 : ((str l).toList == [109, 101, 109, 111, 114, 121, 46, 115, 105, 122, 101]) = false := toList_bne (fun e => by subst e; revert ho; unfold Others; decide)
  have t11 : ((str l).toList == [109, 101, 109, 111, 114, 121, 46, 103, 114, 111, 119]) = false := toList_bne (fun e => by subst e; revert ho; unfold Others; decide)
  have t12 : ((str l).toList == [98, 108, 111, 99, 107]) = false := toList_bne (fun e => by subst e; revert ho; unfold Others; decide)
  have t13 : ((str l).toList == [108, 111, 111, 112]) = false := toList_bne (fun e => by subst e; revert ho; unfold Others; decide)
  have t14 : ((str l).toList == [105, 102]) = false := toList_bne (fun e => by subst e; revert ho; unfold Others; decide)
  have t15 : ((str l).toList == [98, 114, 95, 116, 97, 98, 108, 101]) = false := toList_bne (fun e => by subst e; revert ho; unfold Others; decide)
  have t16 : ((str l).toList == [99, 97, 108, 108, 95, 105, 110, 100, 105, 114, 101, 99, 116]) = false := toList_bne (fun e => by subst e; revert ho; unfold Others; decide)
  have hc0 := fun wx => hasr_any (l.drop 1) [51, 50, 46, 108, 111, 97, 100] wx (by rw [List.length_drop]; omega) (by decide)
  rw [hb0, ← str_drop1 l] at hc0
  have HC0 := hide hc0; clear hc0 hb0
  have hc1 := fun wx => hasr_any (l.drop 1) [54, 52, 46, 108, 111, 97, 100] wx (by rw [List.length_drop]; omega) (by decide)
  rw [hb1, ← str_drop1 l] at hc1
  have HC1 := hide hc1; clear hc1 hb1
  clear ho hn hl
  generalize str l = s at *
  go_enter Tryz.func63, Tryz.ntmps63
  go_wp2_with fail
  refine (unhide H1).mono ?_
  rintro e w1 ⟨rfl, hb⟩
  have HB := hide hb; clear hb
  go_wp2_with fail
  refine (unhide HC0 _).mono ?_
  rintro e w2 ⟨rfl, rfl⟩
  go_wp2_with fail
  refine (unhide HC1 _).mono ?_
  rintro e w2 ⟨rfl, rfl⟩
  go_wp2
  go_ret2
  exact ⟨rfl, unhide HB⟩
set_option maxRecDepth 100000 in
set_option maxHeartbeats 1600000 in
theorem f_has2 (n : Nat) (l : List UInt8) (h : NameIs n l) (hn : l ≠ []) (hl : l.length < 100) (ho : Others l) (hb0 : hasF (l.drop 1) [51, 50, 46, 108, 111, 97, 100] = false) (hb1 : hasF (l.drop 1) [54, 52, 46, 108, 111, 97, 100] = false) (hb2 : hasF (l.drop 1) [51, 50, 46, 115, 116, 111, 114, 101] = true) : FormIs n 4 true := by
  intro w
  have h1 := h w
  have H1 := hide h1; clear h h1
  have hie : (str l).toList.isEmpty = false := str_ie hn
  have hz : 1 ≤ (str l).size := by rw [str_size]; cases l with
    | nil => exact absurd rfl hn
    | cons a l => simp
  have hz2 : (str l).size < 100 := hl
  have t0 : ((str l).toList == [105, 51, 50, 46, 99, 111, 110, 115, 116]) = false := toList_bne (fun e => by subst e; revert ho; unfold Others; decide)
  have t1 : ((str l).toList == [105, 54, 52, 46, 99, 111, 110, 115, 116]) = false := toList_bne (fun e => by subst e; revert ho; unfold Others; decide)
  have t2 : ((str l).toList == [98, 114]) = false := toList_bne (fun e => by subst e; revert ho; unfold Others; decide)
  have t3 : ((str l).toList == [98, 114, 95, 105, 102]) = false := toList_bne (fun e => by subst e; revert ho; unfold Others; decide)
  have t4 : ((str l).toList == [99, 97, 108, 108]) = false := toList_bne (fun e => by subst e; revert ho; unfold Others; decide)
  have t5 : ((str l).toList == [108, 111, 99, 97, 108, 46, 103, 101, 116]) = false := toList_bne (fun e => by subst e; revert ho; unfold Others; decide)
  have t6 : ((str l).toList == [108, 111, 99, 97, 108, 46, 115, 101, 116]) = false := toList_bne (fun e => by subst e; revert ho; unfold Others; decide)
  have t7 : ((str l).toList == [108, 111, 99, 97, 108, 46, 116, 101, 101]) = false := toList_bne (fun e => by subst e; revert ho; unfold Others; decide)
  have t8 : ((str l).toList == [103, 108, 111, 98, 97, 108, 46, 103, 101, 116]) = false := toList_bne (fun e => by subst e; revert ho; unfold Others; decide)
  have t9 : ((str l).toList == [103, 108, 111, 98, 97, 108, 46, 115, 101, 116]) = false := toList_bne (fun e => by subst e; revert ho; unfold Others; decide)
  have t10 : ((str l).toList == [109, 101, 109, 111, 114, 121, 46, 115, 105, 122, 101]) = false := toList_bne (fun e => by subst e; revert ho; unfold Others; decide)
  have t11 : ((str l).toList == [109, 101, 109, 111, 114, 121, 46, 103, 114, 111, 119]) = false := toList_bne (fun e => by subst e; revert ho; unfold Others; decide)
  have t12 : ((str l).toList == [98, 108, 111, 99, 107]) = false := toList_bne (fun e => by subst e; revert ho; unfold Others; decide)
  have t13 : ((str l).toList == [108, 111, 111, 112]) = false := toList_bne (fun e => by subst e; revert ho; unfold Others; decide)
  have t14 : ((str l).toList == [105, 102]) = false := toList_bne (fun e => by subst e; revert ho; unfold Others; decide)
  have t15 : ((str l).toList == [98, 114, 95, 116, 97, 98, 108, 101]) = false := toList_bne (fun e => by subst e; revert ho; unfold Others; decide)
  have t16 : ((str l).toList == [99, 97, 108, 108, 95, 105, 110, 100, 105, 114, 101, 99, 116]) = false := toList_bne (fun e => by subst e; revert ho; unfold Others; decide)
  have hc0 := fun wx => hasr_any (l.drop 1) [51, 50, 46, 108, 111, 97, 100] wx (by rw [List.length_drop]; omega) (by decide)
  rw [hb0, ← str_drop1 l] at hc0
  have HC0 := hide hc0; clear hc0 hb0
  have hc1 := fun wx => hasr_any (l.drop 1) [54, 52, 46, 108, 111, 97, 100] wx (by rw [List.length_drop]; omega) (by decide)
  rw [hb1, ← str_drop1 l] at hc1
  have HC1 := hide hc1; clear hc1 hb1
  have hc2 := fun wx => hasr_any (l.drop 1) [51, 50, 46, 115, 116, 111, 114, 101] wx (by rw [List.length_drop]; omega) (by decide)
  rw [hb2, ← str_drop1 l] at hc2
  have HC2 := hide hc2; clear hc2 hb2
  clear ho hn hl
  generalize str l = s at *
  go_enter Tryz.func63, Tryz.ntmps63
  go_wp2_with fail
  refine (unhide H1).mono ?_
  rintro e w1 ⟨rfl, hb⟩
  have HB := hide hb; clear hb
  go_wp2_with fail
  refine (unhide HC0 _).mono ?_
  rintro e w2 ⟨rfl, rfl⟩
  go_wp2_with fail
  refine (unhide HC1 _).mono ?_
  rintro e w2 ⟨rfl, rfl⟩
  go_wp2_with fail
  refine (unhide HC2 _).mono ?_
  rintro e w2 ⟨rfl, rfl⟩
  go_wp2
  go_ret2
  exact ⟨rfl, unhide HB⟩
set_option maxRecDepth 100000 in
set_option maxHeartbeats 1600000 in
theorem f_has3 (n : Nat) (l : List UInt8) (h : NameIs n l) (hn : l ≠ []) (hl : l.length < 100) (ho : Others l) (hb0 : hasF (l.drop 1) [51, 50, 46, 108, 111, 97, 100] = false) (hb1 : hasF (l.drop 1) [54, 52, 46, 108, 111, 97, 100] = false) (hb2 : hasF (l.drop 1) [51, 50, 46, 115, 116, 111, 114, 101] = false) (hb3 : hasF (l.drop 1) [54, 52, 46, 115, 116, 111, 114, 101] = true) : FormIs n 4 true := by
  intro w
  have h1 := h w
  have H1 := hide h1; clear h h1
  have hie : (str l).toList.isEmpty = false := str_ie hn
  have hz : 1 ≤ (str l).size := by rw [str_size]; cases l with
    | nil => exact absurd rfl hn
    | cons a l => simp
  have hz2 : (str l).size < 100 := hl
  have t0 : ((str l).toList == [105, 51, 50, 46, 99, 111, 110, 115, 116]) = false := toList_bne (fun e => by subst e; revert ho; unfold Others; decide)
  have t1 : ((str l).toList == [105, 54, 52, 46, 99, 111, 110, 115, 116]) = false := toList_bne (fun e => by subst e; revert ho; unfold Others; decide)
  have t2 : ((str l).toList == [98, 114]) = false := toList_bne (fun e => by subst e; revert ho; unfold Others; decide)
  have t3 : ((str l).toList == [98, 114, 95, 105, 102]) = false := toList_bne (fun e => by subst e; revert ho; unfold Others; decide)
  have t4 : ((str l).toList == [99, 97, 108, 108]) = false := toList_bne (fun e => by subst e; revert ho; unfold Others; decide)
  have t5 : ((str l).toList == [108, 111, 99, 97, 108, 46, 103, 101, 116]) = false := toList_bne (fun e => by subst e; revert ho; unfold Others; decide)
  have t6 : ((str l).toList == [108, 111, 99, 97, 108, 46, 115, 101, 116]) = false := toList_bne (fun e => by subst e; revert ho; unfold Others; decide)
  have t7 : ((str l).toList == [108, 111, 99, 97, 108, 46, 116, 101, 101]) = false := toList_bne (fun e => by subst e; revert ho; unfold Others; decide)
  have t8 : ((str l).toList == [103, 108, 111, 98, 97, 108, 46, 103, 101, 116]) = false := toList_bne (fun e => by subst e; revert ho; unfold Others; decide)
  have t9 : ((str l).toList == [103, 108, 111, 98, 97, 108, 46, 115, 101, 116]) = false := toList_bne (fun e => by subst e; revert ho; unfold Others; decide)
  have t10 : ((str l).toList == [109, 101, 109, 111, 114, 121, 46, 115, 105, 122, 101]) = false := toList_bne (fun e => by subst e; revert ho; unfold Others; decide)
  have t11 : ((str l).toList == [109, 101, 109, 111, 114, 121, 46, 103, 114, 111, 119]) = false := toList_bne (fun e => by subst e; revert ho; unfold Others; decide)
  have t12 : ((str l).toList == [98, 108, 111, 99, 107]) = false := toList_bne (fun e => by subst e; revert ho; unfold Others; decide)
  have t13 : ((str l).toList == [108, 111, 111, 112]) = false := toList_bne (fun e => by subst e; revert ho; unfold Others; decide)
  have t14 : ((str l).toList == [105, 102]) = false := toList_bne (fun e => by subst e; revert ho; unfold Others; decide)
  have t15 : ((str l).toList == [98, 114, 95, 116, 97, 98, 108, 101]) = false := toList_bne (fun e => by subst e; revert ho; unfold Others; decide)
  have t16 : ((str l).toList == [99, 97, 108, 108, 95, 105, 110, 100, 105, 114, 101, 99, 116]) = false := toList_bne (fun e => by subst e; revert ho; unfold Others; decide)
  have hc0 := fun wx => hasr_any (l.drop 1) [51, 50, 46, 108, 111, 97, 100] wx (by rw [List.length_drop]; omega) (by decide)
  rw [hb0, ← str_drop1 l] at hc0
  have HC0 := hide hc0; clear hc0 hb0
  have hc1 := fun wx => hasr_any (l.drop 1) [54, 52, 46, 108, 111, 97, 100] wx (by rw [List.length_drop]; omega) (by decide)
  rw [hb1, ← str_drop1 l] at hc1
  have HC1 := hide hc1; clear hc1 hb1
  have hc2 := fun wx => hasr_any (l.drop 1) [51, 50, 46, 115, 116, 111, 114, 101] wx (by rw [List.length_drop]; omega) (by decide)
  rw [hb2, ← str_drop1 l] at hc2
  have HC2 := hide hc2; clear hc2 hb2
  have hc3 := fun wx => hasr_any (l.drop 1) [54, 52, 46, 115, 116, 111, 114, 101] wx (by rw [List.length_drop]; omega) (by decide)
  rw [hb3, ← str_drop1 l] at hc3
  have HC3 := hide hc3; clear hc3 hb3
  clear ho hn hl
  generalize str l = s at *
  go_enter Tryz.func63, Tryz.ntmps63
  go_wp2_with fail
  refine (unhide H1).mono ?_
  rintro e w1 ⟨rfl, hb⟩
  have HB := hide hb; clear hb
  go_wp2_with fail
  refine (unhide HC0 _).mono ?_
  rintro e w2 ⟨rfl, rfl⟩
  go_wp2_with fail
  refine (unhide HC1 _).mono ?_
  rintro e w2 ⟨rfl, rfl⟩
  go_wp2_with fail
  refine (unhide HC2 _).mono ?_
  rintro e w2 ⟨rfl, rfl⟩
  go_wp2_with fail
  refine (unhide HC3 _).mono ?_
  rintro e w2 ⟨rfl, rfl⟩
  go_wp2
  go_ret2
  exact ⟨rfl, unhide HB⟩
set_option maxRecDepth 100000 in
set_option maxHeartbeats 1600000 in
theorem f_has4 (n : Nat) (l : List UInt8) (h : NameIs n l) (hn : l ≠ []) (hl : l.length < 100) (ho : Others l) (hb0 : hasF (l.drop 1) [51, 50, 46, 108, 111, 97, 100] = false) (hb1 : hasF (l.drop 1) [54, 52, 46, 108, 111, 97, 100] = false) (hb2 : hasF (l.drop 1) [51, 50, 46, 115, 116, 111, 114, 101] = false) (hb3 : hasF (l.drop 1) [54, 52, 46, 115, 116, 111, 114, 101] = false) : FormIs n 0 true := by
  intro w
  have h1 := h w
  have H1 := hide h1; clear h h1
  have hie : (str l).toList.isEmpty = false := str_ie hn
  have hz : 1 ≤ (str l).size := by rw [str_size]; cases l with
    | nil => exact absurd rfl hn
    | cons a l => simp
  have hz2 : (str l).size < 100 := hl
  have t0 : ((str l).toList == [105, 51, 50, 46, 99, 111, 110, 115, 116]) = false := toList_bne (fun e => by subst e; revert ho; unfold Others; decide)
  have t1 : ((str l).toList == [105, 54, 52, 46, 99, 111, 110, 115, 116]) = false := toList_bne (fun e => by subst e; revert ho; unfold Others; decide)
  have t2 : ((str l).toList == [98, 114]) = false := toList_bne (fun e => by subst e; revert ho; unfold Others; decide)
  have t3 : ((str l).toList == [98, 114, 95, 105, 102]) = false := toList_bne (fun e => by subst e; revert ho; unfold Others; decide)
  have t4 : ((str l).toList == [99, 97, 108, 108]) = false := toList_bne (fun e => by subst e; revert ho; unfold Others; decide)
  have t5 : ((str l).toList == [108, 111, 99, 97, 108, 46, 103, 101, 116]) = false := toList_bne (fun e => by subst e; revert ho; unfold Others; decide)
  have t6 : ((str l).toList == [108, 111, 99, 97, 108, 46, 115, 101, 116]) = false := toList_bne (fun e => by subst e; revert ho; unfold Others; decide)
  have t7 : ((str l).toList == [108, 111, 99, 97, 108, 46, 116, 101, 101]) = false := toList_bne (fun e => by subst e; revert ho; unfold Others; decide)
  have t8 : ((str l).toList == [103, 108, 111, 98, 97, 108, 46, 103, 101, 116]) = false := toList_bne (fun e => by subst e; revert ho; unfold Others; decide)
  have t9 : ((str l).toList == [103, 108, 111, 98, 97, 108, 46, 115, 101, 116]) = false := toList_bne (fun e => by subst e; revert ho; unfold Others; decide)
  have t10 : ((str l).toList == [109, 101, 109, 111, 114, 121, 46, 115, 105, 122, 101]) = false := toList_bne (fun e => by subst e; revert ho; unfold Others; decide)
  have t11 : ((str l).toList == [109, 101, 109, 111, 114, 121, 46, 103, 114, 111, 119]) = false := toList_bne (fun e => by subst e; revert ho; unfold Others; decide)
  have t12 : ((str l).toList == [98, 108, 111, 99, 107]) = false := toList_bne (fun e => by subst e; revert ho; unfold Others; decide)
  have t13 : ((str l).toList == [108, 111, 111, 112]) = false := toList_bne (fun e => by subst e; revert ho; unfold Others; decide)
  have t14 : ((str l).toList == [105, 102]) = false := toList_bne (fun e => by subst e; revert ho; unfold Others; decide)
  have t15 : ((str l).toList == [98, 114, 95, 116, 97, 98, 108, 101]) = false := toList_bne (fun e => by subst e; revert ho; unfold Others; decide)
  have t16 : ((str l).toList == [99, 97, 108, 108, 95, 105, 110, 100, 105, 114, 101, 99, 116]) = false := toList_bne (fun e => by subst e; revert ho; unfold Others; decide)
  have hc0 := fun wx => hasr_any (l.drop 1) [51, 50, 46, 108, 111, 97, 100] wx (by rw [List.length_drop]; omega) (by decide)
  rw [hb0, ← str_drop1 l] at hc0
  have HC0 := hide hc0; clear hc0 hb0
  have hc1 := fun wx => hasr_any (l.drop 1) [54, 52, 46, 108, 111, 97, 100] wx (by rw [List.length_drop]; omega) (by decide)
  rw [hb1, ← str_drop1 l] at hc1
  have HC1 := hide hc1; clear hc1 hb1
  have hc2 := fun wx => hasr_any (l.drop 1) [51, 50, 46, 115, 116, 111, 114, 101] wx (by rw [List.length_drop]; omega) (by decide)
  rw [hb2, ← str_drop1 l] at hc2
  have HC2 := hide hc2; clear hc2 hb2
  have hc3 := fun wx => hasr_any (l.drop 1) [54, 52, 46, 115, 116, 111, 114, 101] wx (by rw [List.length_drop]; omega) (by decide)
  rw [hb3, ← str_drop1 l] at hc3
  have HC3 := hide hc3; clear hc3 hb3
  clear ho hn hl
  generalize str l = s at *
  go_enter Tryz.func63, Tryz.ntmps63
  go_wp2_with fail
  refine (unhide H1).mono ?_
  rintro e w1 ⟨rfl, hb⟩
  have HB := hide hb; clear hb
  go_wp2_with fail
  refine (unhide HC0 _).mono ?_
  rintro e w2 ⟨rfl, rfl⟩
  go_wp2_with fail
  refine (unhide HC1 _).mono ?_
  rintro e w2 ⟨rfl, rfl⟩
  go_wp2_with fail
  refine (unhide HC2 _).mono ?_
  rintro e w2 ⟨rfl, rfl⟩
  go_wp2_with fail
  refine (unhide HC3 _).mono ?_
  rintro e w2 ⟨rfl, rfl⟩
  go_wp2
  go_ret2
  exact ⟨rfl, unhide HB⟩
theorem formr_any (n : Nat) (l : List UInt8) (h : NameIs n l) (hn : l ≠ []) (hl : l.length < 100) : FormIs n (formF l) true := by
  by_cases g0 : l = [105, 51, 50, 46, 99, 111, 110, 115, 116]
  · subst g0; exact f_i32_const n h
  by_cases g1 : l = [105, 54, 52, 46, 99, 111, 110, 115, 116]
  · subst g1; exact f_i64_const n h
  by_cases g2 : l = [98, 114]
  · subst g2; exact f_br n h
  by_cases g3 : l = [98, 114, 95, 105, 102]
  · subst g3; exact f_br_if n h
  by_cases g4 : l = [99, 97, 108, 108]
  · subst g4; exact f_call n h
  by_cases g5 : l = [108, 111, 99, 97, 108, 46, 103, 101, 116]
  · subst g5; exact f_local_get n h
  by_cases g6 : l = [108, 111, 99, 97, 108, 46, 115, 101, 116]
  · subst g6; exact f_local_set n h
  by_cases g7 : l = [108, 111, 99, 97, 108, 46, 116, 101, 101]
  · subst g7; exact f_local_tee n h
  by_cases g8 : l = [103, 108, 111, 98, 97, 108, 46, 103, 101, 116]
  · subst g8; exact f_global_get n h
  by_cases g9 : l = [103, 108, 111, 98, 97, 108, 46, 115, 101, 116]
  · subst g9; exact f_global_set n h
  by_cases g10 : l = [109, 101, 109, 111, 114, 121, 46, 115, 105, 122, 101]
  · subst g10; exact f_memory_size n h
  by_cases g11 : l = [109, 101, 109, 111, 114, 121, 46, 103, 114, 111, 119]
  · subst g11; exact f_memory_grow n h
  by_cases g12 : l = [98, 108, 111, 99, 107]
  · subst g12; exact f_block n h
  by_cases g13 : l = [108, 111, 111, 112]
  · subst g13; exact f_loop n h
  by_cases g14 : l = [105, 102]
  · subst g14; exact f_if n h
  by_cases g15 : l = [98, 114, 95, 116, 97, 98, 108, 101]
  · subst g15; exact f_br_table n h
  by_cases g16 : l = [99, 97, 108, 108, 95, 105, 110, 100, 105, 114, 101, 99, 116]
  · subst g16; exact f_call_indirect n h
  have ho : Others l := by
    unfold Others formT
    simp only [List.all_cons, List.all_nil, Bool.and_true, Bool.and_eq_true, Bool.not_eq_true', beq_eq_false_iff_ne, ne_eq]
    exact ⟨fun e => g0 e.symm, fun e => g1 e.symm, fun e => g2 e.symm, fun e => g3 e.symm, fun e => g4 e.symm, fun e => g5 e.symm, fun e => g6 e.symm, fun e => g7 e.symm, fun e => g8 e.symm, fun e => g9 e.symm, fun e => g10 e.symm, fun e => g11 e.symm, fun e => g12 e.symm, fun e => g13 e.symm, fun e => g14 e.symm, fun e => g15 e.symm, fun e => g16 e.symm⟩
  have hf : formF l = if formH l = true then 4 else 0 := by
    unfold formF
    rw [List.find?_eq_none.2 (fun p hp => by
      have := List.all_eq_true.1 ho p hp
      simpa using this)]
  rw [hf]
  unfold formH
  rcases hb0 : hasF (l.drop 1) [51, 50, 46, 108, 111, 97, 100] with _ | _
  · rcases hb1 : hasF (l.drop 1) [54, 52, 46, 108, 111, 97, 100] with _ | _
    · rcases hb2 : hasF (l.drop 1) [51, 50, 46, 115, 116, 111, 114, 101] with _ | _
      · rcases hb3 : hasF (l.drop 1) [54, 52, 46, 115, 116, 111, 114, 101] with _ | _
        · exact f_has4 n l h hn hl ho hb0 hb1 hb2 hb3
        · exact f_has3 n l h hn hl ho hb0 hb1 hb2 hb3
      · exact f_has2 n l h hn hl ho hb0 hb1 hb2
    · exact f_has1 n l h hn hl ho hb0 hb1
  · exact f_has0 n l h hn hl ho hb0
end Go.Proofs.YtheopjcmhclgdaaGreatDoor
