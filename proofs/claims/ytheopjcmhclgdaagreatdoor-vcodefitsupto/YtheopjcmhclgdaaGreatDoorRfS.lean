/- mandrelref04.Sign of all but layer 2's instructions. -/
import Derived.Test.YtheopjcmhclgdaaGreatDoorRfG
import Derived.Laws.OwnMore
namespace Go.Proofs.YtheopjcmhclgdaaGreatDoor
open Go.RowKit
set_option linter.unusedVariables false

def SignIs (n : Nat) (zs : List Int) (r : Int) (b : Bool) : Prop := ∀ w, Calls Tryz.prog 72 #[.int .u8 n] w fun e w' =>
  ∃ v, e = .returned (.tuple #[v, .int .u8 r, .bool b]) ∧ w'.ownsRow w.heap.size 5 1 v zs.length (zs.map (Value.int .u8)) ∧ Below w.heap.size w w'
theorem str_drop4 (l : List UInt8) : (str l).extract 4 (str l).size = str (l.drop 4) := by
  rw [str_extract, List.take_of_length_le]
  rw [str_size, List.length_drop]; omega
theorem own_lit {w w3 : World} (zs : List Int) (m : Nat) (cs : Array Value) (hb : Below w.heap.size w w3) (hc : cs.toList = zs.map (Value.int .u8) ∧ zs.length = m ∧ m ≤ 2) :
    (w3.alloc (.cells cs 5)).ownsRow w.heap.size 5 1 (.slice (some ⟨w3.heap.size, 0, none⟩) m m) zs.length (zs.map (Value.int .u8)) := by
  obtain ⟨h1, rfl, h3⟩ := hc
  rw [← h1]
  exact World.ownsRow_lit w3 cs zs.length hb.size (by unfold maxLen; omega) (by rw [← Array.length_toList, h1]; simp)
set_option maxRecDepth 100000 in
set_option maxHeartbeats 1600000 in
theorem s_none (n : Nat) (h : NameIs n []) : SignIs n [] 0 false := by
  intro w
  have h1 := h w
  rw [str_nil] at h1
  have H1 := hide h1; clear h h1
  go_enter Tryz.func72, Tryz.ntmps72
  go_wp2_with fail
  refine (unhide H1).mono ?_
  rintro e w1 ⟨rfl, hb1⟩
  have HB1 := hide hb1; clear hb1
  go_wp2
  go_ret3
  exact ⟨_, rfl, World.ownsRow_nil _ _ _ _, unhide HB1⟩
set_option maxRecDepth 100000 in
set_option maxHeartbeats 1600000 in
theorem s_low (n : Nat) (l : List UInt8) (h : NameIs n l) (hn : l ≠ []) (h36 : (n : Int) ≤ 36) : SignIs n [] 0 false := by
  intro w
  have h1 := h w
  have hie : (str l).toList.isEmpty = false := str_ie hn
  have H1 := hide h1; clear h h1 hn
  generalize str l = s at *
  go_enter Tryz.func72, Tryz.ntmps72
  go_wp2_with fail
  refine (unhide H1).mono ?_
  rintro e w1 ⟨rfl, hb1⟩
  have HB1 := hide hb1; clear hb1
  go_wp2
  go_ret3
  exact ⟨_, rfl, World.ownsRow_nil _ _ _ _, unhide HB1⟩
set_option maxRecDepth 100000 in
set_option maxHeartbeats 1600000 in
theorem s_const1 (n : Nat) (l : List UInt8) (h : NameIs n l) (hn : l ≠ []) (hl : l.length < 100) (h36 : ¬ (n : Int) ≤ 36) (h255 : n < 256) (hf : FormIs n 1 true) : SignIs n [] (kindF l) true := by
  intro w
  have h1 := h w
  have H1 := hide h1; clear h h1
  have hie : (str l).toList.isEmpty = false := str_ie hn
  have hk := fun wx => kindr_any l wx (by omega)
  have HK := hide hk; clear hk
  have hff := hf
  have HF := hide hff; clear hf hff
  clear hn hl
  generalize str l = s at *
  generalize kindF l = k at *
  go_enter Tryz.func72, Tryz.ntmps72
  go_wp2_with fail
  refine (unhide H1).mono ?_
  rintro e w1 ⟨rfl, hb1⟩
  have HB1 := hide hb1; clear hb1
  go_wp2_with fail
  refine (unhide HK _).mono ?_
  rintro e w1' ⟨rfl, rfl⟩
  go_wp2_with fail
  refine (unhide HF _).mono ?_
  rintro e w2 ⟨rfl, hb2⟩
  have HB2 := hide (Below.on (unhide HB1) hb2); clear hb2 HB1
  go_wp2
  go_ret3
  exact ⟨_, rfl, World.ownsRow_nil _ _ _ _, unhide HB2⟩
set_option maxRecDepth 100000 in
set_option maxHeartbeats 1600000 in
theorem s_const2 (n : Nat) (l : List UInt8) (h : NameIs n l) (hn : l ≠ []) (hl : l.length < 100) (h36 : ¬ (n : Int) ≤ 36) (h255 : n < 256) (hf : FormIs n 2 true) : SignIs n [] (kindF l) true := by
  intro w
  have h1 := h w
  have H1 := hide h1; clear h h1
  have hie : (str l).toList.isEmpty = false := str_ie hn
  have hk := fun wx => kindr_any l wx (by omega)
  have HK := hide hk; clear hk
  have hff := hf
  have HF := hide hff; clear hf hff
  clear hn hl
  generalize str l = s at *
  generalize kindF l = k at *
  go_enter Tryz.func72, Tryz.ntmps72
  go_wp2_with fail
  refine (unhide H1).mono ?_
  rintro e w1 ⟨rfl, hb1⟩
  have HB1 := hide hb1; clear hb1
  go_wp2_with fail
  refine (unhide HK _).mono ?_
  rintro e w1' ⟨rfl, rfl⟩
  go_wp2_with fail
  refine (unhide HF _).mono ?_
  rintro e w2 ⟨rfl, hb2⟩
  have HB2 := hide (Below.on (unhide HB1) hb2); clear hb2 HB1
  go_wp2
  go_ret3
  exact ⟨_, rfl, World.ownsRow_nil _ _ _ _, unhide HB2⟩
set_option maxRecDepth 100000 in
set_option maxHeartbeats 1600000 in
theorem s_size (n : Nat) (h : NameIs n [109, 101, 109, 111, 114, 121, 46, 115, 105, 122, 101]) (h36 : ¬ (n : Int) ≤ 36) (h255 : n < 256) (hf : FormIs n 5 true) : SignIs n [] 127 true := by
  intro w
  have h1 := h w
  rw [show str [109, 101, 109, 111, 114, 121, 46, 115, 105, 122, 101] = ⟨#[109, 101, 109, 111, 114, 121, 46, 115, 105, 122, 101]⟩ from rfl] at h1
  have H1 := hide h1; clear h h1
  have hk := fun wx => kindr_any [109, 101, 109, 111, 114, 121, 46, 115, 105, 122, 101] wx (by decide)
  rw [show kindF [109, 101, 109, 111, 114, 121, 46, 115, 105, 122, 101] = 127 from rfl, show str [109, 101, 109, 111, 114, 121, 46, 115, 105, 122, 101] = ⟨#[109, 101, 109, 111, 114, 121, 46, 115, 105, 122, 101]⟩ from rfl] at hk
  have HK := hide hk; clear hk
  have hff := hf
  have HF := hide hff; clear hf hff
  go_enter Tryz.func72, Tryz.ntmps72
  go_wp2_with fail
  refine (unhide H1).mono ?_
  rintro e w1 ⟨rfl, hb1⟩
  have HB1 := hide hb1; clear hb1
  go_wp2_with fail
  refine (unhide HK _).mono ?_
  rintro e w1' ⟨rfl, rfl⟩
  go_wp2_with fail
  refine (unhide HF _).mono ?_
  rintro e w2 ⟨rfl, hb2⟩
  have HB2 := hide (Below.on (unhide HB1) hb2); clear hb2 HB1
  go_wp2
  go_ret3
  exact ⟨_, rfl, World.ownsRow_nil _ _ _ _, unhide HB2⟩
set_option maxRecDepth 100000 in
set_option maxHeartbeats 1600000 in
theorem s_grow (n : Nat) (h : NameIs n [109, 101, 109, 111, 114, 121, 46, 103, 114, 111, 119]) (h36 : ¬ (n : Int) ≤ 36) (h255 : n < 256) (hf : FormIs n 5 true) : SignIs n [127] 127 true := by
  intro w
  have h1 := h w
  rw [show str [109, 101, 109, 111, 114, 121, 46, 103, 114, 111, 119] = ⟨#[109, 101, 109, 111, 114, 121, 46, 103, 114, 111, 119]⟩ from rfl] at h1
  have H1 := hide h1; clear h h1
  have hk := fun wx => kindr_any [109, 101, 109, 111, 114, 121, 46, 103, 114, 111, 119] wx (by decide)
  rw [show kindF [109, 101, 109, 111, 114, 121, 46, 103, 114, 111, 119] = 127 from rfl, show str [109, 101, 109, 111, 114, 121, 46, 103, 114, 111, 119] = ⟨#[109, 101, 109, 111, 114, 121, 46, 103, 114, 111, 119]⟩ from rfl] at hk
  have HK := hide hk; clear hk
  have hff := hf
  have HF := hide hff; clear hf hff
  go_enter Tryz.func72, Tryz.ntmps72
  go_wp2_with fail
  refine (unhide H1).mono ?_
  rintro e w1 ⟨rfl, hb1⟩
  have HB1 := hide hb1; clear hb1
  go_wp2_with fail
  refine (unhide HK _).mono ?_
  rintro e w1' ⟨rfl, rfl⟩
  go_wp2_with fail
  refine (unhide HF _).mono ?_
  rintro e w2 ⟨rfl, hb2⟩
  have HB2 := hide (Below.on (unhide HB1) hb2); clear hb2 HB1
  go_wp2
  go_ret3
  exact ⟨_, rfl, own_lit _ _ _ (unhide HB2) ⟨rfl, rfl, by decide⟩, (unhide HB2).alloc (unhide HB2).size _⟩
set_option maxRecDepth 100000 in
set_option maxHeartbeats 1600000 in
theorem s_load (n : Nat) (l : List UInt8) (h : NameIs n l) (hn : l ≠ []) (hl : l.length < 100) (h36 : ¬ (n : Int) ≤ 36) (h255 : n < 256) (hf : FormIs n 4 true) (h1 : ¬ l = [109, 101, 109, 111, 114, 121, 46, 115, 105, 122, 101]) (h2 : ¬ l = [109, 101, 109, 111, 114, 121, 46, 103, 114, 111, 119]) (h4 : 4 ≤ l.length) (hh : hasF (l.drop 4) [108, 111, 97, 100] = true) : SignIs n [127] (kindF l) true := by
  have t1 : ((str l).toList == [109, 101, 109, 111, 114, 121, 46, 115, 105, 122, 101]) = false := toList_bne h1
  have t2 : ((str l).toList == [109, 101, 109, 111, 114, 121, 46, 103, 114, 111, 119]) = false := toList_bne h2
  clear h1 h2
  intro w
  have h1 := h w
  have H1 := hide h1; clear h h1
  have hie : (str l).toList.isEmpty = false := str_ie hn
  have hk := fun wx => kindr_any l wx (by omega)
  have HK := hide hk; clear hk
  have hff := hf
  have HF := hide hff; clear hf hff
  have hz : 4 ≤ (str l).size := h4
  have hz2 : (str l).size < 100 := hl
  have hc := fun wx => hasr_any (l.drop 4) [108, 111, 97, 100] wx (by rw [List.length_drop]; omega) (by decide)
  rw [hh, ← str_drop4 l] at hc
  have HH := hide hc; clear hc hh h4
  clear hn hl
  generalize str l = s at *
  generalize kindF l = k at *
  go_enter Tryz.func72, Tryz.ntmps72
  go_wp2_with fail
  refine (unhide H1).mono ?_
  rintro e w1 ⟨rfl, hb1⟩
  have HB1 := hide hb1; clear hb1
  go_wp2_with fail
  refine (unhide HK _).mono ?_
  rintro e w1' ⟨rfl, rfl⟩
  go_wp2_with fail
  refine (unhide HF _).mono ?_
  rintro e w2 ⟨rfl, hb2⟩
  have HB2 := hide (Below.on (unhide HB1) hb2); clear hb2 HB1
  go_wp2_with fail
  refine (unhide HH _).mono ?_
  rintro e w2' ⟨rfl, rfl⟩
  go_wp2
  go_ret3
  exact ⟨_, rfl, own_lit _ _ _ (unhide HB2) ⟨rfl, rfl, by decide⟩, (unhide HB2).alloc (unhide HB2).size _⟩
set_option maxRecDepth 100000 in
set_option maxHeartbeats 1600000 in
theorem s_store (n : Nat) (l : List UInt8) (h : NameIs n l) (hn : l ≠ []) (hl : l.length < 100) (h36 : ¬ (n : Int) ≤ 36) (h255 : n < 256) (hf : FormIs n 4 true) (h1 : ¬ l = [109, 101, 109, 111, 114, 121, 46, 115, 105, 122, 101]) (h2 : ¬ l = [109, 101, 109, 111, 114, 121, 46, 103, 114, 111, 119]) (h4 : 4 ≤ l.length) (hh : hasF (l.drop 4) [108, 111, 97, 100] = false) : SignIs n [127, kindF l] 0 true := by
  have t1 : ((str l).toList == [109, 101, 109, 111, 114, 121, 46, 115, 105, 122, 101]) = false := toList_bne h1
  have t2 : ((str l).toList == [109, 101, 109, 111, 114, 121, 46, 103, 114, 111, 119]) = false := toList_bne h2
  clear h1 h2
  intro w
  have h1 := h w
  have H1 := hide h1; clear h h1
  have hie : (str l).toList.isEmpty = false := str_ie hn
  have hk := fun wx => kindr_any l wx (by omega)
  have HK := hide hk; clear hk
  have hff := hf
  have HF := hide hff; clear hf hff
  have hz : 4 ≤ (str l).size := h4
  have hz2 : (str l).size < 100 := hl
  have hc := fun wx => hasr_any (l.drop 4) [108, 111, 97, 100] wx (by rw [List.length_drop]; omega) (by decide)
  rw [hh, ← str_drop4 l] at hc
  have HH := hide hc; clear hc hh h4
  clear hn hl
  generalize str l = s at *
  generalize kindF l = k at *
  go_enter Tryz.func72, Tryz.ntmps72
  go_wp2_with fail
  refine (unhide H1).mono ?_
  rintro e w1 ⟨rfl, hb1⟩
  have HB1 := hide hb1; clear hb1
  go_wp2_with fail
  refine (unhide HK _).mono ?_
  rintro e w1' ⟨rfl, rfl⟩
  go_wp2_with fail
  refine (unhide HF _).mono ?_
  rintro e w2 ⟨rfl, hb2⟩
  have HB2 := hide (Below.on (unhide HB1) hb2); clear hb2 HB1
  go_wp2_with fail
  refine (unhide HH _).mono ?_
  rintro e w2' ⟨rfl, rfl⟩
  go_wp2
  go_ret3
  exact ⟨_, rfl, own_lit _ _ _ (unhide HB2) ⟨rfl, rfl, by decide⟩, (unhide HB2).alloc (unhide HB2).size _⟩
end Go.Proofs.YtheopjcmhclgdaaGreatDoor
