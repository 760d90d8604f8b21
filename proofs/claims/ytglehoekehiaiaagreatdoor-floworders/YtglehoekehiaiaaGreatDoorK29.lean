/- K29: what follows, part by part: each part tells what it holds. -/
import Derived.Test.YtglehoekehiaiaaGreatDoorK18
import Derived.Laws.OwnMore
namespace Go.Proofs.YtglehoekehiaiaaGreatDoor
open Go.RowKit
set_option linter.unusedVariables false
set_option linter.unusedSimpArgs false
set_option maxRecDepth 100000
set_option maxHeartbeats 32000000
/- mandrelref04.Sign of all but layer 2's instructions. -/
def SignIs (n : Nat) (zs : List Int) (r : Int) (b : Bool) : Prop := ∀ w, Calls Tryz.prog 87 #[.int .u8 n] w fun e w' =>
  ∃ v, e = .returned (.tuple #[v, .int .u8 r, .bool b]) ∧ w'.ownsRow w.heap.size 5 1 v zs.length (zs.map (Value.int .u8)) ∧ Below w.heap.size w w'
theorem str_drop4 (l : List UInt8) : (str l).extract 4 (str l).size = str (l.drop 4) := by
  rw [str_extract, List.take_of_length_le]
  rw [str_size, List.length_drop]; omega
theorem own_lit {w w3 : World} (zs : List Int) (m : Nat) (cs : Array Value) (hb : Below w.heap.size w w3) (hc : cs.toList = zs.map (Value.int .u8) ∧ zs.length = m ∧ m ≤ 2) :
    (w3.alloc (.cells cs 5)).ownsRow w.heap.size 5 1 (.slice (some ⟨w3.heap.size, 0, none⟩) m m) zs.length (zs.map (Value.int .u8)) := by
  obtain ⟨h1, rfl, h3⟩ := hc
  rw [← h1]
  exact World.ownsRow_lit w3 cs zs.length hb.size (by unfold maxLen; omega) (by rw [← Array.length_toList, h1]; simp)
theorem s_none (n : Nat) (h : NameIs n []) : SignIs n [] 0 false := by
  intro w
  have h1 := h w
  rw [str_nil] at h1
  have H1 := hide h1; clear h h1
  go_enter Tryz.func87, Tryz.ntmps87
  go_wp2_with fail
  refine (unhide H1).mono ?_
  rintro e w1 ⟨rfl, hb1⟩
  have HB1 := hide hb1; clear hb1
  go_wp2
  go_ret3
  exact ⟨_, rfl, World.ownsRow_nil _ _ _ _, unhide HB1⟩
theorem s_low (n : Nat) (l : List UInt8) (h : NameIs n l) (hn : l ≠ []) (h36 : (n : Int) ≤ 36) : SignIs n [] 0 false := by
  intro w
  have h1 := h w
  have hie : (str l).toList.isEmpty = false := str_ie hn
  have H1 := hide h1; clear h h1 hn
  generalize str l = s at *
  go_enter Tryz.func87, Tryz.ntmps87
  go_wp2_with fail
  refine (unhide H1).mono ?_
  rintro e w1 ⟨rfl, hb1⟩
  have HB1 := hide hb1; clear hb1
  go_wp2
  go_ret3
  exact ⟨_, rfl, World.ownsRow_nil _ _ _ _, unhide HB1⟩
theorem s_const1 (n : Nat) (l : List UInt8) (h : NameIs n l) (hn : l ≠ []) (hl : l.length < 100) (h36 : ¬ (n : Int) ≤ 36) (h255 : n < 256) (hf : FormIs n 1 true) : SignIs n [] (kindF l) true := by
  intro w
  have h1 := h w
  have H1 := hide h1; clear h h1
  have hie : (str l).toList.isEmpty = false := str_ie hn
  have hk := fun wx => kindr_any l wx (by omega)
  have HK := hide hk; clear hk
  have hff := hf
  have HF := hide hff; clear hf hff
  clear hn hl
  generalize str l = s at *
  generalize kindF l = k at *
  go_enter Tryz.func87, Tryz.ntmps87
  go_wp2_with fail
  refine (unhide H1).mono ?_
  rintro e w1 ⟨rfl, hb1⟩
  have HB1 := hide hb1; clear hb1
  go_wp2_with fail
  refine (unhide HK _).mono ?_
  rintro e w1' ⟨rfl, rfl⟩
  go_wp2_with fail
  refine (unhide HF _).mono ?_
  rintro e w2 ⟨rfl, hb2⟩
  have HB2 := hide (Below.on (unhide HB1) hb2); clear hb2 HB1
  go_wp2
  go_ret3
  exact ⟨_, rfl, World.ownsRow_nil _ _ _ _, unhide HB2⟩
theorem s_const2 (n : Nat) (l : List UInt8) (h : NameIs n l) (hn : l ≠ []) (hl : l.length < 100) (h36 : ¬ (n : Int) ≤ 36) (h255 : n < 256) (hf : FormIs n 2 true) : SignIs n [] (kindF l) true := by
  intro w
  have h1 := h w
  have H1 := hide h1; clear h h1
  have hie : (str l).toList.isEmpty = false := str_ie hn
  have hk := fun wx => kindr_any l wx (by omega)
  have HK := hide hk; clear hk
  have hff := hf
  have HF := hide hff; clear hf hff
  clear hn hl
  generalize str l = s at *
  generalize kindF l = k at *
  go_enter Tryz.func87, Tryz.ntmps87
  go_wp2_with fail
  refine (unhide H1).mono ?_
  rintro e w1 ⟨rfl, hb1⟩
  have HB1 := hide hb1; clear hb1
  go_wp2_with fail
  refine (unhide HK _).mono ?_
  rintro e w1' ⟨rfl, rfl⟩
  go_wp2_with fail
  refine (unhide HF _).mono ?_
  rintro e w2 ⟨rfl, hb2⟩
  have HB2 := hide (Below.on (unhide HB1) hb2); clear hb2 HB1
  go_wp2
  go_ret3
  exact ⟨_, rfl, World.ownsRow_nil _ _ _ _, unhide HB2⟩
theorem s_size (n : Nat) (h : NameIs n [109, 101, 109, 111, 114, 121, 46, 115, 105, 122, 101]) (h36 : ¬ (n : Int) ≤ 36) (h255 : n < 256) (hf : FormIs n 5 true) : SignIs n [] 127 true := by
  intro w
  have h1 := h w
  rw [show str [109, 101, 109, 111, 114, 121, 46, 115, 105, 122, 101] = ⟨#[109, 101, 109, 111, 114, 121, 46, 115, 105, 122, 101]⟩ from rfl] at h1
  have H1 := hide h1; clear h h1
  have hk := fun wx => kindr_any [109, 101, 109, 111, 114, 121, 46, 115, 105, 122, 101] wx (by decide)
  rw [show kindF [109, 101, 109, 111, 114, 121, 46, 115, 105, 122, 101] = 127 from rfl, show str [109, 101, 109, 111, 114, 121, 46, 115, 105, 122, 101] = ⟨#[109, 101, 109, 111, 114, 121, 46, 115, 105, 122, 101]⟩ from rfl] at hk
  have HK := hide hk; clear hk
  have hff := hf
  have HF := hide hff; clear hf hff
  go_enter Tryz.func87, Tryz.ntmps87
  go_wp2_with fail
  refine (unhide H1).mono ?_
  rintro e w1 ⟨rfl, hb1⟩
  have HB1 := hide hb1; clear hb1
  go_wp2_with fail
  refine (unhide HK _).mono ?_
  rintro e w1' ⟨rfl, rfl⟩
  go_wp2_with fail
  refine (unhide HF _).mono ?_
  rintro e w2 ⟨rfl, hb2⟩
  have HB2 := hide (Below.on (unhide HB1) hb2); clear hb2 HB1
  go_wp2
  go_ret3
  exact ⟨_, rfl, World.ownsRow_nil _ _ _ _, unhide HB2⟩
theorem s_grow (n : Nat) (h : NameIs n [109, 101, 109, 111, 114, 121, 46, 103, 114, 111, 119]) (h36 : ¬ (n : Int) ≤ 36) (h255 : n < 256) (hf : FormIs n 5 true) : SignIs n [127] 127 true := by
  intro w
  have h1 := h w
  rw [show str [109, 101, 109, 111, 114, 121, 46, 103, 114, 111, 119] = ⟨#[109, 101, 109, 111, 114, 121, 46, 103, 114, 111, 119]⟩ from rfl] at h1
  have H1 := hide h1; clear h h1
  have hk := fun wx => kindr_any [109, 101, 109, 111, 114, 121, 46, 103, 114, 111, 119] wx (by decide)
  rw [show kindF [109, 101, 109, 111, 114, 121, 46, 103, 114, 111, 119] = 127 from rfl, show str [109, 101, 109, 111, 114, 121, 46, 103, 114, 111, 119] = ⟨#[109, 101, 109, 111, 114, 121, 46, 103, 114, 111, 119]⟩ from rfl] at hk
  have HK := hide hk; clear hk
  have hff := hf
  have HF := hide hff; clear hf hff
  go_enter Tryz.func87, Tryz.ntmps87
  go_wp2_with fail
  refine (unhide H1).mono ?_
  rintro e w1 ⟨rfl, hb1⟩
  have HB1 := hide hb1; clear hb1
  go_wp2_with fail
  refine (unhide HK _).mono ?_
  rintro e w1' ⟨rfl, rfl⟩
  go_wp2_with fail
  refine (unhide HF _).mono ?_
  rintro e w2 ⟨rfl, hb2⟩
  have HB2 := hide (Below.on (unhide HB1) hb2); clear hb2 HB1
  go_wp2
  go_ret3
  exact ⟨_, rfl, own_lit _ _ _ (unhide HB2) ⟨rfl, rfl, by decide⟩, (unhide HB2).alloc (unhide HB2).size _⟩
theorem s_load (n : Nat) (l : List UInt8) (h : NameIs n l) (hn : l ≠ []) (hl : l.length < 100) (h36 : ¬ (n : Int) ≤ 36) (h255 : n < 256) (hf : FormIs n 4 true) (h1 : ¬ l = [109, 101, 109, 111, 114, 121, 46, 115, 105, 122, 101]) (h2 : ¬ l = [109, 101, 109, 111, 114, 121, 46, 103, 114, 111, 119]) (h4 : 4 ≤ l.length) (hh : hasF (l.drop 4) [108, 111, 97, 100] = true) : SignIs n [127] (kindF l) true := by
  have t1 : ((str l).toList == [109, 101, 109, 111, 114, 121, 46, 115, 105, 122, 101]) = false := toList_bne h1
  have t2 : ((str l).toList == [109, 101, 109, 111, 114, 121, 46, 103, 114, 111, 119]) = false := toList_bne h2
  clear h1 h2
  intro w
  have h1 := h w
  have H1 := hide h1; clear h h1
  have hie : (str l).toList.isEmpty = false := str_ie hn
  have hk := fun wx => kindr_any l wx (by omega)
  have HK := hide hk; clear hk
  have hff := hf
  have HF := hide hff; clear hf hff
  have hz : 4 ≤ (str l).size := h4
  have hz2 : (str l).size < 100 := hl
  have hc := fun wx => hasr_any (l.drop 4) [108, 111, 97, 100] wx (by rw [List.length_drop]; omega) (by decide)
  rw [hh, ← str_drop4 l] at hc
  have HH := hide hc; clear hc hh h4
  clear hn hl
  generalize str l = s at *
  generalize kindF l = k at *
  go_enter Tryz.func87, Tryz.ntmps87
  go_wp2_with fail
  refine (unhide H1).mono ?_
  rintro e w1 ⟨rfl, hb1⟩
  have HB1 := hide hb1; clear hb1
  go_wp2_with fail
  refine (unhide HK _).mono ?_
  rintro e w1' ⟨rfl, rfl⟩
  go_wp2_with fail
  refine (unhide HF _).mono ?_
  rintro e w2 ⟨rfl, hb2⟩
  have HB2 := hide (Below.on (unhide HB1) hb2); clear hb2 HB1
  go_wp2_with fail
  refine (unhide HH _).mono ?_
  rintro e w2' ⟨rfl, rfl⟩
  go_wp2
  go_ret3
  exact ⟨_, rfl, own_lit _ _ _ (unhide HB2) ⟨rfl, rfl, by decide⟩, (unhide HB2).alloc (unhide HB2).size _⟩
theorem s_store (n : Nat) (l : List UInt8) (h : NameIs n l) (hn : l ≠ []) (hl : l.length < 100) (h36 : ¬ (n : Int) ≤ 36) (h255 : n < 256) (hf : FormIs n 4 true) (h1 : ¬ l = [109, 101, 109, 111, 114, 121, 46, 115, 105, 122, 101]) (h2 : ¬ l = [109, 101, 109, 111, 114, 121, 46, 103, 114, 111, 119]) (h4 : 4 ≤ l.length) (hh : hasF (l.drop 4) [108, 111, 97, 100] = false) : SignIs n [127, kindF l] 0 true := by
  have t1 : ((str l).toList == [109, 101, 109, 111, 114, 121, 46, 115, 105, 122, 101]) = false := toList_bne h1
  have t2 : ((str l).toList == [109, 101, 109, 111, 114, 121, 46, 103, 114, 111, 119]) = false := toList_bne h2
  clear h1 h2
  intro w
  have h1 := h w
  have H1 := hide h1; clear h h1
  have hie : (str l).toList.isEmpty = false := str_ie hn
  have hk := fun wx => kindr_any l wx (by omega)
  have HK := hide hk; clear hk
  have hff := hf
  have HF := hide hff; clear hf hff
  have hz : 4 ≤ (str l).size := h4
  have hz2 : (str l).size < 100 := hl
  have hc := fun wx => hasr_any (l.drop 4) [108, 111, 97, 100] wx (by rw [List.length_drop]; omega) (by decide)
  rw [hh, ← str_drop4 l] at hc
  have HH := hide hc; clear hc hh h4
  clear hn hl
  generalize str l = s at *
  generalize kindF l = k at *
  go_enter Tryz.func87, Tryz.ntmps87
  go_wp2_with fail
  refine (unhide H1).mono ?_
  rintro e w1 ⟨rfl, hb1⟩
  have HB1 := hide hb1; clear hb1
  go_wp2_with fail
  refine (unhide HK _).mono ?_
  rintro e w1' ⟨rfl, rfl⟩
  go_wp2_with fail
  refine (unhide HF _).mono ?_
  rintro e w2 ⟨rfl, hb2⟩
  have HB2 := hide (Below.on (unhide HB1) hb2); clear hb2 HB1
  go_wp2_with fail
  refine (unhide HH _).mono ?_
  rintro e w2' ⟨rfl, rfl⟩
  go_wp2
  go_ret3
  exact ⟨_, rfl, own_lit _ _ _ (unhide HB2) ⟨rfl, rfl, by decide⟩, (unhide HB2).alloc (unhide HB2).size _⟩
/- mandrelref04.Sign of layer 2's instructions, and what it returns. -/
def kW (W : Nat) : Int := if W = 64 then 126 else 127
/-- what layer 2's instructions take and give -/
def signQ (q : List UInt8) (W : Nat) : List Int × Int :=
  if q = [119, 114, 97, 112] then ([126], 127)
  else if q = [101, 120, 116, 101, 110, 100, 95, 115] then ([127], 126)
  else if q = [101, 120, 116, 101, 110, 100, 95, 117] then ([127], 126)
  else if q = [101, 113, 122] then ([kW W], 127)
  else if q = [99, 108, 122] then ([kW W], kW W)
  else if q = [99, 116, 122] then ([kW W], kW W)
  else if q = [112, 111, 112, 99, 110, 116] then ([kW W], kW W)
  else if q = [101, 113] then ([kW W, kW W], 127)
  else if q = [110, 101] then ([kW W, kW W], 127)
  else if q = [108, 116, 95, 115] then ([kW W, kW W], 127)
  else if q = [108, 116, 95, 117] then ([kW W, kW W], 127)
  else if q = [103, 116, 95, 115] then ([kW W, kW W], 127)
  else if q = [103, 116, 95, 117] then ([kW W, kW W], 127)
  else if q = [108, 101, 95, 115] then ([kW W, kW W], 127)
  else if q = [108, 101, 95, 117] then ([kW W, kW W], 127)
  else if q = [103, 101, 95, 115] then ([kW W, kW W], 127)
  else if q = [103, 101, 95, 117] then ([kW W, kW W], 127)
  else ([kW W, kW W], kW W)
/-- what is taken and given by a name, layer 2's name, and bits -/
def signF (l q : List UInt8) (W : Nat) : List Int × Int :=
  if formF l = 1 ∨ formF l = 2 then ([], kindF l)
  else if l = [109, 101, 109, 111, 114, 121, 46, 115, 105, 122, 101] then ([], 127)
  else if l = [109, 101, 109, 111, 114, 121, 46, 103, 114, 111, 119] then ([127], 127)
  else if formF l = 4 then (if hasF (l.drop 4) [108, 111, 97, 100] = true then ([127], kindF l) else ([127, kindF l], 0))
  else signQ q W
theorem sq_dec (q r : List UInt8) : ((str q).toList == r) = decide (q = r) := by
  rw [str_toList]
  by_cases e : q = r
  · rw [decide_eq_true e, e]; exact beq_self_eq_true r
  · rw [decide_eq_false e]; exact beq_eq_false_iff_ne.2 e
theorem s_two (n : Nat) (l : List UInt8) (h : NameIs n l) (hn : l ≠ []) (hl : l.length < 100) (h36 : ¬ (n : Int) ≤ 36) (h255 : n < 256) (f : Int) (hf : FormIs n f true) (f1 : (f == 1) = false) (f2 : (f == 2) = false) (f4 : (f == 4) = false) (h1 : ¬ l = [109, 101, 109, 111, 114, 121, 46, 115, 105, 122, 101]) (h2 : ¬ l = [109, 101, 109, 111, 114, 121, 46, 103, 114, 111, 119]) (q : List UInt8) (W : Nat) (hW : W = 32 ∨ W = 64)
    (hq : ∀ w, Calls Tryz.prog 89 #[.int .u8 n] w fun e w' => e = .returned (.tuple #[.string (str q), .int .i64 W]) ∧ Below w.heap.size w w') : SignIs n (signQ q W).1 (signQ q W).2 true := by
  have t1 : ((str l).toList == [109, 101, 109, 111, 114, 121, 46, 115, 105, 122, 101]) = false := toList_bne h1
  have t2 : ((str l).toList == [109, 101, 109, 111, 114, 121, 46, 103, 114, 111, 119]) = false := toList_bne h2
  clear h1 h2
  have v0 := sq_dec q [119, 114, 97, 112]
  have v1 := sq_dec q [101, 120, 116, 101, 110, 100, 95, 115]
  have v2 := sq_dec q [101, 120, 116, 101, 110, 100, 95, 117]
  have v3 := sq_dec q [101, 113, 122]
  have v4 := sq_dec q [99, 108, 122]
  have v5 := sq_dec q [99, 116, 122]
  have v6 := sq_dec q [112, 111, 112, 99, 110, 116]
  have v7 := sq_dec q [101, 113]
  have v8 := sq_dec q [110, 101]
  have v9 := sq_dec q [108, 116, 95, 115]
  have v10 := sq_dec q [108, 116, 95, 117]
  have v11 := sq_dec q [103, 116, 95, 115]
  have v12 := sq_dec q [103, 116, 95, 117]
  have v13 := sq_dec q [108, 101, 95, 115]
  have v14 := sq_dec q [108, 101, 95, 117]
  have v15 := sq_dec q [103, 101, 95, 115]
  have v16 := sq_dec q [103, 101, 95, 117]
  by_cases g0 : q = [119, 114, 97, 112]
  rotate_left
  by_cases g1 : q = [101, 120, 116, 101, 110, 100, 95, 115]
  rotate_left
  by_cases g2 : q = [101, 120, 116, 101, 110, 100, 95, 117]
  rotate_left
  by_cases g3 : q = [101, 113, 122]
  rotate_left
  by_cases g4 : q = [99, 108, 122]
  rotate_left
  by_cases g5 : q = [99, 116, 122]
  rotate_left
  by_cases g6 : q = [112, 111, 112, 99, 110, 116]
  rotate_left
  by_cases g7 : q = [101, 113]
  rotate_left
  by_cases g8 : q = [110, 101]
  rotate_left
  by_cases g9 : q = [108, 116, 95, 115]
  rotate_left
  by_cases g10 : q = [108, 116, 95, 117]
  rotate_left
  by_cases g11 : q = [103, 116, 95, 115]
  rotate_left
  by_cases g12 : q = [103, 116, 95, 117]
  rotate_left
  by_cases g13 : q = [108, 101, 95, 115]
  rotate_left
  by_cases g14 : q = [108, 101, 95, 117]
  rotate_left
  by_cases g15 : q = [103, 101, 95, 115]
  rotate_left
  by_cases g16 : q = [103, 101, 95, 117]
  rotate_left
  all_goals
    first | rw [decide_eq_true g0] at v0 | rw [decide_eq_false g0] at v0 | clear v0
    first | rw [decide_eq_true g1] at v1 | rw [decide_eq_false g1] at v1 | clear v1
    first | rw [decide_eq_true g2] at v2 | rw [decide_eq_false g2] at v2 | clear v2
    first | rw [decide_eq_true g3] at v3 | rw [decide_eq_false g3] at v3 | clear v3
    first | rw [decide_eq_true g4] at v4 | rw [decide_eq_false g4] at v4 | clear v4
    first | rw [decide_eq_true g5] at v5 | rw [decide_eq_false g5] at v5 | clear v5
    first | rw [decide_eq_true g6] at v6 | rw [decide_eq_false g6] at v6 | clear v6
    first | rw [decide_eq_true g7] at v7 | rw [decide_eq_false g7] at v7 | clear v7
    first | rw [decide_eq_true g8] at v8 | rw [decide_eq_false g8] at v8 | clear v8
    first | rw [decide_eq_true g9] at v9 | rw [decide_eq_false g9] at v9 | clear v9
    first | rw [decide_eq_true g10] at v10 | rw [decide_eq_false g10] at v10 | clear v10
    first | rw [decide_eq_true g11] at v11 | rw [decide_eq_false g11] at v11 | clear v11
    first | rw [decide_eq_true g12] at v12 | rw [decide_eq_false g12] at v12 | clear v12
    first | rw [decide_eq_true g13] at v13 | rw [decide_eq_false g13] at v13 | clear v13
    first | rw [decide_eq_true g14] at v14 | rw [decide_eq_false g14] at v14 | clear v14
    first | rw [decide_eq_true g15] at v15 | rw [decide_eq_false g15] at v15 | clear v15
    first | rw [decide_eq_true g16] at v16 | rw [decide_eq_false g16] at v16 | clear v16
  all_goals rcases hW with rfl | rfl
  all_goals
    first
      | rw [show signQ q 32 = ([126], 127) by unfold signQ; rw [if_pos g0]; try rfl]
      | rw [show signQ q 32 = ([127], 126) by unfold signQ; rw [if_neg g0, if_pos g1]; try rfl]
      | rw [show signQ q 32 = ([127], 126) by unfold signQ; rw [if_neg g0, if_neg g1, if_pos g2]; try rfl]
      | rw [show signQ q 32 = ([127], 127) by unfold signQ; rw [if_neg g0, if_neg g1, if_neg g2, if_pos g3]; try rfl]
      | rw [show signQ q 32 = ([127], 127) by unfold signQ; rw [if_neg g0, if_neg g1, if_neg g2, if_neg g3, if_pos g4]; try rfl]
      | rw [show signQ q 32 = ([127], 127) by unfold signQ; rw [if_neg g0, if_neg g1, if_neg g2, if_neg g3, if_neg g4, if_pos g5]; try rfl]
      | rw [show signQ q 32 = ([127], 127) by unfold signQ; rw [if_neg g0, if_neg g1, if_neg g2, if_neg g3, if_neg g4, if_neg g5, if_pos g6]; try rfl]
      | rw [show signQ q 32 = ([127, 127], 127) by unfold signQ; rw [if_neg g0, if_neg g1, if_neg g2, if_neg g3, if_neg g4, if_neg g5, if_neg g6, if_pos g7]; try rfl]
      | rw [show signQ q 32 = ([127, 127], 127) by unfold signQ; rw [if_neg g0, if_neg g1, if_neg g2, if_neg g3, if_neg g4, if_neg g5, if_neg g6, if_neg g7, if_pos g8]; try rfl]
      | rw [show signQ q 32 = ([127, 127], 127) by unfold signQ; rw [if_neg g0, if_neg g1, if_neg g2, if_neg g3, if_neg g4, if_neg g5, if_neg g6, if_neg g7, if_neg g8, if_pos g9]; try rfl]
      | rw [show signQ q 32 = ([127, 127], 127) by unfold signQ; rw [if_neg g0, if_neg g1, if_neg g2, if_neg g3, if_neg g4, if_neg g5, if_neg g6, if_neg g7, if_neg g8, if_neg g9, if_pos g10]; try rfl]
      | rw [show signQ q 32 = ([127, 127], 127) by unfold signQ; rw [if_neg g0, if_neg g1, if_neg g2, if_neg g3, if_neg g4, if_neg g5, if_neg g6, if_neg g7, if_neg g8, if_neg g9, if_neg g10, if_pos g11]; try rfl]
      | rw [show signQ q 32 = ([127, 127], 127) by unfold signQ; rw [if_neg g0, if_neg g1, if_neg g2, if_neg g3, if_neg g4, if_neg g5, if_neg g6, if_neg g7, if_neg g8, if_neg g9, if_neg g10, if_neg g11, if_pos g12]; try rfl]
      | rw [show signQ q 32 = ([127, 127], 127) by unfold signQ; rw [if_neg g0, if_neg g1, if_neg g2, if_neg g3, if_neg g4, if_neg g5, if_neg g6, if_neg g7, if_neg g8, if_neg g9, if_neg g10, if_neg g11, if_neg g12, if_pos g13]; try rfl]
      | rw [show signQ q 32 = ([127, 127], 127) by unfold signQ; rw [if_neg g0, if_neg g1, if_neg g2, if_neg g3, if_neg g4, if_neg g5, if_neg g6, if_neg g7, if_neg g8, if_neg g9, if_neg g10, if_neg g11, if_neg g12, if_neg g13, if_pos g14]; try rfl]
      | rw [show signQ q 32 = ([127, 127], 127) by unfold signQ; rw [if_neg g0, if_neg g1, if_neg g2, if_neg g3, if_neg g4, if_neg g5, if_neg g6, if_neg g7, if_neg g8, if_neg g9, if_neg g10, if_neg g11, if_neg g12, if_neg g13, if_neg g14, if_pos g15]; try rfl]
      | rw [show signQ q 32 = ([127, 127], 127) by unfold signQ; rw [if_neg g0, if_neg g1, if_neg g2, if_neg g3, if_neg g4, if_neg g5, if_neg g6, if_neg g7, if_neg g8, if_neg g9, if_neg g10, if_neg g11, if_neg g12, if_neg g13, if_neg g14, if_neg g15, if_pos g16]; try rfl]
      | rw [show signQ q 32 = ([127, 127], 127) by unfold signQ; rw [if_neg g0, if_neg g1, if_neg g2, if_neg g3, if_neg g4, if_neg g5, if_neg g6, if_neg g7, if_neg g8, if_neg g9, if_neg g10, if_neg g11, if_neg g12, if_neg g13, if_neg g14, if_neg g15, if_neg g16]; try rfl]
      | rw [show signQ q 64 = ([126], 127) by unfold signQ; rw [if_pos g0]; try rfl]
      | rw [show signQ q 64 = ([127], 126) by unfold signQ; rw [if_neg g0, if_pos g1]; try rfl]
      | rw [show signQ q 64 = ([127], 126) by unfold signQ; rw [if_neg g0, if_neg g1, if_pos g2]; try rfl]
      | rw [show signQ q 64 = ([126], 127) by unfold signQ; rw [if_neg g0, if_neg g1, if_neg g2, if_pos g3]; try rfl]
      | rw [show signQ q 64 = ([126], 126) by unfold signQ; rw [if_neg g0, if_neg g1, if_neg g2, if_neg g3, if_pos g4]; try rfl]
      | rw [show signQ q 64 = ([126], 126) by unfold signQ; rw [if_neg g0, if_neg g1, if_neg g2, if_neg g3, if_neg g4, if_pos g5]; try rfl]
      | rw [show signQ q 64 = ([126], 126) by unfold signQ; rw [if_neg g0, if_neg g1, if_neg g2, if_neg g3, if_neg g4, if_neg g5, if_pos g6]; try rfl]
      | rw [show signQ q 64 = ([126, 126], 127) by unfold signQ; rw [if_neg g0, if_neg g1, if_neg g2, if_neg g3, if_neg g4, if_neg g5, if_neg g6, if_pos g7]; try rfl]
      | rw [show signQ q 64 = ([126, 126], 127) by unfold signQ; rw [if_neg g0, if_neg g1, if_neg g2, if_neg g3, if_neg g4, if_neg g5, if_neg g6, if_neg g7, if_pos g8]; try rfl]
      | rw [show signQ q 64 = ([126, 126], 127) by unfold signQ; rw [if_neg g0, if_neg g1, if_neg g2, if_neg g3, if_neg g4, if_neg g5, if_neg g6, if_neg g7, if_neg g8, if_pos g9]; try rfl]
      | rw [show signQ q 64 = ([126, 126], 127) by unfold signQ; rw [if_neg g0, if_neg g1, if_neg g2, if_neg g3, if_neg g4, if_neg g5, if_neg g6, if_neg g7, if_neg g8, if_neg g9, if_pos g10]; try rfl]
      | rw [show signQ q 64 = ([126, 126], 127) by unfold signQ; rw [if_neg g0, if_neg g1, if_neg g2, if_neg g3, if_neg g4, if_neg g5, if_neg g6, if_neg g7, if_neg g8, if_neg g9, if_neg g10, if_pos g11]; try rfl]
      | rw [show signQ q 64 = ([126, 126], 127) by unfold signQ; rw [if_neg g0, if_neg g1, if_neg g2, if_neg g3, if_neg g4, if_neg g5, if_neg g6, if_neg g7, if_neg g8, if_neg g9, if_neg g10, if_neg g11, if_pos g12]; try rfl]
      | rw [show signQ q 64 = ([126, 126], 127) by unfold signQ; rw [if_neg g0, if_neg g1, if_neg g2, if_neg g3, if_neg g4, if_neg g5, if_neg g6, if_neg g7, if_neg g8, if_neg g9, if_neg g10, if_neg g11, if_neg g12, if_pos g13]; try rfl]
      | rw [show signQ q 64 = ([126, 126], 127) by unfold signQ; rw [if_neg g0, if_neg g1, if_neg g2, if_neg g3, if_neg g4, if_neg g5, if_neg g6, if_neg g7, if_neg g8, if_neg g9, if_neg g10, if_neg g11, if_neg g12, if_neg g13, if_pos g14]; try rfl]
      | rw [show signQ q 64 = ([126, 126], 127) by unfold signQ; rw [if_neg g0, if_neg g1, if_neg g2, if_neg g3, if_neg g4, if_neg g5, if_neg g6, if_neg g7, if_neg g8, if_neg g9, if_neg g10, if_neg g11, if_neg g12, if_neg g13, if_neg g14, if_pos g15]; try rfl]
      | rw [show signQ q 64 = ([126, 126], 127) by unfold signQ; rw [if_neg g0, if_neg g1, if_neg g2, if_neg g3, if_neg g4, if_neg g5, if_neg g6, if_neg g7, if_neg g8, if_neg g9, if_neg g10, if_neg g11, if_neg g12, if_neg g13, if_neg g14, if_neg g15, if_pos g16]; try rfl]
      | rw [show signQ q 64 = ([126, 126], 126) by unfold signQ; rw [if_neg g0, if_neg g1, if_neg g2, if_neg g3, if_neg g4, if_neg g5, if_neg g6, if_neg g7, if_neg g8, if_neg g9, if_neg g10, if_neg g11, if_neg g12, if_neg g13, if_neg g14, if_neg g15, if_neg g16]; try rfl]
  all_goals
    have HQ := hide hq
    try clear g0
    try clear g1
    try clear g2
    try clear g3
    try clear g4
    try clear g5
    try clear g6
    try clear g7
    try clear g8
    try clear g9
    try clear g10
    try clear g11
    try clear g12
    try clear g13
    try clear g14
    try clear g15
    try clear g16
    clear hq
    intro w
    have h1 := h w
    have H1 := hide h1; clear h h1
    have hie : (str l).toList.isEmpty = false := str_ie hn
    have hk := fun wx => kindr_any l wx (by omega)
    have HK := hide hk; clear hk
    have hff := hf
    have HF := hide hff; clear hf hff
    clear hn hl
    generalize str l = s at *
    generalize kindF l = k at *
    generalize str q = qq at *
    go_enter Tryz.func87, Tryz.ntmps87
    go_wp2_with fail
    refine (unhide H1).mono ?_
    rintro e w1 ⟨rfl, hb1⟩
    have HB1 := hide hb1; clear hb1
    go_wp2_with fail
    refine (unhide HK _).mono ?_
    rintro e w1' ⟨rfl, rfl⟩
    go_wp2_with fail
    refine (unhide HF _).mono ?_
    rintro e w2 ⟨rfl, hb2⟩
    have HB2 := hide (Below.on (unhide HB1) hb2); clear hb2 HB1
    go_wp2_with fail
    refine (unhide HQ _).mono ?_
    rintro e w3 ⟨rfl, hb3⟩
    have HB3 := hide (Below.on (unhide HB2) hb3); clear hb3 HB2
    go_wp2
    go_ret3
    exact ⟨_, rfl, own_lit _ _ _ (unhide HB3) ⟨rfl, rfl, by decide⟩, (unhide HB3).alloc (unhide HB3).size _⟩
theorem signr_any (n : Nat) (l : List UInt8) (h : NameIs n l) (hn : l ≠ []) (hl : l.length < 100) (h36 : ¬ (n : Int) ≤ 36) (h255 : n < 256) (q : List UInt8) (W : Nat) (hW : ¬ formF l = 1 → ¬ formF l = 2 → ¬ formF l = 4 → ¬ l = [109, 101, 109, 111, 114, 121, 46, 115, 105, 122, 101] → ¬ l = [109, 101, 109, 111, 114, 121, 46, 103, 114, 111, 119] → W = 32 ∨ W = 64) (h4 : formF l = 4 → 4 ≤ l.length)
    (hq : ∀ w, Calls Tryz.prog 89 #[.int .u8 n] w fun e w' => e = .returned (.tuple #[.string (str q), .int .i64 W]) ∧ Below w.heap.size w w') : SignIs n (signF l q W).1 (signF l q W).2 true := by
  have hf := formr_any n l h hn hl
  by_cases a1 : formF l = 1
  · rw [a1] at hf
    rw [show signF l q W = ([], kindF l) by unfold signF; rw [if_pos (.inl a1)]]
    exact s_const1 n l h hn hl h36 h255 hf
  by_cases a2 : formF l = 2
  · rw [a2] at hf
    rw [show signF l q W = ([], kindF l) by unfold signF; rw [if_pos (.inr a2)]]
    exact s_const2 n l h hn hl h36 h255 hf
  have a12 : ¬ (formF l = 1 ∨ formF l = 2) := fun e => e.elim a1 a2
  by_cases b1 : l = [109, 101, 109, 111, 114, 121, 46, 115, 105, 122, 101]
  · rw [show signF l q W = ([], 127) by unfold signF; rw [if_neg a12, if_pos b1]]
    subst b1
    exact s_size n h h36 h255 hf
  by_cases b2 : l = [109, 101, 109, 111, 114, 121, 46, 103, 114, 111, 119]
  · rw [show signF l q W = ([127], 127) by unfold signF; rw [if_neg a12, if_neg b1, if_pos b2]]
    subst b2
    exact s_grow n h h36 h255 hf
  by_cases a4 : formF l = 4
  · rw [show signF l q W = (if hasF (l.drop 4) [108, 111, 97, 100] = true then ([127], kindF l) else ([127, kindF l], 0)) by unfold signF; rw [if_neg a12, if_neg b1, if_neg b2, if_pos a4]]
    rw [a4] at hf
    rcases hh : hasF (l.drop 4) [108, 111, 97, 100] with _ | _
    · exact s_store n l h hn hl h36 h255 hf b1 b2 (h4 a4) hh
    · exact s_load n l h hn hl h36 h255 hf b1 b2 (h4 a4) hh
  have f1 : (formF l == 1) = false := by simpa using a1
  have f2 : (formF l == 2) = false := by simpa using a2
  have f4 : (formF l == 4) = false := by simpa using a4
  rw [show signF l q W = signQ q W by unfold signF; rw [if_neg a12, if_neg b1, if_neg b2, if_neg a4]]
  exact s_two n l h hn hl h36 h255 _ hf f1 f2 f4 b1 b2 q W (hW a1 a2 a4 b1 b2) hq
end Go.Proofs.YtglehoekehiaiaaGreatDoor
