/- mandrelref04.Sign of layer 2's instructions of 64 bits. -/
import Derived.Test.YtheopjcmhclgdaaGreatDoorRfS
namespace Go.Proofs.YtheopjcmhclgdaaGreatDoor
open Go.RowKit
set_option linter.unusedVariables false

set_option maxRecDepth 100000 in
set_option maxHeartbeats 1600000 in
theorem s64_wrap (n : Nat) (l : List UInt8) (h : NameIs n l) (hn : l ≠ []) (hl : l.length < 100) (h36 : ¬ (n : Int) ≤ 36) (h255 : n < 256) (f : Int) (hf : FormIs n f true) (f1 : (f == 1) = false) (f2 : (f == 2) = false) (f4 : (f == 4) = false) (h1 : ¬ l = [109, 101, 109, 111, 114, 121, 46, 115, 105, 122, 101]) (h2 : ¬ l = [109, 101, 109, 111, 114, 121, 46, 103, 114, 111, 119])
    (hq : ∀ w, Calls Tryz.prog 73 #[.int .u8 n] w fun e w' => e = .returned (.tuple #[.string (str [119, 114, 97, 112]), .int .i64 64]) ∧ Below w.heap.size w w') : SignIs n [126] 127 true := by
  rw [show str [119, 114, 97, 112] = ⟨#[119, 114, 97, 112]⟩ from rfl] at hq
  have HQ := hide hq; clear hq
  have t1 : ((str l).toList == [109, 101, 109, 111, 114, 121, 46, 115, 105, 122, 101]) = false := toList_bne h1
  have t2 : ((str l).toList == [109, 101, 109, 111, 114, 121, 46, 103, 114, 111, 119]) = false := toList_bne h2
  clear h1 h2
  intro w
  have h1 := h w
  have H1 := hide h1; clear h h1
  have hie : (str l).toList.isEmpty = false := str_ie hn
  have hk := fun wx => kindr_any l wx (by omega)
  have HK := hide hk; clear hk
  have hff := hf
  have HF := hide hff; clear hf hff
  clear hn hl
  generalize str l = s at *
  generalize kindF l = k at *
  go_enter Tryz.func72, Tryz.ntmps72
  go_wp2_with fail
  refine (unhide H1).mono ?_
  rintro e w1 ⟨rfl, hb1⟩
  have HB1 := hide hb1; clear hb1
  go_wp2_with fail
  refine (unhide HK _).mono ?_
  rintro e w1' ⟨rfl, rfl⟩
  go_wp2_with fail
  refine (unhide HF _).mono ?_
  rintro e w2 ⟨rfl, hb2⟩
  have HB2 := hide (Below.on (unhide HB1) hb2); clear hb2 HB1
  go_wp2_with fail
  refine (unhide HQ _).mono ?_
  rintro e w3 ⟨rfl, hb3⟩
  have HB3 := hide (Below.on (unhide HB2) hb3); clear hb3 HB2
  go_wp2
  go_ret3
  exact ⟨_, rfl, own_lit _ _ _ (unhide HB3) ⟨rfl, rfl, by decide⟩, (unhide HB3).alloc (unhide HB3).size _⟩
set_option maxRecDepth 100000 in
set_option maxHeartbeats 1600000 in
theorem s64_extend_s (n : Nat) (l : List UInt8) (h : NameIs n l) (hn : l ≠ []) (hl : l.length < 100) (h36 : ¬ (n : Int) ≤ 36) (h255 : n < 256) (f : Int) (hf : FormIs n f true) (f1 : (f == 1) = false) (f2 : (f == 2) = false) (f4 : (f == 4) = false) (h1 : ¬ l = [109, 101, 109, 111, 114, 121, 46, 115, 105, 122, 101]) (h2 : ¬ l = [109, 101, 109, 111, 114, 121, 46, 103, 114, 111, 119])
    (hq : ∀ w, Calls Tryz.prog 73 #[.int .u8 n] w fun e w' => e = .returned (.tuple #[.string (str [101, 120, 116, 101, 110, 100, 95, 115]), .int .i64 64]) ∧ Below w.heap.size w w') : SignIs n [127] 126 true := by
  rw [show str [101, 120, 116, 101, 110, 100, 95, 115] = ⟨#[101, 120, 116, 101, 110, 100, 95, 115]⟩ from rfl] at hq
  have HQ := hide hq; clear hq
  have t1 : ((str l).toList == [109, 101, 109, 111, 114, 121, 46, 115, 105, 122, 101]) = false := toList_bne h1
  have t2 : ((str l).toList == [109, 101, 109, 111, 114, 121, 46, 103, 114, 111, 119]) = false := toList_bne h2
  clear h1 h2
  intro w
  have h1 := h w
  have H1 := hide h1; clear h h1
  have hie : (str l).toList.isEmpty = false := str_ie hn
  have hk := fun wx => kindr_any l wx (by omega)
  have HK := hide hk; clear hk
  have hff := hf
  have HF := hide hff; clear hf hff
  clear hn hl
  generalize str l = s at *
  generalize kindF l = k at *
  go_enter Tryz.func72, Tryz.ntmps72
  go_wp2_with fail
  refine (unhide H1).mono ?_
  rintro e w1 ⟨rfl, hb1⟩
  have HB1 := hide hb1; clear hb1
  go_wp2_with fail
  refine (unhide HK _).mono ?_
  rintro e w1' ⟨rfl, rfl⟩
  go_wp2_with fail
  refine (unhide HF _).mono ?_
  rintro e w2 ⟨rfl, hb2⟩
  have HB2 := hide (Below.on (unhide HB1) hb2); clear hb2 HB1
  go_wp2_with fail
  refine (unhide HQ _).mono ?_
  rintro e w3 ⟨rfl, hb3⟩
  have HB3 := hide (Below.on (unhide HB2) hb3); clear hb3 HB2
  go_wp2
  go_ret3
  exact ⟨_, rfl, own_lit _ _ _ (unhide HB3) ⟨rfl, rfl, by decide⟩, (unhide HB3).alloc (unhide HB3).size _⟩
set_option maxRecDepth 100000 in
set_option maxHeartbeats 1600000 in
theorem s64_extend_u (n : Nat) (l : List UInt8) (h : NameIs n l) (hn : l ≠ []) (hl : l.length < 100) (h36 : ¬ (n : Int) ≤ 36) (h255 : n < 256) (f : Int) (hf : FormIs n f true) (f1 : (f == 1) = false) (f2 : (f == 2) = false) (f4 : (f == 4) = false) (h1 : ¬ l = [109, 101, 109, 111, 114, 121, 46, 115, 105, 122, 101]) (h2 : ¬ l = [109, 101, 109, 111, 114, 121, 46, 103, 114, 111, 119])
    (hq : ∀ w, Calls Tryz.prog 73 #[.int .u8 n] w fun e w' => e = .returned (.tuple #[.string (str [101, 120, 116, 101, 110, 100, 95, 117]), .int .i64 64]) ∧ Below w.heap.size w w') : SignIs n [127] 126 true := by
  rw [show str [101, 120, 116, 101, 110, 100, 95, 117] = ⟨#[101, 120, 116, 101, 110, 100, 95, 117]⟩ from rfl] at hq
  have HQ := hide hq; clear hq
  have t1 : ((str l).toList == [109, 101, 109, 111, 114, 121, 46, 115, 105, 122, 101]) = false := toList_bne h1
  have t2 : ((str l).toList == [109, 101, 109, 111, 114, 121, 46, 103, 114, 111, 119]) = false := toList_bne h2
  clear h1 h2
  intro w
  have h1 := h w
  have H1 := hide h1; clear h h1
  have hie : (str l).toList.isEmpty = false := str_ie hn
  have hk := fun wx => kindr_any l wx (by omega)
  have HK := hide hk; clear hk
  have hff := hf
  have HF := hide hff; clear hf hff
  clear hn hl
  generalize str l = s at *
  generalize kindF l = k at *
  go_enter Tryz.func72, Tryz.ntmps72
  go_wp2_with fail
  refine (unhide H1).mono ?_
  rintro e w1 ⟨rfl, hb1⟩
  have HB1 := hide hb1; clear hb1
  go_wp2_with fail
  refine (unhide HK _).mono ?_
  rintro e w1' ⟨rfl, rfl⟩
  go_wp2_with fail
  refine (unhide HF _).mono ?_
  rintro e w2 ⟨rfl, hb2⟩
  have HB2 := hide (Below.on (unhide HB1) hb2); clear hb2 HB1
  go_wp2_with fail
  refine (unhide HQ _).mono ?_
  rintro e w3 ⟨rfl, hb3⟩
  have HB3 := hide (Below.on (unhide HB2) hb3); clear hb3 HB2
  go_wp2
  go_ret3
  exact ⟨_, rfl, own_lit _ _ _ (unhide HB3) ⟨rfl, rfl, by decide⟩, (unhide HB3).alloc (unhide HB3).size _⟩
set_option maxRecDepth 100000 in
set_option maxHeartbeats 1600000 in
theorem s64_eqz (n : Nat) (l : List UInt8) (h : NameIs n l) (hn : l ≠ []) (hl : l.length < 100) (h36 : ¬ (n : Int) ≤ 36) (h255 : n < 256) (f : Int) (hf : FormIs n f true) (f1 : (f == 1) = false) (f2 : (f == 2) = false) (f4 : (f == 4) = false) (h1 : ¬ l = [109, 101, 109, 111, 114, 121, 46, 115, 105, 122, 101]) (h2 : ¬ l = [109, 101, 109, 111, 114, 121, 46, 103, 114, 111, 119])
    (hq : ∀ w, Calls Tryz.prog 73 #[.int .u8 n] w fun e w' => e = .returned (.tuple #[.string (str [101, 113, 122]), .int .i64 64]) ∧ Below w.heap.size w w') : SignIs n [126] 127 true := by
  rw [show str [101, 113, 122] = ⟨#[101, 113, 122]⟩ from rfl] at hq
  have HQ := hide hq; clear hq
  have t1 : ((str l).toList == [109, 101, 109, 111, 114, 121, 46, 115, 105, 122, 101]) = false := toList_bne h1
  have t2 : ((str l).toList == [109, 101, 109, 111, 114, 121, 46, 103, 114, 111, 119]) = false := toList_bne h2
  clear h1 h2
  intro w
  have h1 := h w
  have H1 := hide h1; clear h h1
  have hie : (str l).toList.isEmpty = false := str_ie hn
  have hk := fun wx => kindr_any l wx (by omega)
  have HK := hide hk; clear hk
  have hff := hf
  have HF := hide hff; clear hf hff
  clear hn hl
  generalize str l = s at *
  generalize kindF l = k at *
  go_enter Tryz.func72, Tryz.ntmps72
  go_wp2_with fail
  refine (unhide H1).mono ?_
  rintro e w1 ⟨rfl, hb1⟩
  have HB1 := hide hb1; clear hb1
  go_wp2_with fail
  refine (unhide HK _).mono ?_
  rintro e w1' ⟨rfl, rfl⟩
  go_wp2_with fail
  refine (unhide HF _).mono ?_
  rintro e w2 ⟨rfl, hb2⟩
  have HB2 := hide (Below.on (unhide HB1) hb2); clear hb2 HB1
  go_wp2_with fail
  refine (unhide HQ _).mono ?_
  rintro e w3 ⟨rfl, hb3⟩
  have HB3 := hide (Below.on (unhide HB2) hb3); clear hb3 HB2
  go_wp2
  go_ret3
  exact ⟨_, rfl, own_lit _ _ _ (unhide HB3) ⟨rfl, rfl, by decide⟩, (unhide HB3).alloc (unhide HB3).size _⟩
set_option maxRecDepth 100000 in
set_option maxHeartbeats 1600000 in
theorem s64_clz (n : Nat) (l : List UInt8) (h : NameIs n l) (hn : l ≠ []) (hl : l.length < 100) (h36 : ¬ (n : Int) ≤ 36) (h255 : n < 256) (f : Int) (hf : FormIs n f true) (f1 : (f == 1) = false) (f2 : (f == 2) = false) (f4 : (f == 4) = false) (h1 : ¬ l = [109, 101, 109, 111, 114, 121, 46, 115, 105, 122, 101]) (h2 : ¬ l = [109, 101, 109, 111, 114, 121, 46, 103, 114, 111, 119])
    (hq : ∀ w, Calls Tryz.prog 73 #[.int .u8 n] w fun e w' => e = .returned (.tuple #[.string (str [99, 108, 122]), .int .i64 64]) ∧ Below w.heap.size w w') : SignIs n [126] 126 true := by
  rw [show str [99, 108, 122] = ⟨#[99, 108, 122]⟩ from rfl] at hq
  have HQ := hide hq; clear hq
  have t1 : ((str l).toList == [109, 101, 109, 111, 114, 121, 46, 115, 105, 122, 101]) = false := toList_bne h1
  have t2 : ((str l).toList == [109, 101, 109, 111, 114, 121, 46, 103, 114, 111, 119]) = false := toList_bne h2
  clear h1 h2
  intro w
  have h1 := h w
  have H1 := hide h1; clear h h1
  have hie : (str l).toList.isEmpty = false := str_ie hn
  have hk := fun wx => kindr_any l wx (by omega)
  have HK := hide hk; clear hk
  have hff := hf
  have HF := hide hff; clear hf hff
  clear hn hl
  generalize str l = s at *
  generalize kindF l = k at *
  go_enter Tryz.func72, Tryz.ntmps72
  go_wp2_with fail
  refine (unhide H1).mono ?_
  rintro e w1 ⟨rfl, hb1⟩
  have HB1 := hide hb1; clear hb1
  go_wp2_with fail
  refine (unhide HK _).mono ?_
  rintro e w1' ⟨rfl, rfl⟩
  go_wp2_with fail
  refine (unhide HF _).mono ?_
  rintro e w2 ⟨rfl, hb2⟩
  have HB2 := hide (Below.on (unhide HB1) hb2); clear hb2 HB1
  go_wp2_with fail
  refine (unhide HQ _).mono ?_
  rintro e w3 ⟨rfl, hb3⟩
  have HB3 := hide (Below.on (unhide HB2) hb3); clear hb3 HB2
  go_wp2
  go_ret3
  exact ⟨_, rfl, own_lit _ _ _ (unhide HB3) ⟨rfl, rfl, by decide⟩, (unhide HB3).alloc (unhide HB3).size _⟩
set_option maxRecDepth 100000 in
set_option maxHeartbeats 1600000 in
theorem s64_ctz (n : Nat) (l : List UInt8) (h : NameIs n l) (hn : l ≠ []) (hl : l.length < 100) (h36 : ¬ (n : Int) ≤ 36) (h255 : n < 256) (f : Int) (hf : FormIs n f true) (f1 : (f == 1) = false) (f2 : (f == 2) = false) (f4 : (f == 4) = false) (h1 : ¬ l = [109, 101, 109, 111, 114, 121, 46, 115, 105, 122, 101]) (h2 : ¬ l = [109, 101, 109, 111, 114, 121, 46, 103, 114, 111, 119])
    (hq : ∀ w, Calls Tryz.prog 73 #[.int .u8 n] w fun e w' => e = .returned (.tuple #[.string (str [99, 116, 122]), .int .i64 64]) ∧ Below w.heap.size w w') : SignIs n [126] 126 true := by
  rw [show str [99, 116, 122] = ⟨#[99, 116, 122]⟩ from rfl] at hq
  have HQ := hide hq; clear hq
  have t1 : ((str l).toList == [109, 101, 109, 111, 114, 121, 46, 115, 105, 122, 101]) = false := toList_bne h1
  have t2 : ((str l).toList == [109, 101, 109, 111, 114, 121, 46, 103, 114, 111, 119]) = false := toList_bne h2
  clear h1 h2
  intro w
  have h1 := h w
  have H1 := hide h1; clear h h1
  have hie : (str l).toList.isEmpty = false := str_ie hn
  have hk := fun wx => kindr_any l wx (by omega)
  have HK := hide hk; clear hk
  have hff := hf
  have HF := hide hff; clear hf hff
  clear hn hl
  generalize str l = s at *
  generalize kindF l = k at *
  go_enter Tryz.func72, Tryz.ntmps72
  go_wp2_with fail
  refine (unhide H1).mono ?_
  rintro e w1 ⟨rfl, hb1⟩
  have HB1 := hide hb1; clear hb1
  go_wp2_with fail
  refine (unhide HK _).mono ?_
  rintro e w1' ⟨rfl, rfl⟩
  go_wp2_with fail
  refine (unhide HF _).mono ?_
  rintro e w2 ⟨rfl, hb2⟩
  have HB2 := hide (Below.on (unhide HB1) hb2); clear hb2 HB1
  go_wp2_with fail
  refine (unhide HQ _).mono ?_
  rintro e w3 ⟨rfl, hb3⟩
  have HB3 := hide (Below.on (unhide HB2) hb3); clear hb3 HB2
  go_wp2
  go_ret3
  exact ⟨_, rfl, own_lit _ _ _ (unhide HB3) ⟨rfl, rfl, by decide⟩, (unhide HB3).alloc (unhide HB3).size _⟩
set_option maxRecDepth 100000 in
set_option maxHeartbeats 1600000 in
theorem s64_popcnt (n : Nat) (l : List UInt8) (h : NameIs n l) (hn : l ≠ []) (hl : l.length < 100) (h36 : ¬ (n : Int) ≤ 36) (h255 : n < 256) (f : Int) (hf : FormIs n f true) (f1 : (f == 1) = false) (f2 : (f == 2) = false) (f4 : (f == 4) = false) (h1 : ¬ l = [109, 101, 109, 111, 114, 121, 46, 115, 105, 122, 101]) (h2 : ¬ l = [109, 101, 109, 111, 114, 121, 46, 103, 114, 111, 119])
    (hq : ∀ w, Calls Tryz.prog 73 #[.int .u8 n] w fun e w' => e = .returned (.tuple #[.string (str [112, 111, 112, 99, 110, 116]), .int .i64 64]) ∧ Below w.heap.size w w') : SignIs n [126] 126 true := by
  rw [show str [112, 111, 112, 99, 110, 116] = ⟨#[112, 111, 112, 99, 110, 116]⟩ from rfl] at hq
  have HQ := hide hq; clear hq
  have t1 : ((str l).toList == [109, 101, 109, 111, 114, 121, 46, 115, 105, 122, 101]) = false := toList_bne h1
  have t2 : ((str l).toList == [109, 101, 109, 111, 114, 121, 46, 103, 114, 111, 119]) = false := toList_bne h2
  clear h1 h2
  intro w
  have h1 := h w
  have H1 := hide h1; clear h h1
  have hie : (str l).toList.isEmpty = false := str_ie hn
  have hk := fun wx => kindr_any l wx (by omega)
  have HK := hide hk; clear hk
  have hff := hf
  have HF := hide hff; clear hf hff
  clear hn hl
  generalize str l = s at *
  generalize kindF l = k at *
  go_enter Tryz.func72, Tryz.ntmps72
  go_wp2_with fail
  refine (unhide H1).mono ?_
  rintro e w1 ⟨rfl, hb1⟩
  have HB1 := hide hb1; clear hb1
  go_wp2_with fail
  refine (unhide HK _).mono ?_
  rintro e w1' ⟨rfl, rfl⟩
  go_wp2_with fail
  refine (unhide HF _).mono ?_
  rintro e w2 ⟨rfl, hb2⟩
  have HB2 := hide (Below.on (unhide HB1) hb2); clear hb2 HB1
  go_wp2_with fail
  refine (unhide HQ _).mono ?_
  rintro e w3 ⟨rfl, hb3⟩
  have HB3 := hide (Below.on (unhide HB2) hb3); clear hb3 HB2
  go_wp2
  go_ret3
  exact ⟨_, rfl, own_lit _ _ _ (unhide HB3) ⟨rfl, rfl, by decide⟩, (unhide HB3).alloc (unhide HB3).size _⟩
set_option maxRecDepth 100000 in
set_option maxHeartbeats 1600000 in
theorem s64_eq (n : Nat) (l : List UInt8) (h : NameIs n l) (hn : l ≠ []) (hl : l.length < 100) (h36 : ¬ (n : Int) ≤ 36) (h255 : n < 256) (f : Int) (hf : FormIs n f true) (f1 : (f == 1) = false) (f2 : (f == 2) = false) (f4 : (f == 4) = false) (h1 : ¬ l = [109, 101, 109, 111, 114, 121, 46, 115, 105, 122, 101]) (h2 : ¬ l = [109, 101, 109, 111, 114, 121, 46, 103, 114, 111, 119])
    (hq : ∀ w, Calls Tryz.prog 73 #[.int .u8 n] w fun e w' => e = .returned (.tuple #[.string (str [101, 113]), .int .i64 64]) ∧ Below w.heap.size w w') : SignIs n [126, 126] 127 true := by
  rw [show str [101, 113] = ⟨#[101, 113]⟩ from rfl] at hq
  have HQ := hide hq; clear hq
  have t1 : ((str l).toList == [109, 101, 109, 111, 114, 121, 46, 115, 105, 122, 101]) = false := toList_bne h1
  have t2 : ((str l).toList == [109, 101, 109, 111, 114, 121, 46, 103, 114, 111, 119]) = false := toList_bne h2
  clear h1 h2
  intro w
  have h1 := h w
  have H1 := hide h1; clear h h1
  have hie : (str l).toList.isEmpty = false := str_ie hn
  have hk := fun wx => kindr_any l wx (by omega)
  have HK := hide hk; clear hk
  have hff := hf
  have HF := hide hff; clear hf hff
  clear hn hl
  generalize str l = s at *
  generalize kindF l = k at *
  go_enter Tryz.func72, Tryz.ntmps72
  go_wp2_with fail
  refine (unhide H1).mono ?_
  rintro e w1 ⟨rfl, hb1⟩
  have HB1 := hide hb1; clear hb1
  go_wp2_with fail
  refine (unhide HK _).mono ?_
  rintro e w1' ⟨rfl, rfl⟩
  go_wp2_with fail
  refine (unhide HF _).mono ?_
  rintro e w2 ⟨rfl, hb2⟩
  have HB2 := hide (Below.on (unhide HB1) hb2); clear hb2 HB1
  go_wp2_with fail
  refine (unhide HQ _).mono ?_
  rintro e w3 ⟨rfl, hb3⟩
  have HB3 := hide (Below.on (unhide HB2) hb3); clear hb3 HB2
  go_wp2
  go_ret3
  exact ⟨_, rfl, own_lit _ _ _ (unhide HB3) ⟨rfl, rfl, by decide⟩, (unhide HB3).alloc (unhide HB3).size _⟩
set_option maxRecDepth 100000 in
set_option maxHeartbeats 1600000 in
theorem s64_ne (n : Nat) (l : List UInt8) (h : NameIs n l) (hn : l ≠ []) (hl : l.length < 100) (h36 : ¬ (n : Int) ≤ 36) (h255 : n < 256) (f : Int) (hf : FormIs n f true) (f1 : (f == 1) = false) (f2 : (f == 2) = false) (f4 : (f == 4) = false) (h1 : ¬ l = [109, 101, 109, 111, 114, 121, 46, 115, 105, 122, 101]) (h2 : ¬ l = [109, 101, 109, 111, 114, 121, 46, 103, 114, 111, 119])
    (hq : ∀ w, Calls Tryz.prog 73 #[.int .u8 n] w fun e w' => e = .returned (.tuple #[.string (str [110, 101]), .int .i64 64]) ∧ Below w.heap.size w w') : SignIs n [126, 126] 127 true := by
  rw [show str [110, 101] = ⟨#[110, 101]⟩ from rfl] at hq
  have HQ := hide hq; clear hq
  have t1 : ((str l).toList == [109, 101, 109, 111, 114, 121, 46, 115, 105, 122, 101]) = false := toList_bne h1
  have t2 : ((str l).toList == [109, 101, 109, 111, 114, 121, 46, 103, 114, 111, 119]) = false := toList_bne h2
  clear h1 h2
  intro w
  have h1 := h w
  have H1 := hide h1; clear h h1
  have hie : (str l).toList.isEmpty = false := str_ie hn
  have hk := fun wx => kindr_any l wx (by omega)
  have HK := hide hk; clear hk
  have hff := hf
  have HF := hide hff; clear hf hff
  clear hn hl
  generalize str l = s at *
  generalize kindF l = k at *
  go_enter Tryz.func72, Tryz.ntmps72
  go_wp2_with fail
  refine (unhide H1).mono ?_
  rintro e w1 ⟨rfl, hb1⟩
  have HB1 := hide hb1; clear hb1
  go_wp2_with fail
  refine (unhide HK _).mono ?_
  rintro e w1' ⟨rfl, rfl⟩
  go_wp2_with fail
  refine (unhide HF _).mono ?_
  rintro e w2 ⟨rfl, hb2⟩
  have HB2 := hide (Below.on (unhide HB1) hb2); clear hb2 HB1
  go_wp2_with fail
  refine (unhide HQ _).mono ?_
  rintro e w3 ⟨rfl, hb3⟩
  have HB3 := hide (Below.on (unhide HB2) hb3); clear hb3 HB2
  go_wp2
  go_ret3
  exact ⟨_, rfl, own_lit _ _ _ (unhide HB3) ⟨rfl, rfl, by decide⟩, (unhide HB3).alloc (unhide HB3).size _⟩
set_option maxRecDepth 100000 in
set_option maxHeartbeats 1600000 in
theorem s64_lt_s (n : Nat) (l : List UInt8) (h : NameIs n l) (hn : l ≠ []) (hl : l.length < 100) (h36 : ¬ (n : Int) ≤ 36) (h255 : n < 256) (f : Int) (hf : FormIs n f true) (f1 : (f == 1) = false) (f2 : (f == 2) = false) (f4 : (f == 4) = false) (h1 : ¬ l = [109, 101, 109, 111, 114, 121, 46, 115, 105, 122, 101]) (h2 : ¬ l = [109, 101, 109, 111, 114, 121, 46, 103, 114, 111, 119])
    (hq : ∀ w, Calls Tryz.prog 73 #[.int .u8 n] w fun e w' => e = .returned (.tuple #[.string (str [108, 116, 95, 115]), .int .i64 64]) ∧ Below w.heap.size w w') : SignIs n [126, 126] 127 true := by
  rw [show str [108, 116, 95, 115] = ⟨#[108, 116, 95, 115]⟩ from rfl] at hq
  have HQ := hide hq; clear hq
  have t1 : ((str l).toList == [109, 101, 109, 111, 114, 121, 46, 115, 105, 122, 101]) = false := toList_bne h1
  have t2 : ((str l).toList == [109, 101, 109, 111, 114, 121, 46, 103, 114, 111, 119]) = false := toList_bne h2
  clear h1 h2
  intro w
  have h1 := h w
  have H1 := hide h1; clear h h1
  have hie : (str l).toList.isEmpty = false := str_ie hn
  have hk := fun wx => kindr_any l wx (by omega)
  have HK := hide hk; clear hk
  have hff := hf
  have HF := hide hff; clear hf hff
  clear hn hl
  generalize str l = s at *
  generalize kindF l = k at *
  go_enter Tryz.func72, Tryz.ntmps72
  go_wp2_with fail
  refine (unhide H1).mono ?_
  rintro e w1 ⟨rfl, hb1⟩
  have HB1 := hide hb1; clear hb1
  go_wp2_with fail
  refine (unhide HK _).mono ?_
  rintro e w1' ⟨rfl, rfl⟩
  go_wp2_with fail
  refine (unhide HF _).mono ?_
  rintro e w2 ⟨rfl, hb2⟩
  have HB2 := hide (Below.on (unhide HB1) hb2); clear hb2 HB1
  go_wp2_with fail
  refine (unhide HQ _).mono ?_
  rintro e w3 ⟨rfl, hb3⟩
  have HB3 := hide (Below.on (unhide HB2) hb3); clear hb3 HB2
  go_wp2
  go_ret3
  exact ⟨_, rfl, own_lit _ _ _ (unhide HB3) ⟨rfl, rfl, by decide⟩, (unhide HB3).alloc (unhide HB3).size _⟩
set_option maxRecDepth 100000 in
set_option maxHeartbeats 1600000 in
theorem s64_lt_u (n : Nat) (l : List UInt8) (h : NameIs n l) (hn : l ≠ []) (hl : l.length < 100) (h36 : ¬ (n : Int) ≤ 36) (h255 : n < 256) (f : Int) (hf : FormIs n f true) (f1 : (f == 1) = false) (f2 : (f == 2) = false) (f4 : (f == 4) = false) (h1 : ¬ l = [109, 101, 109, 111, 114, 121, 46, 115, 105, 122, 101]) (h2 : ¬ l = [109, 101, 109, 111, 114, 121, 46, 103, 114, 111, 119])
    (hq : ∀ w, Calls Tryz.prog 73 #[.int .u8 n] w fun e w' => e = .returned (.tuple #[.string (str [108, 116, 95, 117]), .int .i64 64]) ∧ Below w.heap.size w w') : SignIs n [126, 126] 127 true := by
  rw [show str [108, 116, 95, 117] = ⟨#[108, 116, 95, 117]⟩ from rfl] at hq
  have HQ := hide hq; clear hq
  have t1 : ((str l).toList == [109, 101, 109, 111, 114, 121, 46, 115, 105, 122, 101]) = false := toList_bne h1
  have t2 : ((str l).toList == [109, 101, 109, 111, 114, 121, 46, 103, 114, 111, 119]) = false := toList_bne h2
  clear h1 h2
  intro w
  have h1 := h w
  have H1 := hide h1; clear h h1
  have hie : (str l).toList.isEmpty = false := str_ie hn
  have hk := fun wx => kindr_any l wx (by omega)
  have HK := hide hk; clear hk
  have hff := hf
  have HF := hide hff; clear hf hff
  clear hn hl
  generalize str l = s at *
  generalize kindF l = k at *
  go_enter Tryz.func72, Tryz.ntmps72
  go_wp2_with fail
  refine (unhide H1).mono ?_
  rintro e w1 ⟨rfl, hb1⟩
  have HB1 := hide hb1; clear hb1
  go_wp2_with fail
  refine (unhide HK _).mono ?_
  rintro e w1' ⟨rfl, rfl⟩
  go_wp2_with fail
  refine (unhide HF _).mono ?_
  rintro e w2 ⟨rfl, hb2⟩
  have HB2 := hide (Below.on (unhide HB1) hb2); clear hb2 HB1
  go_wp2_with fail
  refine (unhide HQ _).mono ?_
  rintro e w3 ⟨rfl, hb3⟩
  have HB3 := hide (Below.on (unhide HB2) hb3); clear hb3 HB2
  go_wp2
  go_ret3
  exact ⟨_, rfl, own_lit _ _ _ (unhide HB3) ⟨rfl, rfl, by decide⟩, (unhide HB3).alloc (unhide HB3).size _⟩
set_option maxRecDepth 100000 in
set_option maxHeartbeats 1600000 in
theorem s64_gt_s (n : Nat) (l : List UInt8) (h : NameIs n l) (hn : l ≠ []) (hl : l.length < 100) (h36 : ¬ (n : Int) ≤ 36) (h255 : n < 256) (f : Int) (hf : FormIs n f true) (f1 : (f == 1) = false) (f2 : (f == 2) = false) (f4 : (f == 4) = false) (h1 : ¬ l = [109, 101, 109, 111, 114, 121, 46, 115, 105, 122, 101]) (h2 : ¬ l = [109, 101, 109, 111, 114, 121, 46, 103, 114, 111, 119])
    (hq : ∀ w, Calls Tryz.prog 73 #[.int .u8 n] w fun e w' => e = .returned (.tuple #[.string (str [103, 116, 95, 115]), .int .i64 64]) ∧ Below w.heap.size w w') : SignIs n [126, 126] 127 true := by
  rw [show str [103, 116, 95, 115] = ⟨#[103, 116, 95, 115]⟩ from rfl] at hq
  have HQ := hide hq; clear hq
  have t1 : ((str l).toList == [109, 101, 109, 111, 114, 121, 46, 115, 105, 122, 101]) = false := toList_bne h1
  have t2 : ((str l).toList == [109, 101, 109, 111, 114, 121, 46, 103, 114, 111, 119]) = false := toList_bne h2
  clear h1 h2
  intro w
  have h1 := h w
  have H1 := hide h1; clear h h1
  have hie : (str l).toList.isEmpty = false := str_ie hn
  have hk := fun wx => kindr_any l wx (by omega)
  have HK := hide hk; clear hk
  have hff := hf
  have HF := hide hff; clear hf hff
  clear hn hl
  generalize str l = s at *
  generalize kindF l = k at *
  go_enter Tryz.func72, Tryz.ntmps72
  go_wp2_with fail
  refine (unhide H1).mono ?_
  rintro e w1 ⟨rfl, hb1⟩
  have HB1 := hide hb1; clear hb1
  go_wp2_with fail
  refine (unhide HK _).mono ?_
  rintro e w1' ⟨rfl, rfl⟩
  go_wp2_with fail
  refine (unhide HF _).mono ?_
  rintro e w2 ⟨rfl, hb2⟩
  have HB2 := hide (Below.on (unhide HB1) hb2); clear hb2 HB1
  go_wp2_with fail
  refine (unhide HQ _).mono ?_
  rintro e w3 ⟨rfl, hb3⟩
  have HB3 := hide (Below.on (unhide HB2) hb3); clear hb3 HB2
  go_wp2
  go_ret3
  exact ⟨_, rfl, own_lit _ _ _ (unhide HB3) ⟨rfl, rfl, by decide⟩, (unhide HB3).alloc (unhide HB3).size _⟩
set_option maxRecDepth 100000 in
set_option maxHeartbeats 1600000 in
theorem s64_gt_u (n : Nat) (l : List UInt8) (h : NameIs n l) (hn : l ≠ []) (hl : l.length < 100) (h36 : ¬ (n : Int) ≤ 36) (h255 : n < 256) (f : Int) (hf : FormIs n f true) (f1 : (f == 1) = false) (f2 : (f == 2) = false) (f4 : (f == 4) = false) (h1 : ¬ l = [109, 101, 109, 111, 114, 121, 46, 115, 105, 122, 101]) (h2 : ¬ l = [109, 101, 109, 111, 114, 121, 46, 103, 114, 111, 119])
    (hq : ∀ w, Calls Tryz.prog 73 #[.int .u8 n] w fun e w' => e = .returned (.tuple #[.string (str [103, 116, 95, 117]), .int .i64 64]) ∧ Below w.heap.size w w') : SignIs n [126, 126] 127 true := by
  rw [show str [103, 116, 95, 117] = ⟨#[103, 116, 95, 117]⟩ from rfl] at hq
  have HQ := hide hq; clear hq
  have t1 : ((str l).toList == [109, 101, 109, 111, 114, 121, 46, 115, 105, 122, 101]) = false := toList_bne h1
  have t2 : ((str l).toList == [109, 101, 109, 111, 114, 121, 46, 103, 114, 111, 119]) = false := toList_bne h2
  clear h1 h2
  intro w
  have h1 := h w
  have H1 := hide h1; clear h h1
  have hie : (str l).toList.isEmpty = false := str_ie hn
  have hk := fun wx => kindr_any l wx (by omega)
  have HK := hide hk; clear hk
  have hff := hf
  have HF := hide hff; clear hf hff
  clear hn hl
  generalize str l = s at *
  generalize kindF l = k at *
  go_enter Tryz.func72, Tryz.ntmps72
  go_wp2_with fail
  refine (unhide H1).mono ?_
  rintro e w1 ⟨rfl, hb1⟩
  have HB1 := hide hb1; clear hb1
  go_wp2_with fail
  refine (unhide HK _).mono ?_
  rintro e w1' ⟨rfl, rfl⟩
  go_wp2_with fail
  refine (unhide HF _).mono ?_
  rintro e w2 ⟨rfl, hb2⟩
  have HB2 := hide (Below.on (unhide HB1) hb2); clear hb2 HB1
  go_wp2_with fail
  refine (unhide HQ _).mono ?_
  rintro e w3 ⟨rfl, hb3⟩
  have HB3 := hide (Below.on (unhide HB2) hb3); clear hb3 HB2
  go_wp2
  go_ret3
  exact ⟨_, rfl, own_lit _ _ _ (unhide HB3) ⟨rfl, rfl, by decide⟩, (unhide HB3).alloc (unhide HB3).size _⟩
set_option maxRecDepth 100000 in
set_option maxHeartbeats 1600000 in
theorem s64_le_s (n : Nat) (l : List UInt8) (h : NameIs n l) (hn : l ≠ []) (hl : l.length < 100) (h36 : ¬ (n : Int) ≤ 36) (h255 : n < 256) (f : Int) (hf : FormIs n f true) (f1 : (f == 1) = false) (f2 : (f == 2) = false) (f4 : (f == 4) = false) (h1 : ¬ l = [109, 101, 109, 111, 114, 121, 46, 115, 105, 122, 101]) (h2 : ¬ l = [109, 101, 109, 111, 114, 121, 46, 103, 114, 111, 119])
    (hq : ∀ w, Calls Tryz.prog 73 #[.int .u8 n] w fun e w' => e = .returned (.tuple #[.string (str [108, 101, 95, 115]), .int .i64 64]) ∧ Below w.heap.size w w') : SignIs n [126, 126] 127 true := by
  rw [show str [108, 101, 95, 115] = ⟨#[108, 101, 95, 115]⟩ from rfl] at hq
  have HQ := hide hq; clear hq
  have t1 : ((str l).toList == [109, 101, 109, 111, 114, 121, 46, 115, 105, 122, 101]) = false := toList_bne h1
  have t2 : ((str l).toList == [109, 101, 109, 111, 114, 121, 46, 103, 114, 111, 119]) = false := toList_bne h2
  clear h1 h2
  intro w
  have h1 := h w
  have H1 := hide h1; clear h h1
  have hie : (str l).toList.isEmpty = false := str_ie hn
  have hk := fun wx => kindr_any l wx (by omega)
  have HK := hide hk; clear hk
  have hff := hf
  have HF := hide hff; clear hf hff
  clear hn hl
  generalize str l = s at *
  generalize kindF l = k at *
  go_enter Tryz.func72, Tryz.ntmps72
  go_wp2_with fail
  refine (unhide H1).mono ?_
  rintro e w1 ⟨rfl, hb1⟩
  have HB1 := hide hb1; clear hb1
  go_wp2_with fail
  refine (unhide HK _).mono ?_
  rintro e w1' ⟨rfl, rfl⟩
  go_wp2_with fail
  refine (unhide HF _).mono ?_
  rintro e w2 ⟨rfl, hb2⟩
  have HB2 := hide (Below.on (unhide HB1) hb2); clear hb2 HB1
  go_wp2_with fail
  refine (unhide HQ _).mono ?_
  rintro e w3 ⟨rfl, hb3⟩
  have HB3 := hide (Below.on (unhide HB2) hb3); clear hb3 HB2
  go_wp2
  go_ret3
  exact ⟨_, rfl, own_lit _ _ _ (unhide HB3) ⟨rfl, rfl, by decide⟩, (unhide HB3).alloc (unhide HB3).size _⟩
set_option maxRecDepth 100000 in
set_option maxHeartbeats 1600000 in
theorem s64_le_u (n : Nat) (l : List UInt8) (h : NameIs n l) (hn : l ≠ []) (hl : l.length < 100) (h36 : ¬ (n : Int) ≤ 36) (h255 : n < 256) (f : Int) (hf : FormIs n f true) (f1 : (f == 1) = false) (f2 : (f == 2) = false) (f4 : (f == 4) = false) (h1 : ¬ l = [109, 101, 109, 111, 114, 121, 46, 115, 105, 122, 101]) (h2 : ¬ l = [109, 101, 109, 111, 114, 121, 46, 103, 114, 111, 119])
    (hq : ∀ w, Calls Tryz.prog 73 #[.int .u8 n] w fun e w' => e = .returned (.tuple #[.string (str [108, 101, 95, 117]), .int .i64 64]) ∧ Below w.heap.size w w') : SignIs n [126, 126] 127 true := by
  rw [show str [108, 101, 95, 117] = ⟨#[108, 101, 95, 117]⟩ from rfl] at hq
  have HQ := hide hq; clear hq
  have t1 : ((str l).toList == [109, 101, 109, 111, 114, 121, 46, 115, 105, 122, 101]) = false := toList_bne h1
  have t2 : ((str l).toList == [109, 101, 109, 111, 114, 121, 46, 103, 114, 111, 119]) = false := toList_bne h2
  clear h1 h2
  intro w
  have h1 := h w
  have H1 := hide h1; clear h h1
  have hie : (str l).toList.isEmpty = false := str_ie hn
  have hk := fun wx => kindr_any l wx (by omega)
  have HK := hide hk; clear hk
  have hff := hf
  have HF := hide hff; clear hf hff
  clear hn hl
  generalize str l = s at *
  generalize kindF l = k at *
  go_enter Tryz.func72, Tryz.ntmps72
  go_wp2_with fail
  refine (unhide H1).mono ?_
  rintro e w1 ⟨rfl, hb1⟩
  have HB1 := hide hb1; clear hb1
  go_wp2_with fail
  refine (unhide HK _).mono ?_
  rintro e w1' ⟨rfl, rfl⟩
  go_wp2_with fail
  refine (unhide HF _).mono ?_
  rintro e w2 ⟨rfl, hb2⟩
  have HB2 := hide (Below.on (unhide HB1) hb2); clear hb2 HB1
  go_wp2_with fail
  refine (unhide HQ _).mono ?_
  rintro e w3 ⟨rfl, hb3⟩
  have HB3 := hide (Below.on (unhide HB2) hb3); clear hb3 HB2
  go_wp2
  go_ret3
  exact ⟨_, rfl, own_lit _ _ _ (unhide HB3) ⟨rfl, rfl, by decide⟩, (unhide HB3).alloc (unhide HB3).size _⟩
set_option maxRecDepth 100000 in
set_option maxHeartbeats 1600000 in
theorem s64_ge_s (n : Nat) (l : List UInt8) (h : NameIs n l) (hn : l ≠ []) (hl : l.length < 100) (h36 : ¬ (n : Int) ≤ 36) (h255 : n < 256) (f : Int) (hf : FormIs n f true) (f1 : (f == 1) = false) (f2 : (f == 2) = false) (f4 : (f == 4) = false) (h1 : ¬ l = [109, 101, 109, 111, 114, 121, 46, 115, 105, 122, 101]) (h2 : ¬ l = [109, 101, 109, 111, 114, 121, 46, 103, 114, 111, 119])
    (hq : ∀ w, Calls Tryz.prog 73 #[.int .u8 n] w fun e w' => e = .returned (.tuple #[.string (str [103, 101, 95, 115]), .int .i64 64]) ∧ Below w.heap.size w w') : SignIs n [126, 126] 127 true := by
  rw [show str [103, 101, 95, 115] = ⟨#[103, 101, 95, 115]⟩ from rfl] at hq
  have HQ := hide hq; clear hq
  have t1 : ((str l).toList == [109, 101, 109, 111, 114, 121, 46, 115, 105, 122, 101]) = false := toList_bne h1
  have t2 : ((str l).toList == [109, 101, 109, 111, 114, 121, 46, 103, 114, 111, 119]) = false := toList_bne h2
  clear h1 h2
  intro w
  have h1 := h w
  have H1 := hide h1; clear h h1
  have hie : (str l).toList.isEmpty = false := str_ie hn
  have hk := fun wx => kindr_any l wx (by omega)
  have HK := hide hk; clear hk
  have hff := hf
  have HF := hide hff; clear hf hff
  clear hn hl
  generalize str l = s at *
  generalize kindF l = k at *
  go_enter Tryz.func72, Tryz.ntmps72
  go_wp2_with fail
  refine (unhide H1).mono ?_
  rintro e w1 ⟨rfl, hb1⟩
  have HB1 := hide hb1; clear hb1
  go_wp2_with fail
  refine (unhide HK _).mono ?_
  rintro e w1' ⟨rfl, rfl⟩
  go_wp2_with fail
  refine (unhide HF _).mono ?_
  rintro e w2 ⟨rfl, hb2⟩
  have HB2 := hide (Below.on (unhide HB1) hb2); clear hb2 HB1
  go_wp2_with fail
  refine (unhide HQ _).mono ?_
  rintro e w3 ⟨rfl, hb3⟩
  have HB3 := hide (Below.on (unhide HB2) hb3); clear hb3 HB2
  go_wp2
  go_ret3
  exact ⟨_, rfl, own_lit _ _ _ (unhide HB3) ⟨rfl, rfl, by decide⟩, (unhide HB3).alloc (unhide HB3).size _⟩
set_option maxRecDepth 100000 in
set_option maxHeartbeats 1600000 in
theorem s64_ge_u (n : Nat) (l : List UInt8) (h : NameIs n l) (hn : l ≠ []) (hl : l.length < 100) (h36 : ¬ (n : Int) ≤ 36) (h255 : n < 256) (f : Int) (hf : FormIs n f true) (f1 : (f == 1) = false) (f2 : (f == 2) = false) (f4 : (f == 4) = false) (h1 : ¬ l = [109, 101, 109, 111, 114, 121, 46, 115, 105, 122, 101]) (h2 : ¬ l = [109, 101, 109, 111, 114, 121, 46, 103, 114, 111, 119])
    (hq : ∀ w, Calls Tryz.prog 73 #[.int .u8 n] w fun e w' => e = .returned (.tuple #[.string (str [103, 101, 95, 117]), .int .i64 64]) ∧ Below w.heap.size w w') : SignIs n [126, 126] 127 true := by
  rw [show str [103, 101, 95, 117] = ⟨#[103, 101, 95, 117]⟩ from rfl] at hq
  have HQ := hide hq; clear hq
  have t1 : ((str l).toList == [109, 101, 109, 111, 114, 121, 46, 115, 105, 122, 101]) = false := toList_bne h1
  have t2 : ((str l).toList == [109, 101, 109, 111, 114, 121, 46, 103, 114, 111, 119]) = false := toList_bne h2
  clear h1 h2
  intro w
  have h1 := h w
  have H1 := hide h1; clear h h1
  have hie : (str l).toList.isEmpty = false := str_ie hn
  have hk := fun wx => kindr_any l wx (by omega)
  have HK := hide hk; clear hk
  have hff := hf
  have HF := hide hff; clear hf hff
  clear hn hl
  generalize str l = s at *
  generalize kindF l = k at *
  go_enter Tryz.func72, Tryz.ntmps72
  go_wp2_with fail
  refine (unhide H1).mono ?_
  rintro e w1 ⟨rfl, hb1⟩
  have HB1 := hide hb1; clear hb1
  go_wp2_with fail
  refine (unhide HK _).mono ?_
  rintro e w1' ⟨rfl, rfl⟩
  go_wp2_with fail
  refine (unhide HF _).mono ?_
  rintro e w2 ⟨rfl, hb2⟩
  have HB2 := hide (Below.on (unhide HB1) hb2); clear hb2 HB1
  go_wp2_with fail
  refine (unhide HQ _).mono ?_
  rintro e w3 ⟨rfl, hb3⟩
  have HB3 := hide (Below.on (unhide HB2) hb3); clear hb3 HB2
  go_wp2
  go_ret3
  exact ⟨_, rfl, own_lit _ _ _ (unhide HB3) ⟨rfl, rfl, by decide⟩, (unhide HB3).alloc (unhide HB3).size _⟩
set_option maxRecDepth 100000 in
set_option maxHeartbeats 1600000 in
theorem s64_all (n : Nat) (l : List UInt8) (h : NameIs n l) (hn : l ≠ []) (hl : l.length < 100) (h36 : ¬ (n : Int) ≤ 36) (h255 : n < 256) (f : Int) (hf : FormIs n f true) (f1 : (f == 1) = false) (f2 : (f == 2) = false) (f4 : (f == 4) = false) (h1 : ¬ l = [109, 101, 109, 111, 114, 121, 46, 115, 105, 122, 101]) (h2 : ¬ l = [109, 101, 109, 111, 114, 121, 46, 103, 114, 111, 119]) (q : List UInt8) (g0 : ¬ q = [119, 114, 97, 112]) (g1 : ¬ q = [101, 120, 116, 101, 110, 100, 95, 115]) (g2 : ¬ q = [101, 120, 116, 101, 110, 100, 95, 117]) (g3 : ¬ q = [101, 113, 122]) (g4 : ¬ q = [99, 108, 122]) (g5 : ¬ q = [99, 116, 122]) (g6 : ¬ q = [112, 111, 112, 99, 110, 116]) (g7 : ¬ q = [101, 113]) (g8 : ¬ q = [110, 101]) (g9 : ¬ q = [108, 116, 95, 115]) (g10 : ¬ q = [108, 116, 95, 117]) (g11 : ¬ q = [103, 116, 95, 115]) (g12 : ¬ q = [103, 116, 95, 117]) (g13 : ¬ q = [108, 101, 95, 115]) (g14 : ¬ q = [108, 101, 95, 117]) (g15 : ¬ q = [103, 101, 95, 115]) (g16 : ¬ q = [103, 101, 95, 117])
    (hq : ∀ w, Calls Tryz.prog 73 #[.int .u8 n] w fun e w' => e = .returned (.tuple #[.string (str q), .int .i64 64]) ∧ Below w.heap.size w w') : SignIs n [126, 126] 126 true := by
  have v0 : ((str q).toList == [119, 114, 97, 112]) = false := toList_bne g0
  have v1 : ((str q).toList == [101, 120, 116, 101, 110, 100, 95, 115]) = false := toList_bne g1
  have v2 : ((str q).toList == [101, 120, 116, 101, 110, 100, 95, 117]) = false := toList_bne g2
  have v3 : ((str q).toList == [101, 113, 122]) = false := toList_bne g3
  have v4 : ((str q).toList == [99, 108, 122]) = false := toList_bne g4
  have v5 : ((str q).toList == [99, 116, 122]) = false := toList_bne g5
  have v6 : ((str q).toList == [112, 111, 112, 99, 110, 116]) = false := toList_bne g6
  have v7 : ((str q).toList == [101, 113]) = false := toList_bne g7
  have v8 : ((str q).toList == [110, 101]) = false := toList_bne g8
  have v9 : ((str q).toList == [108, 116, 95, 115]) = false := toList_bne g9
  have v10 : ((str q).toList == [108, 116, 95, 117]) = false := toList_bne g10
  have v11 : ((str q).toList == [103, 116, 95, 115]) = false := toList_bne g11
  have v12 : ((str q).toList == [103, 116, 95, 117]) = false := toList_bne g12
  have v13 : ((str q).toList == [108, 101, 95, 115]) = false := toList_bne g13
  have v14 : ((str q).toList == [108, 101, 95, 117]) = false := toList_bne g14
  have v15 : ((str q).toList == [103, 101, 95, 115]) = false := toList_bne g15
  have v16 : ((str q).toList == [103, 101, 95, 117]) = false := toList_bne g16
  clear g0 g1 g2 g3 g4 g5 g6 g7 g8 g9 g10 g11 g12 g13 g14 g15 g16
  have HQ := hide hq; clear hq
  have t1 : ((str l).toList == [109, 101, 109, 111, 114, 121, 46, 115, 105, 122, 101]) = false := toList_bne h1
  have t2 : ((str l).toList == [109, 101, 109, 111, 114, 121, 46, 103, 114, 111, 119]) = false := toList_bne h2
  clear h1 h2
  intro w
  have h1 := h w
  have H1 := hide h1; clear h h1
  have hie : (str l).toList.isEmpty = false := str_ie hn
  have hk := fun wx => kindr_any l wx (by omega)
  have HK := hide hk; clear hk
  have hff := hf
  have HF := hide hff; clear hf hff
  clear hn hl
  generalize str l = s at *
  generalize kindF l = k at *
  generalize str q = qq at *
  go_enter Tryz.func72, Tryz.ntmps72
  go_wp2_with fail
  refine (unhide H1).mono ?_
  rintro e w1 ⟨rfl, hb1⟩
  have HB1 := hide hb1; clear hb1
  go_wp2_with fail
  refine (unhide HK _).mono ?_
  rintro e w1' ⟨rfl, rfl⟩
  go_wp2_with fail
  refine (unhide HF _).mono ?_
  rintro e w2 ⟨rfl, hb2⟩
  have HB2 := hide (Below.on (unhide HB1) hb2); clear hb2 HB1
  go_wp2_with fail
  refine (unhide HQ _).mono ?_
  rintro e w3 ⟨rfl, hb3⟩
  have HB3 := hide (Below.on (unhide HB2) hb3); clear hb3 HB2
  go_wp2
  go_ret3
  exact ⟨_, rfl, own_lit _ _ _ (unhide HB3) ⟨rfl, rfl, by decide⟩, (unhide HB3).alloc (unhide HB3).size _⟩
end Go.Proofs.YtheopjcmhclgdaaGreatDoor
