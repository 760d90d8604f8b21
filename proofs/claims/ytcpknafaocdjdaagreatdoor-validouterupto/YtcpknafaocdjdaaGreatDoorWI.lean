/- WI: what follows, part by part: each part tells what it holds. -/
import Derived.Test.YtcpknafaocdjdaaGreatDoorWC
import Derived.Test.YtcpknafaocdjdaaGreatDoorWE

/- valid.all at api.Type: whether each item is so. -/
namespace Go.Proofs.YtcpknafaocdjdaaGreatDoor
open Go.RowKit
set_option linter.unusedVariables false

set_option maxRecDepth 100000 in
set_option maxHeartbeats 1000000 in
/-- the closure: not so -/
theorem allc_T (fn : Nat) (cap : Array Value) (eg : ∀ args w, (callFunc fn args).run Tryz.prog w = .ok (.enter fn args) w) (B : Nat) (v0 v1 : Value) (r : Bool) (W : World)
    (hB : W.cell? ⟨B, 0, none⟩ = some (.func (.func fn) #[] cap)) (hBl : B < W.heap.size)
    (hf : ∀ W', Below W.heap.size W W' → Calls Tryz.prog fn (#[.agg #[v0, v1]] ++ cap) W' fun e w' => e = .returned (.bool r) ∧ Below W'.heap.size W' w') :
    Calls Tryz.prog 77 #[.agg #[v0, v1], .pointer (some ⟨B, 0, none⟩)] W fun e w' => e = .returned (.bool (!r)) ∧ Below W.heap.size W w' := by
  have hne : ¬ B = W.heap.size := by omega
  have HF := hide hf; clear hf
  go_enter Tryz.func77, Tryz.ntmps77
  go_wp2_with (simp only [eg])
  refine (unhide HF _ ((Below.refl _ _).alloc (Nat.le_refl _) _)).mono ?_
  rintro e w1 ⟨rfl, hb1⟩
  have HB := hide hb1; clear hb1
  go_wp2
  go_ret
  exact ⟨rfl, Below.on ((Below.refl _ _).alloc (Nat.le_refl _) _) (unhide HB)⟩

set_option maxRecDepth 100000 in
set_option maxHeartbeats 1000000 in
theorem idx_T (b o n cp B : Nat) (cv : Nat → Nat → Value) (q : Nat → Bool) (w : World) (hn : (n : Int) < 1099511627776) (hb : b < w.heap.size)
    (hc : ∀ i, i < n → ∀ j, j < 2 → w.cell? ⟨b, o + i * 2 + j, none⟩ = some (cv i j))
    (hf : ∀ i, i < n → ∀ W, Below w.heap.size w W → Calls Tryz.prog 77 #[.agg #[cv i 0, cv i 1], .pointer (some ⟨B, 0, none⟩)] W fun e w' => e = .returned (.bool (q i)) ∧ Below W.heap.size W w') :
    Calls Tryz.prog 107 #[.slice (some ⟨b, o, none⟩) n cp, .func (.func 77) #[] #[.pointer (some ⟨B, 0, none⟩)]] w fun e w' => (∃ r : Int, e = .returned (.int .i64 r) ∧ decide (r ≥ 0) = (List.range n).any q) ∧ Below w.heap.size w w' := by
  have HC := hide hc; have HF := hide hf; have HN := hide hn
  have n0 : (0 : Int) ≤ n := by omega
  go_enter Tryz.func107, Tryz.ntmps107
  clear hc hf
  go_wp2
  go_loopw [8] (fun i wr => ∃ k : Nat, k ≤ n ∧ i = .int .i64 k ∧ (List.range k).any q = false ∧ Below w.heap.size w wr)
    (fun i _ => ((n : Int) - intOf i).toNat)
  case atStart => exact ⟨0, Nat.zero_le _, rfl, rfl, Below.refl _ _⟩
  case round =>
    obtain ⟨k, hk, rfl, hany, hbl⟩ := hrel
    by_cases hlt : k < n
    · have hlt' : (k : Int) < n := by omega
      have hc := unhide HC
      have c0 : wr.cell? ⟨b, o + k * 2, none⟩ = some (cv k 0) := (hbl.cell (p := ⟨b, o + k * 2, none⟩) hb).trans (hc k hlt 0 (by omega))
      have c1 : wr.cell? ⟨b, o + k * 2 + 1, none⟩ = some (cv k 1) := (hbl.cell (p := ⟨b, o + k * 2 + 1, none⟩) hb).trans (hc k hlt 1 (by omega))
      have HH := hide (unhide HF k hlt wr hbl)
      have HA := hide hany; have HL := hide hbl; have HK := hide hlt
      clear hc hany hbl hk hlt
      cases hq : q k
      · have HQ := hide hq
        rw [hq] at HH; clear hq
        go_wp2_with fail
        refine (unhide HH).mono ?_
        rintro e w1 ⟨rfl, hb1⟩
        have HB := hide hb1; clear hb1
        go_wp2
        go_roundw
        case rel => exact ⟨k + 1, unhide HK, rfl, by rw [List.range_succ, List.any_append, unhide HA]; simp [unhide HQ], Below.on (unhide HL) (unhide HB)⟩
        case measure => have := unhide HK; simp [intOf]; omega
      · have HQ := hide hq
        rw [hq] at HH; clear hq
        go_wp2_with fail
        refine (unhide HH).mono ?_
        rintro e w1 ⟨rfl, hb1⟩
        have HB := hide hb1; clear hb1
        go_wp2
        go_ret
        exact ⟨⟨_, rfl, by
          have h1 : (List.range n).any q = true := List.any_eq_true.2 ⟨k, List.mem_range.2 (unhide HK), unhide HQ⟩
          rw [h1]; simp⟩, Below.on (unhide HL) (unhide HB)⟩
    · obtain rfl : k = n := by omega
      have HA := hide hany; have HL := hide hbl
      clear hany hbl hk hlt
      go_wp2
      go_ret
      exact ⟨⟨_, rfl, by rw [unhide HA]; decide⟩, unhide HL⟩

set_option maxHeartbeats 1000000 in
theorem has_T (b o n cp B : Nat) (cv : Nat → Nat → Value) (q : Nat → Bool) (w : World) (hn : (n : Int) < 1099511627776) (hb : b < w.heap.size)
    (hc : ∀ i, i < n → ∀ j, j < 2 → w.cell? ⟨b, o + i * 2 + j, none⟩ = some (cv i j))
    (hf : ∀ i, i < n → ∀ W, Below w.heap.size w W → Calls Tryz.prog 77 #[.agg #[cv i 0, cv i 1], .pointer (some ⟨B, 0, none⟩)] W fun e w' => e = .returned (.bool (q i)) ∧ Below W.heap.size W w') :
    Calls Tryz.prog 76 #[.slice (some ⟨b, o, none⟩) n cp, .func (.func 77) #[] #[.pointer (some ⟨B, 0, none⟩)]] w fun e w' => e = .returned (.bool ((List.range n).any q)) ∧ Below w.heap.size w w' := by
  have H := hide (idx_T b o n cp B cv q w hn hb hc hf)
  clear hc hf hn hb
  generalize (List.range n).any q = a at *
  go_enter Tryz.func76, Tryz.ntmps76
  go_wp2_with fail
  refine (unhide H).mono ?_
  rintro e w1 ⟨⟨r, rfl, hr⟩, hb1⟩
  have HB := hide hb1; have HR := hide hr; clear hb1 hr
  go_wp2
  go_ret
  exact ⟨ret_bool (unhide HR), unhide HB⟩

set_option maxHeartbeats 1000000 in
theorem all_T (b o n cp fn : Nat) (cap : Array Value) (eg : ∀ args w, (callFunc fn args).run Tryz.prog w = .ok (.enter fn args) w) (cv : Nat → Nat → Value) (q : Nat → Bool) (w : World) (hn : (n : Int) < 1099511627776) (hb : b < w.heap.size)
    (hc : ∀ i, i < n → ∀ j, j < 2 → w.cell? ⟨b, o + i * 2 + j, none⟩ = some (cv i j))
    (hf : ∀ i, i < n → ∀ W, Below w.heap.size w W → Calls Tryz.prog fn (#[.agg #[cv i 0, cv i 1]] ++ cap) W fun e w' => e = .returned (.bool (q i)) ∧ Below W.heap.size W w') :
    Calls Tryz.prog 36 #[.slice (some ⟨b, o, none⟩) n cp, .func (.func fn) #[] cap] w fun e w' => e = .returned (.bool ((List.range n).all q)) ∧ Below w.heap.size w w' := by
  have h0 : Below w.heap.size w (w.alloc (.cells #[.func (.func fn) #[] cap] 121)) := (Below.refl _ _).alloc (Nat.le_refl _) _
  have H := hide (has_T b o n cp w.heap.size cv (fun i => !q i) _ hn (Nat.lt_of_lt_of_le hb h0.size) (fun i hi j hj => (h0.cell (p := ⟨b, o + i * 2 + j, none⟩) hb).trans (hc i hi j hj))
    (fun i hi W hW => allc_T fn cap eg w.heap.size (cv i 0) (cv i 1) (q i) W ((hW.cell (p := ⟨w.heap.size, 0, none⟩) (by simp)).trans (by simp)) (Nat.lt_of_lt_of_le (by simp) hW.size) fun W' hW' => hf i hi W' (Below.on h0 (Below.on hW hW'))))
  have H0 := hide h0
  clear hc hf hn hb h0
  rw [← any_not] at *
  generalize (List.range n).any (fun i => !q i) = a at *
  go_enter Tryz.func36, Tryz.ntmps36
  go_wp2_with fail
  refine (unhide H).mono ?_
  rintro e w1 ⟨rfl, hb1⟩
  have HB := hide hb1; clear hb1
  go_wp2
  go_ret
  exact ⟨rfl, Below.on (unhide H0) (unhide HB)⟩

set_option maxHeartbeats 1000000 in
theorem all0_T (a : Option Addr) (cp fn : Nat) (cap : Array Value) (w : World) :
    Calls Tryz.prog 36 #[.slice a 0 cp, .func (.func fn) #[] cap] w fun e w' => e = .returned (.bool true) ∧ Below w.heap.size w w' := by
  have h1 : ∀ (B : Nat) (W : World), Calls Tryz.prog 107 #[.slice a 0 cp, .func (.func 77) #[] #[.pointer (some ⟨B, 0, none⟩)]] W fun e w' => e = .returned (.int .i64 (-1)) ∧ W = w' := by
    intro B W
    go_enter Tryz.func107, Tryz.ntmps107
    go_wp2
    refine wp_loop_rounds 1 ?_
    rw [rounds_succ]
    go_wp2
    go_ret
    exact ⟨rfl, rfl⟩
  have h2 : ∀ (B : Nat) (W : World), Calls Tryz.prog 76 #[.slice a 0 cp, .func (.func 77) #[] #[.pointer (some ⟨B, 0, none⟩)]] W fun e w' => e = .returned (.bool false) ∧ W = w' := by
    intro B W
    have H := hide (h1 B W); clear h1
    go_enter Tryz.func76, Tryz.ntmps76
    go_wp2_with fail
    refine (unhide H).mono ?_
    rintro e w1 ⟨rfl, rfl⟩
    go_wp2
    go_ret
    exact ⟨rfl, rfl⟩
  have H := hide h2; clear h1 h2
  go_enter Tryz.func36, Tryz.ntmps36
  go_wp2_with fail
  refine (unhide H _ _).mono ?_
  rintro e w1 ⟨rfl, rfl⟩
  go_wp2
  go_ret
  exact ⟨rfl, (Below.refl _ _).alloc (Nat.le_refl _) _⟩
end Go.Proofs.YtcpknafaocdjdaaGreatDoor

/- valid.all at api.Func: whether each item is so. -/
namespace Go.Proofs.YtcpknafaocdjdaaGreatDoor
open Go.RowKit
set_option linter.unusedVariables false

set_option maxRecDepth 100000 in
set_option maxHeartbeats 1000000 in
/-- the closure: not so -/
theorem allc_F (fn : Nat) (cap : Array Value) (eg : ∀ args w, (callFunc fn args).run Tryz.prog w = .ok (.enter fn args) w) (B : Nat) (v0 v1 v2 : Value) (r : Bool) (W : World)
    (hB : W.cell? ⟨B, 0, none⟩ = some (.func (.func fn) #[] cap)) (hBl : B < W.heap.size)
    (hf : ∀ W', Below W.heap.size W W' → Calls Tryz.prog fn (#[.agg #[v0, v1, v2]] ++ cap) W' fun e w' => e = .returned (.bool r) ∧ Below W'.heap.size W' w') :
    Calls Tryz.prog 81 #[.agg #[v0, v1, v2], .pointer (some ⟨B, 0, none⟩)] W fun e w' => e = .returned (.bool (!r)) ∧ Below W.heap.size W w' := by
  have hne : ¬ B = W.heap.size := by omega
  have HF := hide hf; clear hf
  go_enter Tryz.func81, Tryz.ntmps81
  go_wp2_with (simp only [eg])
  refine (unhide HF _ ((Below.refl _ _).alloc (Nat.le_refl _) _)).mono ?_
  rintro e w1 ⟨rfl, hb1⟩
  have HB := hide hb1; clear hb1
  go_wp2
  go_ret
  exact ⟨rfl, Below.on ((Below.refl _ _).alloc (Nat.le_refl _) _) (unhide HB)⟩

set_option maxRecDepth 100000 in
set_option maxHeartbeats 1000000 in
theorem idx_F (b o n cp B : Nat) (cv : Nat → Nat → Value) (q : Nat → Bool) (w : World) (hn : (n : Int) < 1099511627776) (hb : b < w.heap.size)
    (hc : ∀ i, i < n → ∀ j, j < 3 → w.cell? ⟨b, o + i * 3 + j, none⟩ = some (cv i j))
    (hf : ∀ i, i < n → ∀ W, Below w.heap.size w W → Calls Tryz.prog 81 #[.agg #[cv i 0, cv i 1, cv i 2], .pointer (some ⟨B, 0, none⟩)] W fun e w' => e = .returned (.bool (q i)) ∧ Below W.heap.size W w') :
    Calls Tryz.prog 109 #[.slice (some ⟨b, o, none⟩) n cp, .func (.func 81) #[] #[.pointer (some ⟨B, 0, none⟩)]] w fun e w' => (∃ r : Int, e = .returned (.int .i64 r) ∧ decide (r ≥ 0) = (List.range n).any q) ∧ Below w.heap.size w w' := by
  have HC := hide hc; have HF := hide hf; have HN := hide hn
  have n0 : (0 : Int) ≤ n := by omega
  go_enter Tryz.func109, Tryz.ntmps109
  clear hc hf
  go_wp2
  go_loopw [8] (fun i wr => ∃ k : Nat, k ≤ n ∧ i = .int .i64 k ∧ (List.range k).any q = false ∧ Below w.heap.size w wr)
    (fun i _ => ((n : Int) - intOf i).toNat)
  case atStart => exact ⟨0, Nat.zero_le _, rfl, rfl, Below.refl _ _⟩
  case round =>
    obtain ⟨k, hk, rfl, hany, hbl⟩ := hrel
    by_cases hlt : k < n
    · have hlt' : (k : Int) < n := by omega
      have hc := unhide HC
      have c0 : wr.cell? ⟨b, o + k * 3, none⟩ = some (cv k 0) := (hbl.cell (p := ⟨b, o + k * 3, none⟩) hb).trans (hc k hlt 0 (by omega))
      have c1 : wr.cell? ⟨b, o + k * 3 + 1, none⟩ = some (cv k 1) := (hbl.cell (p := ⟨b, o + k * 3 + 1, none⟩) hb).trans (hc k hlt 1 (by omega))
      have c2 : wr.cell? ⟨b, o + k * 3 + 2, none⟩ = some (cv k 2) := (hbl.cell (p := ⟨b, o + k * 3 + 2, none⟩) hb).trans (hc k hlt 2 (by omega))
      have HH := hide (unhide HF k hlt wr hbl)
      have HA := hide hany; have HL := hide hbl; have HK := hide hlt
      clear hc hany hbl hk hlt
      cases hq : q k
      · have HQ := hide hq
        rw [hq] at HH; clear hq
        go_wp2_with fail
        refine (unhide HH).mono ?_
        rintro e w1 ⟨rfl, hb1⟩
        have HB := hide hb1; clear hb1
        go_wp2
        go_roundw
        case rel => exact ⟨k + 1, unhide HK, rfl, by rw [List.range_succ, List.any_append, unhide HA]; simp [unhide HQ], Below.on (unhide HL) (unhide HB)⟩
        case measure => have := unhide HK; simp [intOf]; omega
      · have HQ := hide hq
        rw [hq] at HH; clear hq
        go_wp2_with fail
        refine (unhide HH).mono ?_
        rintro e w1 ⟨rfl, hb1⟩
        have HB := hide hb1; clear hb1
        go_wp2
        go_ret
        exact ⟨⟨_, rfl, by
          have h1 : (List.range n).any q = true := List.any_eq_true.2 ⟨k, List.mem_range.2 (unhide HK), unhide HQ⟩
          rw [h1]; simp⟩, Below.on (unhide HL) (unhide HB)⟩
    · obtain rfl : k = n := by omega
      have HA := hide hany; have HL := hide hbl
      clear hany hbl hk hlt
      go_wp2
      go_ret
      exact ⟨⟨_, rfl, by rw [unhide HA]; decide⟩, unhide HL⟩

set_option maxHeartbeats 1000000 in
theorem has_F (b o n cp B : Nat) (cv : Nat → Nat → Value) (q : Nat → Bool) (w : World) (hn : (n : Int) < 1099511627776) (hb : b < w.heap.size)
    (hc : ∀ i, i < n → ∀ j, j < 3 → w.cell? ⟨b, o + i * 3 + j, none⟩ = some (cv i j))
    (hf : ∀ i, i < n → ∀ W, Below w.heap.size w W → Calls Tryz.prog 81 #[.agg #[cv i 0, cv i 1, cv i 2], .pointer (some ⟨B, 0, none⟩)] W fun e w' => e = .returned (.bool (q i)) ∧ Below W.heap.size W w') :
    Calls Tryz.prog 80 #[.slice (some ⟨b, o, none⟩) n cp, .func (.func 81) #[] #[.pointer (some ⟨B, 0, none⟩)]] w fun e w' => e = .returned (.bool ((List.range n).any q)) ∧ Below w.heap.size w w' := by
  have H := hide (idx_F b o n cp B cv q w hn hb hc hf)
  clear hc hf hn hb
  generalize (List.range n).any q = a at *
  go_enter Tryz.func80, Tryz.ntmps80
  go_wp2_with fail
  refine (unhide H).mono ?_
  rintro e w1 ⟨⟨r, rfl, hr⟩, hb1⟩
  have HB := hide hb1; have HR := hide hr; clear hb1 hr
  go_wp2
  go_ret
  exact ⟨ret_bool (unhide HR), unhide HB⟩

set_option maxHeartbeats 1000000 in
theorem all_F (b o n cp fn : Nat) (cap : Array Value) (eg : ∀ args w, (callFunc fn args).run Tryz.prog w = .ok (.enter fn args) w) (cv : Nat → Nat → Value) (q : Nat → Bool) (w : World) (hn : (n : Int) < 1099511627776) (hb : b < w.heap.size)
    (hc : ∀ i, i < n → ∀ j, j < 3 → w.cell? ⟨b, o + i * 3 + j, none⟩ = some (cv i j))
    (hf : ∀ i, i < n → ∀ W, Below w.heap.size w W → Calls Tryz.prog fn (#[.agg #[cv i 0, cv i 1, cv i 2]] ++ cap) W fun e w' => e = .returned (.bool (q i)) ∧ Below W.heap.size W w') :
    Calls Tryz.prog 41 #[.slice (some ⟨b, o, none⟩) n cp, .func (.func fn) #[] cap] w fun e w' => e = .returned (.bool ((List.range n).all q)) ∧ Below w.heap.size w w' := by
  have h0 : Below w.heap.size w (w.alloc (.cells #[.func (.func fn) #[] cap] 123)) := (Below.refl _ _).alloc (Nat.le_refl _) _
  have H := hide (has_F b o n cp w.heap.size cv (fun i => !q i) _ hn (Nat.lt_of_lt_of_le hb h0.size) (fun i hi j hj => (h0.cell (p := ⟨b, o + i * 3 + j, none⟩) hb).trans (hc i hi j hj))
    (fun i hi W hW => allc_F fn cap eg w.heap.size (cv i 0) (cv i 1) (cv i 2) (q i) W ((hW.cell (p := ⟨w.heap.size, 0, none⟩) (by simp)).trans (by simp)) (Nat.lt_of_lt_of_le (by simp) hW.size) fun W' hW' => hf i hi W' (Below.on h0 (Below.on hW hW'))))
  have H0 := hide h0
  clear hc hf hn hb h0
  rw [← any_not] at *
  generalize (List.range n).any (fun i => !q i) = a at *
  go_enter Tryz.func41, Tryz.ntmps41
  go_wp2_with fail
  refine (unhide H).mono ?_
  rintro e w1 ⟨rfl, hb1⟩
  have HB := hide hb1; clear hb1
  go_wp2
  go_ret
  exact ⟨rfl, Below.on (unhide H0) (unhide HB)⟩

set_option maxHeartbeats 1000000 in
theorem all0_F (a : Option Addr) (cp fn : Nat) (cap : Array Value) (w : World) :
    Calls Tryz.prog 41 #[.slice a 0 cp, .func (.func fn) #[] cap] w fun e w' => e = .returned (.bool true) ∧ Below w.heap.size w w' := by
  have h1 : ∀ (B : Nat) (W : World), Calls Tryz.prog 109 #[.slice a 0 cp, .func (.func 81) #[] #[.pointer (some ⟨B, 0, none⟩)]] W fun e w' => e = .returned (.int .i64 (-1)) ∧ W = w' := by
    intro B W
    go_enter Tryz.func109, Tryz.ntmps109
    go_wp2
    refine wp_loop_rounds 1 ?_
    rw [rounds_succ]
    go_wp2
    go_ret
    exact ⟨rfl, rfl⟩
  have h2 : ∀ (B : Nat) (W : World), Calls Tryz.prog 80 #[.slice a 0 cp, .func (.func 81) #[] #[.pointer (some ⟨B, 0, none⟩)]] W fun e w' => e = .returned (.bool false) ∧ W = w' := by
    intro B W
    have H := hide (h1 B W); clear h1
    go_enter Tryz.func80, Tryz.ntmps80
    go_wp2_with fail
    refine (unhide H).mono ?_
    rintro e w1 ⟨rfl, rfl⟩
    go_wp2
    go_ret
    exact ⟨rfl, rfl⟩
  have H := hide h2; clear h1 h2
  go_enter Tryz.func41, Tryz.ntmps41
  go_wp2_with fail
  refine (unhide H _ _).mono ?_
  rintro e w1 ⟨rfl, rfl⟩
  go_wp2
  go_ret
  exact ⟨rfl, (Below.refl _ _).alloc (Nat.le_refl _) _⟩
end Go.Proofs.YtcpknafaocdjdaaGreatDoor

/- valid.all at api.Limits: whether each item is so. -/
namespace Go.Proofs.YtcpknafaocdjdaaGreatDoor
open Go.RowKit
set_option linter.unusedVariables false

set_option maxRecDepth 100000 in
set_option maxHeartbeats 1000000 in
/-- the closure: not so -/
theorem allc_L (fn : Nat) (cap : Array Value) (eg : ∀ args w, (callFunc fn args).run Tryz.prog w = .ok (.enter fn args) w) (B : Nat) (v0 v1 v2 : Value) (r : Bool) (W : World)
    (hB : W.cell? ⟨B, 0, none⟩ = some (.func (.func fn) #[] cap)) (hBl : B < W.heap.size)
    (hf : ∀ W', Below W.heap.size W W' → Calls Tryz.prog fn (#[.agg #[v0, v1, v2]] ++ cap) W' fun e w' => e = .returned (.bool r) ∧ Below W'.heap.size W' w') :
    Calls Tryz.prog 75 #[.agg #[v0, v1, v2], .pointer (some ⟨B, 0, none⟩)] W fun e w' => e = .returned (.bool (!r)) ∧ Below W.heap.size W w' := by
  have hne : ¬ B = W.heap.size := by omega
  have HF := hide hf; clear hf
  go_enter Tryz.func75, Tryz.ntmps75
  go_wp2_with (simp only [eg])
  refine (unhide HF _ ((Below.refl _ _).alloc (Nat.le_refl _) _)).mono ?_
  rintro e w1 ⟨rfl, hb1⟩
  have HB := hide hb1; clear hb1
  go_wp2
  go_ret
  exact ⟨rfl, Below.on ((Below.refl _ _).alloc (Nat.le_refl _) _) (unhide HB)⟩

set_option maxRecDepth 100000 in
set_option maxHeartbeats 1000000 in
theorem idx_L (b o n cp B : Nat) (cv : Nat → Nat → Value) (q : Nat → Bool) (w : World) (hn : (n : Int) < 1099511627776) (hb : b < w.heap.size)
    (hc : ∀ i, i < n → ∀ j, j < 3 → w.cell? ⟨b, o + i * 3 + j, none⟩ = some (cv i j))
    (hf : ∀ i, i < n → ∀ W, Below w.heap.size w W → Calls Tryz.prog 75 #[.agg #[cv i 0, cv i 1, cv i 2], .pointer (some ⟨B, 0, none⟩)] W fun e w' => e = .returned (.bool (q i)) ∧ Below W.heap.size W w') :
    Calls Tryz.prog 106 #[.slice (some ⟨b, o, none⟩) n cp, .func (.func 75) #[] #[.pointer (some ⟨B, 0, none⟩)]] w fun e w' => (∃ r : Int, e = .returned (.int .i64 r) ∧ decide (r ≥ 0) = (List.range n).any q) ∧ Below w.heap.size w w' := by
  have HC := hide hc; have HF := hide hf; have HN := hide hn
  have n0 : (0 : Int) ≤ n := by omega
  go_enter Tryz.func106, Tryz.ntmps106
  clear hc hf
  go_wp2
  go_loopw [8] (fun i wr => ∃ k : Nat, k ≤ n ∧ i = .int .i64 k ∧ (List.range k).any q = false ∧ Below w.heap.size w wr)
    (fun i _ => ((n : Int) - intOf i).toNat)
  case atStart => exact ⟨0, Nat.zero_le _, rfl, rfl, Below.refl _ _⟩
  case round =>
    obtain ⟨k, hk, rfl, hany, hbl⟩ := hrel
    by_cases hlt : k < n
    · have hlt' : (k : Int) < n := by omega
      have hc := unhide HC
      have c0 : wr.cell? ⟨b, o + k * 3, none⟩ = some (cv k 0) := (hbl.cell (p := ⟨b, o + k * 3, none⟩) hb).trans (hc k hlt 0 (by omega))
      have c1 : wr.cell? ⟨b, o + k * 3 + 1, none⟩ = some (cv k 1) := (hbl.cell (p := ⟨b, o + k * 3 + 1, none⟩) hb).trans (hc k hlt 1 (by omega))
      have c2 : wr.cell? ⟨b, o + k * 3 + 2, none⟩ = some (cv k 2) := (hbl.cell (p := ⟨b, o + k * 3 + 2, none⟩) hb).trans (hc k hlt 2 (by omega))
      have HH := hide (unhide HF k hlt wr hbl)
      have HA := hide hany; have HL := hide hbl; have HK := hide hlt
      clear hc hany hbl hk hlt
      cases hq : q k
      · have HQ := hide hq
        rw [hq] at HH; clear hq
        go_wp2_with fail
        refine (unhide HH).mono ?_
        rintro e w1 ⟨rfl, hb1⟩
        have HB := hide hb1; clear hb1
        go_wp2
        go_roundw
        case rel => exact ⟨k + 1, unhide HK, rfl, by rw [List.range_succ, List.any_append, unhide HA]; simp [unhide HQ], Below.on (unhide HL) (unhide HB)⟩
        case measure => have := unhide HK; simp [intOf]; omega
      · have HQ := hide hq
        rw [hq] at HH; clear hq
        go_wp2_with fail
        refine (unhide HH).mono ?_
        rintro e w1 ⟨rfl, hb1⟩
        have HB := hide hb1; clear hb1
        go_wp2
        go_ret
        exact ⟨⟨_, rfl, by
          have h1 : (List.range n).any q = true := List.any_eq_true.2 ⟨k, List.mem_range.2 (unhide HK), unhide HQ⟩
          rw [h1]; simp⟩, Below.on (unhide HL) (unhide HB)⟩
    · obtain rfl : k = n := by omega
      have HA := hide hany; have HL := hide hbl
      clear hany hbl hk hlt
      go_wp2
      go_ret
      exact ⟨⟨_, rfl, by rw [unhide HA]; decide⟩, unhide HL⟩

set_option maxHeartbeats 1000000 in
theorem has_L (b o n cp B : Nat) (cv : Nat → Nat → Value) (q : Nat → Bool) (w : World) (hn : (n : Int) < 1099511627776) (hb : b < w.heap.size)
    (hc : ∀ i, i < n → ∀ j, j < 3 → w.cell? ⟨b, o + i * 3 + j, none⟩ = some (cv i j))
    (hf : ∀ i, i < n → ∀ W, Below w.heap.size w W → Calls Tryz.prog 75 #[.agg #[cv i 0, cv i 1, cv i 2], .pointer (some ⟨B, 0, none⟩)] W fun e w' => e = .returned (.bool (q i)) ∧ Below W.heap.size W w') :
    Calls Tryz.prog 74 #[.slice (some ⟨b, o, none⟩) n cp, .func (.func 75) #[] #[.pointer (some ⟨B, 0, none⟩)]] w fun e w' => e = .returned (.bool ((List.range n).any q)) ∧ Below w.heap.size w w' := by
  have H := hide (idx_L b o n cp B cv q w hn hb hc hf)
  clear hc hf hn hb
  generalize (List.range n).any q = a at *
  go_enter Tryz.func74, Tryz.ntmps74
  go_wp2_with fail
  refine (unhide H).mono ?_
  rintro e w1 ⟨⟨r, rfl, hr⟩, hb1⟩
  have HB := hide hb1; have HR := hide hr; clear hb1 hr
  go_wp2
  go_ret
  exact ⟨ret_bool (unhide HR), unhide HB⟩

set_option maxHeartbeats 1000000 in
theorem all_L (b o n cp fn : Nat) (cap : Array Value) (eg : ∀ args w, (callFunc fn args).run Tryz.prog w = .ok (.enter fn args) w) (cv : Nat → Nat → Value) (q : Nat → Bool) (w : World) (hn : (n : Int) < 1099511627776) (hb : b < w.heap.size)
    (hc : ∀ i, i < n → ∀ j, j < 3 → w.cell? ⟨b, o + i * 3 + j, none⟩ = some (cv i j))
    (hf : ∀ i, i < n → ∀ W, Below w.heap.size w W → Calls Tryz.prog fn (#[.agg #[cv i 0, cv i 1, cv i 2]] ++ cap) W fun e w' => e = .returned (.bool (q i)) ∧ Below W.heap.size W w') :
    Calls Tryz.prog 33 #[.slice (some ⟨b, o, none⟩) n cp, .func (.func fn) #[] cap] w fun e w' => e = .returned (.bool ((List.range n).all q)) ∧ Below w.heap.size w w' := by
  have h0 : Below w.heap.size w (w.alloc (.cells #[.func (.func fn) #[] cap] 117)) := (Below.refl _ _).alloc (Nat.le_refl _) _
  have H := hide (has_L b o n cp w.heap.size cv (fun i => !q i) _ hn (Nat.lt_of_lt_of_le hb h0.size) (fun i hi j hj => (h0.cell (p := ⟨b, o + i * 3 + j, none⟩) hb).trans (hc i hi j hj))
    (fun i hi W hW => allc_L fn cap eg w.heap.size (cv i 0) (cv i 1) (cv i 2) (q i) W ((hW.cell (p := ⟨w.heap.size, 0, none⟩) (by simp)).trans (by simp)) (Nat.lt_of_lt_of_le (by simp) hW.size) fun W' hW' => hf i hi W' (Below.on h0 (Below.on hW hW'))))
  have H0 := hide h0
  clear hc hf hn hb h0
  rw [← any_not] at *
  generalize (List.range n).any (fun i => !q i) = a at *
  go_enter Tryz.func33, Tryz.ntmps33
  go_wp2_with fail
  refine (unhide H).mono ?_
  rintro e w1 ⟨rfl, hb1⟩
  have HB := hide hb1; clear hb1
  go_wp2
  go_ret
  exact ⟨rfl, Below.on (unhide H0) (unhide HB)⟩

set_option maxHeartbeats 1000000 in
theorem all0_L (a : Option Addr) (cp fn : Nat) (cap : Array Value) (w : World) :
    Calls Tryz.prog 33 #[.slice a 0 cp, .func (.func fn) #[] cap] w fun e w' => e = .returned (.bool true) ∧ Below w.heap.size w w' := by
  have h1 : ∀ (B : Nat) (W : World), Calls Tryz.prog 106 #[.slice a 0 cp, .func (.func 75) #[] #[.pointer (some ⟨B, 0, none⟩)]] W fun e w' => e = .returned (.int .i64 (-1)) ∧ W = w' := by
    intro B W
    go_enter Tryz.func106, Tryz.ntmps106
    go_wp2
    refine wp_loop_rounds 1 ?_
    rw [rounds_succ]
    go_wp2
    go_ret
    exact ⟨rfl, rfl⟩
  have h2 : ∀ (B : Nat) (W : World), Calls Tryz.prog 74 #[.slice a 0 cp, .func (.func 75) #[] #[.pointer (some ⟨B, 0, none⟩)]] W fun e w' => e = .returned (.bool false) ∧ W = w' := by
    intro B W
    have H := hide (h1 B W); clear h1
    go_enter Tryz.func74, Tryz.ntmps74
    go_wp2_with fail
    refine (unhide H).mono ?_
    rintro e w1 ⟨rfl, rfl⟩
    go_wp2
    go_ret
    exact ⟨rfl, rfl⟩
  have H := hide h2; clear h1 h2
  go_enter Tryz.func33, Tryz.ntmps33
  go_wp2_with fail
  refine (unhide H _ _).mono ?_
  rintro e w1 ⟨rfl, rfl⟩
  go_wp2
  go_ret
  exact ⟨rfl, (Below.refl _ _).alloc (Nat.le_refl _) _⟩
end Go.Proofs.YtcpknafaocdjdaaGreatDoor

/- valid.all at api.Global: whether each item is so. -/
namespace Go.Proofs.YtcpknafaocdjdaaGreatDoor
open Go.RowKit
set_option linter.unusedVariables false

set_option maxRecDepth 100000 in
set_option maxHeartbeats 1000000 in
/-- the closure: not so -/
theorem allc_G (fn : Nat) (cap : Array Value) (eg : ∀ args w, (callFunc fn args).run Tryz.prog w = .ok (.enter fn args) w) (B : Nat) (v0 v1 v2 v3 v4 v5 v6 v7 v8 v9 : Value) (r : Bool) (W : World)
    (hB : W.cell? ⟨B, 0, none⟩ = some (.func (.func fn) #[] cap)) (hBl : B < W.heap.size)
    (hf : ∀ W', Below W.heap.size W W' → Calls Tryz.prog fn (#[.agg #[v0, v1, v2, v3, v4, v5, v6, v7, v8, v9]] ++ cap) W' fun e w' => e = .returned (.bool r) ∧ Below W'.heap.size W' w') :
    Calls Tryz.prog 83 #[.agg #[v0, v1, v2, v3, v4, v5, v6, v7, v8, v9], .pointer (some ⟨B, 0, none⟩)] W fun e w' => e = .returned (.bool (!r)) ∧ Below W.heap.size W w' := by
  have hne : ¬ B = W.heap.size := by omega
  have HF := hide hf; clear hf
  go_enter Tryz.func83, Tryz.ntmps83
  go_wp2_with (simp only [eg])
  refine (unhide HF _ ((Below.refl _ _).alloc (Nat.le_refl _) _)).mono ?_
  rintro e w1 ⟨rfl, hb1⟩
  have HB := hide hb1; clear hb1
  go_wp2
  go_ret
  exact ⟨rfl, Below.on ((Below.refl _ _).alloc (Nat.le_refl _) _) (unhide HB)⟩

set_option maxRecDepth 100000 in
set_option maxHeartbeats 1000000 in
theorem idx_G (b o n cp B : Nat) (cv : Nat → Nat → Value) (q : Nat → Bool) (w : World) (hn : (n : Int) < 1099511627776) (hb : b < w.heap.size)
    (hc : ∀ i, i < n → ∀ j, j < 10 → w.cell? ⟨b, o + i * 10 + j, none⟩ = some (cv i j))
    (hf : ∀ i, i < n → ∀ W, Below w.heap.size w W → Calls Tryz.prog 83 #[.agg #[cv i 0, cv i 1, cv i 2, cv i 3, cv i 4, cv i 5, cv i 6, cv i 7, cv i 8, cv i 9], .pointer (some ⟨B, 0, none⟩)] W fun e w' => e = .returned (.bool (q i)) ∧ Below W.heap.size W w') :
    Calls Tryz.prog 110 #[.slice (some ⟨b, o, none⟩) n cp, .func (.func 83) #[] #[.pointer (some ⟨B, 0, none⟩)]] w fun e w' => (∃ r : Int, e = .returned (.int .i64 r) ∧ decide (r ≥ 0) = (List.range n).any q) ∧ Below w.heap.size w w' := by
  have HC := hide hc; have HF := hide hf; have HN := hide hn
  have n0 : (0 : Int) ≤ n := by omega
  go_enter Tryz.func110, Tryz.ntmps110
  clear hc hf
  go_wp2
  go_loopw [8] (fun i wr => ∃ k : Nat, k ≤ n ∧ i = .int .i64 k ∧ (List.range k).any q = false ∧ Below w.heap.size w wr)
    (fun i _ => ((n : Int) - intOf i).toNat)
  case atStart => exact ⟨0, Nat.zero_le _, rfl, rfl, Below.refl _ _⟩
  case round =>
    obtain ⟨k, hk, rfl, hany, hbl⟩ := hrel
    by_cases hlt : k < n
    · have hlt' : (k : Int) < n := by omega
      have hc := unhide HC
      have c0 : wr.cell? ⟨b, o + k * 10, none⟩ = some (cv k 0) := (hbl.cell (p := ⟨b, o + k * 10, none⟩) hb).trans (hc k hlt 0 (by omega))
      have c1 : wr.cell? ⟨b, o + k * 10 + 1, none⟩ = some (cv k 1) := (hbl.cell (p := ⟨b, o + k * 10 + 1, none⟩) hb).trans (hc k hlt 1 (by omega))
      have c2 : wr.cell? ⟨b, o + k * 10 + 2, none⟩ = some (cv k 2) := (hbl.cell (p := ⟨b, o + k * 10 + 2, none⟩) hb).trans (hc k hlt 2 (by omega))
      have c3 : wr.cell? ⟨b, o + k * 10 + 3, none⟩ = some (cv k 3) := (hbl.cell (p := ⟨b, o + k * 10 + 3, none⟩) hb).trans (hc k hlt 3 (by omega))
      have c4 : wr.cell? ⟨b, o + k * 10 + 4, none⟩ = some (cv k 4) := (hbl.cell (p := ⟨b, o + k * 10 + 4, none⟩) hb).trans (hc k hlt 4 (by omega))
      have c5 : wr.cell? ⟨b, o + k * 10 + 5, none⟩ = some (cv k 5) := (hbl.cell (p := ⟨b, o + k * 10 + 5, none⟩) hb).trans (hc k hlt 5 (by omega))
      have c6 : wr.cell? ⟨b, o + k * 10 + 6, none⟩ = some (cv k 6) := (hbl.cell (p := ⟨b, o + k * 10 + 6, none⟩) hb).trans (hc k hlt 6 (by omega))
      have c7 : wr.cell? ⟨b, o + k * 10 + 7, none⟩ = some (cv k 7) := (hbl.cell (p := ⟨b, o + k * 10 + 7, none⟩) hb).trans (hc k hlt 7 (by omega))
      have c8 : wr.cell? ⟨b, o + k * 10 + 8, none⟩ = some (cv k 8) := (hbl.cell (p := ⟨b, o + k * 10 + 8, none⟩) hb).trans (hc k hlt 8 (by omega))
      have c9 : wr.cell? ⟨b, o + k * 10 + 9, none⟩ = some (cv k 9) := (hbl.cell (p := ⟨b, o + k * 10 + 9, none⟩) hb).trans (hc k hlt 9 (by omega))
      have HH := hide (unhide HF k hlt wr hbl)
      have HA := hide hany; have HL := hide hbl; have HK := hide hlt
      clear hc hany hbl hk hlt
      cases hq : q k
      · have HQ := hide hq
        rw [hq] at HH; clear hq
        go_wp2_with fail
        refine (unhide HH).mono ?_
        rintro e w1 ⟨rfl, hb1⟩
        have HB := hide hb1; clear hb1
        go_wp2
        go_roundw
        case rel => exact ⟨k + 1, unhide HK, rfl, by rw [List.range_succ, List.any_append, unhide HA]; simp [unhide HQ], Below.on (unhide HL) (unhide HB)⟩
        case measure => have := unhide HK; simp [intOf]; omega
      · have HQ := hide hq
        rw [hq] at HH; clear hq
        go_wp2_with fail
        refine (unhide HH).mono ?_
        rintro e w1 ⟨rfl, hb1⟩
        have HB := hide hb1; clear hb1
        go_wp2
        go_ret
        exact ⟨⟨_, rfl, by
          have h1 : (List.range n).any q = true := List.any_eq_true.2 ⟨k, List.mem_range.2 (unhide HK), unhide HQ⟩
          rw [h1]; simp⟩, Below.on (unhide HL) (unhide HB)⟩
    · obtain rfl : k = n := by omega
      have HA := hide hany; have HL := hide hbl
      clear hany hbl hk hlt
      go_wp2
      go_ret
      exact ⟨⟨_, rfl, by rw [unhide HA]; decide⟩, unhide HL⟩

set_option maxHeartbeats 1000000 in
theorem has_G (b o n cp B : Nat) (cv : Nat → Nat → Value) (q : Nat → Bool) (w : World) (hn : (n : Int) < 1099511627776) (hb : b < w.heap.size)
    (hc : ∀ i, i < n → ∀ j, j < 10 → w.cell? ⟨b, o + i * 10 + j, none⟩ = some (cv i j))
    (hf : ∀ i, i < n → ∀ W, Below w.heap.size w W → Calls Tryz.prog 83 #[.agg #[cv i 0, cv i 1, cv i 2, cv i 3, cv i 4, cv i 5, cv i 6, cv i 7, cv i 8, cv i 9], .pointer (some ⟨B, 0, none⟩)] W fun e w' => e = .returned (.bool (q i)) ∧ Below W.heap.size W w') :
    Calls Tryz.prog 82 #[.slice (some ⟨b, o, none⟩) n cp, .func (.func 83) #[] #[.pointer (some ⟨B, 0, none⟩)]] w fun e w' => e = .returned (.bool ((List.range n).any q)) ∧ Below w.heap.size w w' := by
  have H := hide (idx_G b o n cp B cv q w hn hb hc hf)
  clear hc hf hn hb
  generalize (List.range n).any q = a at *
  go_enter Tryz.func82, Tryz.ntmps82
  go_wp2_with fail
  refine (unhide H).mono ?_
  rintro e w1 ⟨⟨r, rfl, hr⟩, hb1⟩
  have HB := hide hb1; have HR := hide hr; clear hb1 hr
  go_wp2
  go_ret
  exact ⟨ret_bool (unhide HR), unhide HB⟩

set_option maxHeartbeats 1000000 in
theorem all_G (b o n cp fn : Nat) (cap : Array Value) (eg : ∀ args w, (callFunc fn args).run Tryz.prog w = .ok (.enter fn args) w) (cv : Nat → Nat → Value) (q : Nat → Bool) (w : World) (hn : (n : Int) < 1099511627776) (hb : b < w.heap.size)
    (hc : ∀ i, i < n → ∀ j, j < 10 → w.cell? ⟨b, o + i * 10 + j, none⟩ = some (cv i j))
    (hf : ∀ i, i < n → ∀ W, Below w.heap.size w W → Calls Tryz.prog fn (#[.agg #[cv i 0, cv i 1, cv i 2, cv i 3, cv i 4, cv i 5, cv i 6, cv i 7, cv i 8, cv i 9]] ++ cap) W fun e w' => e = .returned (.bool (q i)) ∧ Below W.heap.size W w') :
    Calls Tryz.prog 43 #[.slice (some ⟨b, o, none⟩) n cp, .func (.func fn) #[] cap] w fun e w' => e = .returned (.bool ((List.range n).all q)) ∧ Below w.heap.size w w' := by
  have h0 : Below w.heap.size w (w.alloc (.cells #[.func (.func fn) #[] cap] 125)) := (Below.refl _ _).alloc (Nat.le_refl _) _
  have H := hide (has_G b o n cp w.heap.size cv (fun i => !q i) _ hn (Nat.lt_of_lt_of_le hb h0.size) (fun i hi j hj => (h0.cell (p := ⟨b, o + i * 10 + j, none⟩) hb).trans (hc i hi j hj))
    (fun i hi W hW => allc_G fn cap eg w.heap.size (cv i 0) (cv i 1) (cv i 2) (cv i 3) (cv i 4) (cv i 5) (cv i 6) (cv i 7) (cv i 8) (cv i 9) (q i) W ((hW.cell (p := ⟨w.heap.size, 0, none⟩) (by simp)).trans (by simp)) (Nat.lt_of_lt_of_le (by simp) hW.size) fun W' hW' => hf i hi W' (Below.on h0 (Below.on hW hW'))))
  have H0 := hide h0
  clear hc hf hn hb h0
  rw [← any_not] at *
  generalize (List.range n).any (fun i => !q i) = a at *
  go_enter Tryz.func43, Tryz.ntmps43
  go_wp2_with fail
  refine (unhide H).mono ?_
  rintro e w1 ⟨rfl, hb1⟩
  have HB := hide hb1; clear hb1
  go_wp2
  go_ret
  exact ⟨rfl, Below.on (unhide H0) (unhide HB)⟩

set_option maxHeartbeats 1000000 in
theorem all0_G (a : Option Addr) (cp fn : Nat) (cap : Array Value) (w : World) :
    Calls Tryz.prog 43 #[.slice a 0 cp, .func (.func fn) #[] cap] w fun e w' => e = .returned (.bool true) ∧ Below w.heap.size w w' := by
  have h1 : ∀ (B : Nat) (W : World), Calls Tryz.prog 110 #[.slice a 0 cp, .func (.func 83) #[] #[.pointer (some ⟨B, 0, none⟩)]] W fun e w' => e = .returned (.int .i64 (-1)) ∧ W = w' := by
    intro B W
    go_enter Tryz.func110, Tryz.ntmps110
    go_wp2
    refine wp_loop_rounds 1 ?_
    rw [rounds_succ]
    go_wp2
    go_ret
    exact ⟨rfl, rfl⟩
  have h2 : ∀ (B : Nat) (W : World), Calls Tryz.prog 82 #[.slice a 0 cp, .func (.func 83) #[] #[.pointer (some ⟨B, 0, none⟩)]] W fun e w' => e = .returned (.bool false) ∧ W = w' := by
    intro B W
    have H := hide (h1 B W); clear h1
    go_enter Tryz.func82, Tryz.ntmps82
    go_wp2_with fail
    refine (unhide H).mono ?_
    rintro e w1 ⟨rfl, rfl⟩
    go_wp2
    go_ret
    exact ⟨rfl, rfl⟩
  have H := hide h2; clear h1 h2
  go_enter Tryz.func43, Tryz.ntmps43
  go_wp2_with fail
  refine (unhide H _ _).mono ?_
  rintro e w1 ⟨rfl, rfl⟩
  go_wp2
  go_ret
  exact ⟨rfl, (Below.refl _ _).alloc (Nat.le_refl _) _⟩
end Go.Proofs.YtcpknafaocdjdaaGreatDoor

/- valid.all at api.Elem: whether each item is so. -/
namespace Go.Proofs.YtcpknafaocdjdaaGreatDoor
open Go.RowKit
set_option linter.unusedVariables false

set_option maxRecDepth 100000 in
set_option maxHeartbeats 1000000 in
/-- the closure: not so -/
theorem allc_E (fn : Nat) (cap : Array Value) (eg : ∀ args w, (callFunc fn args).run Tryz.prog w = .ok (.enter fn args) w) (B : Nat) (v0 v1 v2 v3 v4 v5 v6 v7 v8 v9 : Value) (r : Bool) (W : World)
    (hB : W.cell? ⟨B, 0, none⟩ = some (.func (.func fn) #[] cap)) (hBl : B < W.heap.size)
    (hf : ∀ W', Below W.heap.size W W' → Calls Tryz.prog fn (#[.agg #[v0, v1, v2, v3, v4, v5, v6, v7, v8, v9]] ++ cap) W' fun e w' => e = .returned (.bool r) ∧ Below W'.heap.size W' w') :
    Calls Tryz.prog 87 #[.agg #[v0, v1, v2, v3, v4, v5, v6, v7, v8, v9], .pointer (some ⟨B, 0, none⟩)] W fun e w' => e = .returned (.bool (!r)) ∧ Below W.heap.size W w' := by
  have hne : ¬ B = W.heap.size := by omega
  have HF := hide hf; clear hf
  go_enter Tryz.func87, Tryz.ntmps87
  go_wp2_with (simp only [eg])
  refine (unhide HF _ ((Below.refl _ _).alloc (Nat.le_refl _) _)).mono ?_
  rintro e w1 ⟨rfl, hb1⟩
  have HB := hide hb1; clear hb1
  go_wp2
  go_ret
  exact ⟨rfl, Below.on ((Below.refl _ _).alloc (Nat.le_refl _) _) (unhide HB)⟩

set_option maxRecDepth 100000 in
set_option maxHeartbeats 1000000 in
theorem idx_E (b o n cp B : Nat) (cv : Nat → Nat → Value) (q : Nat → Bool) (w : World) (hn : (n : Int) < 1099511627776) (hb : b < w.heap.size)
    (hc : ∀ i, i < n → ∀ j, j < 10 → w.cell? ⟨b, o + i * 10 + j, none⟩ = some (cv i j))
    (hf : ∀ i, i < n → ∀ W, Below w.heap.size w W → Calls Tryz.prog 87 #[.agg #[cv i 0, cv i 1, cv i 2, cv i 3, cv i 4, cv i 5, cv i 6, cv i 7, cv i 8, cv i 9], .pointer (some ⟨B, 0, none⟩)] W fun e w' => e = .returned (.bool (q i)) ∧ Below W.heap.size W w') :
    Calls Tryz.prog 114 #[.slice (some ⟨b, o, none⟩) n cp, .func (.func 87) #[] #[.pointer (some ⟨B, 0, none⟩)]] w fun e w' => (∃ r : Int, e = .returned (.int .i64 r) ∧ decide (r ≥ 0) = (List.range n).any q) ∧ Below w.heap.size w w' := by
  have HC := hide hc; have HF := hide hf; have HN := hide hn
  have n0 : (0 : Int) ≤ n := by omega
  go_enter Tryz.func114, Tryz.ntmps114
  clear hc hf
  go_wp2
  go_loopw [8] (fun i wr => ∃ k : Nat, k ≤ n ∧ i = .int .i64 k ∧ (List.range k).any q = false ∧ Below w.heap.size w wr)
    (fun i _ => ((n : Int) - intOf i).toNat)
  case atStart => exact ⟨0, Nat.zero_le _, rfl, rfl, Below.refl _ _⟩
  case round =>
    obtain ⟨k, hk, rfl, hany, hbl⟩ := hrel
    by_cases hlt : k < n
    · have hlt' : (k : Int) < n := by omega
      have hc := unhide HC
      have c0 : wr.cell? ⟨b, o + k * 10, none⟩ = some (cv k 0) := (hbl.cell (p := ⟨b, o + k * 10, none⟩) hb).trans (hc k hlt 0 (by omega))
      have c1 : wr.cell? ⟨b, o + k * 10 + 1, none⟩ = some (cv k 1) := (hbl.cell (p := ⟨b, o + k * 10 + 1, none⟩) hb).trans (hc k hlt 1 (by omega))
      have c2 : wr.cell? ⟨b, o + k * 10 + 2, none⟩ = some (cv k 2) := (hbl.cell (p := ⟨b, o + k * 10 + 2, none⟩) hb).trans (hc k hlt 2 (by omega))
      have c3 : wr.cell? ⟨b, o + k * 10 + 3, none⟩ = some (cv k 3) := (hbl.cell (p := ⟨b, o + k * 10 + 3, none⟩) hb).trans (hc k hlt 3 (by omega))
      have c4 : wr.cell? ⟨b, o + k * 10 + 4, none⟩ = some (cv k 4) := (hbl.cell (p := ⟨b, o + k * 10 + 4, none⟩) hb).trans (hc k hlt 4 (by omega))
      have c5 : wr.cell? ⟨b, o + k * 10 + 5, none⟩ = some (cv k 5) := (hbl.cell (p := ⟨b, o + k * 10 + 5, none⟩) hb).trans (hc k hlt 5 (by omega))
      have c6 : wr.cell? ⟨b, o + k * 10 + 6, none⟩ = some (cv k 6) := (hbl.cell (p := ⟨b, o + k * 10 + 6, none⟩) hb).trans (hc k hlt 6 (by omega))
      have c7 : wr.cell? ⟨b, o + k * 10 + 7, none⟩ = some (cv k 7) := (hbl.cell (p := ⟨b, o + k * 10 + 7, none⟩) hb).trans (hc k hlt 7 (by omega))
      have c8 : wr.cell? ⟨b, o + k * 10 + 8, none⟩ = some (cv k 8) := (hbl.cell (p := ⟨b, o + k * 10 + 8, none⟩) hb).trans (hc k hlt 8 (by omega))
      have c9 : wr.cell? ⟨b, o + k * 10 + 9, none⟩ = some (cv k 9) := (hbl.cell (p := ⟨b, o + k * 10 + 9, none⟩) hb).trans (hc k hlt 9 (by omega))
      have HH := hide (unhide HF k hlt wr hbl)
      have HA := hide hany; have HL := hide hbl; have HK := hide hlt
      clear hc hany hbl hk hlt
      cases hq : q k
      · have HQ := hide hq
        rw [hq] at HH; clear hq
        go_wp2_with fail
        refine (unhide HH).mono ?_
        rintro e w1 ⟨rfl, hb1⟩
        have HB := hide hb1; clear hb1
        go_wp2
        go_roundw
        case rel => exact ⟨k + 1, unhide HK, rfl, by rw [List.range_succ, List.any_append, unhide HA]; simp [unhide HQ], Below.on (unhide HL) (unhide HB)⟩
        case measure => have := unhide HK; simp [intOf]; omega
      · have HQ := hide hq
        rw [hq] at HH; clear hq
        go_wp2_with fail
        refine (unhide HH).mono ?_
        rintro e w1 ⟨rfl, hb1⟩
        have HB := hide hb1; clear hb1
        go_wp2
        go_ret
        exact ⟨⟨_, rfl, by
          have h1 : (List.range n).any q = true := List.any_eq_true.2 ⟨k, List.mem_range.2 (unhide HK), unhide HQ⟩
          rw [h1]; simp⟩, Below.on (unhide HL) (unhide HB)⟩
    · obtain rfl : k = n := by omega
      have HA := hide hany; have HL := hide hbl
      clear hany hbl hk hlt
      go_wp2
      go_ret
      exact ⟨⟨_, rfl, by rw [unhide HA]; decide⟩, unhide HL⟩

set_option maxHeartbeats 1000000 in
theorem has_E (b o n cp B : Nat) (cv : Nat → Nat → Value) (q : Nat → Bool) (w : World) (hn : (n : Int) < 1099511627776) (hb : b < w.heap.size)
    (hc : ∀ i, i < n → ∀ j, j < 10 → w.cell? ⟨b, o + i * 10 + j, none⟩ = some (cv i j))
    (hf : ∀ i, i < n → ∀ W, Below w.heap.size w W → Calls Tryz.prog 87 #[.agg #[cv i 0, cv i 1, cv i 2, cv i 3, cv i 4, cv i 5, cv i 6, cv i 7, cv i 8, cv i 9], .pointer (some ⟨B, 0, none⟩)] W fun e w' => e = .returned (.bool (q i)) ∧ Below W.heap.size W w') :
    Calls Tryz.prog 86 #[.slice (some ⟨b, o, none⟩) n cp, .func (.func 87) #[] #[.pointer (some ⟨B, 0, none⟩)]] w fun e w' => e = .returned (.bool ((List.range n).any q)) ∧ Below w.heap.size w w' := by
  have H := hide (idx_E b o n cp B cv q w hn hb hc hf)
  clear hc hf hn hb
  generalize (List.range n).any q = a at *
  go_enter Tryz.func86, Tryz.ntmps86
  go_wp2_with fail
  refine (unhide H).mono ?_
  rintro e w1 ⟨⟨r, rfl, hr⟩, hb1⟩
  have HB := hide hb1; have HR := hide hr; clear hb1 hr
  go_wp2
  go_ret
  exact ⟨ret_bool (unhide HR), unhide HB⟩

set_option maxHeartbeats 1000000 in
theorem all_E (b o n cp fn : Nat) (cap : Array Value) (eg : ∀ args w, (callFunc fn args).run Tryz.prog w = .ok (.enter fn args) w) (cv : Nat → Nat → Value) (q : Nat → Bool) (w : World) (hn : (n : Int) < 1099511627776) (hb : b < w.heap.size)
    (hc : ∀ i, i < n → ∀ j, j < 10 → w.cell? ⟨b, o + i * 10 + j, none⟩ = some (cv i j))
    (hf : ∀ i, i < n → ∀ W, Below w.heap.size w W → Calls Tryz.prog fn (#[.agg #[cv i 0, cv i 1, cv i 2, cv i 3, cv i 4, cv i 5, cv i 6, cv i 7, cv i 8, cv i 9]] ++ cap) W fun e w' => e = .returned (.bool (q i)) ∧ Below W.heap.size W w') :
    Calls Tryz.prog 51 #[.slice (some ⟨b, o, none⟩) n cp, .func (.func fn) #[] cap] w fun e w' => e = .returned (.bool ((List.range n).all q)) ∧ Below w.heap.size w w' := by
  have h0 : Below w.heap.size w (w.alloc (.cells #[.func (.func fn) #[] cap] 130)) := (Below.refl _ _).alloc (Nat.le_refl _) _
  have H := hide (has_E b o n cp w.heap.size cv (fun i => !q i) _ hn (Nat.lt_of_lt_of_le hb h0.size) (fun i hi j hj => (h0.cell (p := ⟨b, o + i * 10 + j, none⟩) hb).trans (hc i hi j hj))
    (fun i hi W hW => allc_E fn cap eg w.heap.size (cv i 0) (cv i 1) (cv i 2) (cv i 3) (cv i 4) (cv i 5) (cv i 6) (cv i 7) (cv i 8) (cv i 9) (q i) W ((hW.cell (p := ⟨w.heap.size, 0, none⟩) (by simp)).trans (by simp)) (Nat.lt_of_lt_of_le (by simp) hW.size) fun W' hW' => hf i hi W' (Below.on h0 (Below.on hW hW'))))
  have H0 := hide h0
  clear hc hf hn hb h0
  rw [← any_not] at *
  generalize (List.range n).any (fun i => !q i) = a at *
  go_enter Tryz.func51, Tryz.ntmps51
  go_wp2_with fail
  refine (unhide H).mono ?_
  rintro e w1 ⟨rfl, hb1⟩
  have HB := hide hb1; clear hb1
  go_wp2
  go_ret
  exact ⟨rfl, Below.on (unhide H0) (unhide HB)⟩

set_option maxHeartbeats 1000000 in
theorem all0_E (a : Option Addr) (cp fn : Nat) (cap : Array Value) (w : World) :
    Calls Tryz.prog 51 #[.slice a 0 cp, .func (.func fn) #[] cap] w fun e w' => e = .returned (.bool true) ∧ Below w.heap.size w w' := by
  have h1 : ∀ (B : Nat) (W : World), Calls Tryz.prog 114 #[.slice a 0 cp, .func (.func 87) #[] #[.pointer (some ⟨B, 0, none⟩)]] W fun e w' => e = .returned (.int .i64 (-1)) ∧ W = w' := by
    intro B W
    go_enter Tryz.func114, Tryz.ntmps114
    go_wp2
    refine wp_loop_rounds 1 ?_
    rw [rounds_succ]
    go_wp2
    go_ret
    exact ⟨rfl, rfl⟩
  have h2 : ∀ (B : Nat) (W : World), Calls Tryz.prog 86 #[.slice a 0 cp, .func (.func 87) #[] #[.pointer (some ⟨B, 0, none⟩)]] W fun e w' => e = .returned (.bool false) ∧ W = w' := by
    intro B W
    have H := hide (h1 B W); clear h1
    go_enter Tryz.func86, Tryz.ntmps86
    go_wp2_with fail
    refine (unhide H).mono ?_
    rintro e w1 ⟨rfl, rfl⟩
    go_wp2
    go_ret
    exact ⟨rfl, rfl⟩
  have H := hide h2; clear h1 h2
  go_enter Tryz.func51, Tryz.ntmps51
  go_wp2_with fail
  refine (unhide H _ _).mono ?_
  rintro e w1 ⟨rfl, rfl⟩
  go_wp2
  go_ret
  exact ⟨rfl, (Below.refl _ _).alloc (Nat.le_refl _) _⟩
end Go.Proofs.YtcpknafaocdjdaaGreatDoor

/- valid.all at api.Data: whether each item is so. -/
namespace Go.Proofs.YtcpknafaocdjdaaGreatDoor
open Go.RowKit
set_option linter.unusedVariables false

set_option maxRecDepth 100000 in
set_option maxHeartbeats 1000000 in
/-- the closure: not so -/
theorem allc_D (fn : Nat) (cap : Array Value) (eg : ∀ args w, (callFunc fn args).run Tryz.prog w = .ok (.enter fn args) w) (B : Nat) (v0 v1 v2 v3 v4 v5 v6 v7 v8 v9 : Value) (r : Bool) (W : World)
    (hB : W.cell? ⟨B, 0, none⟩ = some (.func (.func fn) #[] cap)) (hBl : B < W.heap.size)
    (hf : ∀ W', Below W.heap.size W W' → Calls Tryz.prog fn (#[.agg #[v0, v1, v2, v3, v4, v5, v6, v7, v8, v9]] ++ cap) W' fun e w' => e = .returned (.bool r) ∧ Below W'.heap.size W' w') :
    Calls Tryz.prog 92 #[.agg #[v0, v1, v2, v3, v4, v5, v6, v7, v8, v9], .pointer (some ⟨B, 0, none⟩)] W fun e w' => e = .returned (.bool (!r)) ∧ Below W.heap.size W w' := by
  have hne : ¬ B = W.heap.size := by omega
  have HF := hide hf; clear hf
  go_enter Tryz.func92, Tryz.ntmps92
  go_wp2_with (simp only [eg])
  refine (unhide HF _ ((Below.refl _ _).alloc (Nat.le_refl _) _)).mono ?_
  rintro e w1 ⟨rfl, hb1⟩
  have HB := hide hb1; clear hb1
  go_wp2
  go_ret
  exact ⟨rfl, Below.on ((Below.refl _ _).alloc (Nat.le_refl _) _) (unhide HB)⟩

set_option maxRecDepth 100000 in
set_option maxHeartbeats 1000000 in
theorem idx_D (b o n cp B : Nat) (cv : Nat → Nat → Value) (q : Nat → Bool) (w : World) (hn : (n : Int) < 1099511627776) (hb : b < w.heap.size)
    (hc : ∀ i, i < n → ∀ j, j < 10 → w.cell? ⟨b, o + i * 10 + j, none⟩ = some (cv i j))
    (hf : ∀ i, i < n → ∀ W, Below w.heap.size w W → Calls Tryz.prog 92 #[.agg #[cv i 0, cv i 1, cv i 2, cv i 3, cv i 4, cv i 5, cv i 6, cv i 7, cv i 8, cv i 9], .pointer (some ⟨B, 0, none⟩)] W fun e w' => e = .returned (.bool (q i)) ∧ Below W.heap.size W w') :
    Calls Tryz.prog 117 #[.slice (some ⟨b, o, none⟩) n cp, .func (.func 92) #[] #[.pointer (some ⟨B, 0, none⟩)]] w fun e w' => (∃ r : Int, e = .returned (.int .i64 r) ∧ decide (r ≥ 0) = (List.range n).any q) ∧ Below w.heap.size w w' := by
  have HC := hide hc; have HF := hide hf; have HN := hide hn
  have n0 : (0 : Int) ≤ n := by omega
  go_enter Tryz.func117, Tryz.ntmps117
  clear hc hf
  go_wp2
  go_loopw [8] (fun i wr => ∃ k : Nat, k ≤ n ∧ i = .int .i64 k ∧ (List.range k).any q = false ∧ Below w.heap.size w wr)
    (fun i _ => ((n : Int) - intOf i).toNat)
  case atStart => exact ⟨0, Nat.zero_le _, rfl, rfl, Below.refl _ _⟩
  case round =>
    obtain ⟨k, hk, rfl, hany, hbl⟩ := hrel
    by_cases hlt : k < n
    · have hlt' : (k : Int) < n := by omega
      have hc := unhide HC
      have c0 : wr.cell? ⟨b, o + k * 10, none⟩ = some (cv k 0) := (hbl.cell (p := ⟨b, o + k * 10, none⟩) hb).trans (hc k hlt 0 (by omega))
      have c1 : wr.cell? ⟨b, o + k * 10 + 1, none⟩ = some (cv k 1) := (hbl.cell (p := ⟨b, o + k * 10 + 1, none⟩) hb).trans (hc k hlt 1 (by omega))
      have c2 : wr.cell? ⟨b, o + k * 10 + 2, none⟩ = some (cv k 2) := (hbl.cell (p := ⟨b, o + k * 10 + 2, none⟩) hb).trans (hc k hlt 2 (by omega))
      have c3 : wr.cell? ⟨b, o + k * 10 + 3, none⟩ = some (cv k 3) := (hbl.cell (p := ⟨b, o + k * 10 + 3, none⟩) hb).trans (hc k hlt 3 (by omega))
      have c4 : wr.cell? ⟨b, o + k * 10 + 4, none⟩ = some (cv k 4) := (hbl.cell (p := ⟨b, o + k * 10 + 4, none⟩) hb).trans (hc k hlt 4 (by omega))
      have c5 : wr.cell? ⟨b, o + k * 10 + 5, none⟩ = some (cv k 5) := (hbl.cell (p := ⟨b, o + k * 10 + 5, none⟩) hb).trans (hc k hlt 5 (by omega))
      have c6 : wr.cell? ⟨b, o + k * 10 + 6, none⟩ = some (cv k 6) := (hbl.cell (p := ⟨b, o + k * 10 + 6, none⟩) hb).trans (hc k hlt 6 (by omega))
      have c7 : wr.cell? ⟨b, o + k * 10 + 7, none⟩ = some (cv k 7) := (hbl.cell (p := ⟨b, o + k * 10 + 7, none⟩) hb).trans (hc k hlt 7 (by omega))
      have c8 : wr.cell? ⟨b, o + k * 10 + 8, none⟩ = some (cv k 8) := (hbl.cell (p := ⟨b, o + k * 10 + 8, none⟩) hb).trans (hc k hlt 8 (by omega))
      have c9 : wr.cell? ⟨b, o + k * 10 + 9, none⟩ = some (cv k 9) := (hbl.cell (p := ⟨b, o + k * 10 + 9, none⟩) hb).trans (hc k hlt 9 (by omega))
      have HH := hide (unhide HF k hlt wr hbl)
      have HA := hide hany; have HL := hide hbl; have HK := hide hlt
      clear hc hany hbl hk hlt
      cases hq : q k
      · have HQ := hide hq
        rw [hq] at HH; clear hq
        go_wp2_with fail
        refine (unhide HH).mono ?_
        rintro e w1 ⟨rfl, hb1⟩
        have HB := hide hb1; clear hb1
        go_wp2
        go_roundw
        case rel => exact ⟨k + 1, unhide HK, rfl, by rw [List.range_succ, List.any_append, unhide HA]; simp [unhide HQ], Below.on (unhide HL) (unhide HB)⟩
        case measure => have := unhide HK; simp [intOf]; omega
      · have HQ := hide hq
        rw [hq] at HH; clear hq
        go_wp2_with fail
        refine (unhide HH).mono ?_
        rintro e w1 ⟨rfl, hb1⟩
        have HB := hide hb1; clear hb1
        go_wp2
        go_ret
        exact ⟨⟨_, rfl, by
          have h1 : (List.range n).any q = true := List.any_eq_true.2 ⟨k, List.mem_range.2 (unhide HK), unhide HQ⟩
          rw [h1]; simp⟩, Below.on (unhide HL) (unhide HB)⟩
    · obtain rfl : k = n := by omega
      have HA := hide hany; have HL := hide hbl
      clear hany hbl hk hlt
      go_wp2
      go_ret
      exact ⟨⟨_, rfl, by rw [unhide HA]; decide⟩, unhide HL⟩

set_option maxHeartbeats 1000000 in
theorem has_D (b o n cp B : Nat) (cv : Nat → Nat → Value) (q : Nat → Bool) (w : World) (hn : (n : Int) < 1099511627776) (hb : b < w.heap.size)
    (hc : ∀ i, i < n → ∀ j, j < 10 → w.cell? ⟨b, o + i * 10 + j, none⟩ = some (cv i j))
    (hf : ∀ i, i < n → ∀ W, Below w.heap.size w W → Calls Tryz.prog 92 #[.agg #[cv i 0, cv i 1, cv i 2, cv i 3, cv i 4, cv i 5, cv i 6, cv i 7, cv i 8, cv i 9], .pointer (some ⟨B, 0, none⟩)] W fun e w' => e = .returned (.bool (q i)) ∧ Below W.heap.size W w') :
    Calls Tryz.prog 91 #[.slice (some ⟨b, o, none⟩) n cp, .func (.func 92) #[] #[.pointer (some ⟨B, 0, none⟩)]] w fun e w' => e = .returned (.bool ((List.range n).any q)) ∧ Below w.heap.size w w' := by
  have H := hide (idx_D b o n cp B cv q w hn hb hc hf)
  clear hc hf hn hb
  generalize (List.range n).any q = a at *
  go_enter Tryz.func91, Tryz.ntmps91
  go_wp2_with fail
  refine (unhide H).mono ?_
  rintro e w1 ⟨⟨r, rfl, hr⟩, hb1⟩
  have HB := hide hb1; have HR := hide hr; clear hb1 hr
  go_wp2
  go_ret
  exact ⟨ret_bool (unhide HR), unhide HB⟩

set_option maxHeartbeats 1000000 in
theorem all_D (b o n cp fn : Nat) (cap : Array Value) (eg : ∀ args w, (callFunc fn args).run Tryz.prog w = .ok (.enter fn args) w) (cv : Nat → Nat → Value) (q : Nat → Bool) (w : World) (hn : (n : Int) < 1099511627776) (hb : b < w.heap.size)
    (hc : ∀ i, i < n → ∀ j, j < 10 → w.cell? ⟨b, o + i * 10 + j, none⟩ = some (cv i j))
    (hf : ∀ i, i < n → ∀ W, Below w.heap.size w W → Calls Tryz.prog fn (#[.agg #[cv i 0, cv i 1, cv i 2, cv i 3, cv i 4, cv i 5, cv i 6, cv i 7, cv i 8, cv i 9]] ++ cap) W fun e w' => e = .returned (.bool (q i)) ∧ Below W.heap.size W w') :
    Calls Tryz.prog 54 #[.slice (some ⟨b, o, none⟩) n cp, .func (.func fn) #[] cap] w fun e w' => e = .returned (.bool ((List.range n).all q)) ∧ Below w.heap.size w w' := by
  have h0 : Below w.heap.size w (w.alloc (.cells #[.func (.func fn) #[] cap] 133)) := (Below.refl _ _).alloc (Nat.le_refl _) _
  have H := hide (has_D b o n cp w.heap.size cv (fun i => !q i) _ hn (Nat.lt_of_lt_of_le hb h0.size) (fun i hi j hj => (h0.cell (p := ⟨b, o + i * 10 + j, none⟩) hb).trans (hc i hi j hj))
    (fun i hi W hW => allc_D fn cap eg w.heap.size (cv i 0) (cv i 1) (cv i 2) (cv i 3) (cv i 4) (cv i 5) (cv i 6) (cv i 7) (cv i 8) (cv i 9) (q i) W ((hW.cell (p := ⟨w.heap.size, 0, none⟩) (by simp)).trans (by simp)) (Nat.lt_of_lt_of_le (by simp) hW.size) fun W' hW' => hf i hi W' (Below.on h0 (Below.on hW hW'))))
  have H0 := hide h0
  clear hc hf hn hb h0
  rw [← any_not] at *
  generalize (List.range n).any (fun i => !q i) = a at *
  go_enter Tryz.func54, Tryz.ntmps54
  go_wp2_with fail
  refine (unhide H).mono ?_
  rintro e w1 ⟨rfl, hb1⟩
  have HB := hide hb1; clear hb1
  go_wp2
  go_ret
  exact ⟨rfl, Below.on (unhide H0) (unhide HB)⟩

set_option maxHeartbeats 1000000 in
theorem all0_D (a : Option Addr) (cp fn : Nat) (cap : Array Value) (w : World) :
    Calls Tryz.prog 54 #[.slice a 0 cp, .func (.func fn) #[] cap] w fun e w' => e = .returned (.bool true) ∧ Below w.heap.size w w' := by
  have h1 : ∀ (B : Nat) (W : World), Calls Tryz.prog 117 #[.slice a 0 cp, .func (.func 92) #[] #[.pointer (some ⟨B, 0, none⟩)]] W fun e w' => e = .returned (.int .i64 (-1)) ∧ W = w' := by
    intro B W
    go_enter Tryz.func117, Tryz.ntmps117
    go_wp2
    refine wp_loop_rounds 1 ?_
    rw [rounds_succ]
    go_wp2
    go_ret
    exact ⟨rfl, rfl⟩
  have h2 : ∀ (B : Nat) (W : World), Calls Tryz.prog 91 #[.slice a 0 cp, .func (.func 92) #[] #[.pointer (some ⟨B, 0, none⟩)]] W fun e w' => e = .returned (.bool false) ∧ W = w' := by
    intro B W
    have H := hide (h1 B W); clear h1
    go_enter Tryz.func91, Tryz.ntmps91
    go_wp2_with fail
    refine (unhide H).mono ?_
    rintro e w1 ⟨rfl, rfl⟩
    go_wp2
    go_ret
    exact ⟨rfl, rfl⟩
  have H := hide h2; clear h1 h2
  go_enter Tryz.func54, Tryz.ntmps54
  go_wp2_with fail
  refine (unhide H _ _).mono ?_
  rintro e w1 ⟨rfl, rfl⟩
  go_wp2
  go_ret
  exact ⟨rfl, (Below.refl _ _).alloc (Nat.le_refl _) _⟩
end Go.Proofs.YtcpknafaocdjdaaGreatDoor

/- valid.all at api.Kind: whether each item is so. -/
namespace Go.Proofs.YtcpknafaocdjdaaGreatDoor
open Go.RowKit
set_option linter.unusedVariables false

set_option maxRecDepth 100000 in
set_option maxHeartbeats 1000000 in
/-- the closure: not so -/
theorem allc_K (fn : Nat) (cap : Array Value) (eg : ∀ args w, (callFunc fn args).run Tryz.prog w = .ok (.enter fn args) w) (B : Nat) (v0 : Value) (r : Bool) (W : World)
    (hB : W.cell? ⟨B, 0, none⟩ = some (.func (.func fn) #[] cap)) (hBl : B < W.heap.size)
    (hf : ∀ W', Below W.heap.size W W' → Calls Tryz.prog fn (#[v0] ++ cap) W' fun e w' => e = .returned (.bool r) ∧ Below W'.heap.size W' w') :
    Calls Tryz.prog 79 #[v0, .pointer (some ⟨B, 0, none⟩)] W fun e w' => e = .returned (.bool (!r)) ∧ Below W.heap.size W w' := by
  have hne : ¬ B = W.heap.size := by omega
  have HF := hide hf; clear hf
  go_enter Tryz.func79, Tryz.ntmps79
  go_wp2_with (simp only [eg])
  refine (unhide HF _ (Below.refl _ _)).mono ?_
  rintro e w1 ⟨rfl, hb1⟩
  have HB := hide hb1; clear hb1
  go_wp2
  go_ret
  exact ⟨rfl, unhide HB⟩

set_option maxRecDepth 100000 in
set_option maxHeartbeats 1000000 in
theorem idx_K (b o n cp B : Nat) (cv : Nat → Nat → Value) (q : Nat → Bool) (w : World) (hn : (n : Int) < 1099511627776) (hb : b < w.heap.size)
    (hc : ∀ i, i < n → ∀ j, j < 1 → w.cell? ⟨b, o + i + j, none⟩ = some (cv i j))
    (hf : ∀ i, i < n → ∀ W, Below w.heap.size w W → Calls Tryz.prog 79 #[cv i 0, .pointer (some ⟨B, 0, none⟩)] W fun e w' => e = .returned (.bool (q i)) ∧ Below W.heap.size W w') :
    Calls Tryz.prog 108 #[.slice (some ⟨b, o, none⟩) n cp, .func (.func 79) #[] #[.pointer (some ⟨B, 0, none⟩)]] w fun e w' => (∃ r : Int, e = .returned (.int .i64 r) ∧ decide (r ≥ 0) = (List.range n).any q) ∧ Below w.heap.size w w' := by
  have HC := hide hc; have HF := hide hf; have HN := hide hn
  have n0 : (0 : Int) ≤ n := by omega
  go_enter Tryz.func108, Tryz.ntmps108
  clear hc hf
  go_wp2
  go_loopw [8] (fun i wr => ∃ k : Nat, k ≤ n ∧ i = .int .i64 k ∧ (List.range k).any q = false ∧ Below w.heap.size w wr)
    (fun i _ => ((n : Int) - intOf i).toNat)
  case atStart => exact ⟨0, Nat.zero_le _, rfl, rfl, Below.refl _ _⟩
  case round =>
    obtain ⟨k, hk, rfl, hany, hbl⟩ := hrel
    by_cases hlt : k < n
    · have hlt' : (k : Int) < n := by omega
      have hc := unhide HC
      have c0 : wr.cell? ⟨b, o + k, none⟩ = some (cv k 0) := (hbl.cell (p := ⟨b, o + k, none⟩) hb).trans (hc k hlt 0 (by omega))
      have HH := hide (unhide HF k hlt wr hbl)
      have HA := hide hany; have HL := hide hbl; have HK := hide hlt
      clear hc hany hbl hk hlt
      cases hq : q k
      · have HQ := hide hq
        rw [hq] at HH; clear hq
        go_wp2_with fail
        refine (unhide HH).mono ?_
        rintro e w1 ⟨rfl, hb1⟩
        have HB := hide hb1; clear hb1
        go_wp2
        go_roundw
        case rel => exact ⟨k + 1, unhide HK, rfl, by rw [List.range_succ, List.any_append, unhide HA]; simp [unhide HQ], Below.on (unhide HL) (unhide HB)⟩
        case measure => have := unhide HK; simp [intOf]; omega
      · have HQ := hide hq
        rw [hq] at HH; clear hq
        go_wp2_with fail
        refine (unhide HH).mono ?_
        rintro e w1 ⟨rfl, hb1⟩
        have HB := hide hb1; clear hb1
        go_wp2
        go_ret
        exact ⟨⟨_, rfl, by
          have h1 : (List.range n).any q = true := List.any_eq_true.2 ⟨k, List.mem_range.2 (unhide HK), unhide HQ⟩
          rw [h1]; simp⟩, Below.on (unhide HL) (unhide HB)⟩
    · obtain rfl : k = n := by omega
      have HA := hide hany; have HL := hide hbl
      clear hany hbl hk hlt
      go_wp2
      go_ret
      exact ⟨⟨_, rfl, by rw [unhide HA]; decide⟩, unhide HL⟩

set_option maxHeartbeats 1000000 in
theorem has_K (b o n cp B : Nat) (cv : Nat → Nat → Value) (q : Nat → Bool) (w : World) (hn : (n : Int) < 1099511627776) (hb : b < w.heap.size)
    (hc : ∀ i, i < n → ∀ j, j < 1 → w.cell? ⟨b, o + i + j, none⟩ = some (cv i j))
    (hf : ∀ i, i < n → ∀ W, Below w.heap.size w W → Calls Tryz.prog 79 #[cv i 0, .pointer (some ⟨B, 0, none⟩)] W fun e w' => e = .returned (.bool (q i)) ∧ Below W.heap.size W w') :
    Calls Tryz.prog 78 #[.slice (some ⟨b, o, none⟩) n cp, .func (.func 79) #[] #[.pointer (some ⟨B, 0, none⟩)]] w fun e w' => e = .returned (.bool ((List.range n).any q)) ∧ Below w.heap.size w w' := by
  have H := hide (idx_K b o n cp B cv q w hn hb hc hf)
  clear hc hf hn hb
  generalize (List.range n).any q = a at *
  go_enter Tryz.func78, Tryz.ntmps78
  go_wp2_with fail
  refine (unhide H).mono ?_
  rintro e w1 ⟨⟨r, rfl, hr⟩, hb1⟩
  have HB := hide hb1; have HR := hide hr; clear hb1 hr
  go_wp2
  go_ret
  exact ⟨ret_bool (unhide HR), unhide HB⟩

set_option maxHeartbeats 1000000 in
theorem all_K (b o n cp fn : Nat) (cap : Array Value) (eg : ∀ args w, (callFunc fn args).run Tryz.prog w = .ok (.enter fn args) w) (cv : Nat → Nat → Value) (q : Nat → Bool) (w : World) (hn : (n : Int) < 1099511627776) (hb : b < w.heap.size)
    (hc : ∀ i, i < n → ∀ j, j < 1 → w.cell? ⟨b, o + i + j, none⟩ = some (cv i j))
    (hf : ∀ i, i < n → ∀ W, Below w.heap.size w W → Calls Tryz.prog fn (#[cv i 0] ++ cap) W fun e w' => e = .returned (.bool (q i)) ∧ Below W.heap.size W w') :
    Calls Tryz.prog 38 #[.slice (some ⟨b, o, none⟩) n cp, .func (.func fn) #[] cap] w fun e w' => e = .returned (.bool ((List.range n).all q)) ∧ Below w.heap.size w w' := by
  have h0 : Below w.heap.size w (w.alloc (.cells #[.func (.func fn) #[] cap] 120)) := (Below.refl _ _).alloc (Nat.le_refl _) _
  have H := hide (has_K b o n cp w.heap.size cv (fun i => !q i) _ hn (Nat.lt_of_lt_of_le hb h0.size) (fun i hi j hj => (h0.cell (p := ⟨b, o + i + j, none⟩) hb).trans (hc i hi j hj))
    (fun i hi W hW => allc_K fn cap eg w.heap.size (cv i 0) (q i) W ((hW.cell (p := ⟨w.heap.size, 0, none⟩) (by simp)).trans (by simp)) (Nat.lt_of_lt_of_le (by simp) hW.size) fun W' hW' => hf i hi W' (Below.on h0 (Below.on hW hW'))))
  have H0 := hide h0
  clear hc hf hn hb h0
  rw [← any_not] at *
  generalize (List.range n).any (fun i => !q i) = a at *
  go_enter Tryz.func38, Tryz.ntmps38
  go_wp2_with fail
  refine (unhide H).mono ?_
  rintro e w1 ⟨rfl, hb1⟩
  have HB := hide hb1; clear hb1
  go_wp2
  go_ret
  exact ⟨rfl, Below.on (unhide H0) (unhide HB)⟩

set_option maxHeartbeats 1000000 in
theorem all0_K (a : Option Addr) (cp fn : Nat) (cap : Array Value) (w : World) :
    Calls Tryz.prog 38 #[.slice a 0 cp, .func (.func fn) #[] cap] w fun e w' => e = .returned (.bool true) ∧ Below w.heap.size w w' := by
  have h1 : ∀ (B : Nat) (W : World), Calls Tryz.prog 108 #[.slice a 0 cp, .func (.func 79) #[] #[.pointer (some ⟨B, 0, none⟩)]] W fun e w' => e = .returned (.int .i64 (-1)) ∧ W = w' := by
    intro B W
    go_enter Tryz.func108, Tryz.ntmps108
    go_wp2
    refine wp_loop_rounds 1 ?_
    rw [rounds_succ]
    go_wp2
    go_ret
    exact ⟨rfl, rfl⟩
  have h2 : ∀ (B : Nat) (W : World), Calls Tryz.prog 78 #[.slice a 0 cp, .func (.func 79) #[] #[.pointer (some ⟨B, 0, none⟩)]] W fun e w' => e = .returned (.bool false) ∧ W = w' := by
    intro B W
    have H := hide (h1 B W); clear h1
    go_enter Tryz.func78, Tryz.ntmps78
    go_wp2_with fail
    refine (unhide H).mono ?_
    rintro e w1 ⟨rfl, rfl⟩
    go_wp2
    go_ret
    exact ⟨rfl, rfl⟩
  have H := hide h2; clear h1 h2
  go_enter Tryz.func38, Tryz.ntmps38
  go_wp2_with fail
  refine (unhide H _ _).mono ?_
  rintro e w1 ⟨rfl, rfl⟩
  go_wp2
  go_ret
  exact ⟨rfl, (Below.refl _ _).alloc (Nat.le_refl _) _⟩
end Go.Proofs.YtcpknafaocdjdaaGreatDoor

/- valid.all over lists as they lie. By mkall.py. -/
namespace Go.Proofs.YtcpknafaocdjdaaGreatDoor
open Go.RowKit
namespace Vw
set_option linter.unusedVariables false
set_option linter.unusedSimpArgs false
open Ex (Ins Lies Lab)
open Gm (Mod Typ Byts LL)
theorem all_rng {α : Type} (l : List α) (q : α → Bool) : (List.range l.length).all (fun i => (l[i]?.map q).getD true) = l.all q := by
  rw [Bool.eq_iff_iff, List.all_eq_true, List.all_eq_true]
  constructor
  · intro h x hx
    obtain ⟨k, hk, rfl⟩ := List.getElem_of_mem hx
    have := h k (List.mem_range.2 hk)
    rw [List.getElem?_eq_getElem hk] at this
    exact this
  · intro h i hi
    have hk := List.mem_range.1 hi
    rw [List.getElem?_eq_getElem hk]
    exact h _ (List.getElem_mem hk)
theorem getD_at (l : List Int) (i : Nat) (h : i < l.length) : l.getD i 0 = l[i] := by simp [List.getD, List.getElem?_eq_getElem h]

theorem allL_T {α : Type} {It : World → (Nat → Prop) → α → List Value → Prop} {g : Nat → Prop} {l : List α} {v : Value} {w : World} (h : LL It 2 w g l v) (hn : l.length < 1099511627776) (fn : Nat) (cap : Array Value) (eg : ∀ args w, (callFunc fn args).run Tryz.prog w = .ok (.enter fn args) w) (q : α → Bool)
    (hf : ∀ x ∈ l, ∀ c0 c1, It w g x [c0, c1] → ∀ W, Below w.heap.size w W → Calls Tryz.prog fn (#[.agg #[c0, c1]] ++ cap) W fun e w' => e = .returned (.bool (q x)) ∧ Below W.heap.size W w') :
    Calls Tryz.prog 36 #[v, .func (.func fn) #[] cap] w fun e w' => e = .returned (.bool (l.all q)) ∧ Below w.heap.size w w' := by
  obtain ⟨a, c, rfl, hc, -, hA⟩ := h
  by_cases h0 : l.length = 0
  · obtain rfl := List.eq_nil_of_length_eq_zero h0
    exact all0_T a c fn cap w
  · obtain ⟨b, o, rfl, hg, hb, hit⟩ := hA (by omega)
    have hx : ∀ i (hi : i < l.length), ∃ c0 c1, It w g l[i] [c0, c1] ∧ ∀ j u, [c0, c1][j]? = some u → w.cell? ⟨b, o + i * 2 + j, none⟩ = some u := by
      intro i hi
      obtain ⟨cs, hl, hI, hce⟩ := hit i hi
      match cs, hl, hI, hce with
      | [c0, c1], _, hI, hce => exact ⟨c0, c1, hI, hce⟩
    rw [← all_rng]
    refine all_T b o l.length c fn cap eg (fun i j => (w.cell? ⟨b, o + i * 2 + j, none⟩).getD (.bool false)) (fun i => (l[i]?.map q).getD true) w (by omega) hb ?_ ?_
    · intro i hi j hj
      obtain ⟨c0, c1, hI, hce⟩ := hx i hi
      obtain ⟨u, hu⟩ : ∃ u, [c0, c1][j]? = some u := ⟨_, List.getElem?_eq_getElem (by simpa using hj)⟩
      rw [hce j u hu]; rfl
    · intro i hi W hW
      obtain ⟨c0, c1, hI, hce⟩ := hx i hi
      have := hf l[i] (List.getElem_mem hi) c0 c1 hI W hW
      simp only [List.getElem?_eq_getElem hi, Option.map_some, Option.getD_some]
      rw [hce 0 _ rfl]; rw [hce 1 _ rfl];
      exact this

theorem allL_F {α : Type} {It : World → (Nat → Prop) → α → List Value → Prop} {g : Nat → Prop} {l : List α} {v : Value} {w : World} (h : LL It 3 w g l v) (hn : l.length < 1099511627776) (fn : Nat) (cap : Array Value) (eg : ∀ args w, (callFunc fn args).run Tryz.prog w = .ok (.enter fn args) w) (q : α → Bool)
    (hf : ∀ x ∈ l, ∀ c0 c1 c2, It w g x [c0, c1, c2] → ∀ W, Below w.heap.size w W → Calls Tryz.prog fn (#[.agg #[c0, c1, c2]] ++ cap) W fun e w' => e = .returned (.bool (q x)) ∧ Below W.heap.size W w') :
    Calls Tryz.prog 41 #[v, .func (.func fn) #[] cap] w fun e w' => e = .returned (.bool (l.all q)) ∧ Below w.heap.size w w' := by
  obtain ⟨a, c, rfl, hc, -, hA⟩ := h
  by_cases h0 : l.length = 0
  · obtain rfl := List.eq_nil_of_length_eq_zero h0
    exact all0_F a c fn cap w
  · obtain ⟨b, o, rfl, hg, hb, hit⟩ := hA (by omega)
    have hx : ∀ i (hi : i < l.length), ∃ c0 c1 c2, It w g l[i] [c0, c1, c2] ∧ ∀ j u, [c0, c1, c2][j]? = some u → w.cell? ⟨b, o + i * 3 + j, none⟩ = some u := by
      intro i hi
      obtain ⟨cs, hl, hI, hce⟩ := hit i hi
      match cs, hl, hI, hce with
      | [c0, c1, c2], _, hI, hce => exact ⟨c0, c1, c2, hI, hce⟩
    rw [← all_rng]
    refine all_F b o l.length c fn cap eg (fun i j => (w.cell? ⟨b, o + i * 3 + j, none⟩).getD (.bool false)) (fun i => (l[i]?.map q).getD true) w (by omega) hb ?_ ?_
    · intro i hi j hj
      obtain ⟨c0, c1, c2, hI, hce⟩ := hx i hi
      obtain ⟨u, hu⟩ : ∃ u, [c0, c1, c2][j]? = some u := ⟨_, List.getElem?_eq_getElem (by simpa using hj)⟩
      rw [hce j u hu]; rfl
    · intro i hi W hW
      obtain ⟨c0, c1, c2, hI, hce⟩ := hx i hi
      have := hf l[i] (List.getElem_mem hi) c0 c1 c2 hI W hW
      simp only [List.getElem?_eq_getElem hi, Option.map_some, Option.getD_some]
      rw [hce 0 _ rfl]; rw [hce 1 _ rfl]; rw [hce 2 _ rfl];
      exact this

theorem allL_L {α : Type} {It : World → (Nat → Prop) → α → List Value → Prop} {g : Nat → Prop} {l : List α} {v : Value} {w : World} (h : LL It 3 w g l v) (hn : l.length < 1099511627776) (fn : Nat) (cap : Array Value) (eg : ∀ args w, (callFunc fn args).run Tryz.prog w = .ok (.enter fn args) w) (q : α → Bool)
    (hf : ∀ x ∈ l, ∀ c0 c1 c2, It w g x [c0, c1, c2] → ∀ W, Below w.heap.size w W → Calls Tryz.prog fn (#[.agg #[c0, c1, c2]] ++ cap) W fun e w' => e = .returned (.bool (q x)) ∧ Below W.heap.size W w') :
    Calls Tryz.prog 33 #[v, .func (.func fn) #[] cap] w fun e w' => e = .returned (.bool (l.all q)) ∧ Below w.heap.size w w' := by
  obtain ⟨a, c, rfl, hc, -, hA⟩ := h
  by_cases h0 : l.length = 0
  · obtain rfl := List.eq_nil_of_length_eq_zero h0
    exact all0_L a c fn cap w
  · obtain ⟨b, o, rfl, hg, hb, hit⟩ := hA (by omega)
    have hx : ∀ i (hi : i < l.length), ∃ c0 c1 c2, It w g l[i] [c0, c1, c2] ∧ ∀ j u, [c0, c1, c2][j]? = some u → w.cell? ⟨b, o + i * 3 + j, none⟩ = some u := by
      intro i hi
      obtain ⟨cs, hl, hI, hce⟩ := hit i hi
      match cs, hl, hI, hce with
      | [c0, c1, c2], _, hI, hce => exact ⟨c0, c1, c2, hI, hce⟩
    rw [← all_rng]
    refine all_L b o l.length c fn cap eg (fun i j => (w.cell? ⟨b, o + i * 3 + j, none⟩).getD (.bool false)) (fun i => (l[i]?.map q).getD true) w (by omega) hb ?_ ?_
    · intro i hi j hj
      obtain ⟨c0, c1, c2, hI, hce⟩ := hx i hi
      obtain ⟨u, hu⟩ : ∃ u, [c0, c1, c2][j]? = some u := ⟨_, List.getElem?_eq_getElem (by simpa using hj)⟩
      rw [hce j u hu]; rfl
    · intro i hi W hW
      obtain ⟨c0, c1, c2, hI, hce⟩ := hx i hi
      have := hf l[i] (List.getElem_mem hi) c0 c1 c2 hI W hW
      simp only [List.getElem?_eq_getElem hi, Option.map_some, Option.getD_some]
      rw [hce 0 _ rfl]; rw [hce 1 _ rfl]; rw [hce 2 _ rfl];
      exact this

theorem allL_G {α : Type} {It : World → (Nat → Prop) → α → List Value → Prop} {g : Nat → Prop} {l : List α} {v : Value} {w : World} (h : LL It 10 w g l v) (hn : l.length < 1099511627776) (fn : Nat) (cap : Array Value) (eg : ∀ args w, (callFunc fn args).run Tryz.prog w = .ok (.enter fn args) w) (q : α → Bool)
    (hf : ∀ x ∈ l, ∀ c0 c1 c2 c3 c4 c5 c6 c7 c8 c9, It w g x [c0, c1, c2, c3, c4, c5, c6, c7, c8, c9] → ∀ W, Below w.heap.size w W → Calls Tryz.prog fn (#[.agg #[c0, c1, c2, c3, c4, c5, c6, c7, c8, c9]] ++ cap) W fun e w' => e = .returned (.bool (q x)) ∧ Below W.heap.size W w') :
    Calls Tryz.prog 43 #[v, .func (.func fn) #[] cap] w fun e w' => e = .returned (.bool (l.all q)) ∧ Below w.heap.size w w' := by
  obtain ⟨a, c, rfl, hc, -, hA⟩ := h
  by_cases h0 : l.length = 0
  · obtain rfl := List.eq_nil_of_length_eq_zero h0
    exact all0_G a c fn cap w
  · obtain ⟨b, o, rfl, hg, hb, hit⟩ := hA (by omega)
    have hx : ∀ i (hi : i < l.length), ∃ c0 c1 c2 c3 c4 c5 c6 c7 c8 c9, It w g l[i] [c0, c1, c2, c3, c4, c5, c6, c7, c8, c9] ∧ ∀ j u, [c0, c1, c2, c3, c4, c5, c6, c7, c8, c9][j]? = some u → w.cell? ⟨b, o + i * 10 + j, none⟩ = some u := by
      intro i hi
      obtain ⟨cs, hl, hI, hce⟩ := hit i hi
      match cs, hl, hI, hce with
      | [c0, c1, c2, c3, c4, c5, c6, c7, c8, c9], _, hI, hce => exact ⟨c0, c1, c2, c3, c4, c5, c6, c7, c8, c9, hI, hce⟩
    rw [← all_rng]
    refine all_G b o l.length c fn cap eg (fun i j => (w.cell? ⟨b, o + i * 10 + j, none⟩).getD (.bool false)) (fun i => (l[i]?.map q).getD true) w (by omega) hb ?_ ?_
    · intro i hi j hj
      obtain ⟨c0, c1, c2, c3, c4, c5, c6, c7, c8, c9, hI, hce⟩ := hx i hi
      obtain ⟨u, hu⟩ : ∃ u, [c0, c1, c2, c3, c4, c5, c6, c7, c8, c9][j]? = some u := ⟨_, List.getElem?_eq_getElem (by simpa using hj)⟩
      rw [hce j u hu]; rfl
    · intro i hi W hW
      obtain ⟨c0, c1, c2, c3, c4, c5, c6, c7, c8, c9, hI, hce⟩ := hx i hi
      have := hf l[i] (List.getElem_mem hi) c0 c1 c2 c3 c4 c5 c6 c7 c8 c9 hI W hW
      simp only [List.getElem?_eq_getElem hi, Option.map_some, Option.getD_some]
      rw [hce 0 _ rfl]; rw [hce 1 _ rfl]; rw [hce 2 _ rfl]; rw [hce 3 _ rfl]; rw [hce 4 _ rfl]; rw [hce 5 _ rfl]; rw [hce 6 _ rfl]; rw [hce 7 _ rfl]; rw [hce 8 _ rfl]; rw [hce 9 _ rfl];
      exact this

theorem allL_E {α : Type} {It : World → (Nat → Prop) → α → List Value → Prop} {g : Nat → Prop} {l : List α} {v : Value} {w : World} (h : LL It 10 w g l v) (hn : l.length < 1099511627776) (fn : Nat) (cap : Array Value) (eg : ∀ args w, (callFunc fn args).run Tryz.prog w = .ok (.enter fn args) w) (q : α → Bool)
    (hf : ∀ x ∈ l, ∀ c0 c1 c2 c3 c4 c5 c6 c7 c8 c9, It w g x [c0, c1, c2, c3, c4, c5, c6, c7, c8, c9] → ∀ W, Below w.heap.size w W → Calls Tryz.prog fn (#[.agg #[c0, c1, c2, c3, c4, c5, c6, c7, c8, c9]] ++ cap) W fun e w' => e = .returned (.bool (q x)) ∧ Below W.heap.size W w') :
    Calls Tryz.prog 51 #[v, .func (.func fn) #[] cap] w fun e w' => e = .returned (.bool (l.all q)) ∧ Below w.heap.size w w' := by
  obtain ⟨a, c, rfl, hc, -, hA⟩ := h
  by_cases h0 : l.length = 0
  · obtain rfl := List.eq_nil_of_length_eq_zero h0
    exact all0_E a c fn cap w
  · obtain ⟨b, o, rfl, hg, hb, hit⟩ := hA (by omega)
    have hx : ∀ i (hi : i < l.length), ∃ c0 c1 c2 c3 c4 c5 c6 c7 c8 c9, It w g l[i] [c0, c1, c2, c3, c4, c5, c6, c7, c8, c9] ∧ ∀ j u, [c0, c1, c2, c3, c4, c5, c6, c7, c8, c9][j]? = some u → w.cell? ⟨b, o + i * 10 + j, none⟩ = some u := by
      intro i hi
      obtain ⟨cs, hl, hI, hce⟩ := hit i hi
      match cs, hl, hI, hce with
      | [c0, c1, c2, c3, c4, c5, c6, c7, c8, c9], _, hI, hce => exact ⟨c0, c1, c2, c3, c4, c5, c6, c7, c8, c9, hI, hce⟩
    rw [← all_rng]
    refine all_E b o l.length c fn cap eg (fun i j => (w.cell? ⟨b, o + i * 10 + j, none⟩).getD (.bool false)) (fun i => (l[i]?.map q).getD true) w (by omega) hb ?_ ?_
    · intro i hi j hj
      obtain ⟨c0, c1, c2, c3, c4, c5, c6, c7, c8, c9, hI, hce⟩ := hx i hi
      obtain ⟨u, hu⟩ : ∃ u, [c0, c1, c2, c3, c4, c5, c6, c7, c8, c9][j]? = some u := ⟨_, List.getElem?_eq_getElem (by simpa using hj)⟩
      rw [hce j u hu]; rfl
    · intro i hi W hW
      obtain ⟨c0, c1, c2, c3, c4, c5, c6, c7, c8, c9, hI, hce⟩ := hx i hi
      have := hf l[i] (List.getElem_mem hi) c0 c1 c2 c3 c4 c5 c6 c7 c8 c9 hI W hW
      simp only [List.getElem?_eq_getElem hi, Option.map_some, Option.getD_some]
      rw [hce 0 _ rfl]; rw [hce 1 _ rfl]; rw [hce 2 _ rfl]; rw [hce 3 _ rfl]; rw [hce 4 _ rfl]; rw [hce 5 _ rfl]; rw [hce 6 _ rfl]; rw [hce 7 _ rfl]; rw [hce 8 _ rfl]; rw [hce 9 _ rfl];
      exact this

theorem allL_D {α : Type} {It : World → (Nat → Prop) → α → List Value → Prop} {g : Nat → Prop} {l : List α} {v : Value} {w : World} (h : LL It 10 w g l v) (hn : l.length < 1099511627776) (fn : Nat) (cap : Array Value) (eg : ∀ args w, (callFunc fn args).run Tryz.prog w = .ok (.enter fn args) w) (q : α → Bool)
    (hf : ∀ x ∈ l, ∀ c0 c1 c2 c3 c4 c5 c6 c7 c8 c9, It w g x [c0, c1, c2, c3, c4, c5, c6, c7, c8, c9] → ∀ W, Below w.heap.size w W → Calls Tryz.prog fn (#[.agg #[c0, c1, c2, c3, c4, c5, c6, c7, c8, c9]] ++ cap) W fun e w' => e = .returned (.bool (q x)) ∧ Below W.heap.size W w') :
    Calls Tryz.prog 54 #[v, .func (.func fn) #[] cap] w fun e w' => e = .returned (.bool (l.all q)) ∧ Below w.heap.size w w' := by
  obtain ⟨a, c, rfl, hc, -, hA⟩ := h
  by_cases h0 : l.length = 0
  · obtain rfl := List.eq_nil_of_length_eq_zero h0
    exact all0_D a c fn cap w
  · obtain ⟨b, o, rfl, hg, hb, hit⟩ := hA (by omega)
    have hx : ∀ i (hi : i < l.length), ∃ c0 c1 c2 c3 c4 c5 c6 c7 c8 c9, It w g l[i] [c0, c1, c2, c3, c4, c5, c6, c7, c8, c9] ∧ ∀ j u, [c0, c1, c2, c3, c4, c5, c6, c7, c8, c9][j]? = some u → w.cell? ⟨b, o + i * 10 + j, none⟩ = some u := by
      intro i hi
      obtain ⟨cs, hl, hI, hce⟩ := hit i hi
      match cs, hl, hI, hce with
      | [c0, c1, c2, c3, c4, c5, c6, c7, c8, c9], _, hI, hce => exact ⟨c0, c1, c2, c3, c4, c5, c6, c7, c8, c9, hI, hce⟩
    rw [← all_rng]
    refine all_D b o l.length c fn cap eg (fun i j => (w.cell? ⟨b, o + i * 10 + j, none⟩).getD (.bool false)) (fun i => (l[i]?.map q).getD true) w (by omega) hb ?_ ?_
    · intro i hi j hj
      obtain ⟨c0, c1, c2, c3, c4, c5, c6, c7, c8, c9, hI, hce⟩ := hx i hi
      obtain ⟨u, hu⟩ : ∃ u, [c0, c1, c2, c3, c4, c5, c6, c7, c8, c9][j]? = some u := ⟨_, List.getElem?_eq_getElem (by simpa using hj)⟩
      rw [hce j u hu]; rfl
    · intro i hi W hW
      obtain ⟨c0, c1, c2, c3, c4, c5, c6, c7, c8, c9, hI, hce⟩ := hx i hi
      have := hf l[i] (List.getElem_mem hi) c0 c1 c2 c3 c4 c5 c6 c7 c8 c9 hI W hW
      simp only [List.getElem?_eq_getElem hi, Option.map_some, Option.getD_some]
      rw [hce 0 _ rfl]; rw [hce 1 _ rfl]; rw [hce 2 _ rfl]; rw [hce 3 _ rfl]; rw [hce 4 _ rfl]; rw [hce 5 _ rfl]; rw [hce 6 _ rfl]; rw [hce 7 _ rfl]; rw [hce 8 _ rfl]; rw [hce 9 _ rfl];
      exact this

theorem allL_K {g : Nat → Prop} {l : List Int} {v : Value} {w : World} (h : Lies g l.length (Byts w l) v) (hn : l.length < 1099511627776) (fn : Nat) (cap : Array Value) (eg : ∀ args w, (callFunc fn args).run Tryz.prog w = .ok (.enter fn args) w) (q : Int → Bool)
    (hf : ∀ x ∈ l, ∀ W, Below w.heap.size w W → Calls Tryz.prog fn (#[.int .u8 x] ++ cap) W fun e w' => e = .returned (.bool (q x)) ∧ Below W.heap.size W w') :
    Calls Tryz.prog 38 #[v, .func (.func fn) #[] cap] w fun e w' => e = .returned (.bool (l.all q)) ∧ Below w.heap.size w w' := by
  obtain ⟨a, c, rfl, hc, -, hA⟩ := h
  by_cases h0 : l.length = 0
  · obtain rfl := List.eq_nil_of_length_eq_zero h0
    exact all0_K a c fn cap w
  · obtain ⟨b, o, rfl, hg, hp⟩ := hA (by omega)
    have hb : b < w.heap.size := World.block_lt_of_cell? w _ (hp 0 (by omega))
    rw [← all_rng]
    refine all_K b o l.length c fn cap eg (fun i j => .int .u8 (l.getD i 0)) (fun i => (l[i]?.map q).getD true) w (by omega) hb ?_ ?_
    · intro i hi j hj
      obtain rfl : j = 0 := by omega
      exact hp i hi
    · intro i hi W hW
      have := hf l[i] (List.getElem_mem hi) W hW
      simp only [List.getElem?_eq_getElem hi, Option.map_some, Option.getD_some, getD_at l i hi]
      exact this

theorem allL_U {g : Nat → Prop} {l : List Int} {v : Value} {w : World} (h : Lies g l.length (Lab w l) v) (hn : l.length < 1099511627776) (fn : Nat) (cap : Array Value) (eg : ∀ args w, (callFunc fn args).run Tryz.prog w = .ok (.enter fn args) w) (q : Int → Bool)
    (hf : ∀ x ∈ l, ∀ W, Below w.heap.size w W → Calls Tryz.prog fn (#[.int .u32 x] ++ cap) W fun e w' => e = .returned (.bool (q x)) ∧ Below W.heap.size W w') :
    Calls Tryz.prog 88 #[v, .func (.func fn) #[] cap] w fun e w' => e = .returned (.bool (l.all q)) ∧ Below w.heap.size w w' := by
  obtain ⟨a, c, rfl, hc, -, hA⟩ := h
  by_cases h0 : l.length = 0
  · obtain rfl := List.eq_nil_of_length_eq_zero h0
    exact all0_U a c fn cap w
  · obtain ⟨b, o, rfl, hg, hp⟩ := hA (by omega)
    have hb : b < w.heap.size := World.block_lt_of_cell? w _ (hp 0 (by omega))
    rw [← all_rng]
    refine all_U b o l.length c fn cap eg (fun i j => .int .u32 (l.getD i 0)) (fun i => (l[i]?.map q).getD true) w (by omega) hb ?_ ?_
    · intro i hi j hj
      obtain rfl : j = 0 := by omega
      exact hp i hi
    · intro i hi W hW
      have := hf l[i] (List.getElem_mem hi) W hW
      simp only [List.getElem?_eq_getElem hi, Option.map_some, Option.getD_some, getD_at l i hi]
      exact this
end Vw
end Go.Proofs.YtcpknafaocdjdaaGreatDoor

/- valid: kindsAreRight. -/
namespace Go.Proofs.YtcpknafaocdjdaaGreatDoor
open Go.RowKit
namespace Vw
set_option linter.unusedVariables false
set_option linter.unusedSimpArgs false
open Ex (Ins Lies Lab)
open Gm (Mod Typ Fnc Glo Byts LL ModL TypC FncC GloC WfM)
theorem mbox {w : World} {x0 x1 x2 x3 x4 x5 x6 x7 : Value} {B : Nat} {t : TypeId} (h : w.heap[B]? = some (.cells #[x0, x1, x2, x3, x4, x5, x6, x7] t (0, 0))) :
    w.cell? ⟨B, 0, none⟩ = some x0 ∧ w.cell? ⟨B, 1, none⟩ = some x1 ∧ w.cell? ⟨B, 2, none⟩ = some x2 ∧ w.cell? ⟨B, 3, none⟩ = some x3 ∧ w.cell? ⟨B, 4, none⟩ = some x4 ∧ w.cell? ⟨B, 5, none⟩ = some x5 ∧ w.cell? ⟨B, 6, none⟩ = some x6 ∧ w.cell? ⟨B, 7, none⟩ = some x7 := by
  refine ⟨?_, ?_, ?_, ?_, ?_, ?_, ?_, ?_⟩ <;> (rw [cell_of_row w B _ _ _ _ h]; rfl)
def isK (k : Int) : Bool := k == 127 || k == 126
def okT (x : Typ) : Bool := x.ps.all isK && isR x.re
def kinds (M : Mod) : Bool := M.types.all okT && (M.funcs.all (fun f => f.ls.all isK) && M.globs.all (fun g => isK g.kd))
theorem isK_any (k : Int) (W : World) : Calls Tryz.prog 39 (#[.int .u8 k] ++ #[]) W fun e w' => e = .returned (.bool (isK k)) ∧ Below W.heap.size W w' :=
  (isKind_any k W).mono fun e w' h => ⟨h.1, by rw [h.2]; exact Below.refl _ _⟩
theorem allK {g : Nat → Prop} {l : List Int} {v : Value} {w : World} (h : Lies g l.length (Byts w l) v) (hn : l.length < 1099511627776) :
    Calls Tryz.prog 38 #[v, .func (.func 39) #[] #[]] w fun e w' => e = .returned (.bool (l.all isK)) ∧ Below w.heap.size w w' :=
  allL_K h hn _ _ (enters_of Tryz.func39 (by kernel_rfl) rfl) isK (fun x _ W _ => isK_any x W)

set_option maxRecDepth 100000 in
set_option maxHeartbeats 1000000 in
theorem kc1 {g : Nat → Prop} {x : Typ} {v : Value} {w : World} (h : Lies g x.ps.length (Byts w x.ps) v) (hn : x.ps.length < 1099511627776) (W : World) (hW : Below w.heap.size w W) :
    Calls Tryz.prog 37 (#[.agg #[v, .int .u8 x.re]] ++ #[]) W fun e w' => e = .returned (.bool (okT x)) ∧ Below W.heap.size W w' := by
  have hA : Below W.heap.size W (W.alloc (.cells #[v, .int .u8 x.re] 96)) := (Below.refl _ _).alloc (Nat.le_refl _) _
  have h2 := Byts.moved (g' := g) (Gm.Mv.below (Below.on hW hA) (fun k _ q => q)) h
  have hr := heap_alloc_new W (.cells #[v, .int .u8 x.re] 96)
  have HK := hide (allK h2 hn)
  have hR := hide (fun U => isResult_any x.re U)
  obtain ⟨a, c, rfl, -⟩ := h
  obtain ⟨ps, re⟩ := x
  simp only [okT] at *
  generalize hq : ps.all isK = q1 at *
  generalize hq2 : isR re = q2 at *
  clear hq hq2 hW h2
  have HA := hide hA; have HR := hide hr
  clear hA hr
  go_enter Tryz.func37, Tryz.ntmps37
  go_wp2_with fail
  generalize W.alloc (.cells #[.slice a ps.length c, .int .u8 re] 96) = W0 at *
  refine (unhide HK).mono ?_
  rintro e w1 ⟨rfl, hb1⟩
  have hr1 := (hb1.block _ (Array.getElem?_eq_some_iff.1 (unhide HR)).1).trans (unhide HR)
  have e1 : w1.cell? ⟨W.heap.size, 1, none⟩ = some (.int .u8 re) := by rw [cell_of_row w1 _ 1 _ _ _ hr1]; rfl
  have hlt := (Array.getElem?_eq_some_iff.1 hr1).1
  have HB := hide (Below.on (unhide HA) hb1)
  clear hb1 hr1 HR HA HK
  cases q1 with
  | false =>
    go_wp2
    go_ret
    exact ⟨rfl, unhide HB⟩
  | true =>
    go_wp2_with fail
    refine (unhide hR _).mono ?_
    rintro e w2 ⟨rfl, rfl⟩
    go_wp2
    go_ret
    exact ⟨by simp, unhide HB⟩

set_option maxRecDepth 100000 in
set_option maxHeartbeats 1000000 in
theorem kc2 {g : Nat → Prop} {ls : List Int} {ty : Int} {v : Value} {vb : Value} {ba : Option Addr} {bl bc : Nat} {w : World} (hvb : vb = .slice ba bl bc) (h : Lies g ls.length (Byts w ls) v) (hn : ls.length < 1099511627776) (W : World) (hW : Below w.heap.size w W) :
    Calls Tryz.prog 42 (#[.agg #[.int .u32 ty, v, vb]] ++ #[]) W fun e w' => e = .returned (.bool (ls.all isK)) ∧ Below W.heap.size W w' := by
  subst hvb
  have hA : Below W.heap.size W (W.alloc (.cells #[.int .u32 ty, v, .slice ba bl bc] 66)) := (Below.refl _ _).alloc (Nat.le_refl _) _
  have h2 := Byts.moved (g' := g) (Gm.Mv.below (Below.on hW hA) (fun k _ q => q)) h
  have HK := hide (allK h2 hn)
  obtain ⟨a, c, rfl, -⟩ := h
  generalize hq : ls.all isK = q1 at *
  clear hq hW h2
  have HA := hide hA
  clear hA
  go_enter Tryz.func42, Tryz.ntmps42
  go_wp2_with fail
  generalize W.alloc (.cells #[.int .u32 ty, .slice a ls.length c, .slice ba bl bc] 66) = W0 at *
  refine (unhide HK).mono ?_
  rintro e w1 ⟨rfl, hb1⟩
  have HB := hide (Below.on (unhide HA) hb1)
  clear hb1 HA HK
  go_wp2
  go_ret
  exact ⟨rfl, unhide HB⟩

set_option maxRecDepth 100000 in
set_option maxHeartbeats 1000000 in
theorem kc3 {kd : Int} {mu : Bool} {y2 y3 y4 y5 y6 : Int} {s7 s8 s9 : Option Addr} {l7 l8 l9 c7 c8 c9 : Nat} (W : World) :
    Calls Tryz.prog 44 (#[.agg #[.int .u8 kd, .bool mu, .int .u8 y2, .int .i64 y3, .int .u32 y4, .int .u32 y5, .int .u8 y6, .slice s7 l7 c7, .slice s8 l8 c8, .slice s9 l9 c9]] ++ #[]) W fun e w' => e = .returned (.bool (isK kd)) ∧ Below W.heap.size W w' := by
  have hk := hide (fun W => isKind_any kd W)
  go_enter Tryz.func44, Tryz.ntmps44
  go_wp2_with fail
  refine (unhide hk _).mono ?_
  rintro e w1 ⟨rfl, rfl⟩
  go_wp2
  go_ret
  exact ⟨rfl, (Below.refl _ _).alloc (Nat.le_refl _) _⟩

/-- the module's box -/
def mbx (m : M8) : Obj := .cells #[m.v0, m.v1, m.v2, m.v3, m.v4, m.v5, m.v6, m.v7] 41
structure SzL (M : Mod) : Prop where
  ty : M.types.length < 1099511627776
  fn : M.funcs.length < 1099511627776
  gl : M.globs.length < 1099511627776
  ps : ∀ x ∈ M.types, x.ps.length < 1099511627776
  ls : ∀ x ∈ M.funcs, x.ls.length < 1099511627776

set_option maxRecDepth 100000 in
set_option maxHeartbeats 2000000 in
theorem kindsRight_any {w : World} {g : Nat → Prop} {M : Mod} {v0 v1 v2 v3 v4 v5 v6 v7 : Value} (h : ModL w g M v0 v1 v2 v3 v4 v5 v6 v7) (hz : SzL M) :
    Calls Tryz.prog 24 #[.agg #[v0, v1, v2, v3, v4, v5, v6, v7]] w fun e w' => e = .returned (.bool (kinds M)) ∧ Below w.heap.size w w' := by
  have hmv := fun U (hU : Below w.heap.size w U) => h.moved (g' := g) (Gm.Mv.below hU (fun k _ q => q)) hU.size
  have hT : ∀ U, Below w.heap.size w U → Calls Tryz.prog 36 #[v0, .func (.func 37) #[] #[]] U fun e w' => e = .returned (.bool (M.types.all okT)) ∧ Below U.heap.size U w' := fun U hU =>
    allL_T (hmv U hU).l0 hz.ty _ _ (enters_of Tryz.func37 (by kernel_rfl) rfl) okT (fun x hx c0 c1 hI W hW => by
      obtain ⟨v, e, hv⟩ := hI
      injection e with e1 e2; injection e2 with e2 e3
      subst e1 e2
      exact kc1 hv (hz.ps x hx) W hW)
  have hF : ∀ U, Below w.heap.size w U → Calls Tryz.prog 41 #[v1, .func (.func 42) #[] #[]] U fun e w' => e = .returned (.bool (M.funcs.all (fun f => f.ls.all isK))) ∧ Below U.heap.size U w' := fun U hU =>
    allL_F (hmv U hU).l1 hz.fn _ _ (enters_of Tryz.func42 (by kernel_rfl) rfl) (fun f => f.ls.all isK) (fun x hx c0 c1 c2 hI W hW => by
      obtain ⟨v, v', e, hv, hb⟩ := hI
      injection e with e1 e2; injection e2 with e2 e3; injection e3 with e3 e4
      subst e1 e2 e3
      obtain ⟨ba, bc, hvb, -⟩ := hb
      exact kc2 hvb hv (hz.ls x hx) W hW)
  have hG : ∀ U, Below w.heap.size w U → Calls Tryz.prog 43 #[v4, .func (.func 44) #[] #[]] U fun e w' => e = .returned (.bool (M.globs.all (fun g => isK g.kd))) ∧ Below U.heap.size U w' := fun U hU =>
    allL_G (hmv U hU).l4 hz.gl _ _ (enters_of Tryz.func44 (by kernel_rfl) rfl) (fun g => isK g.kd) (fun x hx c0 c1 c2 c3 c4 c5 c6 c7 c8 c9 hI W hW => by
      obtain ⟨ds, e, vb, ve, vl, rfl, hb, he, hl⟩ := hI
      obtain ⟨s7, k7, rfl, -⟩ := hb
      obtain ⟨s8, k8, rfl, -⟩ := he
      obtain ⟨s9, k9, rfl, -⟩ := hl
      cases e
      exact kc3 W)
  obtain ⟨a0, k0, rfl, -⟩ := h.l0
  obtain ⟨a1, k1, rfl, -⟩ := h.l1
  obtain ⟨a2, k2, rfl, -⟩ := h.l2
  obtain ⟨a3, k3, rfl, -⟩ := h.l3
  obtain ⟨a4, k4, rfl, -⟩ := h.l4
  obtain ⟨a5, k5, rfl, -⟩ := h.l5
  obtain ⟨a6, k6, rfl, -⟩ := h.l6
  obtain ⟨a7, k7, rfl, -⟩ := h.l7
  unfold kinds
  generalize M.types.all okT = q1 at *
  generalize M.funcs.all (fun f => f.ls.all isK) = q2 at *
  generalize M.globs.all (fun g => isK g.kd) = q3 at *
  have hA : Below w.heap.size w (w.alloc (.cells #[.slice a0 M.types.length k0, .slice a1 M.funcs.length k1, .slice a2 M.tables.length k2, .slice a3 M.mems.length k3, .slice a4 M.globs.length k4, .slice a5 M.exps.length k5, .slice a6 M.elems.length k6, .slice a7 M.datas.length k7] 41)) := (Below.refl _ _).alloc (Nat.le_refl _) _
  have hr := heap_alloc_new w (.cells #[.slice a0 M.types.length k0, .slice a1 M.funcs.length k1, .slice a2 M.tables.length k2, .slice a3 M.mems.length k3, .slice a4 M.globs.length k4, .slice a5 M.exps.length k5, .slice a6 M.elems.length k6, .slice a7 M.datas.length k7] 41)
  have HT := hide hT; have HF := hide hF; have HG := hide hG; have HA := hide hA; have HR := hide hr
  clear hT hF hG hA hr hmv h hz
  go_enter Tryz.func24, Tryz.ntmps24
  go_wp2_with fail
  generalize w.alloc (.cells #[.slice a0 M.types.length k0, .slice a1 M.funcs.length k1, .slice a2 M.tables.length k2, .slice a3 M.mems.length k3, .slice a4 M.globs.length k4, .slice a5 M.exps.length k5, .slice a6 M.elems.length k6, .slice a7 M.datas.length k7] 41) = w0 at *
  refine (unhide HT _ (unhide HA)).mono ?_
  rintro e w1 ⟨rfl, hb1⟩
  have hr1 := (hb1.block _ (Array.getElem?_eq_some_iff.1 (unhide HR)).1).trans (unhide HR)
  have hlt := (Array.getElem?_eq_some_iff.1 hr1).1
  obtain ⟨p0, p1, p2, p3, p4, p5, p6, p7⟩ := mbox hr1
  have HB1 := hide (Below.on (unhide HA) hb1); have HR1 := hide hr1
  clear hb1 hr1 HR HA p0 p2 p3 p4 p5 p6 p7
  cases q1 with
  | false =>
    go_wp2
    go_ret
    exact ⟨rfl, unhide HB1⟩
  | true =>
  go_wp2_with fail
  refine (unhide HF _ (unhide HB1)).mono ?_
  rintro e w2 ⟨rfl, hb2⟩
  have hr2 := (hb2.block _ hlt).trans (unhide HR1)
  have hlt2 := (Array.getElem?_eq_some_iff.1 hr2).1
  obtain ⟨p0, p1', p2, p3, p4, p5, p6, p7⟩ := mbox hr2
  have HB2 := hide (Below.on (unhide HB1) hb2)
  clear hb2 hr2 HR1 HB1 p0 p1' p2 p3 p5 p6 p7 p1 hlt
  cases q2 with
  | false =>
    go_wp2
    go_ret
    exact ⟨by simp, unhide HB2⟩
  | true =>
  go_wp2_with fail
  refine (unhide HG _ (unhide HB2)).mono ?_
  rintro e w3 ⟨rfl, hb3⟩
  have HB3 := hide (Below.on (unhide HB2) hb3); clear hb3
  go_wp2
  go_ret
  exact ⟨by simp, unhide HB3⟩
end Vw
end Go.Proofs.YtcpknafaocdjdaaGreatDoor
