/- valid.all at api.Data: whether each item is so. -/
import Derived.Test.YtcljcnaglkbjcaaGreatDoorVaB
namespace Go.Proofs.YtcljcnaglkbjcaaGreatDoor
open Go.RowKit
set_option linter.unusedVariables false

set_option maxRecDepth 100000 in
set_option maxHeartbeats 1000000 in
/-- the closure: not so -/
theorem allc_D (fn : Nat) (cap : Array Value) (eg : ∀ args w, (callFunc fn args).run Tryz.prog w = .ok (.enter fn args) w) (B : Nat) (v0 v1 v2 v3 v4 v5 v6 v7 v8 v9 : Value) (r : Bool) (W : World)
    (hB : W.cell? ⟨B, 0, none⟩ = some (.func (.func fn) #[] cap)) (hBl : B < W.heap.size)
    (hf : ∀ W', Below W.heap.size W W' → Calls Tryz.prog fn (#[.agg #[v0, v1, v2, v3, v4, v5, v6, v7, v8, v9]] ++ cap) W' fun e w' => e = .returned (.bool r) ∧ Below W'.heap.size W' w') :
    Calls Tryz.prog 148 #[.agg #[v0, v1, v2, v3, v4, v5, v6, v7, v8, v9], .pointer (some ⟨B, 0, none⟩)] W fun e w' => e = .returned (.bool (!r)) ∧ Below W.heap.size W w' := by
  have hne : ¬ B = W.heap.size := by omega
  have HF := hide hf; clear hf
  go_enter Tryz.func148, Tryz.ntmps148
  go_wp2_with (simp only [eg])
  refine (unhide HF _ ((Below.refl _ _).alloc (Nat.le_refl _) _)).mono ?_
  rintro e w1 ⟨rfl, hb1⟩
  have HB := hide hb1; clear hb1
  go_wp2
  go_ret
  exact ⟨rfl, Below.on ((Below.refl _ _).alloc (Nat.le_refl _) _) (unhide HB)⟩

set_option maxRecDepth 100000 in
set_option maxHeartbeats 1000000 in
theorem idx_D (b o n cp B : Nat) (cv : Nat → Nat → Value) (q : Nat → Bool) (w : World) (hn : (n : Int) < 1099511627776) (hb : b < w.heap.size)
    (hc : ∀ i, i < n → ∀ j, j < 10 → w.cell? ⟨b, o + i * 10 + j, none⟩ = some (cv i j))
    (hf : ∀ i, i < n → ∀ W, Below w.heap.size w W → Calls Tryz.prog 148 #[.agg #[cv i 0, cv i 1, cv i 2, cv i 3, cv i 4, cv i 5, cv i 6, cv i 7, cv i 8, cv i 9], .pointer (some ⟨B, 0, none⟩)] W fun e w' => e = .returned (.bool (q i)) ∧ Below W.heap.size W w') :
    Calls Tryz.prog 171 #[.slice (some ⟨b, o, none⟩) n cp, .func (.func 148) #[] #[.pointer (some ⟨B, 0, none⟩)]] w fun e w' => (∃ r : Int, e = .returned (.int .i64 r) ∧ decide (r ≥ 0) = (List.range n).any q) ∧ Below w.heap.size w w' := by
  have HC := hide hc; have HF := hide hf; have HN := hide hn
  have n0 : (0 : Int) ≤ n := by omega
  go_enter Tryz.func171, Tryz.ntmps171
  clear hc hf
  go_wp2
  go_loopw [8] (fun i wr => ∃ k : Nat, k ≤ n ∧ i = .int .i64 k ∧ (List.range k).any q = false ∧ Below w.heap.size w wr)
    (fun i _ => ((n : Int) - intOf i).toNat)
  case atStart => exact ⟨0, Nat.zero_le _, rfl, rfl, Below.refl _ _⟩
  case round =>
    obtain ⟨k, hk, rfl, hany, hbl⟩ := hrel
    by_cases hlt : k < n
    · have hlt' : (k : Int) < n := by omega
      have hc := unhide HC
      have c0 : wr.cell? ⟨b, o + k * 10, none⟩ = some (cv k 0) := (hbl.cell (p := ⟨b, o + k * 10, none⟩) hb).trans (hc k hlt 0 (by omega))
      have c1 : wr.cell? ⟨b, o + k * 10 + 1, none⟩ = some (cv k 1) := (hbl.cell (p := ⟨b, o + k * 10 + 1, none⟩) hb).trans (hc k hlt 1 (by omega))
      have c2 : wr.cell? ⟨b, o + k * 10 + 2, none⟩ = some (cv k 2) := (hbl.cell (p := ⟨b, o + k * 10 + 2, none⟩) hb).trans (hc k hlt 2 (by omega))
      have c3 : wr.cell? ⟨b, o + k * 10 + 3, none⟩ = some (cv k 3) := (hbl.cell (p := ⟨b, o + k * 10 + 3, none⟩) hb).trans (hc k hlt 3 (by omega))
      have c4 : wr.cell? ⟨b, o + k * 10 + 4, none⟩ = some (cv k 4) := (hbl.cell (p := ⟨b, o + k * 10 + 4, none⟩) hb).trans (hc k hlt 4 (by omega))
      have c5 : wr.cell? ⟨b, o + k * 10 + 5, none⟩ = some (cv k 5) := (hbl.cell (p := ⟨b, o + k * 10 + 5, none⟩) hb).trans (hc k hlt 5 (by omega))
      have c6 : wr.cell? ⟨b, o + k * 10 + 6, none⟩ = some (cv k 6) := (hbl.cell (p := ⟨b, o + k * 10 + 6, none⟩) hb).trans (hc k hlt 6 (by omega))
      have c7 : wr.cell? ⟨b, o + k * 10 + 7, none⟩ = some (cv k 7) := (hbl.cell (p := ⟨b, o + k * 10 + 7, none⟩) hb).trans (hc k hlt 7 (by omega))
      have c8 : wr.cell? ⟨b, o + k * 10 + 8, none⟩ = some (cv k 8) := (hbl.cell (p := ⟨b, o + k * 10 + 8, none⟩) hb).trans (hc k hlt 8 (by omega))
      have c9 : wr.cell? ⟨b, o + k * 10 + 9, none⟩ = some (cv k 9) := (hbl.cell (p := ⟨b, o + k * 10 + 9, none⟩) hb).trans (hc k hlt 9 (by omega))
      have HH := hide (unhide HF k hlt wr hbl)
      have HA := hide hany; have HL := hide hbl; have HK := hide hlt
      clear hc hany hbl hk hlt
      cases hq : q k
      · have HQ := hide hq
        rw [hq] at HH; clear hq
        go_wp2_with fail
        refine (unhide HH).mono ?_
        rintro e w1 ⟨rfl, hb1⟩
        have HB := hide hb1; clear hb1
        go_wp2
        go_roundw
        case rel => exact ⟨k + 1, unhide HK, rfl, by rw [List.range_succ, List.any_append, unhide HA]; simp [unhide HQ], Below.on (unhide HL) (unhide HB)⟩
        case measure => have := unhide HK; simp [intOf]; omega
      · have HQ := hide hq
        rw [hq] at HH; clear hq
        go_wp2_with fail
        refine (unhide HH).mono ?_
        rintro e w1 ⟨rfl, hb1⟩
        have HB := hide hb1; clear hb1
        go_wp2
        go_ret
        exact ⟨⟨_, rfl, by
          have h1 : (List.range n).any q = true := List.any_eq_true.2 ⟨k, List.mem_range.2 (unhide HK), unhide HQ⟩
          rw [h1]; simp⟩, Below.on (unhide HL) (unhide HB)⟩
    · obtain rfl : k = n := by omega
      have HA := hide hany; have HL := hide hbl
      clear hany hbl hk hlt
      go_wp2
      go_ret
      exact ⟨⟨_, rfl, by rw [unhide HA]; decide⟩, unhide HL⟩

set_option maxHeartbeats 1000000 in
theorem has_D (b o n cp B : Nat) (cv : Nat → Nat → Value) (q : Nat → Bool) (w : World) (hn : (n : Int) < 1099511627776) (hb : b < w.heap.size)
    (hc : ∀ i, i < n → ∀ j, j < 10 → w.cell? ⟨b, o + i * 10 + j, none⟩ = some (cv i j))
    (hf : ∀ i, i < n → ∀ W, Below w.heap.size w W → Calls Tryz.prog 148 #[.agg #[cv i 0, cv i 1, cv i 2, cv i 3, cv i 4, cv i 5, cv i 6, cv i 7, cv i 8, cv i 9], .pointer (some ⟨B, 0, none⟩)] W fun e w' => e = .returned (.bool (q i)) ∧ Below W.heap.size W w') :
    Calls Tryz.prog 147 #[.slice (some ⟨b, o, none⟩) n cp, .func (.func 148) #[] #[.pointer (some ⟨B, 0, none⟩)]] w fun e w' => e = .returned (.bool ((List.range n).any q)) ∧ Below w.heap.size w w' := by
  have H := hide (idx_D b o n cp B cv q w hn hb hc hf)
  clear hc hf hn hb
  generalize (List.range n).any q = a at *
  go_enter Tryz.func147, Tryz.ntmps147
  go_wp2_with fail
  refine (unhide H).mono ?_
  rintro e w1 ⟨⟨r, rfl, hr⟩, hb1⟩
  have HB := hide hb1; have HR := hide hr; clear hb1 hr
  go_wp2
  go_ret
  exact ⟨ret_bool (unhide HR), unhide HB⟩

set_option maxHeartbeats 1000000 in
theorem all_D (b o n cp fn : Nat) (cap : Array Value) (eg : ∀ args w, (callFunc fn args).run Tryz.prog w = .ok (.enter fn args) w) (cv : Nat → Nat → Value) (q : Nat → Bool) (w : World) (hn : (n : Int) < 1099511627776) (hb : b < w.heap.size)
    (hc : ∀ i, i < n → ∀ j, j < 10 → w.cell? ⟨b, o + i * 10 + j, none⟩ = some (cv i j))
    (hf : ∀ i, i < n → ∀ W, Below w.heap.size w W → Calls Tryz.prog fn (#[.agg #[cv i 0, cv i 1, cv i 2, cv i 3, cv i 4, cv i 5, cv i 6, cv i 7, cv i 8, cv i 9]] ++ cap) W fun e w' => e = .returned (.bool (q i)) ∧ Below W.heap.size W w') :
    Calls Tryz.prog 113 #[.slice (some ⟨b, o, none⟩) n cp, .func (.func fn) #[] cap] w fun e w' => e = .returned (.bool ((List.range n).all q)) ∧ Below w.heap.size w w' := by
  have h0 : Below w.heap.size w (w.alloc (.cells #[.func (.func fn) #[] cap] 239)) := (Below.refl _ _).alloc (Nat.le_refl _) _
  have H := hide (has_D b o n cp w.heap.size cv (fun i => !q i) _ hn (Nat.lt_of_lt_of_le hb h0.size) (fun i hi j hj => (h0.cell (p := ⟨b, o + i * 10 + j, none⟩) hb).trans (hc i hi j hj))
    (fun i hi W hW => allc_D fn cap eg w.heap.size (cv i 0) (cv i 1) (cv i 2) (cv i 3) (cv i 4) (cv i 5) (cv i 6) (cv i 7) (cv i 8) (cv i 9) (q i) W ((hW.cell (p := ⟨w.heap.size, 0, none⟩) (by simp)).trans (by simp)) (Nat.lt_of_lt_of_le (by simp) hW.size) fun W' hW' => hf i hi W' (Below.on h0 (Below.on hW hW'))))
  have H0 := hide h0
  clear hc hf hn hb h0
  rw [← any_not] at *
  generalize (List.range n).any (fun i => !q i) = a at *
  go_enter Tryz.func113, Tryz.ntmps113
  go_wp2_with fail
  refine (unhide H).mono ?_
  rintro e w1 ⟨rfl, hb1⟩
  have HB := hide hb1; clear hb1
  go_wp2
  go_ret
  exact ⟨rfl, Below.on (unhide H0) (unhide HB)⟩

set_option maxHeartbeats 1000000 in
theorem all0_D (a : Option Addr) (cp fn : Nat) (cap : Array Value) (w : World) :
    Calls Tryz.prog 113 #[.slice a 0 cp, .func (.func fn) #[] cap] w fun e w' => e = .returned (.bool true) ∧ Below w.heap.size w w' := by
  have h1 : ∀ (B : Nat) (W : World), Calls Tryz.prog 171 #[.slice a 0 cp, .func (.func 148) #[] #[.pointer (some ⟨B, 0, none⟩)]] W fun e w' => e = .returned (.int .i64 (-1)) ∧ W = w' := by
    intro B W
    go_enter Tryz.func171, Tryz.ntmps171
    go_wp2
    refine wp_loop_rounds 1 ?_
    rw [rounds_succ]
    go_wp2
    go_ret
    exact ⟨rfl, rfl⟩
  have h2 : ∀ (B : Nat) (W : World), Calls Tryz.prog 147 #[.slice a 0 cp, .func (.func 148) #[] #[.pointer (some ⟨B, 0, none⟩)]] W fun e w' => e = .returned (.bool false) ∧ W = w' := by
    intro B W
    have H := hide (h1 B W); clear h1
    go_enter Tryz.func147, Tryz.ntmps147
    go_wp2_with fail
    refine (unhide H).mono ?_
    rintro e w1 ⟨rfl, rfl⟩
    go_wp2
    go_ret
    exact ⟨rfl, rfl⟩
  have H := hide h2; clear h1 h2
  go_enter Tryz.func113, Tryz.ntmps113
  go_wp2_with fail
  refine (unhide H _ _).mono ?_
  rintro e w1 ⟨rfl, rfl⟩
  go_wp2
  go_ret
  exact ⟨rfl, (Below.refl _ _).alloc (Nat.le_refl _) _⟩
end Go.Proofs.YtcljcnaglkbjcaaGreatDoor
