/- vcode.allThere, insMay. -/
import Derived.Test.YtpecnljcgiicaaaDoorVcD
namespace Go.Proofs.YtpecnljcgiicaaaDoor
open Go.RowKit
namespace Vc
set_option linter.unusedVariables false

def okN (m z : Int) : Bool := decide (0 ≤ z) && decide (z < m)
def allT (l : List Int) (m : Int) : Bool := l.all (okN m)

theorem allc_any (z m : Int) (B : Nat) (w : World) (hB : w.cell? ⟨B, 0, none⟩ = some (.int .i64 m)) :
    Calls Tryd.prog 61 #[.int .i64 z, .pointer (some ⟨B, 0, none⟩)] w fun e w' => e = .returned (.bool (!okN m z)) ∧ w' = w := by
  by_cases h0 : z < 0
  · have HR := hide (show (!okN m z) = true by simp [okN]; omega)
    go_enter Tryd.func61, Tryd.ntmps61
    go_wp2
    go_ret
    exact ⟨ret_bool (unhide HR).symm, rfl⟩
  · have t0 : decide (z < 0) = false := by simpa using h0
    by_cases h1 : z < m
    · have HR := hide (show (!okN m z) = false by simp [okN, h1]; omega)
      have t1 : decide (z ≥ m) = false := by simp; omega
      have t2 : decide (m ≤ z) = false := by simp; omega
      clear h0 h1
      go_enter Tryd.func61, Tryd.ntmps61
      go_wp2
      go_ret
      exact ⟨ret_bool (unhide HR).symm, rfl⟩
    · have HR := hide (show (!okN m z) = true by simp [okN]; omega)
      have t1 : decide (z ≥ m) = true := by simp; omega
      have t2 : decide (m ≤ z) = true := by simp; omega
      clear h0 h1
      go_enter Tryd.func61, Tryd.ntmps61
      go_wp2
      go_ret
      exact ⟨ret_bool (unhide HR).symm, rfl⟩

theorem all_lt {l : List Int} {m : Int} {k : Nat} (hk : k < l.length) (h : ∀ i, i < k → okN m (l.getD i 0) = true) (h2 : okN m (l.getD k 0) = false) : allT l m = false := by
  unfold allT
  rw [List.all_eq_false]
  refine ⟨l[k], List.getElem_mem hk, ?_⟩
  simpa [List.getD, hk] using h2
theorem all_all {l : List Int} {m : Int} (h : ∀ i, i < l.length → okN m (l.getD i 0) = true) : allT l m = true := by
  unfold allT
  rw [List.all_eq_true]
  intro x hx
  obtain ⟨i, hi, rfl⟩ := List.getElem_of_mem hx
  have := h i hi
  simpa [List.getD, hi] using this
/-- what an index says -/
def IxB (e : Ending) (b : Bool) : Prop := ∃ r : Int, e = .returned (.int .i64 r) ∧ decide (r ≥ 0) = b

set_option maxRecDepth 100000 in
set_option maxHeartbeats 1000000 in
theorem idx_any (l : List Int) (m : Int) (B : Nat) (g : Nat → Prop) (v : Value) (w : World) (hv : NumsL w g l v) (hn : l.length ≤ 1099511627776) (hB : w.cell? ⟨B, 0, none⟩ = some (.int .i64 m)) :
    Calls Tryd.prog 79 #[v, .func (.func 61) #[] #[.pointer (some ⟨B, 0, none⟩)]] w fun e w' => IxB e (!allT l m) ∧ w' = w := by
  obtain ⟨a, cp, rfl, hcp, _, hA⟩ := hv
  have HA := hide hA; have HB := hide hB
  clear hA hB
  have hat := fun k h => all_lt (l := l) (m := m) (k := k) h
  have hal := all_all (l := l) (m := m)
  have HAT := hide hat; have HAL := hide hal; clear hat hal
  generalize hL : l.length = n at *
  have HL := hide hL; clear hL
  go_enter Tryd.func79, Tryd.ntmps79
  go_wp2_with fail
  go_loopw [8] (fun i wr => ∃ k : Nat, i = .int .i64 k ∧ (k : Int) ≤ n ∧ (∀ i, i < k → okN m (l.getD i 0) = true) ∧ wr = w) (fun i _ => ((n : Int) - intOf i).toNat)
  case atStart => exact ⟨0, rfl, by omega, fun i hi => absurd hi (by omega), rfl⟩
  case round =>
    obtain ⟨k, rfl, hk, hall, rfl⟩ := hrel
    have HAll := hide hall; clear hall
    by_cases hlt : (k : Int) < n
    · obtain ⟨b, o, rfl, _, hc⟩ := unhide HA (by omega)
      have c0 := hc k (by have := unhide HL; omega)
      have hcl := allc_any (l.getD k 0) m B wr (unhide HB)
      have HC := hide hcl
      clear hc hcl hk
      generalize hz : l.getD k 0 = z at *
      have HZ := hide hz; clear hz
      cases hq : okN m z with
      | true =>
        rw [hq] at HC
        have HQ := hide hq; clear hq
        go_wp2_with fail
        refine (unhide HC).mono ?_
        rintro e w1 ⟨rfl, rfl⟩
        go_wp2
        go_roundw
        case rel => exact ⟨k + 1, by go_num, by omega, fun i hi => by
          by_cases e : i = k
          · subst e; rw [unhide HZ]; exact unhide HQ
          · exact unhide HAll i (by omega), trivial⟩
        case measure => simp [intOf]; omega
      | false =>
        rw [hq] at HC
        have HQ := hide (unhide HAT k (by have := unhide HL; omega) (unhide HAll) (by rw [unhide HZ]; exact hq)); clear hq
        go_wp2_with fail
        refine (unhide HC).mono ?_
        rintro e w1 ⟨rfl, rfl⟩
        go_wp2
        go_ret
        exact ⟨⟨_, rfl, by rw [unhide HQ]; simp⟩, rfl⟩
    · obtain rfl : k = n := by omega
      have HQ := hide (unhide HAL (unhide HAll))
      clear hk hlt
      go_wp2
      go_ret
      exact ⟨⟨_, rfl, by rw [unhide HQ]; decide⟩, rfl⟩
set_option maxHeartbeats 1000000 in
theorem allThere_any (l : List Int) (m : Int) (g : Nat → Prop) (v : Value) (w : World) (hv : NumsL w g l v) (hn : l.length ≤ 1099511627776) :
    Calls Tryd.prog 51 #[v, .int .i64 m] w fun e w' => e = .returned (.bool (allT l m)) ∧ Below w.heap.size w w' := by
  have hx := idx_any l m w.heap.size g v (w.alloc (.cells #[.int .i64 m] 3)) (hv.below (one_alloc _ _)) hn (by simp)
  obtain ⟨a, cp, rfl, _⟩ := hv
  have HX := hide hx; clear hx
  generalize hL : l.length = n at *
  generalize hq : allT l m = q at *
  have hC : Calls Tryd.prog 60 #[.slice a n cp, .func (.func 61) #[] #[.pointer (some ⟨w.heap.size, 0, none⟩)]] (w.alloc (.cells #[.int .i64 m] 3)) fun e w' => e = .returned (.bool (!q)) ∧ w' = w.alloc (.cells #[.int .i64 m] 3) := by
    go_enter Tryd.func60, Tryd.ntmps60
    go_wp2_with fail
    refine (unhide HX).mono ?_
    rintro e w1 ⟨⟨r, rfl, hr⟩, rfl⟩
    have HR := hide hr; clear hr
    go_wp2
    go_ret
    exact ⟨ret_bool (unhide HR), rfl⟩
  have HC := hide hC; clear hC HX
  go_enter Tryd.func51, Tryd.ntmps51
  go_wp2_with fail
  refine (unhide HC).mono ?_
  rintro e w1 ⟨rfl, rfl⟩
  go_wp2
  go_ret
  exact ⟨ret_bool (by simp), one_alloc _ _⟩

/-- may an instruction be? -/
def insM (re : Int) (rs : Bool) (x : In) : Bool := (decide (-1 ≤ x.dst) && decide (x.dst < re)) && (may1 x rs && allT x.src re)
theorem box2 {w W' : World} {a b : Array Value} {s t : TypeId} (h : Below ((w.alloc (.cells a s)).alloc (.cells b t)).heap.size ((w.alloc (.cells a s)).alloc (.cells b t)) W') :
    W'.heap[w.heap.size]? = some (.cells a s (0, 0)) ∧ W'.heap[w.heap.size + 1]? = some (.cells b t (0, 0)) := by
  refine ⟨(h.block _ (by simp; omega)).trans ?_, (h.block _ (by simp)).trans ?_⟩
  · rw [Below.heap_alloc _ _ _ (by simp)]; exact heap_alloc_new _ _
  · have := heap_alloc_new (w.alloc (.cells a s)) (.cells b t); simpa using this

set_option maxRecDepth 100000 in
set_option maxHeartbeats 3200000 in
theorem insM_any (c : Co) (x : In) (hx : WfI x) (g : Nat → Prop) (vb v : Value) (w : World) (hT : Fms w) (hv : NumsL w g x.src v) (hvb : ∃ a n k, vb = .slice a n k) :
    Calls Tryd.prog 49 #[.agg #[.int .i64 c.pa, .int .i64 c.re, .bool c.rs, vb], .agg #[.int .u8 (x.op : Int), .int .i64 x.dst, v, .int .i64 x.n, .int .u32 x.of]] w fun e w' => e = .returned (.bool (insM c.re c.rs x)) ∧ Below w.heap.size w w' := by
  obtain ⟨ba, bn, bk, rfl⟩ := hvb
  have hM := fun W h hh => may1_any x hx c.rs g v W h hh
  have hA := fun W hh => allThere_any x.src c.re g v W hh hx.len
  have HV := hide hv; have HT := hide hT
  obtain ⟨a, cp, rfl, _⟩ := hv
  obtain ⟨pa, re, rs, bl⟩ := c
  have hm : ∀ b : Bool, may1 x rs = b → insM re rs x = ((decide (-1 ≤ x.dst) && decide (x.dst < re)) && (b && allT x.src re)) := fun b h => by rw [← h]; rfl
  have HM := hide hM; have HA := hide hA; have HMM := hide hm
  have hI : insM re rs x = ((decide (-1 ≤ x.dst) && decide (x.dst < re)) && (may1 x rs && allT x.src re)) := rfl
  have HI := hide hI
  clear hM hA hm hI hT hx
  generalize hb1 : may1 x rs = b1 at *
  have HB1 := hide hb1; clear hb1
  generalize hb2 : allT x.src re = b2 at *
  have HB2 := hide hb2; clear hb2
  generalize hb3 : insM re rs x = b3 at *
  have HB3 := hide hb3; clear hb3
  obtain ⟨op, dst, src, nn, of⟩ := x
  simp only at *
  generalize src.length = ln at *
  by_cases d0 : dst < -1
  · have HR := hide (show b3 = false by rw [unhide HI]; simp; omega)
    clear HI
    go_enter Tryd.func49, Tryd.ntmps49
    go_wp2
    go_ret
    exact ⟨ret_bool (unhide HR).symm, two_allocs _ _ _⟩
  have t0 : decide (dst < -1) = false := by simpa using d0
  by_cases d1 : dst < re
  · have t1 : decide (dst ≥ re) = false := by simp; omega
    have t2 : decide (re ≤ dst) = false := by simp; omega
    have t3 : ¬ (re ≤ dst) := by omega
    have HR := hide (show b3 = (b1 && b2) by rw [unhide HI]; simp [d1]; intro; omega)
    clear d0 d1 HI
    have hb0 := two_allocs w (.cells #[.int .i64 pa, .int .i64 re, .bool rs, .slice ba bn bk] 25) (.cells #[.int .u8 (op : Int), .int .i64 dst, .slice a ln cp, .int .i64 nn, .int .u32 of] 29)
    have hc := unhide HM _ (TC.below (unhide HT) hb0) ((unhide HV).below hb0)
    have HC := hide hc; have HB0 := hide hb0
    clear hc hb0
    cases b1 with
    | false =>
      go_enter Tryd.func49, Tryd.ntmps49
      go_wp2_with fail
      refine (unhide HC).mono ?_
      rintro e w1 ⟨rfl, hb⟩
      have HB := hide (Below.on (unhide HB0) hb); clear hb
      go_wp2
      go_ret
      exact ⟨ret_bool (by rw [unhide HR]; rfl), unhide HB⟩
    | true =>
      go_enter Tryd.func49, Tryd.ntmps49
      go_wp2_with fail
      refine (unhide HC).mono ?_
      rintro e w1 ⟨rfl, hb⟩
      have HB := hide (Below.on (unhide HB0) hb)
      obtain ⟨r0, r1⟩ := box2 hb
      have c1 : w1.cell? ⟨w.heap.size, 1, none⟩ = some (.int .i64 re) := by rw [cell_of_row w1 _ 1 _ _ _ r0]; rfl
      have c2 : w1.cell? ⟨w.heap.size + 1, 2, none⟩ = some (.slice a ln cp) := by rw [cell_of_row w1 _ 2 _ _ _ r1]; rfl
      clear hb r0 r1
      go_wp2_with fail
      refine (unhide HA _ ((unhide HV).below (unhide HB))).mono ?_
      rintro e w2 ⟨rfl, hb2⟩
      have HB2 := hide (Below.on (unhide HB) hb2); clear hb2
      go_wp2
      go_ret
      exact ⟨ret_bool (by rw [unhide HR]; rfl), unhide HB2⟩
  · have t1 : decide (dst ≥ re) = true := by simp; omega
    have t2 : decide (re ≤ dst) = true := by simp; omega
    have t3 : re ≤ dst := by omega
    have HR := hide (show b3 = false by rw [unhide HI]; simp [d1])
    clear d0 d1 HI
    go_enter Tryd.func49, Tryd.ntmps49
    go_wp2
    go_ret
    exact ⟨ret_bool (unhide HR).symm, two_allocs _ _ _⟩
end Vc
end Go.Proofs.YtpecnljcgiicaaaDoor
