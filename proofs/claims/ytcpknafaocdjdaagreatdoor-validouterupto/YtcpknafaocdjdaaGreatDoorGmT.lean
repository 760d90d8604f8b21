/- A region that draws its order, whose last operation waits for all others: that one apart. -/
import Derived.Test.YtcpknafaocdjdaaGreatDoorGmB
import Derived.Deep.RegionHeld3
namespace Go.Proofs.YtcpknafaocdjdaaGreatDoor
open Go.RowKit
namespace Gm
set_option linter.unusedVariables false

variable {P : Program} {md : Region.Mode} {Q : Exit → Act → World → Prop}

/-- what is asked when all but the last have come up: the last one, and then Q -/
def lastQ (P : Program) (ops : Array Oper) (m : Nat) (Q : Exit → Act → World → Prop) : Exit → Act → World → Prop := fun ex a w =>
  match ex with
  | .normal => wpOp P ops Q m (fun a' w' => Q .normal a' w') a w
  | e => Q e a w
theorem lastQ_out {ops : Array Oper} {m : Nat} (h : LetsOut (lastQ P ops m Q)) : LetsOut Q := by
  obtain ⟨a, w, h⟩ := h
  exact ⟨a, w, h⟩

theorem wp_last {ops : Array Oper} {m : Nat} {o : Oper} {a : Act} {w : World} {K K' : Act → World → Prop} (h : ∀ a w, K a w → K' a w)
    (hh : o.wp P a w K (lastQ P ops m Q)) : o.wp P a w K' Q := by
  unfold Oper.wp at *
  generalize (execOp a.eval o).run P w = r at *
  cases r with
  | ok n w' =>
    cases n <;> simp only [Oper.upon] at hh ⊢ <;>
      first
        | exact h _ _ hh
        | exact Calls.mono hh (fun e w'' he => by cases e <;> first | exact h _ _ he | exact lastQ_out he | exact he)
        | exact Rows.mono hh (fun _ _ he => h _ _ he)
  | halt x w' => cases x <;> simp only [Oper.upon] at hh ⊢ <;> exact hh

/-- no guards; each waits for earlier ones alone; the last one waits for all others -/
def lastOk (md : Region.Mode) (ops : Array Oper) (o : Oper) : Bool :=
  (ops.toList.all fun x => x.guard.isNone) && o.guard.isNone &&
  ((List.range ops.size).all fun i => ((ops[i]?).map fun x => x.after.toList.all fun e => decide (e.on < i)).getD false) &&
  (o.after.toList.all fun e => decide (e.on < ops.size)) &&
  ((List.range ops.size).all fun i => o.after.toList.any fun e => decide (e.on = i) && Region.binds md e)

theorem push_old {ops : Array Oper} {o : Oper} {i : Nat} (h : i < ops.size) : (ops.push o)[i]? = ops[i]? := by
  rw [Array.getElem?_push, if_neg (by omega)]
theorem getD_push {l : Array Bool} {i : Nat} (d : Bool) (h : i < l.size) : (l.push false).getD i d = l.getD i d := by
  simp [Array.getElem?_push, show ¬ i = l.size by omega]

theorem wpAny_last (ops : Array Oper) (o : Oper) (hok : lastOk md ops o = true) : ∀ (fuel : Nat) (listed : Array Bool) (a : Act) (w : World), listed.size = ops.size →
    wpAny P md ops (lastQ P (ops.push o) ops.size Q) fuel listed a w → wpAny P md (ops.push o) Q (fuel + 1) (listed.push false) a w := by
  simp only [lastOk, Bool.and_eq_true, List.all_eq_true, List.mem_range, List.any_eq_true, decide_eq_true_eq] at hok
  obtain ⟨⟨⟨⟨hg, hog⟩, hdep⟩, hlt⟩, hall⟩ := hok
  have hgn : ∀ (i : Nat) (x : Oper), ops[i]? = some x → x.guard = none := fun i x hx => by
    have := hg x (Array.mem_toList_iff.2 (Array.mem_of_getElem? hx))
    simpa using this
  have hd : ∀ (i : Nat) (x : Oper), ops[i]? = some x → ∀ e ∈ x.after, e.on < i := fun i x hx e he => by
    have h1 := hdep i (Array.getElem?_eq_some_iff.1 hx).1
    rw [hx] at h1
    simp only [Option.map_some, Option.getD_some, List.all_eq_true, decide_eq_true_eq] at h1
    exact h1 e (Array.mem_toList_iff.2 he)
  have hon : o.guard = none := by simpa using hog
  have hm : (ops.push o)[ops.size]? = some o := by simp
  -- the last one is ready just when all others are listed
  have hlast : ∀ listed : Array Bool, listed.size = ops.size → ops.size ∈ Region.ready md (ops.push o) (listed.push false) → ∀ i, i < ops.size → listed.getD i false = true := by
    intro listed hs hr i hi
    obtain ⟨_, x, hx, ha⟩ := mem_ready.1 hr
    rw [hm] at hx
    obtain rfl := Option.some.inj hx
    obtain ⟨e, he, h1, h2⟩ := hall i hi
    have := ha e (Array.mem_toList_iff.1 he) h2
    rw [h1, getD_push false (by omega)] at this
    exact this
  have hold : ∀ (listed : Array Bool), listed.size = ops.size → ∀ i, i < ops.size → i ∈ Region.ready md (ops.push o) (listed.push false) → i ∈ Region.ready md ops listed := by
    intro listed hs i hi hr
    obtain ⟨h0, x, hx, ha⟩ := mem_ready.1 hr
    rw [push_old hi] at hx
    refine mem_ready.2 ⟨by rw [getD_push true (by omega)] at h0; exact h0, x, hx, fun e he hb => ?_⟩
    have h3 := ha e he hb
    have h4 : e.on < i := hd i x hx e he
    rw [getD_push false (by omega)] at h3
    exact h3
  have hsz : ∀ listed : Array Bool, listed.size = ops.size → ∀ i, i ∈ Region.ready md (ops.push o) (listed.push false) → i < ops.size ∨ i = ops.size := by
    intro listed hs i hr
    obtain ⟨_, x, hx, _⟩ := mem_ready.1 hr
    have := (Array.getElem?_eq_some_iff.1 hx).1
    simp at this
    omega
  -- when nothing else is ready all others are listed
  have hdone : ∀ listed : Array Bool, listed.size = ops.size → Region.ready md ops listed = [] → ∀ i, i < ops.size → listed.getD i false = true := by
    intro listed hs hr i
    induction i using Nat.strongRecOn with
    | ind i ih =>
      intro hi
      cases hl : listed.getD i false with
      | true => rfl
      | false =>
        exfalso
        have hmem : i ∈ Region.ready md ops listed := by
          refine mem_ready.2 ⟨?_, ops[i], Array.getElem?_eq_getElem hi, fun e he hb => ?_⟩
          · simp only [Array.getD, show i < listed.size by omega, dif_pos] at hl ⊢
            exact hl
          · have h4 : e.on < i := hd i _ (Array.getElem?_eq_getElem hi) e he
            exact ih e.on h4 (by omega)
        rw [hr] at hmem
        cases hmem
  have hend : ∀ (listed : Array Bool) (fuel : Nat) (a : Act) (w : World), listed.size = ops.size → (∀ i, i < ops.size → listed.getD i false = true) → Q .normal a w →
      wpAny P md (ops.push o) Q fuel ((listed.push false).setIfInBounds ops.size true) a w := by
    intro listed fuel a w hs hl hq
    have hr : Region.ready md (ops.push o) ((listed.push false).setIfInBounds ops.size true) = [] := by
      rw [List.eq_nil_iff_forall_not_mem]
      intro i hi
      obtain ⟨h0, x, hx, _⟩ := mem_ready.1 hi
      have hi2 := (Array.getElem?_eq_some_iff.1 hx).1
      simp at hi2
      by_cases e : i = ops.size
      · subst e
        simp [Array.getD, hs] at h0
      · rw [getD_set_ne true (Ne.symm e), getD_push true (by omega)] at h0
        have := hl i (by omega)
        simp only [Array.getD, show i < listed.size by omega, dif_pos] at h0 this
        rw [h0] at this
        cases this
    cases fuel with
    | zero => exact ⟨hr, hq⟩
    | succ f => exact ⟨fun _ => hq, by rw [hr]; intro i hi; cases hi⟩
  have hfin : ∀ (listed : Array Bool) (fuel : Nat) (a : Act) (w : World), listed.size = ops.size → (∀ i, i < ops.size → listed.getD i false = true) → lastQ P (ops.push o) ops.size Q .normal a w →
      wpOp P (ops.push o) Q ops.size (wpAny P md (ops.push o) Q fuel ((listed.push false).setIfInBounds ops.size true)) a w := by
    intro listed fuel a w hs hl hq
    exact wpOp_mono (fun a' w' h => hend listed fuel a' w' hs hl h) hq
  have hlr : ∀ listed : Array Bool, listed.size = ops.size → (∀ i, i < ops.size → listed.getD i false = true) → ops.size ∈ Region.ready md (ops.push o) (listed.push false) := by
    intro listed hs hl
    refine mem_ready.2 ⟨by rw [← hs]; simp, o, hm, fun e he hb => ?_⟩
    have := hlt e (Array.mem_toList_iff.2 he)
    rw [getD_push false (by omega)]
    exact hl _ this
  intro fuel
  induction fuel with
  | zero =>
    intro listed a w hs h
    obtain ⟨hr, hq⟩ := h
    have hl := hdone listed hs hr
    refine ⟨fun h0 => ?_, fun i hi => ?_⟩
    · have := hlr listed hs hl
      rw [h0] at this; cases this
    · rcases hsz listed hs i hi with h1 | h1
      · have := hold listed hs i h1 hi
        rw [hr] at this; cases this
      · subst h1
        exact hfin listed 0 a w hs hl hq
  | succ fuel ih =>
    intro listed a w hs h
    obtain ⟨hq, hst⟩ := h
    refine ⟨fun h0 => ?_, fun i hi => ?_⟩
    · exfalso
      by_cases hr : Region.ready md ops listed = []
      · have := hlr listed hs (hdone listed hs hr)
        rw [h0] at this; cases this
      · obtain ⟨i, hi⟩ := List.exists_mem_of_ne_nil _ hr
        obtain ⟨h1, x, hx, ha⟩ := mem_ready.1 hi
        have hi2 := (Array.getElem?_eq_some_iff.1 hx).1
        have : i ∈ Region.ready md (ops.push o) (listed.push false) := by
          refine mem_ready.2 ⟨by rw [getD_push true (by omega)]; exact h1, x, by rw [push_old hi2]; exact hx, fun e he hb => ?_⟩
          have h4 : e.on < i := hd i x hx e he
          rw [getD_push false (by omega)]
          exact ha e he hb
        rw [h0] at this; cases this
    · rcases hsz listed hs i hi with h1 | h1
      · have h2 := hst i (hold listed hs i h1 hi)
        unfold wpOp at h2 ⊢
        rw [push_old h1]
        cases hx : ops[i]? with
        | none => exact absurd (Array.getElem?_eq_none_iff.1 hx) (by omega)
        | some x =>
          rw [hx] at h2
          have hgx := hgn i x hx
          have hw : ∀ y, Region.wanted x y = true := fun y => by simp [Region.wanted, hgx]
          simp only [hw, if_true] at h2 ⊢
          have hK : ∀ a' w', wpAny P md ops (lastQ P (ops.push o) ops.size Q) fuel (listed.setIfInBounds i true) a' w' → wpAny P md (ops.push o) Q (fuel + 1) ((listed.push false).setIfInBounds i true) a' w' := fun a' w' h3 => by
            have := ih (listed.setIfInBounds i true) a' w' (by simpa using hs) h3
            have e : (listed.push false).setIfInBounds i true = (listed.setIfInBounds i true).push false := by
              apply Array.ext_getElem?
              intro j
              rw [Array.getElem?_setIfInBounds, Array.getElem?_push, Array.getElem?_push, Array.getElem?_setIfInBounds]
              simp only [Array.size_push, Array.size_setIfInBounds]
              by_cases e1 : i = j
              · subst e1
                rw [if_pos rfl, if_pos (by omega), if_neg (by omega), if_pos rfl, if_pos (by omega)]
              · rw [if_neg e1, if_neg e1]
            rw [e]; exact this
          rcases h2 with h2 | ⟨h2, h3⟩
          · exact .inl (wp_last hK h2)
          · exact .inr ⟨h2, lastQ_out h3⟩
      · subst h1
        have hl := hlast listed hs hi
        have hr : Region.ready md ops listed = [] := by
          rw [List.eq_nil_iff_forall_not_mem]
          intro i hi
          obtain ⟨h0, x, hx, _⟩ := mem_ready.1 hi
          have hi2 := (Array.getElem?_eq_some_iff.1 hx).1
          have := hl i hi2
          simp only [Array.getD, show i < listed.size by omega, dif_pos] at h0 this
          rw [h0] at this; cases this
        exact hfin listed (fuel + 1) a w hs hl (hq hr)

/-- a region, its last operation apart -/
theorem wp_region_last {S : World → Prop} {id : Nat} {ops : Array Oper} {o : Oper} {a : Act} {w : World} (hm : P.follows .mixedOrders = true) (hok : lastOk .any ops o = true) (hS : S w.drew)
    (h : S w.drew → wpAnyH P .any ops (lastQ P (ops.push o) ops.size Q) S ops.size (Array.replicate ops.size false) a w.drew) : (Code.region id (ops.push o) true).wp P Q a w := by
  refine wp_region_any hm ?_
  have h1 := wpAny_last (md := .any) ops o hok ops.size (Array.replicate ops.size false) a w.drew (by simp) (wpAny_of_held _ _ _ _ (h hS))
  have e : (Array.replicate (ops.push o).size false) = (Array.replicate ops.size false).push false := by
    rw [Array.size_push, Array.replicate_succ]
  rw [e, Array.size_push]
  exact h1
theorem pop_back {ops : Array Oper} {o : Oper} (h : ops.back? = some o) : ops.pop.push o = ops := by
  apply Array.ext_getElem?
  intro j
  have hs : 0 < ops.size := by
    rcases Nat.eq_zero_or_pos ops.size with h0 | h0
    · simp [Array.back?, h0] at h
    · exact h0
  rw [Array.getElem?_push]
  simp only [Array.size_pop]
  by_cases e : j = ops.size - 1
  · rw [if_pos e, e]
    simpa [Array.back?] using h.symm
  · rw [if_neg e, Array.getElem?_pop]
    split
    · rfl
    · rw [Array.getElem?_eq_none (by omega)]
theorem wp_region_pop {S : World → Prop} {id : Nat} {ops : Array Oper} {o : Oper} {a : Act} {w : World} (ops' : Array Oper) (hp : ops.pop = ops') (hb : ops.back? = some o) (hm : P.follows .mixedOrders = true) (hok : lastOk .any ops' o = true) (hS : S w.drew)
    (h : S w.drew → wpAnyH P .any ops' (lastQ P ops ops'.size Q) S ops'.size (Array.replicate ops'.size false) a w.drew) : (Code.region id ops true).wp P Q a w := by
  have e := pop_back hb
  rw [hp] at e
  have h2 := wp_region_last (id := id) hm hok hS (by rw [e]; exact h)
  rw [e] at h2
  exact h2
end Gm
end Go.Proofs.YtcpknafaocdjdaaGreatDoor
