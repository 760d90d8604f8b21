/- K4: what follows, part by part: each part tells what it holds. -/
import Derived.Test.YtglehoekehiaiaaGreatDoorK3
import Derived.Maps.AppendAt
import Derived.BigRegion
import Derived.Deep.Cut
import Derived.Test.YtglehoekehiaiaaGreatDoorShelf
import Derived.Laws.CopyOwn
import Derived.Deep.RegionLaw
import Derived.Sort.OwnSortedInts
namespace Go.Proofs.YtglehoekehiaiaaGreatDoor
open Go.RowKit
set_option linter.unusedVariables false
set_option linter.unusedSimpArgs false
set_option maxRecDepth 100000
set_option maxHeartbeats 32000000
namespace Fw
/- flow: which way code goes, as plain lists: the walk, what is ahead, the tree, loops. -/
structure St where
 ent : List Nat
 fr : List Int
 tn : List Int
 lf : List Nat
/-- into a block, and out of it into all others that were not gone into yet -/
def go (nx : List (List Nat)) : Nat → Nat → Int → St → St
 | 0, _, _, s => s
 | f + 1, b, p, s =>
   let s2 := (nx.getD b []).foldl (fun (q : St) n => if q.tn.getD n 0 = -1 then go nx f n (s.ent.length : Int) q else q) ⟨s.ent ++ [b], s.fr ++ [p], s.tn.set b (s.ent.length : Int), s.lf⟩
   ⟨s2.ent, s2.fr, s2.tn, s2.lf ++ [b]⟩
/-- one way out of a block -/
def way (nx : List (List Nat)) (f : Nat) (t : Int) (q : St) (n : Nat) : St := if q.tn.getD n 0 = -1 then go nx f n t q else q
def mark (s : St) (b : Nat) (p : Int) : St := ⟨s.ent ++ [b], s.fr ++ [p], s.tn.set b (s.ent.length : Int), s.lf⟩
theorem go_succ (nx : List (List Nat)) (f b : Nat) (p : Int) (s : St) : go nx (f + 1) b p s = { (nx.getD b []).foldl (way nx f (s.ent.length : Int)) (mark s b p) with lf := ((nx.getD b []).foldl (way nx f (s.ent.length : Int)) (mark s b p)).lf ++ [b] } := rfl
def start (n : Nat) : St := ⟨[], [], List.replicate n (-1), []⟩
def walk (nx : List (List Nat)) : St := go nx nx.length 0 (-1) (start nx.length)
/-- all numbers are of blocks that are there -/
def In (nx : List (List Nat)) : Prop := ∀ b, ∀ x ∈ nx.getD b [], x < nx.length
structure Inv (n : Nat) (s : St) : Prop where
 tl : s.tn.length = n
 fl : s.fr.length = s.ent.length
 ec : s.ent.length + s.tn.count (-1) = n
 eb : ∀ x ∈ s.ent, x < n
 lb : ∀ x ∈ s.lf, x < n
 ll : s.lf.length ≤ s.ent.length
 fb : ∀ i (h : i < s.fr.length), -1 ≤ s.fr[i] ∧ s.fr[i] < (i : Int)
 tb : ∀ x ∈ s.tn, -1 ≤ x ∧ x < (s.ent.length : Int)
theorem count_set {l : List Int} {b : Nat} (h : b < l.length) (hb : l.getD b 0 = -1) {x : Int} (hx : x ≠ -1) : (l.set b x).count (-1) + 1 = l.count (-1) := by
 have e : -1 = l[b] := by rw [← hb, List.getD_eq_getElem?_getD, List.getElem?_eq_getElem h]; rfl
 rw [List.count_set (by exact h)]
 have h1 : 0 < l.count (-1) := List.count_pos_iff.2 (e ▸ List.getElem_mem h)
 simp [← e, hx]
 omega
theorem Inv.start (n : Nat) : Inv n (start n) := by
 refine ⟨by simp [Fw.start], rfl, by simp [Fw.start], by simp [Fw.start], by simp [Fw.start], Nat.le_refl _, by simp [Fw.start], fun x hx => ?_⟩
 have := (List.mem_replicate.1 hx).2; subst this; simp [Fw.start]
theorem Inv.mark {n : Nat} {s : St} (h : Inv n s) {b : Nat} {p : Int} (hb : b < n) (ht : s.tn.getD b 0 = -1) (h0 : -1 ≤ p) (h1 : p < (s.ent.length : Int)) : Inv n (mark s b p) := by
 have hl : b < s.tn.length := by rw [h.tl]; exact hb
 have hc := count_set hl ht (x := (s.ent.length : Int)) (by omega)
 refine ⟨by simp [Fw.mark, h.tl], by simp [Fw.mark, h.fl], ?_, ?_, h.lb, ?_, ?_, ?_⟩
 ·have := h.ec; simp only [Fw.mark, List.length_append, List.length_cons, List.length_nil]; omega
 ·intro x hx
  simp only [Fw.mark, List.mem_append, List.mem_singleton] at hx
  rcases hx with hx | rfl
  ·exact h.eb x hx
  ·exact hb
 ·have := h.ll; simp only [Fw.mark, List.length_append, List.length_cons, List.length_nil]; omega
 ·intro i hi
  simp only [Fw.mark] at hi ⊢
  rw [List.getElem_append]
  split
  ·exact h.fb i _
  ·have := h.fl; simp at hi ⊢; omega
 ·intro x hx
  simp only [Fw.mark] at hx ⊢
  simp only [List.length_append, List.length_cons, List.length_nil]
  rcases List.mem_or_eq_of_mem_set hx with h2 | rfl
  ·have := h.tb x h2; omega
  ·omega
theorem Inv.leave {n : Nat} {s : St} (h : Inv n s) {b : Nat} (hb : b < n) (hlt : s.lf.length < s.ent.length) : Inv n ⟨s.ent, s.fr, s.tn, s.lf ++ [b]⟩ :=
 ⟨h.tl, h.fl, h.ec, h.eb, fun x hx => by rcases List.mem_append.1 hx with h2 | h2; exact h.lb x h2; rw [List.mem_singleton.1 h2]; exact hb, by simp only [List.length_append, List.length_cons, List.length_nil]; omega, h.fb, h.tb⟩
/-- what a walk leaves: more was gone into, no less is left -/
structure On (s s' : St) : Prop where
 e : s.ent.length ≤ s'.ent.length
 c : s'.tn.count (-1) ≤ s.tn.count (-1)
 d : s'.lf.length + s.ent.length ≤ s.lf.length + s'.ent.length
theorem On.refl (s : St) : On s s := ⟨Nat.le_refl _, Nat.le_refl _, Nat.le_refl _⟩
theorem On.trans {a b c : St} (h : On a b) (k : On b c) : On a c := ⟨Nat.le_trans h.e k.e, Nat.le_trans k.c h.c, by have := h.d; have := k.d; omega⟩
theorem go_inv (nx : List (List Nat)) (hn : In nx) : ∀ f b p s, Inv nx.length s → b < nx.length → s.tn.getD b 0 = -1 → -1 ≤ p → p < (s.ent.length : Int) → Inv nx.length (go nx f b p s) ∧ On s (go nx f b p s) := by
 intro f
 induction f with
 | zero => intro b p s h _ _ _ _; exact ⟨h, On.refl s⟩
 | succ f ih =>
   intro b p s h hb ht h0 h1
   have hm := h.mark hb ht h0 h1
   have hom : (mark s b p).ent.length = s.ent.length + 1 := by simp [mark]
   have hcm : (mark s b p).tn.count (-1) ≤ s.tn.count (-1) := by
    have := count_set (show b < s.tn.length by rw [h.tl]; exact hb) ht (x := (s.ent.length : Int)) (by omega)
    simp only [mark]; omega
   have key : ∀ l : List Nat, (∀ x ∈ l, x < nx.length) → ∀ q, Inv nx.length q → On (mark s b p) q → Inv nx.length (l.foldl (way nx f (s.ent.length : Int)) q) ∧ On (mark s b p) (l.foldl (way nx f (s.ent.length : Int)) q) := by
    intro l
    induction l with
    | nil => intro _ q hq ho; exact ⟨hq, ho⟩
    | cons x r ihl =>
      intro hx q hq ho
      simp only [List.foldl_cons]
      have hxs := hx x (List.mem_cons_self ..)
      refine ihl (fun y hy => hx y (List.mem_cons_of_mem _ hy)) _ ?_ ?_
      ·unfold way; split
       ·have := ho.e; exact (ih x _ q hq hxs (by assumption) (by omega) (by omega)).1
       ·exact hq
      ·unfold way; split
       ·have := ho.e; exact ho.trans (ih x _ q hq hxs (by assumption) (by omega) (by omega)).2
       ·exact ho
   obtain ⟨k1, k2⟩ := key (nx.getD b []) (hn b) (mark s b p) hm (On.refl _)
   rw [go_succ]
   have hd := k2.d
   have he := k2.e
   have hlm : (mark s b p).lf.length = s.lf.length := rfl
   have hll := h.ll
   refine ⟨k1.leave hb (by omega), ⟨by have := k2.e; simp only; omega, Nat.le_trans k2.c hcm, by simp only [List.length_append, List.length_cons, List.length_nil]; omega⟩⟩
/-- a round's begin, of the ways out of a block -/
theorem way_inv (nx : List (List Nat)) (hn : In nx) (f : Nat) (t : Int) (h0 : -1 ≤ t) : ∀ l : List Nat, (∀ x ∈ l, x < nx.length) → ∀ q, Inv nx.length q → t < (q.ent.length : Int) → Inv nx.length (l.foldl (way nx f t) q) ∧ On q (l.foldl (way nx f t) q) := by
 intro l
 induction l with
 | nil => intro _ q hq ho; exact ⟨hq, On.refl q⟩
 | cons x r ihl =>
   intro hx q hq ho
   simp only [List.foldl_cons]
   have hxs := hx x (List.mem_cons_self ..)
   have h1 : Inv nx.length (way nx f t q x) ∧ On q (way nx f t q x) := by
    unfold way; split
    ·exact go_inv nx hn f x t q hq hxs (by assumption) h0 ho
    ·exact ⟨hq, On.refl q⟩
   have he := h1.2.e
   obtain ⟨k1, k2⟩ := ihl (fun y hy => hx y (List.mem_cons_of_mem _ hy)) _ h1.1 (by omega)
   exact ⟨k1, h1.2.trans k2⟩
/-- what is ahead of each -/
def ah1 (i : Nat) (o : List (List Nat)) (n : Nat) : List (List Nat) := if (o.getD n []).getLast? = some i then o else o.set n (o.getD n [] ++ [i])
def ahs (nx : List (List Nat)) (k : Nat) : List (List Nat) := (List.range k).foldl (fun o i => (nx.getD i []).foldl (ah1 i) o) (List.replicate nx.length [])
def ahead (nx : List (List Nat)) : List (List Nat) := ahs nx nx.length
theorem getD_out {α : Type} (l : List α) (i : Nat) (d : α) (h : l.length ≤ i) : l.getD i d = d := by
 rw [List.getD_eq_getElem?_getD, List.getElem?_eq_none h]; rfl
structure AhI (n i : Nat) (o : List (List Nat)) : Prop where
 len : o.length = n
 row : ∀ l ∈ o, (∀ x ∈ l, x ≤ i) ∧ (l.length ≤ i ∨ (l.length ≤ i + 1 ∧ l.getLast? = some i))
theorem getD_mem {α : Type} (l : List α) (i : Nat) (d : α) (h : i < l.length) : l.getD i d ∈ l := by
 rw [List.getD_eq_getElem?_getD, List.getElem?_eq_getElem h]; exact List.getElem_mem h
theorem getD_get {α : Type} (l : List α) (i : Nat) (d : α) (h : i < l.length) : l.getD i d = l[i] := by
 rw [List.getD_eq_getElem?_getD, List.getElem?_eq_getElem h]; rfl
theorem get?_getD {α : Type} (l : List α) (i : Nat) (d : α) (h : i < l.length) : l[i]? = some (l.getD i d) := by
 rw [getD_get l i d h]; exact List.getElem?_eq_getElem h
theorem AhI.start (n : Nat) : AhI n 0 (List.replicate n []) := ⟨by simp, fun l hl => by rw [(List.mem_replicate.1 hl).2]; simp⟩
theorem AhI.step {n i : Nat} {o : List (List Nat)} (h : AhI n i o) (x : Nat) (hx : x < n) : AhI n i (ah1 i o x) := by
 unfold ah1
 split
 ·exact h
 ·rename_i hne
  refine ⟨by simp [h.len], fun l hl => ?_⟩
  rcases List.mem_or_eq_of_mem_set hl with h2 | rfl
  ·exact h.row l h2
  ·have hm := h.row _ (getD_mem o x [] (by rw [h.len]; exact hx))
   refine ⟨fun y hy => ?_, .inr ⟨?_, by simp⟩⟩
   ·rcases List.mem_append.1 hy with h3 | h3
    ·exact hm.1 y h3
    ·rw [List.mem_singleton.1 h3]; exact Nat.le_refl _
   ·rcases hm.2 with h3 | ⟨_, h3⟩
    ·simp only [List.length_append, List.length_cons, List.length_nil]; omega
    ·exact absurd h3 hne
theorem AhI.steps {n i : Nat} : ∀ (l : List Nat) {o : List (List Nat)} (h : AhI n i o) (hx : ∀ x ∈ l, x < n), AhI n i (l.foldl (ah1 i) o) := by
 intro l
 induction l with
 | nil => intro o h _; exact h
 | cons x r ih => intro o h hx; exact ih (h.step x (hx x (List.mem_cons_self ..))) fun y hy => hx y (List.mem_cons_of_mem _ hy)
theorem AhI.next {n i : Nat} {o : List (List Nat)} (h : AhI n i o) : AhI n (i + 1) o :=
 ⟨h.len, fun l hl => ⟨fun x hx => Nat.le_succ_of_le ((h.row l hl).1 x hx), .inl (by rcases (h.row l hl).2 with h3 | ⟨h3, _⟩ <;> omega)⟩⟩
theorem ahs_succ (nx : List (List Nat)) (k : Nat) : ahs nx (k + 1) = (nx.getD k []).foldl (ah1 k) (ahs nx k) := by unfold ahs; rw [List.range_succ, List.foldl_append]; rfl
theorem ahs_inv (nx : List (List Nat)) (hn : In nx) : ∀ k, AhI nx.length k (ahs nx k) := by
 intro k
 induction k with
 | zero => exact AhI.start _
 | succ k ih => rw [ahs_succ]; exact (AhI.steps _ ih (hn k)).next
theorem ah1_same (i : Nat) {o : List (List Nat)} {n : Nat} (h : (o.getD n []).getLast? = some i) : ah1 i o n = o := if_pos h
theorem ah1_add (i : Nat) {o : List (List Nat)} {n : Nat} (h : ¬ (o.getD n []).getLast? = some i) : ah1 i o n = o.set n (o.getD n [] ++ [i]) := if_neg h
/-- the entries are of blocks that are there -/
theorem ahs_lt (nx : List (List Nat)) (hn : In nx) : ∀ k, k ≤ nx.length → ∀ l ∈ ahs nx k, ∀ x ∈ l, x < nx.length := by
 intro k
 induction k with
 | zero => intro _ l hl x hx; rw [(List.mem_replicate.1 hl).2] at hx; cases hx
 | succ k ih =>
   intro hk
   have key : ∀ (r : List Nat) (o : List (List Nat)), (∀ l ∈ o, ∀ x ∈ l, x < nx.length) → ∀ l ∈ r.foldl (ah1 k) o, ∀ x ∈ l, x < nx.length := by
    intro r
    induction r with
    | nil => intro o h; exact h
    | cons a r ihr =>
      intro o h
      refine ihr _ fun l hl x hx => ?_
      unfold ah1 at hl
      split at hl
      ·exact h l hl x hx
      ·rcases List.mem_or_eq_of_mem_set hl with h2 | rfl
       ·exact h l h2 x hx
       ·rcases List.mem_append.1 hx with h3 | h3
        ·by_cases ha : a < o.length
         ·exact h _ (getD_mem o a [] ha) x h3
         ·rw [getD_out _ _ _ (by omega)] at h3; cases h3
        ·rw [List.mem_singleton.1 h3]; omega
   rw [ahs_succ]
   exact key _ _ (ih (by omega))
/-- numbers that point down -/
structure Up (L : Nat) (l : List Int) : Prop where
 len : l.length = L
 row : ∀ i, i < L → -1 ≤ l.getD i 0 ∧ l.getD i 0 < (i : Int)
structure Lo (L : Nat) (l : List Int) : Prop where
 len : l.length = L
 row : ∀ i, i < L → -1 ≤ l.getD i 0
theorem getD_set (l : List Int) (i j : Nat) (x : Int) (hi : i < l.length) : (l.set i x).getD j 0 = if j = i then x else l.getD j 0 := by
 rw [List.getD_eq_getElem?_getD, List.getElem?_set, List.getD_eq_getElem?_getD]
 by_cases h : i = j
 ·subst h; simp [hi]
 ·rw [if_neg h, if_neg (fun e => h e.symm)]
theorem Up.lo {L : Nat} {l : List Int} (h : Up L l) : Lo L l := ⟨h.len, fun i hi => (h.row i hi).1⟩
theorem Up.set {L : Nat} {l : List Int} (h : Up L l) {i : Nat} {x : Int} (hi : i < L) (h0 : -1 ≤ x) (h1 : x < (i : Int)) : Up L (l.set i x) :=
 ⟨by simp [h.len], fun j hj => by
  rw [getD_set l i j x (by rw [h.len]; exact hi)]
  split
  ·rename_i e; subst e; exact ⟨h0, h1⟩
  ·exact h.row j hj⟩
theorem Lo.set {L : Nat} {l : List Int} (h : Lo L l) {i : Nat} {x : Int} (hi : i < L) (h0 : -1 ≤ x) : Lo L (l.set i x) :=
 ⟨by simp [h.len], fun j hj => by
  rw [getD_set l i j x (by rw [h.len]; exact hi)]
  split
  ·exact h0
  ·exact h.row j hj⟩
theorem Inv.up {n : Nat} {s : St} (h : Inv n s) : Up s.ent.length s.fr := ⟨h.fl, fun i hi => by
 have hl : i < s.fr.length := by rw [h.fl]; exact hi
 rw [getD_get _ _ _ hl]; exact h.fb i hl⟩
/-- up, and the least behind -/
def lb (lim : Int) : Nat → List Int × List Int → Nat → List Int × List Int
 | 0, s, _ => s
 | f + 1, s, t =>
   if lim < s.1.getD t 0 then
    let s2 := lb lim f s (s.1.getD t 0).toNat
    (s2.1.set t (s2.1.getD (s.1.getD t 0).toNat 0), s2.2.set t (min (s2.2.getD t 0) (s2.2.getD (s.1.getD t 0).toNat 0)))
   else s
theorem lb_no (lim : Int) (f : Nat) (s : List Int × List Int) (t : Nat) (h : ¬ lim < s.1.getD t 0) : lb lim f s t = s := by cases f; rfl; exact if_neg h
theorem lb_yes (lim : Int) (f : Nat) (s : List Int × List Int) (t a : Nat) (h : lim < s.1.getD t 0) (ha : s.1.getD t 0 = (a : Int)) : lb lim (f + 1) s t = ((lb lim f s a).1.set t ((lb lim f s a).1.getD a 0), (lb lim f s a).2.set t (min ((lb lim f s a).2.getD t 0) ((lb lim f s a).2.getD a 0))) := by
 have e : (s.1.getD t 0).toNat = a := by omega
 show (if lim < s.1.getD t 0 then _ else s) = _
 rw [if_pos h]; simp only [e]
structure LbI (L : Nat) (s : List Int × List Int) : Prop where
 up : Up L s.1
 lo : Lo L s.2
theorem lb_inv {L : Nat} (lim : Int) (h0 : -1 ≤ lim) : ∀ f s t, LbI L s → t < L → LbI L (lb lim f s t) ∧ (∀ i, t < i → (lb lim f s t).2.getD i 0 = s.2.getD i 0) := by
 intro f
 induction f with
 | zero => intro s t h _; exact ⟨h, fun _ _ => rfl⟩
 | succ f ih =>
   intro s t h ht
   by_cases hc : lim < s.1.getD t 0
   ·obtain ⟨a, ha⟩ : ∃ a : Nat, s.1.getD t 0 = (a : Int) := ⟨(s.1.getD t 0).toNat, by omega⟩
    have hu := h.up.row t ht
    obtain ⟨k1, k2⟩ := ih s a h (by omega)
    have ua := k1.up.row a (by omega)
    have la := k1.lo.row a (by omega)
    have lt := k1.lo.row t ht
    rw [lb_yes lim f s t a hc ha]
    refine ⟨⟨k1.up.set ht ua.1 (by omega), k1.lo.set ht (by omega)⟩, fun i hi => ?_⟩
    show ((lb lim f s a).2.set t _).getD i 0 = _
    rw [getD_set _ _ _ _ (by rw [k1.lo.len]; exact ht), if_neg (by omega)]
    exact k2 i (by omega)
   ·rw [lb_no lim _ s t hc]; exact ⟨h, fun _ _ => rfl⟩
structure Wi where
 out : List Int
 up : List Int
 le : List Int
def wi1 (tn : List Int) (t : Nat) (s : Wi) (b : Nat) : Wi :=
 if (t : Int) < tn.getD b 0 then
  ⟨s.out.set t (min (s.out.getD t 0) ((lb t (tn.getD b 0).toNat (s.up, s.le) (tn.getD b 0).toNat).2.getD (tn.getD b 0).toNat 0)), (lb t (tn.getD b 0).toNat (s.up, s.le) (tn.getD b 0).toNat).1, (lb t (tn.getD b 0).toNat (s.up, s.le) (tn.getD b 0).toNat).2⟩
 else if tn.getD b 0 = -1 then s
 else ⟨s.out.set t (min (s.out.getD t 0) (tn.getD b 0)), s.up, s.le⟩
structure WiI (L : Nat) (s : Wi) : Prop where
 out : Lo L s.out
 up : Up L s.up
 le : Lo L s.le
theorem wi1_inv {L : Nat} {tn : List Int} {t : Nat} {s : Wi} {b : Nat} (h : WiI L s) (ht : t < L) (hb : -1 ≤ tn.getD b 0 ∧ tn.getD b 0 < (L : Int)) : WiI L (wi1 tn t s b) := by
 unfold wi1
 have ho := h.out.row t ht
 split
 ·obtain ⟨k1, _⟩ := lb_inv (L := L) (t : Int) (by omega) (tn.getD b 0).toNat (s.up, s.le) (tn.getD b 0).toNat ⟨h.up, h.le⟩ (by omega)
  have := k1.lo.row (tn.getD b 0).toNat (by omega)
  exact ⟨h.out.set ht (by omega), k1.up, k1.lo⟩
 ·split
  ·exact h
  ·exact ⟨h.out.set ht (by omega), h.up, h.le⟩
theorem wi1s_inv {L : Nat} {tn : List Int} {t : Nat} (ht : t < L) : ∀ (l : List Nat) (s : Wi), WiI L s → (∀ b ∈ l, -1 ≤ tn.getD b 0 ∧ tn.getD b 0 < (L : Int)) → WiI L (l.foldl (wi1 tn t) s) := by
 intro l
 induction l with
 | nil => intro s h _; exact h
 | cons b r ih => intro s h hb; exact ih _ (wi1_inv h ht (hb b (List.mem_cons_self ..))) fun x hx => hb x (List.mem_cons_of_mem _ hx)
def wiT (w : St) (ah : List (List Nat)) (s : Wi) (t : Nat) : Wi :=
 ⟨((ah.getD (w.ent.getD t 0) []).foldl (wi1 w.tn t) s).out, ((ah.getD (w.ent.getD t 0) []).foldl (wi1 w.tn t) s).up, ((ah.getD (w.ent.getD t 0) []).foldl (wi1 w.tn t) s).le.set t (((ah.getD (w.ent.getD t 0) []).foldl (wi1 w.tn t) s).out.getD t 0)⟩
def wis (w : St) (ah : List (List Nat)) (k : Nat) : Wi := (List.range k).foldl (fun s k => wiT w ah s (w.fr.length - 1 - k)) ⟨w.fr, w.fr, List.replicate w.fr.length 0⟩
def widest (w : St) (ah : List (List Nat)) : List Int := (wis w ah (w.fr.length - 1)).out
theorem wis_succ (w : St) (ah : List (List Nat)) (k : Nat) : wis w ah (k + 1) = wiT w ah (wis w ah k) (w.fr.length - 1 - k) := by unfold wis; rw [List.range_succ, List.foldl_append]; rfl
structure AhO (n : Nat) (ah : List (List Nat)) : Prop where
 len : ah.length = n
 lt : ∀ b, ∀ x ∈ ah.getD b [], x < n
theorem ahead_ok (nx : List (List Nat)) (hn : In nx) : AhO nx.length (ahead nx) := by
 have h := ahs_inv nx hn nx.length
 refine ⟨h.len, fun b x hx => ?_⟩
 by_cases hb : b < (ahead nx).length
 ·exact ahs_lt nx hn nx.length (Nat.le_refl _) _ (getD_mem _ _ _ hb) x hx
 ·rw [getD_out _ _ _ (by omega)] at hx; cases hx
theorem tn_at {n : Nat} {s : St} (h : Inv n s) {b : Nat} (hb : b < n) : -1 ≤ s.tn.getD b 0 ∧ s.tn.getD b 0 < (s.ent.length : Int) := h.tb _ (getD_mem _ _ _ (by rw [h.tl]; exact hb))
theorem wis_inv {n : Nat} {w : St} {ah : List (List Nat)} (h : Inv n w) (ha : AhO n ah) : ∀ k, k ≤ w.fr.length - 1 → WiI w.fr.length (wis w ah k) := by
 intro k
 induction k with
 | zero =>
   intro _
   have hu := h.up
   rw [← h.fl] at hu
   exact ⟨hu.lo, hu, ⟨by simp [wis], fun i hi => by rw [show (wis w ah 0).le = List.replicate w.fr.length 0 from rfl, getD_get _ _ _ (by simpa using hi)]; simp⟩⟩
 | succ k ih =>
   intro hk
   rw [wis_succ]
   have h1 := ih (by omega)
   have h2 := wi1s_inv (tn := w.tn) (show w.fr.length - 1 - k < w.fr.length by omega) (ah.getD (w.ent.getD (w.fr.length - 1 - k) 0) []) _ h1 (fun b hb => by rw [h.fl]; exact tn_at h (ha.lt _ b hb))
   exact ⟨h2.out, h2.up, h2.le.set (by omega) (h2.out.row _ (by omega))⟩
def cutF : Nat → List Int → Nat → Int → List Int
 | 0, t, _, _ => t
 | f + 1, t, k, b => if b < t.getD k 0 then cutF f (t.set k (t.getD (t.getD k 0).toNat 0)) k b else t
theorem cutF_no (f : Nat) (t : List Int) (k : Nat) (b : Int) (h : ¬ b < t.getD k 0) : cutF f t k b = t := by cases f; rfl; exact if_neg h
theorem cutF_yes (f : Nat) (t : List Int) (k : Nat) (b : Int) (h : b < t.getD k 0) : cutF (f + 1) t k b = cutF f (t.set k (t.getD (t.getD k 0).toNat 0)) k b := if_pos h
theorem cut_step {L : Nat} {t : List Int} (h : Up L t) {k : Nat} (hk : k < L) {b : Int} (hb : -1 ≤ b) (hc : b < t.getD k 0) : Up L (t.set k (t.getD (t.getD k 0).toNat 0)) ∧ (t.set k (t.getD (t.getD k 0).toNat 0)).getD k 0 < t.getD k 0 := by
 have h1 := h.row k hk
 have h2 := h.row (t.getD k 0).toNat (by omega)
 refine ⟨h.set hk h2.1 (by omega), ?_⟩
 rw [getD_set _ _ _ _ (by rw [h.len]; exact hk), if_pos rfl]; omega
theorem cutF_up {L : Nat} {k : Nat} (hk : k < L) {b : Int} (hb : -1 ≤ b) : ∀ f t, Up L t → Up L (cutF f t k b) := by
 intro f
 induction f with
 | zero => intro t h; exact h
 | succ f ih =>
   intro t h
   by_cases hc : b < t.getD k 0
   ·rw [cutF_yes f t k b hc]; exact ih _ (cut_step h hk hb hc).1
   ·rw [cutF_no _ t k b hc]; exact h
def trs (wd : List Int) (t : List Int) (k : Nat) : List Int := (List.range k).foldl (fun t k => cutF (k + 1) t k (wd.getD k 0)) t
def tree (w : St) (ah : List (List Nat)) : List Int := trs (widest w ah) w.fr (widest w ah).length
theorem trs_succ (wd t : List Int) (k : Nat) : trs wd t (k + 1) = cutF (k + 1) (trs wd t k) k (wd.getD k 0) := by unfold trs; rw [List.range_succ, List.foldl_append]; rfl
theorem trs_up {L : Nat} {wd t : List Int} (hw : Lo L wd) (ht : Up L t) : ∀ k, k ≤ L → Up L (trs wd t k) := by
 intro k
 induction k with
 | zero => intro _; exact ht
 | succ k ih => intro hk; rw [trs_succ]; exact cutF_up (by omega) (hw.row k (by omega)) _ _ (ih (by omega))
theorem tree_up {n : Nat} {w : St} {ah : List (List Nat)} (h : Inv n w) (ha : AhO n ah) : Up w.fr.length (tree w ah) := by
 have h1 := wis_inv h ha (w.fr.length - 1) (Nat.le_refl _)
 have hu := h.up
 rw [← h.fl] at hu
 exact trs_up h1.out hu _ (by rw [show (widest w ah).length = w.fr.length from h1.out.len]; exact Nat.le_refl _)
def cov (t : List Int) (a : Int) : Nat → Int → Bool
 | 0, b => b == a
 | f + 1, b => if a < b then cov t a f (t.getD b.toNat 0) else b == a
theorem cov_no (t : List Int) (a : Int) (f : Nat) (b : Int) (h : ¬ a < b) : cov t a f b = (b == a) := by cases f; rfl; exact if_neg h
theorem cov_yes (t : List Int) (a : Int) (f : Nat) (b : Int) (h : a < b) : cov t a (f + 1) b = cov t a f (t.getD b.toNat 0) := if_pos h
end Fw
namespace Fw
open Vc (NumsL Nums Lies LL Bls BlC InC Bl In Co infoN own_base)
/- flow: rows of numbers of the call's own; the walk's box. -/
def nz (l : List Nat) : List Int := l.map (fun n : Nat => (n : Int))
theorem nz_len (l : List Nat) : (nz l).length = l.length := by simp [nz]
theorem nz_app (l r : List Nat) : nz (l ++ r) = nz l ++ nz r := by simp [nz]
theorem nz_getD (l : List Nat) (i : Nat) (h : i < l.length) : (nz l).getD i 0 = ((l.getD i 0 : Nat) : Int) := by
 rw [getD_get _ _ _ (by rw [nz_len]; exact h), getD_get _ _ _ h]; simp [nz]
def iv (l : List Int) : List Value := l.map (Value.int .i64)
theorem iv_len (l : List Int) : (iv l).length = l.length := by simp [iv]
/-- a row of numbers of the call's own -/
def Ro (w : World) (N : Nat) (v : Value) (l : List Int) : Prop := w.ownsRow N 3 1 v l.length (iv l)
theorem own_keep {w w' : World} {B e size n : Nat} {v : Value} {xs : List Value} (h : w.ownsRow B e size v n xs) (hk : ∀ k, v.ownBlock = some k → w'.heap[k]? = w.heap[k]?) : w'.ownsRow B e size v n xs := by
 refine ⟨h.1, ?_⟩
 rcases h.2 with hn | ⟨g, cap, cur, e1, e2, e3, e4⟩
 ·exact .inl hn
 ·exact .inr ⟨g, cap, cur, e1, e2, (hk g (by rw [e1]; rfl)).trans e3, e4⟩
theorem Ro.below {w w' : World} {N : Nat} {v : Value} {l : List Int} (h : Ro w N v l) (hb : Below w.heap.size w w') : Ro w' N v l := Vc.ownsRow_below h hb
theorem Ro.keep {w w' : World} {N : Nat} {v : Value} {l : List Int} (h : Ro w N v l) (hk : ∀ k, v.ownBlock = some k → w'.heap[k]? = w.heap[k]?) : Ro w' N v l := own_keep h hk
theorem Ro.base {w : World} {N M : Nat} {v : Value} {l : List Int} (h : Ro w N v l) (hM : M ≤ N) : Ro w M v l := own_base h hM
theorem Ro.lt {w : World} {N : Nat} {v : Value} {l : List Int} (h : Ro w N v l) : ∀ k, v.ownBlock = some k → N ≤ k ∧ k < w.heap.size := fun k hk => World.ownsRow.lt h k hk
theorem Ro.sl {w : World} {N : Nat} {v : Value} {l : List Int} (h : Ro w N v l) : ∃ a c, v = .slice a l.length c ∧ l.length ≤ c := by
 rcases h.2 with ⟨rfl, e⟩ | ⟨g, cap, cur, rfl, _, _, h4, _⟩
 ·exact ⟨none, 0, by rw [e], by omega⟩
 ·exact ⟨_, _, rfl, h4⟩
theorem Ro.at_ {w : World} {N : Nat} {v : Value} {l : List Int} (h : Ro w N v l) (h0 : 0 < l.length) : ∃ g cap, v = .slice (some ⟨g, 0, none⟩) l.length cap ∧ N ≤ g ∧ g < w.heap.size ∧ (∀ i, i < l.length → w.cell? ⟨g, i, none⟩ = some (.int .i64 (l.getD i 0))) ∧ (∀ i, w.frozen? ⟨g, i, none⟩ = false) ∧ l.length ≤ cap := by
 rcases h.2 with ⟨_, e⟩ | ⟨g, cap, cur, rfl, h2, h3, h4, h5, h6, h7⟩
 ·omega
 ·refine ⟨g, cap, rfl, h2, (Array.getElem?_eq_some_iff.1 h3).1, fun i hi => ?_, fun i => frozen_of_row w g i _ _ h3, h4⟩
  have h8 : (iv l)[i]? = some (.int .i64 (l.getD i 0)) := by rw [iv, List.getElem?_map, get?_getD l i 0 hi]; rfl
  exact Vc.row_cells (show w.ownsRow N 3 1 (.slice (some ⟨g, 0, none⟩) l.length cap) l.length (iv l) from h) i _ h8
theorem Ro.nums {w : World} {N : Nat} {v : Value} {l : List Int} (h : Ro w N v l) : NumsL w (fun k => N ≤ k ∧ k < w.heap.size) l v := by
 rcases h.2 with ⟨rfl, e⟩ | ⟨g, cap, cur, rfl, h2, h3, h4, h5, h6, h7⟩
 ·exact ⟨none, 0, by rw [e], by omega, fun _ => rfl, fun h => by omega⟩
 ·refine ⟨_, _, rfl, h4, (by intro h; cases h), fun h0 => ⟨g, 0, rfl, ⟨h2, (Array.getElem?_eq_some_iff.1 h3).1⟩, fun j hj => ?_⟩⟩
  obtain ⟨g', cap', e, _, _, hc, _⟩ := h.at_ h0
  cases e
  rw [Nat.zero_add]; exact hc j hj
theorem Ro.set {w : World} {N g n cap : Nat} {l : List Int} (h : Ro w N (.slice (some ⟨g, 0, none⟩) n cap) l) {i : Nat} (hi : i < l.length) (x : Int) : Ro (w.setCell ⟨g, i, none⟩ (.int .i64 x)) N (.slice (some ⟨g, 0, none⟩) n cap) (l.set i x) := by
 rcases h.2 with ⟨e, _⟩ | ⟨g', cap', cur, e, h2, h3, h4, h5, h6, h7⟩
 ·cases e
 ·have hn := h.1
  cases e
  refine ⟨by simp [iv], .inr ⟨g, cap, cur.setIfInBounds i (.int .i64 x), by simp, h2, heap_setCell_same w g i cur _ _ h3, by simp; omega, h5, by simp [h6], ?_⟩⟩
  simp only [List.length_set, Nat.mul_one] at h7 ⊢
  rw [Array.toList_setIfInBounds, List.take_set, h7]
  simp [iv, List.map_set]
/-- no memory is shared -/
def Ap (a b : Value) : Prop := ∀ k, a.ownBlock = some k → b.ownBlock = some k → False
theorem Ap.symm {a b : Value} (h : Ap a b) : Ap b a := fun k h1 h2 => h k h2 h1
theorem Ap.left {a b a' : Value} {w : World} {N : Nat} {l : List Int} (h : Ap a b) (ha : a'.ownBlock = a.ownBlock ∨ ∃ j, w.heap.size ≤ j ∧ a'.ownBlock = some j) (hb : Ro w N b l) : Ap a' b := fun k h1 h2 => by
 rcases ha with e | ⟨j, hj, e⟩
 ·exact h k (e ▸ h1) h2
 ·have := (hb.lt k h2).2; rw [e] at h1; cases h1; omega
theorem row_ne {w : World} {N B T : Nat} {cs : Array Value} {v : Value} {l : List Int} (hx : w.heap[B]? = some (.cells cs T (0, 0))) (hT : T ≠ 3) (h : Ro w N v l) : ∀ k, v.ownBlock = some k → k ≠ B ∧ k < w.heap.size ∧ N ≤ k := by
 intro k hk
 refine ⟨?_, (h.lt k hk).2, (h.lt k hk).1⟩
 rintro rfl
 rcases h.2 with ⟨rfl, _⟩ | ⟨g, cap, cur, rfl, _, e3, _⟩
 ·cases hk
 ·cases hk; have := hx.symm.trans e3; simp at this; exact hT this.2
def wbc (vb ve vf vt vl : Value) : Array Value := #[vb, ve, vf, vt, vl]
structure Wb (w : World) (N B : Nat) (vb : Value) (s : St) (ve vf vt vl : Value) : Prop where
 bx : w.heap[B]? = some (.cells (wbc vb ve vf vt vl) 65 (0, 0))
 nb : N ≤ B
 re : Ro w N ve (nz s.ent)
 rf : Ro w N vf s.fr
 rt : Ro w N vt s.tn
 rl : Ro w N vl (nz s.lf)
 ef : Ap ve vf
 et : Ap ve vt
 el : Ap ve vl
 ft : Ap vf vt
 fl : Ap vf vl
 tl : Ap vt vl
theorem wb_cells {w : World} {B : Nat} {vb ve vf vt vl : Value} (h : w.heap[B]? = some (.cells (wbc vb ve vf vt vl) 65 (0, 0))) :
    w.cell? ⟨B, 0, none⟩ = some vb ∧ w.cell? ⟨B, 1, none⟩ = some ve ∧ w.cell? ⟨B, 2, none⟩ = some vf ∧ w.cell? ⟨B, 3, none⟩ = some vt ∧ w.cell? ⟨B, 4, none⟩ = some vl ∧ (∀ j, w.frozen? ⟨B, j, none⟩ = false) ∧ B < w.heap.size := by
 refine ⟨?_, ?_, ?_, ?_, ?_, fun j => frozen_of_row w B j _ _ h, (Array.getElem?_eq_some_iff.1 h).1⟩ <;> (rw [cell_of_row w B _ _ _ _ h]; rfl)
theorem Wb.lt {w : World} {N B : Nat} {vb ve vf vt vl : Value} {s : St} (h : Wb w N B vb s ve vf vt vl) : B < w.heap.size := (Array.getElem?_eq_some_iff.1 h.bx).1
theorem Wb.below {w w' : World} {N B : Nat} {vb ve vf vt vl : Value} {s : St} (h : Wb w N B vb s ve vf vt vl) (hb : Below w.heap.size w w') : Wb w' N B vb s ve vf vt vl :=
 ⟨(hb.block B h.lt).trans h.bx, h.nb, h.re.below hb, h.rf.below hb, h.rt.below hb, h.rl.below hb, h.ef, h.et, h.el, h.ft, h.fl, h.tl⟩
/-- a turn told -/
theorem Wb.turn {w : World} {N B g n cap : Nat} {vb ve vf vl : Value} {s : St} (h : Wb w N B vb s ve vf (.slice (some ⟨g, 0, none⟩) n cap) vl) {b : Nat} (hb : b < s.tn.length) (x : Int) :
    Wb (w.setCell ⟨g, b, none⟩ (.int .i64 x)) N B vb ⟨s.ent, s.fr, s.tn.set b x, s.lf⟩ ve vf (.slice (some ⟨g, 0, none⟩) n cap) vl ∧ Below N w (w.setCell ⟨g, b, none⟩ (.int .i64 x)) := by
 have q := row_ne h.bx (by decide) h.rt g rfl
 have o : ∀ k, k ≠ g → (w.setCell ⟨g, b, none⟩ (.int .i64 x)).heap[k]? = w.heap[k]? := fun k hk => heap_setCell_other w ⟨g, b, none⟩ k _ hk
 refine ⟨⟨(o B (fun e => q.1 e.symm)).trans h.bx, h.nb, h.re.keep fun k hk => o k (fun e => by subst e; exact h.et k hk rfl), h.rf.keep fun k hk => o k (fun e => by subst e; exact h.ft k hk rfl), h.rt.set hb x, h.rl.keep fun k hk => o k (fun e => by subst e; exact h.tl k rfl hk), h.ef, h.et, h.el, h.ft, h.fl, h.tl⟩, (Below.refl _ _).setCell (p := ⟨g, b, none⟩) q.2.2 _⟩
theorem iv_app (l r : List Int) : iv (l ++ r) = iv l ++ iv r := by simp [iv]
theorem hat_of {S K : Nat} {v v' : Value} (hat : v'.ownBlock = v.ownBlock ∨ v'.ownBlock = some K) (hK : S ≤ K) : v'.ownBlock = v.ownBlock ∨ ∃ j, S ≤ j ∧ v'.ownBlock = some j := by
 rcases hat with e | e
 ·exact .inl e
 ·exact .inr ⟨_, hK, e⟩
theorem one_ones (x : Int) : ∀ u ∈ [Value.int .i64 x], u.oneCell' = true := by intro u hu; simp at hu; subst hu; rfl
/-- one more in the row ent -/
theorem Wb.pushE {w w2 : World} {N B : Nat} {vb ve vf vt vl v' : Value} {s : St} (h : Wb w N B vb s ve vf vt vl) {x : Nat} (hown : w2.ownsRow N 3 1 v' ((nz s.ent).length + 1) (iv (nz s.ent) ++ [.int .i64 (x : Int)])) (hg : w.grownBy w2 ve.ownBlock) (hat : v'.ownBlock = ve.ownBlock ∨ ∃ j, w.heap.size ≤ j ∧ v'.ownBlock = some j) :
    w2.heap[B]? = some (.cells (wbc vb ve vf vt vl) 65 (0, 0)) ∧ Wb (w2.setCell ⟨B, 1, none⟩ v') N B vb ⟨s.ent ++ [x], s.fr, s.tn, s.lf⟩ v' vf vt vl ∧ Below N w (w2.setCell ⟨B, 1, none⟩ v') := by
 have hlt := h.lt
 have hne := row_ne h.bx (by decide) h.re
 have hN2 : w2.heap[B]? = some (.cells (wbc vb ve vf vt vl) 65 (0, 0)) := (hg.block B hlt (fun e => (hne B e.symm).1 rfl)).trans h.bx
 have hr2 : Ro w2 N v' (nz (s.ent ++ [x])) := by unfold Ro; rw [nz_app, iv_app, List.length_append]; exact hown
 have hne2 := row_ne hN2 (by decide) hr2
 have hr : Ro (w2.setCell ⟨B, 1, none⟩ v') N v' (nz (s.ent ++ [x])) := hr2.keep fun j hj => heap_setCell_other w2 ⟨B, 1, none⟩ j _ (hne2 j hj).1
 have keep : ∀ (u : Value) (l : List Int), Ro w N u l → Ap ve u → ∀ k, u.ownBlock = some k → (w2.setCell ⟨B, 1, none⟩ v').heap[k]? = w.heap[k]? := fun u l hu ha k hk => by
  have q := row_ne h.bx (by decide) hu k hk
  rw [heap_setCell_other w2 ⟨B, 1, none⟩ k _ q.1]
  exact hg.block k q.2.1 fun e => ha k e.symm hk
 refine ⟨hN2, ⟨(heap_setCell_same w2 B 1 _ _ _ hN2).trans rfl, h.nb, hr, (h.rf.keep (keep vf _ h.rf (h.ef))), (h.rt.keep (keep vt _ h.rt (h.et))), (h.rl.keep (keep vl _ h.rl (h.el))), ((h.ef).left hat h.rf), ((h.et).left hat h.rt), ((h.el).left hat h.rl), h.ft, h.fl, h.tl⟩, ?_⟩
 have hb : Below N w w2 := (Below.refl N w).grown hg (Nat.le_of_lt (Nat.lt_of_le_of_lt h.nb hlt)) (fun k e => (hne k e.symm.symm).2.2)
 exact hb.setCell (p := ⟨B, 1, none⟩) h.nb _
/-- one more in the row fr -/
theorem Wb.pushF {w w2 : World} {N B : Nat} {vb ve vf vt vl v' : Value} {s : St} (h : Wb w N B vb s ve vf vt vl) {x : Int} (hown : w2.ownsRow N 3 1 v' ((s.fr).length + 1) (iv (s.fr) ++ [.int .i64 x])) (hg : w.grownBy w2 vf.ownBlock) (hat : v'.ownBlock = vf.ownBlock ∨ ∃ j, w.heap.size ≤ j ∧ v'.ownBlock = some j) :
    w2.heap[B]? = some (.cells (wbc vb ve vf vt vl) 65 (0, 0)) ∧ Wb (w2.setCell ⟨B, 2, none⟩ v') N B vb ⟨s.ent, s.fr ++ [x], s.tn, s.lf⟩ ve v' vt vl ∧ Below N w (w2.setCell ⟨B, 2, none⟩ v') := by
 have hlt := h.lt
 have hne := row_ne h.bx (by decide) h.rf
 have hN2 : w2.heap[B]? = some (.cells (wbc vb ve vf vt vl) 65 (0, 0)) := (hg.block B hlt (fun e => (hne B e.symm).1 rfl)).trans h.bx
 have hr2 : Ro w2 N v' (s.fr ++ [x]) := by unfold Ro; rw [iv_app, List.length_append]; exact hown
 have hne2 := row_ne hN2 (by decide) hr2
 have hr : Ro (w2.setCell ⟨B, 2, none⟩ v') N v' (s.fr ++ [x]) := hr2.keep fun j hj => heap_setCell_other w2 ⟨B, 2, none⟩ j _ (hne2 j hj).1
 have keep : ∀ (u : Value) (l : List Int), Ro w N u l → Ap vf u → ∀ k, u.ownBlock = some k → (w2.setCell ⟨B, 2, none⟩ v').heap[k]? = w.heap[k]? := fun u l hu ha k hk => by
  have q := row_ne h.bx (by decide) hu k hk
  rw [heap_setCell_other w2 ⟨B, 2, none⟩ k _ q.1]
  exact hg.block k q.2.1 fun e => ha k e.symm hk
 refine ⟨hN2, ⟨(heap_setCell_same w2 B 2 _ _ _ hN2).trans rfl, h.nb, (h.re.keep (keep ve _ h.re (h.ef.symm))), hr, (h.rt.keep (keep vt _ h.rt (h.ft))), (h.rl.keep (keep vl _ h.rl (h.fl))), ((h.ef.symm).left hat h.re).symm, h.et, h.el, ((h.ft).left hat h.rt), ((h.fl).left hat h.rl), h.tl⟩, ?_⟩
 have hb : Below N w w2 := (Below.refl N w).grown hg (Nat.le_of_lt (Nat.lt_of_le_of_lt h.nb hlt)) (fun k e => (hne k e.symm.symm).2.2)
 exact hb.setCell (p := ⟨B, 2, none⟩) h.nb _
/-- one more in the row lf -/
theorem Wb.pushL {w w2 : World} {N B : Nat} {vb ve vf vt vl v' : Value} {s : St} (h : Wb w N B vb s ve vf vt vl) {x : Nat} (hown : w2.ownsRow N 3 1 v' ((nz s.lf).length + 1) (iv (nz s.lf) ++ [.int .i64 (x : Int)])) (hg : w.grownBy w2 vl.ownBlock) (hat : v'.ownBlock = vl.ownBlock ∨ ∃ j, w.heap.size ≤ j ∧ v'.ownBlock = some j) :
    w2.heap[B]? = some (.cells (wbc vb ve vf vt vl) 65 (0, 0)) ∧ Wb (w2.setCell ⟨B, 4, none⟩ v') N B vb ⟨s.ent, s.fr, s.tn, s.lf ++ [x]⟩ ve vf vt v' ∧ Below N w (w2.setCell ⟨B, 4, none⟩ v') := by
 have hlt := h.lt
 have hne := row_ne h.bx (by decide) h.rl
 have hN2 : w2.heap[B]? = some (.cells (wbc vb ve vf vt vl) 65 (0, 0)) := (hg.block B hlt (fun e => (hne B e.symm).1 rfl)).trans h.bx
 have hr2 : Ro w2 N v' (nz (s.lf ++ [x])) := by unfold Ro; rw [nz_app, iv_app, List.length_append]; exact hown
 have hne2 := row_ne hN2 (by decide) hr2
 have hr : Ro (w2.setCell ⟨B, 4, none⟩ v') N v' (nz (s.lf ++ [x])) := hr2.keep fun j hj => heap_setCell_other w2 ⟨B, 4, none⟩ j _ (hne2 j hj).1
 have keep : ∀ (u : Value) (l : List Int), Ro w N u l → Ap vl u → ∀ k, u.ownBlock = some k → (w2.setCell ⟨B, 4, none⟩ v').heap[k]? = w.heap[k]? := fun u l hu ha k hk => by
  have q := row_ne h.bx (by decide) hu k hk
  rw [heap_setCell_other w2 ⟨B, 4, none⟩ k _ q.1]
  exact hg.block k q.2.1 fun e => ha k e.symm hk
 refine ⟨hN2, ⟨(heap_setCell_same w2 B 4 _ _ _ hN2).trans rfl, h.nb, (h.re.keep (keep ve _ h.re (h.el.symm))), (h.rf.keep (keep vf _ h.rf (h.fl.symm))), (h.rt.keep (keep vt _ h.rt (h.tl.symm))), hr, h.ef, h.et, ((h.el.symm).left hat h.re).symm, h.ft, ((h.fl.symm).left hat h.rf).symm, ((h.tl.symm).left hat h.rt).symm⟩, ?_⟩
 have hb : Below N w w2 := (Below.refl N w).grown hg (Nat.le_of_lt (Nat.lt_of_le_of_lt h.nb hlt)) (fun k e => (hne k e.symm.symm).2.2)
 exact hb.setCell (p := ⟨B, 4, none⟩) h.nb _
/- flow: the walk. -/
def nxs (l : List Bl) : List (List Nat) := l.map fun b => b.next.map Int.toNat
/-- so much code may be gone over -/
structure Nok (l : List Bl) : Prop where
 len : l.length ≤ 1048576
 nlen : ∀ b ∈ l, b.next.length ≤ 1048576
 rng : ∀ b ∈ l, ∀ z ∈ b.next, 0 ≤ z ∧ z < (l.length : Int)
theorem nxs_len (l : List Bl) : (nxs l).length = l.length := by simp [nxs]
theorem nxs_at {l : List Bl} {b : Nat} {x : Bl} (h : l[b]? = some x) : (nxs l).getD b [] = x.next.map Int.toNat := by
 rw [List.getD_eq_getElem?_getD, nxs, List.getElem?_map, h]; rfl
theorem Nok.inn {l : List Bl} (h : Nok l) : In (nxs l) := by
 intro b x hx
 rw [nxs_len]
 by_cases hb : b < l.length
 ·have e := List.getElem?_eq_getElem hb
  rw [nxs_at e] at hx
  obtain ⟨z, hz, rfl⟩ := List.mem_map.1 hx
  have := h.rng _ (List.getElem_mem hb) z hz; omega
 ·rw [getD_out _ _ _ (by rw [nxs_len]; omega)] at hx; cases hx
theorem Nok.at_ {l : List Bl} (h : Nok l) {b : Nat} {x : Bl} (hx : l[b]? = some x) {k : Nat} (hk : k < x.next.length) : ∃ n : Nat, x.next.getD k 0 = (n : Int) ∧ n < l.length ∧ (x.next.map Int.toNat)[k]? = some n := by
 have hm := List.mem_of_getElem? hx
 have hz := getD_mem x.next k 0 hk
 have := h.rng x hm _ hz
 refine ⟨(x.next.getD k 0).toNat, by omega, by omega, ?_⟩
 rw [List.getElem?_map, get?_getD x.next k 0 hk]; rfl
theorem fold_take {α β : Type} (f : α → β → α) (l : List β) (k : Nat) (a : α) {y : β} (h : l[k]? = some y) : (l.take (k + 1)).foldl f a = f ((l.take k).foldl f a) y := by
 have hk := (List.getElem?_eq_some_iff.1 h).1
 rw [List.take_succ_eq_append_getElem hk, List.foldl_append, (List.getElem?_eq_some_iff.1 h).2]; rfl
/-- a block of code where it lies: its Next -/
theorem blk_next {w : World} {g : Nat → Prop} {l : List Bl} {b : Nat} {x : Bl} {a : Option Addr} {n cp : Nat} (h : Bls w g l (.slice a n cp)) (hx : l[b]? = some x) : ∃ B o vi vn, a = some ⟨B, o, none⟩ ∧ g B ∧ B < w.heap.size ∧ n = l.length ∧
    w.cell? ⟨B, o + b * 3, none⟩ = some vi ∧ w.cell? ⟨B, o + b * 3 + 1, none⟩ = some vn ∧ w.cell? ⟨B, o + b * 3 + 2, none⟩ = some (.int .i64 x.dep) ∧ LL InC 5 w g x.ins vi ∧ NumsL w g x.next vn := by
 obtain ⟨a', cap, e, h2, h3, h4⟩ := h
 have hb := (List.getElem?_eq_some_iff.1 hx).1
 obtain ⟨B, o, rfl, hg, hlt, hp⟩ := h4 (by omega)
 obtain ⟨cs, hc, ⟨vi, vn, rfl, hi, hn⟩, hce⟩ := hp b x hx
 cases e
 exact ⟨B, o, vi, vn, rfl, hg, hlt, rfl, hce 0 vi rfl, hce 1 vn rfl, hce 2 _ rfl, hi, hn⟩
theorem bls_on {w w' : World} {N : Nat} {l : List Bl} {v : Value} (h : Bls w (fun k => k < N) l v) (hb : Below N w w') : Bls w' (fun k => k < N) l v := h.moved (fun k _ hg => ⟨hg, hb.block k hg⟩) hb.size
theorem nums_on {w w' : World} {N : Nat} {l : List Int} {v : Value} (h : NumsL w (fun k => k < N) l v) (hb : Below N w w') : NumsL w' (fun k => k < N) l v := h.moved (fun k _ hg => ⟨hg, hb.block k hg⟩)
theorem nums_at {w : World} {g : Nat → Prop} {l : List Int} {a : Option Addr} {n cp k : Nat} (h : NumsL w g l (.slice a n cp)) (hk : k < l.length) : ∃ B o, a = some ⟨B, o, none⟩ ∧ g B ∧ ∀ i, i < l.length → w.cell? ⟨B, o + i, none⟩ = some (.int .i64 (l.getD i 0)) := by
 obtain ⟨a', cap, e, h2, h3, h4⟩ := h
 obtain ⟨B, o, rfl, hg, hp⟩ := h4 (by omega)
 cases e
 exact ⟨B, o, rfl, hg, hp⟩
/-- behind so many ways out of a block -/
def qs (nx : List (List Nat)) (l : List Int) (f : Nat) (t : Int) (s : St) (k : Nat) : St := ((l.map Int.toNat).take k).foldl (way nx f t) s
theorem qs_yes (nx : List (List Nat)) (l : List Int) (f : Nat) (t : Int) (s : St) {k n : Nat} (h : (l.map Int.toNat)[k]? = some n) (ht : (qs nx l f t s k).tn.getD n 0 = -1) : qs nx l f t s (k + 1) = go nx f n t (qs nx l f t s k) := by
 unfold qs at *; rw [fold_take _ _ _ _ h]; exact if_pos ht
theorem qs_no (nx : List (List Nat)) (l : List Int) (f : Nat) (t : Int) (s : St) {k n : Nat} (h : (l.map Int.toNat)[k]? = some n) (ht : ¬ (qs nx l f t s k).tn.getD n 0 = -1) : qs nx l f t s (k + 1) = qs nx l f t s k := by
 unfold qs at *; rw [fold_take _ _ _ _ h]; exact if_neg ht
theorem qs_all (nx : List (List Nat)) (l : List Int) (f : Nat) (t : Int) (s : St) : qs nx l f t s l.length = (l.map Int.toNat).foldl (way nx f t) s := by
 unfold qs; rw [List.take_of_length_le (by simp)]
theorem qs_inv {l : List Bl} (hl : Nok l) {x : Bl} {b : Nat} (hx : l[b]? = some x) {f : Nat} {t : Int} (h0 : -1 ≤ t) {s : St} (hI : Inv l.length s) (ht : t < (s.ent.length : Int)) (k : Nat) : Inv l.length (qs (nxs l) x.next f t s k) ∧ On s (qs (nxs l) x.next f t s k) := by
 have := way_inv (nxs l) hl.inn f t h0 ((x.next.map Int.toNat).take k) (fun y hy => by rw [← nxs_at hx] at hy; exact hl.inn b y (List.mem_of_mem_take hy)) s (by rw [nxs_len]; exact hI) ht
 rw [nxs_len] at this; exact this
def WbE (w : World) (N B : Nat) (vb : Value) (s : St) (vt : Value) : Prop := ∃ ve vf vl, Wb w N B vb s ve vf vt vl
theorem enter_any (l : List Bl) (hl : Nok l) (N : Nat) (vb : Value) : ∀ (f b : Nat) (p : Int) (s : St), Inv l.length s → s.tn.count (-1) ≤ f → b < l.length → s.tn.getD b 0 = -1 → -1 ≤ p → p < (s.ent.length : Int) →
    ∀ (B : Nat) (ve vf vt vl : Value) (w : World), Wb w N B vb s ve vf vt vl → Bls w (fun k => k < N) l vb →
    Calls Tryz.prog 55 #[.pointer (some ⟨B, 0, none⟩), .int .i64 (b : Int), .int .i64 p] w fun e w' => e = .returned (.tuple #[]) ∧ (∃ ve' vf' vl', Wb w' N B vb (go (nxs l) f b p s) ve' vf' vt vl') ∧ Below N w w' := by
 intro f
 induction f with
 | zero =>
   intro b p s hI hc hb ht
   exact absurd (List.count_pos_iff.2 (ht ▸ getD_mem s.tn b 0 (by rw [hI.tl]; exact hb))) (by omega)
 | succ f ih =>
   intro b p s hI hc hb ht hp0 hp1 B ve vf vt vl w hW hB
   obtain ⟨va, vc, rfl, -, -, -⟩ := id hB
   have hbt : b < s.tn.length := by rw [hI.tl]; exact hb
   obtain ⟨i0, hi, hz0, hz1, hz2⟩ := info_parts infoN
   obtain ⟨gt, tcap, rfl, hgN, hglt, htc, htf, _⟩ := hW.rt.at_ (by omega)
   obtain ⟨ea, ec, rfl, hec⟩ := hW.re.sl
   obtain ⟨c0, c1, c2, c3, c4, cf, cl⟩ := wb_cells hW.bx
   rw [nz_len] at c1
   have htn : (s.tn.length : Int) = (l.length : Int) := by rw [hI.tl]
   have hbi : (b : Int) < (s.tn.length : Int) := by omega
   have hcb := htc b hbt
   have hfb := htf b
   have hmk := hI.mark hb ht hp0 hp1
   have hcm : (mark s b p).tn.count (-1) ≤ f := by
    have := count_set hbt ht (x := (s.ent.length : Int)) (by omega)
    simp only [mark]; omega
   have hen : s.ent.length ≤ 1048576 := by have := hI.ec; have := hl.len; omega
   obtain ⟨t, hte⟩ : ∃ t, t = s.ent.length := ⟨_, rfl⟩
   obtain ⟨hW1, hb1⟩ := hW.turn hbt (t : Int)
   have HI := hide hI; have HC := hide hcm; have HM := hide hmk; have HL := hide hl; have HB := hide hB; have HW1 := hide hW1; have HB1 := hide hb1; have HP0 := hide hp0; have HP1 := hide hp1; have HT := hide ht; have HW := hide hW
   have HEn := hide hen
   have HTe := hide hte
   rw [← hte] at c1
   have hN1 : w.heap.size ≤ (w.setCell ⟨gt, b, none⟩ (.int .i64 (t : Int))).heap.size := by simp
   have HN1 := hide hN1
   clear hI hc hcm hmk hl hB hW1 hb1 hp0 hp1 ht hW htc htf hen hte htn hN1
   go_enter Tryz.func55, Tryz.ntmps55
   go_upto_region 2 with fail
   generalize w.setCell ⟨gt, b, none⟩ (.int .i64 (t : Int)) = w1 at *
   clear c0 c1 c2 c3 c4 cf cl hcb hfb
   obtain ⟨c0, c1, c2, c3, c4, cf, cl⟩ := wb_cells (unhide HW1).bx
   rw [nz_len, ← unhide HTe] at c1
   have hA := (unhide HW1).below (Vc.one_alloc w1 (.cells #[.int .i64 (b : Int)] 3))
   have hS : N ≤ w1.heap.size := by have := (unhide HW1).lt; have := (unhide HW1).nb; omega
   have hLn : (nz s.ent).length = t := by rw [nz_len, unhide HTe]
   have hAR : (w1.alloc (.cells #[.int .i64 (b : Int)] 3)).ownsRow N 3 1 (.slice ea t ec) t (iv (nz s.ent)) := by have := hA.re; unfold Ro at this; rw [hLn] at this; exact this
   have HA2 := hide hA; have HS2 := hide hS; have HLn2 := hide hLn; have HAR2 := hide hAR
   clear hA hS hLn hAR c0 c2 c3 c4
   go_wp2_with (at_builtin; refine wpList_append_own_at _ rfl (.tmp 25) (.tmp 27) 31 rfl N 3 i0 (.int .i64 0) 1 8 Tryz.underlying31 hi hz0 hz1 hz2 rfl (by decide) (.slice ea t ec) t (iv (nz s.ent)) rfl (unhide HAR2) ⟨w1.heap.size, 0, none⟩ 1 1 [.int .i64 (b : Int)] rfl rfl (cell_one_new _ _ _) (one_ones _) ?d32 ?d42 ?d52 ?_)
   case d32 => have := unhide HEn; have := unhide HTe; unfold maxLen; omega
   case d42 => have := unhide HEn; have := unhide HTe; omega
   case d52 => have := (unhide HA2).lt; have := (unhide HA2).nb; omega
   intro v2 w2 hown hgrow _ hat
   obtain ⟨a2, cp2, rfl⟩ := own_slice hown
   obtain ⟨g1, g2, g3⟩ := (unhide HA2).pushE (by rw [unhide HLn2]; exact hown) (by rw [unhide HLn2]; exact hgrow) (by rw [unhide HLn2]; exact hat_of hat (by simp))
   obtain ⟨c0, c1, c2, c3, c4, cf, cl⟩ := wb_cells g1
   have HG2 := hide g2; have HB2 := hide ((Below.mono (Vc.one_alloc w1 (.cells #[.int .i64 (b : Int)] 3)) (unhide HS2)).trans g3)
   clear g1 g2 g3 hown hgrow hat c0 c2 c3 c4 HA2 HAR2
   go_upto_region 3 with fail
   generalize w2.setCell ⟨B, 1, none⟩ (.slice a2 (t + 1) cp2) = w3 at *
   clear c1 cf cl
   obtain ⟨c0, c1, c2, c3, c4, cf, cl⟩ := wb_cells (unhide HG2).bx
   obtain ⟨fa, fc, rfl, hfc⟩ := (unhide HG2).rf.sl
   have hLn : s.fr.length = t := by have := (unhide HI).fl; rw [this, unhide HTe]
   have hA := (unhide HG2).below (Vc.one_alloc w3 (.cells #[.int .i64 p] 3))
   have hS : N ≤ w3.heap.size := by have := (unhide HG2).lt; have := (unhide HG2).nb; omega
   have hAR : (w3.alloc (.cells #[.int .i64 p] 3)).ownsRow N 3 1 (.slice fa t fc) t (iv s.fr) := by have := hA.rf; unfold Ro at this; simp only at this; rw [hLn] at this; exact this
   simp only [hLn] at c2
   have HA3 := hide hA; have HS3 := hide hS; have HLn3 := hide hLn; have HAR3 := hide hAR
   clear hA hS hLn hAR c0 c1 c3 c4 hfc
   go_wp2_with (at_builtin; refine wpList_append_own_at _ rfl (.tmp 35) (.tmp 37) 31 rfl N 3 i0 (.int .i64 0) 1 8 Tryz.underlying31 hi hz0 hz1 hz2 rfl (by decide) (.slice fa t fc) t (iv (s.fr)) rfl (unhide HAR3) ⟨w3.heap.size, 0, none⟩ 1 1 [.int .i64 p] rfl rfl (cell_one_new _ _ _) (one_ones _) ?d33 ?d43 ?d53 ?_)
   case d33 => have := unhide HEn; have := unhide HTe; unfold maxLen; omega
   case d43 => have := unhide HEn; have := unhide HTe; omega
   case d53 => have := (unhide HA3).lt; have := (unhide HA3).nb; omega
   intro v2 w2 hown hgrow _ hat
   obtain ⟨a3, cp3, rfl⟩ := own_slice hown
   obtain ⟨g1, g2, g3⟩ := (unhide HA3).pushF (by rw [unhide HLn3]; exact hown) (by rw [unhide HLn3]; exact hgrow) (by rw [unhide HLn3]; exact hat_of hat (by simp))
   obtain ⟨c0, c1, c2, c3, c4, cf, cl⟩ := wb_cells g1
   have HG3 := hide g2; have HB3 := hide ((Below.mono (Vc.one_alloc w3 (.cells #[.int .i64 p] 3)) (unhide HS3)).trans g3)
   clear g1 g2 g3 hown hgrow hat c0 c1 c3 c4 HA3 HAR3
   go_upto_region 4 with fail
   generalize w2.setCell ⟨B, 2, none⟩ (.slice a3 (t + 1) cp3) = w4 at *
   clear c2 cf cl
   obtain ⟨x, hx⟩ : ∃ x, l[b]? = some x := ⟨_, List.getElem?_eq_getElem hb⟩
   have hbe : Below N w w4 := (unhide HB1).trans ((unhide HB2).trans (unhide HB3))
   have hB4 := bls_on (unhide HB) hbe
   have hWm : Wb w4 N B (.slice va l.length vc) (mark s b p) (.slice a2 (t + 1) cp2) (.slice a3 (t + 1) cp3) (.slice (some ⟨gt, 0, none⟩) s.tn.length tcap) vl := by
    have := unhide HG3; unfold mark; rw [← unhide HTe]; exact this
   obtain ⟨c0, c1, c2, c3, c4, cf, cl⟩ := wb_cells hWm.bx
   obtain ⟨Bb, ob, vi, vn, rfl, hBN, hBl, -, d0, d1, d2, -, hnn⟩ := blk_next hB4 hx
   obtain ⟨na, nc, rfl, hnc, hn0, -⟩ := id hnn
   have hnl : x.next.length ≤ 1048576 := (unhide HL).nlen x (List.mem_of_getElem? hx)
   obtain ⟨m, hm⟩ : ∃ m, m = x.next.length := ⟨_, rfl⟩
   have HBe := hide hbe; have HB4 := hide hB4; have HWm := hide hWm; have HX := hide hx; have HNn := hide hnn; have HNl := hide hnl; have HMl := hide hm
   have hbl : (b : Int) < (l.length : Int) := by omega
   rw [← hm] at d1 hnl
   have hmi : (m : Int) ≤ 1048576 := by omega
   clear hbe hB4 hWm c1 c2 c3 c4 cf cl d0 d2 hx hnn hn0 hnc hm HG3 HB1 HB2 HB3 HG2 HW1 HN1 hnl HS2 HS3 HLn2 HLn3
   go_wp2_with fail
   go_loopw [50] (fun c wr => ∃ (k : Nat), k ≤ m ∧ c = .int .i64 (k : Int) ∧ WbE wr N B (.slice (some ⟨Bb, ob, none⟩) l.length vc) (qs (nxs l) x.next f (t : Int) (mark s b p) k) (.slice (some ⟨gt, 0, none⟩) s.tn.length tcap) ∧ Below N w4 wr) (fun c _ => m - (intOf c).toNat)
   case atStart => exact ⟨0, Nat.zero_le _, rfl, ⟨_, _, _, unhide HWm⟩, Below.refl _ _⟩
   case round =>
    obtain ⟨k, hk, rfl, ⟨ve', vf', vl', hWk⟩, hbk⟩ := hrel
    have hen2 : (mark s b p).ent.length = t + 1 := by rw [unhide HTe]; simp [mark]
    obtain ⟨hIk, hOk⟩ := qs_inv (f := f) (t := (t : Int)) (unhide HL) (unhide HX) (by omega) (unhide HM) (by omega) k
    by_cases hlt : k < m
    ·obtain ⟨n, hz, hnl, hgn⟩ := (unhide HL).at_ (unhide HX) (k := k) (by rw [← unhide HMl]; exact hlt)
     obtain ⟨Bn, on, rfl, hBnN, hnc⟩ := nums_at (nums_on (unhide HNn) hbk) (k := k) (by rw [← unhide HMl]; exact hlt)
     have hck := hnc k (by rw [← unhide HMl]; exact hlt)
     rw [hz] at hck
     obtain ⟨gt', tcap', e, -, -, htc, -, -⟩ := hWk.rt.at_ (by rw [hIk.tl]; omega)
     simp only [Value.slice.injEq, Option.some.injEq, Addr.mk.injEq] at e
     obtain ⟨⟨rfl, -⟩, -, rfl⟩ := e
     have hct := htc n (by rw [hIk.tl]; exact hnl)
     obtain ⟨c0, c1, c2, c3, c4, cf, cl⟩ := wb_cells hWk.bx
     have hnl2 : (n : Int) < (s.tn.length : Int) := by rw [(unhide HI).tl]; omega
     have HK := hide hWk; have HIk := hide hIk; have HOk := hide hOk; have HGn := hide hgn; have HNl2 := hide hnl
     obtain ⟨z, hzq⟩ : ∃ z, z = (qs (nxs l) x.next f (t : Int) (mark s b p) k).tn.getD n 0 := ⟨_, rfl⟩
     rw [← hzq] at hct
     by_cases hq : z = -1
     ·subst hq
      have hq := hzq.symm
      have HQ := hide hq; have HE2 := hide hen2
      clear hWk hIk hOk hgn hnl hq hzq htc hnc hz c0 c1 c2 c4 cf hen2
      go_wp2_with (go_at_call 55; refine (ih n (t : Int) _ (unhide HIk) (Nat.le_trans (unhide HOk).c (unhide HC)) (unhide HNl2) (unhide HQ) (by omega) (by have := (unhide HOk).e; have := unhide HE2; omega) B _ _ _ _ _ (unhide HK) (bls_on (unhide HB4) hbk)).mono ?_; rintro e w5 ⟨rfl, ⟨ve5, vf5, vl5, hW5⟩, hb5⟩)
      go_roundw
      case rel => exact ⟨k + 1, by omega, by go_num, ⟨_, _, _, by rw [qs_yes _ _ _ _ _ (unhide HGn) (unhide HQ)]; exact hW5⟩, hbk.trans hb5⟩
      case measure => simp [intOf]; omega
     ·have hqb : (z == -1) = false := by simpa using hq
      have HQ := hide (show ¬ (qs (nxs l) x.next f (t : Int) (mark s b p) k).tn.getD n 0 = -1 by rw [← hzq]; exact hq)
      clear hWk hIk hOk hgn hnl hq hzq htc hnc hz c0 c1 c2 c4 cf hen2
      go_wp2_with fail
      go_roundw
      case rel => exact ⟨k + 1, by omega, by go_num, ⟨_, _, _, by rw [qs_no _ _ _ _ _ (unhide HGn) (unhide HQ)]; exact unhide HK⟩, hbk⟩
      case measure => simp [intOf]; omega
    ·obtain rfl : k = m := by omega
     obtain ⟨q, hq⟩ : ∃ q, q = qs (nxs l) x.next f (t : Int) (mark s b p) k := ⟨_, rfl⟩
     rw [← hq] at hWk hIk hOk
     obtain ⟨L, hL⟩ : ∃ L, L = q.lf.length := ⟨_, rfl⟩
     have hLl : L ≤ 1048576 := by have := hIk.ll; have := hIk.ec; have := (unhide HL).len; omega
     obtain ⟨c0, c1, c2, c3, c4, cf, cl⟩ := wb_cells hWk.bx
     obtain ⟨la, lc, rfl, -⟩ := hWk.rl.sl
     have hLn : (nz q.lf).length = L := by rw [nz_len, hL]
     have hA := hWk.below (Vc.one_alloc wr (.cells #[.int .i64 (b : Int)] 3))
     have hS : N ≤ wr.heap.size := by have := hWk.lt; have := hWk.nb; omega
     have hAR : (wr.alloc (.cells #[.int .i64 (b : Int)] 3)).ownsRow N 3 1 (.slice la L lc) L (iv (nz q.lf)) := by have := hA.rl; unfold Ro at this; rw [hLn] at this; exact this
     simp only [hLn] at c4
     have HA := hide hA; have HS := hide hS; have HLn := hide hLn; have HAR := hide hAR; have HQ := hide hq; have HI2 := hide hIk; have HO2 := hide hOk; have HLl := hide hLl; have HL2 := hide hL; have HBk := hide hbk; have HE2 := hide hen2
     clear hA hS hLn hAR hq hIk hOk hLl hL hWk c0 c1 c2 c3 hbk hen2
     go_wp2_with (at_builtin; refine wpList_append_own_at _ rfl (.tmp 71) (.tmp 73) 31 rfl N 3 i0 (.int .i64 0) 1 8 Tryz.underlying31 hi hz0 hz1 hz2 rfl (by decide) (.slice la L lc) L (iv (nz q.lf)) rfl (unhide HAR) ⟨wr.heap.size, 0, none⟩ 1 1 [.int .i64 (b : Int)] rfl rfl (cell_one_new _ _ _) (one_ones _) ?d3 ?d4 ?d5 ?_)
     case d3 => have := unhide HLl; unfold maxLen; omega
     case d4 => have := unhide HLl; omega
     case d5 => have := (unhide HA).lt; have := (unhide HA).nb; omega
     intro v2 w2 hown hgrow _ hat
     obtain ⟨a9, cp9, rfl⟩ := own_slice hown
     obtain ⟨g1, g2, g3⟩ := (unhide HA).pushL (by rw [unhide HLn]; exact hown) (by rw [unhide HLn]; exact hgrow) (by rw [unhide HLn]; exact hat_of hat (by simp))
     obtain ⟨c0, c1, c2, c3, c4, cf, cl⟩ := wb_cells g1
     have HG := hide g2; have HB := hide ((Below.mono (Vc.one_alloc wr (.cells #[.int .i64 (b : Int)] 3)) (unhide HS)).trans g3)
     clear g1 g2 g3 hown hgrow hat c0 c1 c2 c3 HA HAR
     go_wp2
     have hst : go (nxs l) (f + 1) b p s = ⟨q.ent, q.fr, q.tn, q.lf ++ [b]⟩ := by
      rw [go_succ, nxs_at (unhide HX), ← qs_all, ← unhide HMl, ← unhide HTe, ← unhide HQ]
     have hfin := unhide HG
     rw [← hst] at hfin
     exact bodyPost_end (v := .tuple #[]) (by simp [results, Tryz.results55, go_sem]) rfl ⟨rfl, ⟨_, _, _, hfin⟩, (unhide HBe).trans ((unhide HBk).trans (unhide HB))⟩
end Fw
namespace Fw
open Vc (infoN)
/- flow: slices.Repeat of one number; a row made of noughts. -/
theorem addr_add0 (b o j : Nat) : (⟨b, o, none⟩ : Addr).add j = ⟨b, o + j, none⟩ := by by_cases h : j = 0 <;> simp [Addr.add, h]
def mn (m : Nat) : List Value := List.replicate m (Value.int .i64 (-1))
theorem mn_len (m : Nat) : (mn m).length = m := by simp [mn]
theorem mn_at {m j : Nat} {v : Value} (h : (mn m)[j]? = some v) : j < m ∧ v = .int .i64 (-1) := by
 have h1 := (List.getElem?_eq_some_iff.1 h).1
 rw [mn_len] at h1
 refine ⟨h1, ?_⟩
 unfold mn at h
 rw [List.getElem?_replicate, if_pos h1] at h
 exact (Option.some.inj h).symm
theorem mn_one (m : Nat) : ∀ v ∈ mn m, v.oneCell' = true := fun v hv => by rw [(List.mem_replicate.1 hv).2]; rfl
/-- so many are told, the others are noughts -/
def fil (n k : Nat) : List Value := List.replicate k (Value.int .i64 (-1)) ++ List.replicate (n - k) (Value.int .i64 0)
theorem fil_len (n k : Nat) (h : k ≤ n) : (fil n k).length = n := by simp [fil]; omega
theorem fil_more (n k m : Nat) (h : k + m ≤ n) : splice (fil n k) k (mn m) = fil n (k + m) := by
 unfold splice fil mn
 rw [List.take_append_of_le_length (by simp), List.take_of_length_le (by simp), ← List.append_assoc, List.replicate_append_replicate]
 congr 1
 simp only [List.length_replicate]
 rw [List.drop_append, List.drop_of_length_le (by simp), List.length_replicate, List.nil_append, List.drop_replicate]
 congr 1; omega
theorem fil_all (n : Nat) : fil n n = List.replicate n (Value.int .i64 (-1)) := by simp [fil]
theorem fil_at (n k j : Nat) (h : k ≤ n) (hj : j < k) : (fil n k)[j]? = some (.int .i64 (-1)) := by
 unfold fil; rw [List.getElem?_append_left (by simpa using hj)]; simp [hj]
theorem made_0 (n : Nat) : madeCells (Value.int .i64 0).cells n = (List.replicate n (Value.int .i64 0)).toArray := by
 apply Array.ext'
 have := toList_madeCells_one (Value.int .i64 0) n
 rw [show (Value.int IntKind.i64 0).cells = #[Value.int IntKind.i64 0] from rfl, this]
/-- a row of noughts, made by the call -/
theorem Ro.made (w : World) (n : Nat) (hn : n ≤ 1048576) : Ro (w.alloc (.cells (madeCells (Value.int .i64 0).cells n) 3)) w.heap.size (.slice (some ⟨w.heap.size, 0, none⟩) n n) (List.replicate n 0) := by
 refine ⟨by simp [iv], .inr ⟨w.heap.size, n, madeCells (Value.int .i64 0).cells n, by simp, Nat.le_refl _, heap_alloc_new _ _, by simp, by unfold maxLen; omega, by rw [size_madeCells]; omega, ?_⟩⟩
 rw [made_0]; simp [iv]
theorem Ro.fil {w : World} {g n cap : Nat} (h : w.heap[g]? = some (.cells (fil n n).toArray 3 (0, 0))) (hn : n ≤ 1048576) (N : Nat) (hN : N ≤ g) : Ro w N (.slice (some ⟨g, 0, none⟩) n n) (List.replicate n (-1)) := by
 refine ⟨by simp [iv], .inr ⟨g, n, _, by simp, hN, h, by simp, by unfold maxLen; omega, by simp [fil_len n n (Nat.le_refl _)], ?_⟩⟩
 rw [fil_all]; simp [iv]
theorem repeat_any (n : Nat) (h0 : 1 ≤ n) (hn : n ≤ 1048576) (xb xo : Nat) (w : World) (hx : w.cell? ⟨xb, xo, none⟩ = some (.int .i64 (-1))) :
    Calls Tryz.prog 30 #[.slice (some ⟨xb, xo, none⟩) 1 1, .int .i64 (n : Int)] w fun e w' => ∃ v, e = .returned v ∧ Ro w' w.heap.size v (List.replicate n (-1)) ∧ Below w.heap.size w w' := by
 obtain ⟨i0, hi, hz0, hz1, hz2⟩ := info_parts infoN
 have hsz : (Tryz.prog.info? 3).map (·.size) = some 1 := by rw [hi]; simp [hz1]
 have hmk := fun wx => run_make (P := Tryz.prog) wx 31 3 i0 (.int .i64 0) Tryz.underlying31 hi hz0 .i64 .i64 (n : Int) (n : Int) (by omega) (by omega) (by rw [hz2]; omega) (by omega)
 rw [hz1] at hmk
 simp only [Int.toNat_natCast, Nat.mul_one] at hmk
 have hw1 : Below w.heap.size w (w.alloc (.cells (madeCells (Value.int .i64 0).cells n) 3)) := (Below.refl _ _).alloc (Nat.le_refl _) _
 have hxl := World.block_lt_of_cell? w _ hx
 have hx1 : (w.alloc (.cells (madeCells (Value.int .i64 0).cells n) 3)).cell? ⟨xb, xo, none⟩ = some (.int .i64 (-1)) := (hw1.cell (p := ⟨xb, xo, none⟩) hxl).trans hx
 have hrow1 : (w.alloc (.cells (madeCells (Value.int .i64 0).cells n) 3)).heap[w.heap.size]? = some (.cells (fil n 0).toArray 3 (0, 0)) := by
  rw [made_0]; exact heap_alloc_new _ _
 have hni : (n : Int) ≤ 1048576 := by omega
 have hni0 : (1 : Int) ≤ n := by omega
 have hm1 : 1 * n / 18446744073709551616 = 0 := by omega
 have hm2 : 1 * n % 18446744073709551616 = n := by omega
 have hcm : ∀ W, Calls Tryz.prog 56 #[.int .u64 (1 : Nat), .int .u64 (n : Int)] W fun e w' => e = .returned (.tuple #[.int .u64 (0 : Nat), .int .u64 (n : Int)]) ∧ W = w' := fun W => (Tryz.bits_Mul 1 n (by omega) (by omega) W).mono fun e w' h => by rw [hm1, hm2] at h; exact ⟨h.1, h.2.symm⟩
 have HX := hide hx1; have HR := hide hrow1; have HW := hide hw1; have HN := hide hn; have H0 := hide h0
 have HXl := hide hxl
 clear hx hxl hx1 hrow1 hw1 hn h0 hm1 hm2
 go_enter Tryz.func30, Tryz.ntmps30
 go_wp2_with (first
  | (go_at_call 56; refine (hcm _).mono ?_; rintro e w1 ⟨rfl, rfl⟩)
  | (refine wpList_copy_splice rfl (.tmp 31) (.tmp 32) 31 31 rfl 3 Tryz.underlying31 hsz _ _ _ _ _ _ rfl rfl w.heap.size 0 (fil n 0) 3 (unhide HR) (mn 1) ?hn ?hpos ?hfit ?h1 w.heap.size w (unhide HW) (Nat.le_refl _) ?_))
 case hn => rw [mn_len]; have := unhide H0; show 1 = min 1 n; omega
 case hpos =>
  have H : ∀ j v, (mn 1)[j]? = some v → (w.alloc (.cells (madeCells (Value.int .i64 0).cells n) 3)).cell? ⟨xb, xo + j, none⟩ = some v := fun j v hj => by
   obtain ⟨h1, rfl⟩ := mn_at hj
   obtain rfl : j = 0 := by omega
   exact unhide HX
  first | exact fun _ => ⟨rfl, _, rfl, fun j v h => by simpa [Addr.add] using H j v h⟩ | exact fun _ => H
 case hfit => rw [fil_len n 0 (Nat.zero_le _), mn_len]; exact unhide H0
 case h1 => exact mn_one 1
 intro w2 hg2 hb2
 rw [fil_more n 0 1 (by have := unhide H0; omega)] at hg2
 have HG := hide hg2; have HB := hide hb2
 clear hg2 hb2 hcm hmk
 go_wp2_with fail
 go_loopw [8] (fun c wr => ∃ k : Nat, 1 ≤ k ∧ k ≤ n ∧ c = .int .i64 (k : Int) ∧ wr.heap[w.heap.size]? = some (.cells (fil n k).toArray 3 (0, 0)) ∧ Below w.heap.size w wr) (fun c _ => n - (intOf c).toNat)
 case atStart => exact ⟨1, Nat.le_refl _, unhide H0, rfl, unhide HG, unhide HB⟩
 case round =>
  obtain ⟨k, hk1, hk, rfl, hgk, hbk⟩ := hrel
  by_cases hlt : k < n
  ·have hgl := (Array.getElem?_eq_some_iff.1 hgk).1
   have HGk := hide (show wr.drew.heap[w.heap.size]? = some (.cells (fil n k).toArray 3 (0, 0)) from hgk); have HBk := hide (show Below w.heap.size w wr.drew from ⟨hbk.os, hbk.tape, hbk.output, hbk.size, hbk.block⟩)
   clear hgk hbk
   obtain ⟨m, hm⟩ : ∃ m, m = min k (n - k) := ⟨_, rfl⟩
   have HM := hide hm
   clear hm
   have hne : ¬ n = k := by omega
   have hli : (k : Int) < n := by omega
   have HK1 := hide hk1; have HLt := hide hlt
   clear hlt hk1
   have hm : m = min k (n - k) := unhide HM
   have hmk : k + m ≤ n := by omega
   obtain ⟨W4, hcp, hW4, hB4⟩ : ∃ W4, (Builtin.copy_ #[31, 31] 3 #[.slice (some ⟨w.heap.size, k, none⟩) (n - k) (n - k), .slice (some ⟨w.heap.size, 0, none⟩) k n]).run Tryz.prog wr.drew = .ok (goInt m) W4 ∧ W4.heap[w.heap.size]? = some (.cells (fil n (k + m)).toArray 3 (0, 0)) ∧ Below w.heap.size w W4 := by
    have h1 := run_copy_row (P := Tryz.prog) wr.drew 31 31 3 3 w.heap.size k (n - k) (n - k) ⟨w.heap.size, 0, none⟩ k n (fil n k).toArray 3 (mn m) Tryz.underlying31 hsz (unhide HGk) (by rw [mn_len, hm])
     (fun j v hj => by
      obtain ⟨h2, rfl⟩ := mn_at hj
      have h3 := cell_of_row wr.drew w.heap.size j _ _ _ (unhide HGk)
      rw [List.getElem?_toArray, fil_at n k j hk (by omega)] at h3
      rw [addr_add0, Nat.zero_add]; exact h3) (by rw [mn_len]; simp [fil_len n k hk]; exact hmk) (mn_one m)
    rw [mn_len] at h1
    refine ⟨_, h1, ?_, below_setRow (unhide HBk) (Nat.le_refl _) _⟩
    rw [setRow_heap wr.drew w.heap.size _ _ _ _ (unhide HGk)]
    rw [← fil_more n k m hmk]; simp [splice, mn_len]
   have HW4 := hide hW4; have HB4 := hide hB4; have HMk := hide hmk
   have hmi : (m : Int) ≤ 1048576 := by omega
   have hmp : 1 ≤ m := by have := unhide HK1; omega
   have HMp := hide hmp
   clear hW4 hB4 hmk hm hmp
   go_wp2_with fail
   go_region
   go_wp2_with fail
   go_roundw
   case rel => exact ⟨k + m, by have := unhide HK1; omega, unhide HMk, by go_num, unhide HW4, unhide HB4⟩
   case measure => have := unhide HMk; have := unhide HMp; simp [intOf]; omega
  ·obtain rfl : k = n := by omega
   have hro := Ro.fil (cap := k) hgk (unhide HN) w.heap.size (Nat.le_refl _)
   have HRo := hide hro; have HBk := hide hbk
   clear hro hbk hgk hlt hk hk1
   go_wp2_with fail
   go_ret
   exact ⟨_, rfl, unhide HRo, unhide HBk⟩
end Fw
namespace Fw
open Vc (NumsL Nums Lies LL Bls BlC InC Bl In Co infoN own_base)
/- flow: the walk whole; rows turned round, and sorted. -/
theorem Ro.cur {w : World} {N g n cap : Nat} {l : List Int} (h : Ro w N (.slice (some ⟨g, 0, none⟩) n cap) l) : ∃ cur : Array Value, w.heap[g]? = some (.cells cur 3 (0, 0)) ∧ n = l.length ∧ l.length ≤ cap ∧ cap ≤ maxLen ∧ cur.size = cap * 1 ∧ cur.toList.take l.length = l.map (Value.int .i64) ∧ N ≤ g := by
 rcases h.2 with ⟨e, _⟩ | ⟨g', cap', cur, e, h2, h3, h4, h5, h6, h7⟩
 ·cases e
 ·simp only [Value.slice.injEq, Option.some.injEq, Addr.mk.injEq] at e
  obtain ⟨⟨rfl, -⟩, rfl, rfl⟩ := e
  exact ⟨cur, h3, rfl, h4, h5, h6, by rw [Nat.mul_one] at h7; exact h7, h2⟩
theorem below_grownBy {w w' : World} {N g : Nat} (hg : w.grownBy w' (some g)) (hN : N ≤ g) (hl : g < w.heap.size) : Below N w w' := (Below.refl N w).grown hg (by omega) (fun k e => by cases e; exact hN)
theorem sort_ro {w : World} {N : Nat} {v : Value} {l : List Int} (h : Ro w N v l) (h0 : 0 < l.length) (hl : l.length ≤ 1048576) :
    Calls Tryz.prog 67 #[v] w fun e w' => e = .returned (.tuple #[]) ∧ Ro w' N v (l.mergeSort fun x y => decide (x ≤ y)) ∧ Below N w w' := by
 obtain ⟨g, cap, rfl, hN, hgl, _, _, _⟩ := h.at_ h0
 obtain ⟨cur, hc, -, h4, h5, h6, h7, _⟩ := h.cur
 refine (Tryz.slices_Sort_int g 0 cap l w (holds_of_blockI hc h7) hgl (by omega)).mono ?_
 rintro e w' ⟨rfl, n, os, rfl⟩
 have hr := ownsRow_sortedI (base := N) (n := n) (os := os) (ss := l) (ts := l.mergeSort fun x y => decide (x ≤ y)) (by simp) hN hc h4 h5 h6
 have hg := grownBy_sortedI (w := w) (g := g) (n := n) (os := os) (l.mergeSort fun x y => decide (x ≤ y)).toArray
 refine ⟨rfl, ?_, below_grownBy hg hN hgl⟩
 unfold Ro; rw [List.length_mergeSort]; exact hr
theorem set5 (w : World) (b : Nat) (c0 c1 c2 c3 c4 : Value) (t : TypeId) (u0 u1 u2 u3 u4 : Value) (h : w.heap[b]? = some (.cells #[c0, c1, c2, c3, c4] t (0, 0))) :
    (((((w.setCell ⟨b, 0, none⟩ u0).setCell ⟨b, 1, none⟩ u1).setCell ⟨b, 2, none⟩ u2).setCell ⟨b, 3, none⟩ u3).setCell ⟨b, 4, none⟩ u4).heap[b]? = some (.cells #[u0, u1, u2, u3, u4] t (0, 0)) := by
 have h0 := (heap_setCell_same w b 0 _ _ u0 h).trans rfl
 have h1 := (heap_setCell_same _ b 1 _ _ u1 h0).trans rfl
 have h2 := (heap_setCell_same _ b 2 _ _ u2 h1).trans rfl
 have h3 := (heap_setCell_same _ b 3 _ _ u3 h2).trans rfl
 exact (heap_setCell_same _ b 4 _ _ u4 h3).trans rfl
theorem bel5 {w w' : World} {N : Nat} (b : Nat) (hb : N ≤ b) (h : Below N w w') (u0 u1 u2 u3 u4 : Value) : Below N w (((((w'.setCell ⟨b, 0, none⟩ u0).setCell ⟨b, 1, none⟩ u1).setCell ⟨b, 2, none⟩ u2).setCell ⟨b, 3, none⟩ u3).setCell ⟨b, 4, none⟩ u4) :=
 ((((h.setCell (p := ⟨b, 0, none⟩) hb _).setCell (p := ⟨b, 1, none⟩) hb _).setCell (p := ⟨b, 2, none⟩) hb _).setCell (p := ⟨b, 3, none⟩) hb _).setCell (p := ⟨b, 4, none⟩) hb _
theorem oth5 (w : World) (b k : Nat) (hk : k ≠ b) (u0 u1 u2 u3 u4 : Value) : (((((w.setCell ⟨b, 0, none⟩ u0).setCell ⟨b, 1, none⟩ u1).setCell ⟨b, 2, none⟩ u2).setCell ⟨b, 3, none⟩ u3).setCell ⟨b, 4, none⟩ u4).heap[k]? = w.heap[k]? := by
 rw [heap_setCell_other _ _ _ _ (by exact hk), heap_setCell_other _ _ _ _ (by exact hk), heap_setCell_other _ _ _ _ (by exact hk), heap_setCell_other _ _ _ _ (by exact hk), heap_setCell_other _ _ _ _ (by exact hk)]
theorem walkOf_any (l : List Bl) (hl : Nok l) (h0 : 1 ≤ l.length) (g : Nat → Prop) (vb : Value) (w : World) (hB : Bls w g l vb) (hg : ∀ k, g k → k < w.heap.size) :
    Calls Tryz.prog 27 #[vb] w fun e w' => ∃ ve vf vt vl, e = .returned (.agg #[vb, ve, vf, vt, vl]) ∧ Ro w' w.heap.size ve (nz (walk (nxs l)).ent) ∧ Ro w' w.heap.size vf (walk (nxs l)).fr ∧ Ro w' w.heap.size vt (walk (nxs l)).tn ∧ Ro w' w.heap.size vl (nz (walk (nxs l)).lf) ∧ Below w.heap.size w w' := by
 obtain ⟨va, vc, rfl, -, -, -⟩ := id hB
 have hB' : Bls w (fun k => k < w.heap.size) l (.slice va l.length vc) := hB.moved (fun k _ h => ⟨hg k h, rfl⟩) (Nat.le_refl _)
 have hlen := hl.len
 obtain ⟨n, hn⟩ : ∃ n, n = l.length := ⟨_, rfl⟩
 rw [← hn] at h0 hlen
 have HB := hide hB'; have HL := hide hl; have HN := hide hn; have H0 := hide h0; have HLn := hide hlen
 rw [show Calls Tryz.prog 27 #[.slice va l.length vc] w = Calls Tryz.prog 27 #[.slice va n vc] w by rw [hn]]
 clear hB hB' hl hg hn
 have hni : (n : Int) ≤ 1048576 := by omega
 clear h0 hlen
 have r0 : ((w.alloc (.cells #[.slice none 0 0, .slice none 0 0, .slice none 0 0, .slice none 0 0, .slice none 0 0] 65)).alloc (.cells #[.int .i64 (-1)] 3)).heap[w.heap.size]? = some (.cells (wbc (.slice none 0 0) (.slice none 0 0) (.slice none 0 0) (.slice none 0 0) (.slice none 0 0)) 65 (0, 0)) := by
  rw [Below.heap_alloc _ _ _ (by simp)]; exact heap_alloc_new _ _
 have r1 : ((w.alloc (.cells #[.slice none 0 0, .slice none 0 0, .slice none 0 0, .slice none 0 0, .slice none 0 0] 65)).alloc (.cells #[.int .i64 (-1)] 3)).cell? ⟨w.heap.size + 1, 0, none⟩ = some (.int .i64 (-1)) := by
  have := heap_alloc_new (w.alloc (.cells #[.slice none 0 0, .slice none 0 0, .slice none 0 0, .slice none 0 0, .slice none 0 0] 65)) (.cells #[.int .i64 (-1)] 3)
  rw [show (w.alloc (.cells #[.slice none 0 0, .slice none 0 0, .slice none 0 0, .slice none 0 0, .slice none 0 0] 65)).heap.size = w.heap.size + 1 by simp] at this
  rw [cell_of_row _ _ _ _ _ _ this]; rfl
 have hb2 : Below w.heap.size w ((w.alloc (.cells #[.slice none 0 0, .slice none 0 0, .slice none 0 0, .slice none 0 0, .slice none 0 0] 65)).alloc (.cells #[.int .i64 (-1)] 3)) := Vc.two_allocs w _ _
 have hz2 : ((w.alloc (.cells #[.slice none 0 0, .slice none 0 0, .slice none 0 0, .slice none 0 0, .slice none 0 0] 65)).alloc (.cells #[.int .i64 (-1)] 3)).heap.size = w.heap.size + 2 := by simp
 have R0 := hide r0; have R1 := hide r1; have HB2 := hide hb2; have HZ2 := hide hz2
 clear r0 r1 hb2 hz2
 go_enter Tryz.func27, Tryz.ntmps27
 go_wp2_with (go_at_call 30; refine (repeat_any n (unhide H0) (unhide HLn) _ _ _ (unhide R1)).mono ?_)
 rintro e w3 ⟨vt, rfl, hrt, hb3⟩
 generalize ((w.alloc (.cells #[.slice none 0 0, .slice none 0 0, .slice none 0 0, .slice none 0 0, .slice none 0 0] 65)).alloc (.cells #[.int .i64 (-1)] 3)) = W2 at *
 obtain ⟨gt, ct, rfl, hgt, hgl, -, -, -⟩ := hrt.at_ (by simp; exact unhide H0)
 rw [List.length_replicate] at hrt ⊢
 have hbe : Below w.heap.size w w3 := (unhide HB2).trans (hb3.mono (unhide HB2).size)
 have hrb := (hb3.block w.heap.size (by have := unhide HZ2; omega)).trans (unhide R0)
 obtain ⟨x0, x1, x2, x3, x4, xf, xl⟩ := wb_cells hrb
 have hz3 : W2.heap.size ≤ w3.heap.size := hb3.size
 have HRt := hide hrt; have HBe := hide hbe; have HRb := hide hrb; have HZ3 := hide hz3; have HGt := hide hgt
 clear hrt hb3 hbe hrb hz3 hgt hgl
 go_upto_region 2 with fail
 have hW4 : Wb (w3.alloc (.cells (wbc (.slice va n vc) (.slice none 0 0) (.slice none 0 0) (.slice (some ⟨gt, 0, none⟩) n ct) (.slice none 0 0)) 65)) (w.heap.size + 1) w3.heap.size (.slice va n vc) (start n) (.slice none 0 0) (.slice none 0 0) (.slice (some ⟨gt, 0, none⟩) n ct) (.slice none 0 0) := by
  have hnil : ∀ W : World, Ro W (w.heap.size + 1) (.slice none 0 0) [] := fun W => World.ownsRow_nil _ _ _ _
  refine ⟨heap_alloc_new _ _, ?_, hnil _, hnil _, ?_, hnil _, ?_, ?_, ?_, ?_, ?_, ?_⟩
  ·have := unhide HZ2; have := unhide HZ3; omega
  ·have h1 : Ro w3 (w.heap.size + 1) (.slice (some ⟨gt, 0, none⟩) n ct) (start n).tn := by have := unhide HRt; unfold Ro; rw [show (start n).tn.length = n by simp [start]]; unfold Ro at this; rw [List.length_replicate] at this; exact own_base this (by have := unhide HZ2; omega)
   exact h1.below (Vc.one_alloc w3 _)
  all_goals (intro k h1 h2; simp [Value.ownBlock] at h1 h2)
 have hb4 := Vc.one_alloc w3 (.cells (wbc (.slice va n vc) (.slice none 0 0) (.slice none 0 0) (.slice (some ⟨gt, 0, none⟩) n ct) (.slice none 0 0)) 65)
 have HW4 := hide hW4; have HB4 := hide hb4
 clear hW4 hb4
 rw [show w3.alloc (.cells #[.slice va n vc, .slice none 0 0, .slice none 0 0, .slice (some ⟨gt, 0, none⟩) n ct, .slice none 0 0] 65) = w3.alloc (.cells (wbc (.slice va n vc) (.slice none 0 0) (.slice none 0 0) (.slice (some ⟨gt, 0, none⟩) n ct) (.slice none 0 0)) 65) from rfl]
 generalize w3.alloc (.cells (wbc (.slice va n vc) (.slice none 0 0) (.slice none 0 0) (.slice (some ⟨gt, 0, none⟩) n ct) (.slice none 0 0)) 65) = W4 at *
 have hcB : Below w.heap.size w W4 := (unhide HBe).trans ((unhide HB4).mono (by have := unhide HZ2; have := unhide HZ3; omega))
 have hq : W4.heap[w.heap.size]? = some (.cells (wbc (.slice none 0 0) (.slice none 0 0) (.slice none 0 0) (.slice none 0 0) (.slice none 0 0)) 65 (0, 0)) := ((unhide HB4).block _ xl).trans (unhide HRb)
 have HCB := hide hcB; have HQ := hide hq
 clear hcB hq x0 x1 x2 x3 x4 xf xl
 have hnn : n = (nxs l).length := by rw [nxs_len]; exact unhide HN
 have hcall := enter_any l (unhide HL) (w.heap.size + 1) (.slice va n vc) (nxs l).length 0 (-1) (start n) (by rw [← unhide HN]; exact Inv.start n) (by rw [← hnn]; simp [start]) (by rw [← unhide HN]; exact unhide H0) (by rw [getD_get _ _ _ (by simp [start]; exact unhide H0)]; simp [start]) (by omega) (by simp [start]) w3.heap.size _ _ _ _ W4 (unhide HW4) ((show Bls w (fun k => k < w.heap.size) l (.slice va n vc) by rw [unhide HN]; exact unhide HB).moved (fun k _ hk => ⟨Nat.lt_succ_of_lt hk, (unhide HCB).block k hk⟩) (unhide HCB).size)
 rw [← show start (nxs l).length = start n by rw [← hnn]] at hcall
 have HCall := hide hcall
 clear hcall hnn
 go_wp2_with (go_at_call 55; refine (unhide HCall).mono ?_; rintro e w5 ⟨rfl, ⟨ve, vf, vl, hW5⟩, hb5⟩; generalize hs : go (nxs l) (nxs l).length 0 (-1) (start (nxs l).length) = s at hW5; have HS := hide hs; clear hs; obtain ⟨ea, ec, rfl, -⟩ := hW5.re.sl; obtain ⟨fa, fc, rfl, -⟩ := hW5.rf.sl; obtain ⟨la, lc, rfl, -⟩ := hW5.rl.sl; obtain ⟨c0, c1, c2, c3, c4, cf, cl⟩ := wb_cells hW5.bx; have hq5 := (hb5.block w.heap.size (Nat.lt_succ_self _)).trans (unhide HQ); obtain ⟨x0, x1, x2, x3, x4, xf, xl⟩ := wb_cells hq5; have HQ5 := hide hq5; clear hq5; have HW5 := hide hW5; have HB5 := hide hb5; clear hW5 hb5)
 have hr := set5 w5 w.heap.size _ _ _ _ _ _ (.slice va n vc) (.slice ea (nz s.ent).length ec) (.slice fa s.fr.length fc) (.slice (some ⟨gt, 0, none⟩) n ct) (.slice la (nz s.lf).length lc) (unhide HQ5)
 have hbf := bel5 w.heap.size (Nat.le_refl _) ((unhide HCB).trans ((unhide HB5).mono (Nat.le_succ _))) (.slice va n vc) (.slice ea (nz s.ent).length ec) (.slice fa s.fr.length fc) (.slice (some ⟨gt, 0, none⟩) n ct) (.slice la (nz s.lf).length lc)
 have ho := fun k hk => oth5 w5 w.heap.size k hk (.slice va n vc) (.slice ea (nz s.ent).length ec) (.slice fa s.fr.length fc) (.slice (some ⟨gt, 0, none⟩) n ct) (.slice la (nz s.lf).length lc)
 have k1 := (unhide HW5).re.keep fun k hk => ho k (by have := ((unhide HW5).re.lt k hk).1; omega)
 have k2 := (unhide HW5).rf.keep fun k hk => ho k (by have := ((unhide HW5).rf.lt k hk).1; omega)
 have k3 := (unhide HW5).rt.keep fun k hk => ho k (by have := ((unhide HW5).rt.lt k hk).1; omega)
 have k4 := (unhide HW5).rl.keep fun k hk => ho k (by have := ((unhide HW5).rl.lt k hk).1; omega)
 have HR := hide hr; have HBf := hide hbf; have K1 := hide (k1.base (Nat.le_succ _)); have K2 := hide (k2.base (Nat.le_succ _)); have K3 := hide (k3.base (Nat.le_succ _)); have K4 := hide (k4.base (Nat.le_succ _))
 clear hr hbf ho k1 k2 k3 k4 HW5
 generalize ((((w5.setCell ⟨w.heap.size, 0, none⟩ (.slice va n vc)).setCell ⟨w.heap.size, 1, none⟩ (.slice ea (nz s.ent).length ec)).setCell ⟨w.heap.size, 2, none⟩ (.slice fa s.fr.length fc)).setCell ⟨w.heap.size, 3, none⟩ (.slice (some ⟨gt, 0, none⟩) n ct)).setCell ⟨w.heap.size, 4, none⟩ (.slice la (nz s.lf).length lc) = W6 at *
 obtain ⟨y0, y1, y2, y3, y4, yf, yl⟩ := wb_cells (unhide HR)
 have hfin : Ro W6 w.heap.size (.slice ea (nz s.ent).length ec) (nz (walk (nxs l)).ent) ∧ Ro W6 w.heap.size (.slice fa s.fr.length fc) (walk (nxs l)).fr ∧ Ro W6 w.heap.size (.slice (some ⟨gt, 0, none⟩) n ct) (walk (nxs l)).tn ∧ Ro W6 w.heap.size (.slice la (nz s.lf).length lc) (nz (walk (nxs l)).lf) ∧ Below w.heap.size w W6 := by
  rw [show walk (nxs l) = s from unhide HS]; exact ⟨unhide K1, unhide K2, unhide K3, unhide K4, unhide HBf⟩
 refine bodyPost_ret (v := .agg #[.slice va n vc, .slice ea (nz s.ent).length ec, .slice fa s.fr.length fc, .slice (some ⟨gt, 0, none⟩) n ct, .slice la (nz s.lf).length lc]) (by simp [results, Tryz.results27, go_sem, y0, y1, y2, y3, y4]) rfl ⟨_, _, _, _, by rw [unhide HN], hfin⟩
/- flow: rows of rows that grow; what is ahead of each block. -/
/-- a row of rows of the call's own -/
structure Gr (w : World) (N B : Nat) (cs : Array Value) (ll : List (List Nat)) : Prop where
 bx : w.heap[B]? = some (.cells cs 31 (0, 0))
 nb : N ≤ B
 sz : cs.size = ll.length
 row : ∀ (i : Nat) (l : List Nat), ll[i]? = some l → ∃ v, cs[i]? = some v ∧ Ro w N v (nz l)
 ap : ∀ (i j : Nat) (v v' : Value), i ≠ j → cs[i]? = some v → cs[j]? = some v' → Ap v v'
theorem Gr.lt {w : World} {N B : Nat} {cs : Array Value} {ll : List (List Nat)} (h : Gr w N B cs ll) : B < w.heap.size := (Array.getElem?_eq_some_iff.1 h.bx).1
theorem Gr.below {w w' : World} {N B : Nat} {cs : Array Value} {ll : List (List Nat)} (h : Gr w N B cs ll) (hb : Below w.heap.size w w') : Gr w' N B cs ll :=
 ⟨(hb.block B h.lt).trans h.bx, h.nb, h.sz, fun i l hl => let ⟨v, h1, h2⟩ := h.row i l hl; ⟨v, h1, h2.below hb⟩, h.ap⟩
theorem Gr.start (w : World) (n : Nat) : Gr (w.alloc (.cells (madeCells #[.slice none 0 0] n) 31)) w.heap.size w.heap.size (madeCells #[.slice none 0 0] n) (List.replicate n []) := by
 have hc : ∀ (i : Nat) (v : Value), (madeCells #[Value.slice none 0 0] n)[i]? = some v → v = .slice none 0 0 := fun i v h => by
  have e := toList_madeCells_one (Value.slice none 0 0) n
  rw [← Array.getElem?_toList, e, List.getElem?_replicate] at h
  split at h
  ·exact (Option.some.inj h).symm
  ·cases h
 refine ⟨heap_alloc_new _ _, Nat.le_refl _, by simp [size_madeCells], fun i l hl => ?_, fun i j v v' _ h1 h2 k h3 _ => by rw [hc i v h1] at h3; cases h3⟩
 have hi := (List.getElem?_eq_some_iff.1 hl).1
 rw [List.getElem?_replicate] at hl
 split at hl
 ·cases hl
  refine ⟨_, Array.getElem?_eq_getElem (by rw [size_madeCells]; assumption), ?_⟩
  rw [hc i _ (Array.getElem?_eq_getElem (by rw [size_madeCells]; assumption))]
  exact World.ownsRow_nil _ _ _ _
 ·cases hl
theorem Gr.push {w w2 : World} {N B i : Nat} {cs : Array Value} {ll : List (List Nat)} {l : List Nat} {v v' : Value} (h : Gr w N B cs ll) (hl : ll[i]? = some l) (hv : cs[i]? = some v) {x : Nat} (hown : w2.ownsRow N 3 1 v' ((nz l).length + 1) (iv (nz l) ++ [.int .i64 (x : Int)])) (hg : w.grownBy w2 v.ownBlock) (hat : v'.ownBlock = v.ownBlock ∨ ∃ j, w.heap.size ≤ j ∧ v'.ownBlock = some j) :
    w2.heap[B]? = some (.cells cs 31 (0, 0)) ∧ Gr (w2.setCell ⟨B, i, none⟩ v') N B (cs.setIfInBounds i v') (ll.set i (l ++ [x])) ∧ Below N w (w2.setCell ⟨B, i, none⟩ v') := by
 have hlt := h.lt
 have hil := (List.getElem?_eq_some_iff.1 hl).1
 obtain ⟨v0, e0, hr0⟩ := h.row i l hl
 rw [hv] at e0; cases e0
 have hne := row_ne h.bx (by decide) hr0
 have hN2 : w2.heap[B]? = some (.cells cs 31 (0, 0)) := (hg.block B hlt (fun e => (hne B e.symm).1 rfl)).trans h.bx
 have hr2 : Ro w2 N v' (nz (l ++ [x])) := by unfold Ro; rw [nz_app, iv_app, List.length_append]; exact hown
 have hne2 := row_ne hN2 (by decide) hr2
 have hr : Ro (w2.setCell ⟨B, i, none⟩ v') N v' (nz (l ++ [x])) := hr2.keep fun j hj => heap_setCell_other w2 ⟨B, i, none⟩ j _ (hne2 j hj).1
 have hsz := h.sz
 have hcs : ∀ j, (cs.setIfInBounds i v')[j]? = if i = j then some v' else cs[j]? := fun j => by
  rw [Array.getElem?_setIfInBounds]
  by_cases e : i = j
  ·subst e; simp; omega
  ·simp [e]
 refine ⟨hN2, ⟨(heap_setCell_same w2 B i _ _ _ hN2).trans rfl, h.nb, by simp [hsz], fun j m hm => ?_, fun j k u u' hjk h1 h2 => ?_⟩, ?_⟩
 ·rw [hcs]
  rw [List.getElem?_set] at hm
  by_cases e : i = j
  ·subst e
   rw [if_pos rfl, if_pos hil] at hm
   cases hm
   exact ⟨v', by simp, hr⟩
  ·rw [if_neg e] at hm
   rw [if_neg e]
   obtain ⟨u, k1, k2⟩ := h.row j m hm
   refine ⟨u, k1, k2.keep fun k hk => ?_⟩
   have q := row_ne h.bx (by decide) k2 k hk
   rw [heap_setCell_other w2 ⟨B, i, none⟩ k _ q.1]
   exact hg.block k q.2.1 fun e2 => h.ap i j v u e hv k1 k e2.symm hk
 ·rw [hcs] at h1 h2
  have old : ∀ j u, i ≠ j → cs[j]? = some u → Ap v' u := fun j u hij hu => by
   have hj : j < ll.length := by rw [← hsz]; exact (Array.getElem?_eq_some_iff.1 hu).1
   obtain ⟨u0, k1, k2⟩ := h.row j _ (List.getElem?_eq_getElem hj)
   rw [hu] at k1; cases k1
   exact (h.ap i j v u hij hv hu).left hat k2
  by_cases e1 : i = j
  ·rw [if_pos e1] at h1; cases h1
   by_cases e2 : i = k
   ·omega
   ·rw [if_neg e2] at h2; exact old k u' e2 h2
  ·rw [if_neg e1] at h1
   by_cases e2 : i = k
   ·rw [if_pos e2] at h2; cases h2; exact (old j u e1 h1).symm
   ·rw [if_neg e2] at h2; exact h.ap j k u u' hjk h1 h2
 ·have hb : Below N w w2 := (Below.refl N w).grown hg (Nat.le_of_lt (Nat.lt_of_le_of_lt h.nb hlt)) (fun k e => (hne k e).2.2)
  exact hb.setCell (p := ⟨B, i, none⟩) h.nb _
/-- one row, as a slice that may be read -/
theorem Gr.at_ {w : World} {N B i : Nat} {cs : Array Value} {ll : List (List Nat)} (h : Gr w N B cs ll) (hi : i < ll.length) : ∃ a c, w.cell? ⟨B, i, none⟩ = some (.slice a (ll.getD i []).length c) ∧ cs[i]? = some (.slice a (ll.getD i []).length c) ∧ Ro w N (.slice a (ll.getD i []).length c) (nz (ll.getD i [])) ∧ ll[i]? = some (ll.getD i []) ∧ w.frozen? ⟨B, i, none⟩ = false := by
 have e := get?_getD ll i [] hi
 obtain ⟨v, h1, h2⟩ := h.row i _ e
 obtain ⟨a, c, rfl, -⟩ := h2.sl
 rw [nz_len] at h1 h2
 exact ⟨a, c, by rw [cell_of_row w B i _ _ _ h.bx]; exact h1, h1, h2, e, frozen_of_row w B i _ _ h.bx⟩
/-- rows that are only read -/
def RwC (w : World) (g : Nat → Prop) (l : List Nat) (cs : List Value) : Prop := ∃ v, cs = [v] ∧ NumsL w g (nz l) v
def Rws (w : World) (g : Nat → Prop) (ll : List (List Nat)) (v : Value) : Prop := LL RwC 1 w g ll v
theorem Gr.rws {w : World} {N B n : Nat} {cs : Array Value} {ll : List (List Nat)} (h : Gr w N B cs ll) (hn : n = ll.length) : Rws w (fun k => N ≤ k ∧ k < w.heap.size) ll (.slice (some ⟨B, 0, none⟩) n n) := by
 subst hn
 refine ⟨_, _, rfl, Nat.le_refl _, (by intro h; cases h), fun _ => ⟨B, 0, rfl, ⟨h.nb, h.lt⟩, h.lt, fun i x hx => ?_⟩⟩
 obtain ⟨v, h1, h2⟩ := h.row i x hx
 refine ⟨[v], rfl, ⟨v, rfl, h2.nums⟩, fun j u hu => ?_⟩
 cases j with
 | zero => cases hu; rw [Nat.zero_add, Nat.mul_one, Nat.add_zero, cell_of_row w B i _ _ _ h.bx]; exact h1
 | succ j => simp at hu
theorem Rws.moved {w w' : World} {g g' : Nat → Prop} (hm : Vc.Mv w w' g g') (hs : w.heap.size ≤ w'.heap.size) {ll : List (List Nat)} {v : Value} (h : Rws w g ll v) : Rws w' g' ll v :=
 LL.moved hm hs (fun x cs ⟨v, e, h⟩ => ⟨v, e, h.moved hm⟩) h
theorem Rws.at_ {w : World} {g : Nat → Prop} {ll : List (List Nat)} {a : Option Addr} {n c i : Nat} (h : Rws w g ll (.slice a n c)) (hi : i < ll.length) : ∃ B o v, a = some ⟨B, o, none⟩ ∧ g B ∧ B < w.heap.size ∧ w.cell? ⟨B, o + i, none⟩ = some v ∧ NumsL w g (nz (ll.getD i [])) v := by
 obtain ⟨a', cap, e, h2, h3, h4⟩ := h
 obtain ⟨B, o, rfl, hg, hlt, hp⟩ := h4 (by omega)
 obtain ⟨cs, hc, ⟨v, rfl, hv⟩, hce⟩ := hp i _ (get?_getD ll i [] hi)
 cases e
 have := hce 0 v rfl
 rw [Nat.mul_one, Nat.add_zero] at this
 exact ⟨B, o, v, rfl, hg, hlt, this, hv⟩
end Fw
end Go.Proofs.YtglehoekehiaiaaGreatDoor
