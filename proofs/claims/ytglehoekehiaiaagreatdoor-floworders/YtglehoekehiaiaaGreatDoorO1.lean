/- O1: what follows, part by part: each part tells what it holds. -/
import Derived.Test.YtglehoekehiaiaaGreatDoorK16
import Derived.Test.YtglehoekehiaiaaGreatDoorK7
namespace Go.Proofs.YtglehoekehiaiaaGreatDoor
open Go.RowKit
set_option linter.unusedVariables false
set_option linter.unusedSimpArgs false
set_option maxRecDepth 100000
set_option maxHeartbeats 32000000
namespace Fw
/- flow: the walk as it goes in depth: turns, who is ahead of whom on its ways. -/
theorem gapp {α : Type} (l r : List α) (i : Nat) (d : α) (h : i < l.length) : (l ++ r).getD i d = l.getD i d := by
 rw [List.getD_eq_getElem?_getD, List.getD_eq_getElem?_getD, List.getElem?_append_left h]
theorem gapp1 {α : Type} (l : List α) (x d : α) : (l ++ [x]).getD l.length d = x := by
 rw [List.getD_eq_getElem?_getD, List.getElem?_append_right (Nat.le_refl _), Nat.sub_self]; rfl
/-- on the walk's way to it, or it -/
def Anc (fr : List Int) (a b : Nat) : Prop := ∀ S : Nat → Prop, S a → (∀ b p : Nat, b < fr.length → fr.getD b 0 = (p : Int) → S p → S b) → S b
theorem Anc.refl (fr : List Int) (a : Nat) : Anc fr a a := fun S h _ => h
theorem Anc.up {fr : List Int} {a b p : Nat} (hb : b < fr.length) (e : fr.getD b 0 = (p : Int)) (h : Anc fr a p) : Anc fr a b := fun S h0 h1 => h1 b p hb e (h S h0 h1)
theorem Anc.inv {fr : List Int} {a b : Nat} (h : Anc fr a b) : a = b ∨ ∃ p : Nat, b < fr.length ∧ fr.getD b 0 = (p : Int) ∧ Anc fr a p := by
 refine h (fun b => a = b ∨ ∃ p : Nat, b < fr.length ∧ fr.getD b 0 = (p : Int) ∧ Anc fr a p) (.inl rfl) fun b p hb e hs => .inr ⟨p, hb, e, ?_⟩
 rcases hs with rfl | ⟨q, h1, h2, h3⟩
 ·exact Anc.refl _ _
 ·exact Anc.up h1 h2 h3
theorem Anc.trans {fr : List Int} {a b c : Nat} (h : Anc fr a b) (k : Anc fr b c) : Anc fr a c := k (fun c => Anc fr a c) h fun _ _ hb e hs => Anc.up hb e hs
theorem Anc.le {L : Nat} {fr : List Int} (hu : Up L fr) {a b : Nat} (h : Anc fr a b) : a ≤ b := h (fun b => a ≤ b) (Nat.le_refl _) fun b p hb e hs => by
 have := (hu.row b (by rw [← hu.len]; exact hb)).2; omega
theorem Anc.ext {fr fr' : List Int} (hl : fr.length ≤ fr'.length) (hx : ∀ i, i < fr.length → fr'.getD i 0 = fr.getD i 0) {a b : Nat} (h : Anc fr a b) : Anc fr' a b :=
 h (fun b => Anc fr' a b) (Anc.refl _ _) fun b p hb e hs => Anc.up (by omega) (by rw [hx b hb]; exact e) hs
/-- from s to s': what was gone into since comes behind t -/
structure Gd (nx : List (List Nat)) (s s' : St) (t : Nat) : Prop where
 le : s.ent.length ≤ s'.ent.length
 ent : ∀ i, i < s.ent.length → s'.ent.getD i 0 = s.ent.getD i 0
 fr : ∀ i, i < s.fr.length → s'.fr.getD i 0 = s.fr.getD i 0
 tn : ∀ x, s.tn.getD x 0 ≠ -1 → s'.tn.getD x 0 = s.tn.getD x 0
 anc : ∀ i, s.ent.length ≤ i → i < s'.ent.length → Anc s'.fr t i
 par : ∀ i, s.ent.length ≤ i → i < s'.ent.length → t < i → ∃ p : Nat, s'.fr.getD i 0 = (p : Int) ∧ Anc s'.fr p (i - 1) ∧ s'.ent.getD i 0 ∈ nx.getD (s'.ent.getD p 0) []
 suc : ∀ i, s.ent.length ≤ i → i < s'.ent.length → ∀ n ∈ nx.getD (s'.ent.getD i 0) [], s'.tn.getD n 0 ≠ -1 ∧ ∀ v : Nat, s'.tn.getD n 0 = (v : Int) → i < v → Anc s'.fr i v
 tt : (∀ i, i < s.ent.length → s.tn.getD (s.ent.getD i 0) 0 = (i : Int)) → ∀ i, i < s'.ent.length → s'.tn.getD (s'.ent.getD i 0) 0 = (i : Int)
theorem Gd.refl (nx : List (List Nat)) (s : St) (t : Nat) : Gd nx s s t := ⟨Nat.le_refl _, fun _ _ => rfl, fun _ _ => rfl, fun _ _ => rfl, fun i h1 h2 => by omega, fun i h1 h2 => by omega, fun i h1 h2 => by omega, fun h => h⟩
theorem Gd.trans {nx : List (List Nat)} {s q r : St} {t : Nat} (h : Gd nx s q t) (k : Gd nx q r t) (hq : q.fr.length = q.ent.length) (hr : r.fr.length = r.ent.length) (hs : s.fr.length = s.ent.length) (hI : ∀ i p : Nat, i < q.ent.length → q.fr.getD i 0 = (p : Int) → p < i) : Gd nx s r t := by
 have ex : ∀ {a b : Nat}, Anc q.fr a b → Anc r.fr a b := fun h1 => h1.ext (by have := k.le; omega) k.fr
 refine ⟨Nat.le_trans h.le k.le, fun i hi => (k.ent i (by have := h.le; omega)).trans (h.ent i hi), fun i hi => (k.fr i (by have := h.le; omega)).trans (h.fr i hi), fun x hx => (k.tn x (by rw [h.tn x hx]; exact hx)).trans (h.tn x hx), fun i h1 h2 => ?_, fun i h1 h2 h3 => ?_, fun i h1 h2 n hn => ?_, fun h0 => k.tt (h.tt h0)⟩
 ·by_cases e : i < q.ent.length
  ·exact ex (h.anc i h1 e)
  ·exact k.anc i (by omega) h2
 ·by_cases e : i < q.ent.length
  ·obtain ⟨p, e1, e2, e3⟩ := h.par i h1 e h3
   have hp := hI i p e e1
   exact ⟨p, by rw [k.fr i (by omega)]; exact e1, ex e2, by rw [k.ent i e, k.ent p (by omega)]; exact e3⟩
  ·exact k.par i (by omega) h2 h3
 ·by_cases e : i < q.ent.length
  ·rw [k.ent i e] at hn
   obtain ⟨e1, e2⟩ := h.suc i h1 e n hn
   rw [k.tn n e1]
   exact ⟨e1, fun v hv hi => ex (e2 v hv hi)⟩
  ·exact k.suc i (by omega) h2 n hn
theorem Inv.low {n : Nat} {s : St} (h : Inv n s) (i p : Nat) (hi : i < s.ent.length) (e : s.fr.getD i 0 = (p : Int)) : p < i := by
 have := (h.up.row i hi).2; omega
theorem go_gd (nx : List (List Nat)) (hn : In nx) : ∀ f b p s, Inv nx.length s → b < nx.length → s.tn.getD b 0 = -1 → -1 ≤ p → p < (s.ent.length : Int) → nx.length ≤ s.ent.length + f →
    Gd nx s (go nx f b p s) s.ent.length ∧ s.ent.length < (go nx f b p s).ent.length ∧ (go nx f b p s).fr.getD s.ent.length 0 = p ∧ (go nx f b p s).ent.getD s.ent.length 0 = b ∧ (go nx f b p s).tn.getD b 0 = (s.ent.length : Int) := by
 intro f
 induction f with
 | zero =>
   intro b p s h hb ht _ _ hf
   have hl : b < s.tn.length := by rw [h.tl]; exact hb
   have hc : 0 < s.tn.count (-1) := List.count_pos_iff.2 (by rw [← ht]; exact getD_mem _ _ _ hl)
   have := h.ec
   omega
 | succ f ih =>
   intro b p s h hb ht h0 h1 hf
   obtain ⟨t, e⟩ : ∃ t, t = s.ent.length := ⟨_, rfl⟩
   have hm := h.mark hb ht h0 h1
   have htl : b < s.tn.length := by rw [h.tl]; exact hb
   have hfl := h.fl
   have me : (mark s b p).ent.length = t + 1 := by simp [mark, e]
   have mb : (mark s b p).ent.getD t 0 = b := by rw [e]; exact gapp1 _ _ _
   have mf : (mark s b p).fr.getD t 0 = p := by rw [e, ← hfl]; exact gapp1 _ _ _
   have mt : (mark s b p).tn.getD b 0 = (t : Int) := by
    show (s.tn.set b _).getD b 0 = _
    rw [getD_set _ _ _ _ htl, if_pos rfl, e]
   -- the ways out of it, one after another
   have key : ∀ l : List Nat, (∀ x ∈ l, x < nx.length ∧ x ∈ nx.getD b []) → ∀ q, Inv nx.length q → Gd nx (mark s b p) q t →
       Gd nx (mark s b p) (l.foldl (way nx f (t : Int)) q) t ∧ Inv nx.length (l.foldl (way nx f (t : Int)) q) ∧ ∀ x ∈ l, (l.foldl (way nx f (t : Int)) q).tn.getD x 0 ≠ -1 ∧ ∀ v : Nat, (l.foldl (way nx f (t : Int)) q).tn.getD x 0 = (v : Int) → t < v → Anc (l.foldl (way nx f (t : Int)) q).fr t v := by
    intro l
    induction l with
    | nil => intro _ q hq hg; exact ⟨hg, hq, fun x hx => by cases hx⟩
    | cons x r ihl =>
      intro hx q hq hg
      simp only [List.foldl_cons]
      obtain ⟨hxs, hxn⟩ := hx x (List.mem_cons_self ..)
      have hqe := hg.le
      rw [me] at hqe
      have hqb : q.ent.getD t 0 = b := by rw [hg.ent t (by omega)]; exact mb
      have step : Gd nx (mark s b p) (way nx f (t : Int) q x) t ∧ Inv nx.length (way nx f (t : Int) q x) ∧ (way nx f (t : Int) q x).tn.getD x 0 ≠ -1 ∧ ∀ v : Nat, (way nx f (t : Int) q x).tn.getD x 0 = (v : Int) → t < v → Anc (way nx f (t : Int) q x).fr t v := by
       unfold way
       split
       ·rename_i hxt
        have hgi := (go_inv nx hn f x (t : Int) q hq hxs hxt (by omega) (by omega)).1
        obtain ⟨k1, k2, k3, k4, k5⟩ := ih x (t : Int) q hq hxs hxt (by omega) (by omega) (by omega)
        obtain ⟨r', hr'⟩ : ∃ r', r' = go nx f x (t : Int) q := ⟨_, rfl⟩
        rw [← hr'] at hgi k1 k2 k3 k4 k5 ⊢
        obtain ⟨u, hu⟩ : ∃ u, u = q.ent.length := ⟨_, rfl⟩
        rw [← hu] at k1 k2 k3 k4 k5 hqe
        have hf2 := hgi.fl
        have hta : Anc q.fr t (u - 1) := by
         by_cases h9 : u = t + 1
         ·rw [h9]; exact Anc.refl _ _
         ·exact hg.anc (u - 1) (by rw [me]; omega) (by omega)
        have hta2 : Anc r'.fr t (u - 1) := hta.ext (by rw [hq.fl, hf2]; exact k1.le) k1.fr
        have hup : Anc r'.fr t u := Anc.up (by omega) k3 (Anc.refl _ _)
        -- what the call made comes behind t, too
        have k6 : Gd nx q r' t := by
         refine ⟨k1.le, k1.ent, k1.fr, k1.tn, fun i i1 i2 => hup.trans (k1.anc i i1 i2), fun i i1 i2 i3 => ?_, k1.suc, k1.tt⟩
         by_cases h9 : i = u
         ·subst h9
          exact ⟨t, k3, hta2, by rw [k4, k1.ent t (by omega), hqb]; exact hxn⟩
         ·exact k1.par i i1 i2 (by rw [← hu] at i1; omega)
        refine ⟨hg.trans k6 hq.fl hf2 hm.fl (fun i p hi e => hq.low i p hi e), hgi, by rw [k5]; omega, fun v hv _ => ?_⟩
        have : v = u := by rw [k5] at hv; omega
        rw [this]; exact hup
       ·rename_i hxt
        refine ⟨hg, hq, hxt, fun v hv hi => ?_⟩
        have hvl := tn_at hq hxs
        exact hg.anc v (by rw [me]; omega) (by omega)
      obtain ⟨s1, s2, s3, s4⟩ := step
      obtain ⟨a1, a2, a3⟩ := ihl (fun y hy => hx y (List.mem_cons_of_mem _ hy)) _ s2 s1
      refine ⟨a1, a2, fun y hy => ?_⟩
      rcases List.mem_cons.1 hy with rfl | hy
      ·obtain ⟨b1, b2⟩ := way_inv nx hn f (t : Int) (by omega) r (fun z hz => (hx z (List.mem_cons_of_mem _ hz)).1) _ s2 (by have := s1.le; rw [me] at this; omega)
       -- what is marked stays so
       have stay : ∀ (r : List Nat), (∀ z ∈ r, z < nx.length) → ∀ q2, Inv nx.length q2 → t < q2.ent.length → ∀ z, q2.tn.getD z 0 ≠ -1 → (r.foldl (way nx f (t : Int)) q2).tn.getD z 0 = q2.tn.getD z 0 := by
        intro r
        induction r with
        | nil => intro _ q2 _ _ z _; rfl
        | cons c r ihr =>
          intro hc q2 hq2 hl2 z hz
          simp only [List.foldl_cons]
          have hcs := hc c (List.mem_cons_self ..)
          by_cases hct : q2.tn.getD c 0 = -1
          ·have hw : way nx f (t : Int) q2 c = go nx f c (t : Int) q2 := if_pos hct
           rw [hw]
           have hfq : nx.length ≤ q2.ent.length + f := by omega
           have hgi := (go_inv nx hn f c (t : Int) q2 hq2 hcs hct (by omega) (by omega)).1
           obtain ⟨k1, k2, -⟩ := ih c (t : Int) q2 hq2 hcs hct (by omega) (by omega) hfq
           rw [ihr (fun z hz => hc z (List.mem_cons_of_mem _ hz)) _ hgi (by omega) z (by rw [k1.tn z hz]; exact hz), k1.tn z hz]
          ·have hw : way nx f (t : Int) q2 c = q2 := if_neg hct
           rw [hw]
           exact ihr (fun z hz => hc z (List.mem_cons_of_mem _ hz)) q2 hq2 hl2 z hz
       have hst := stay r (fun z hz => (hx z (List.mem_cons_of_mem _ hz)).1) _ s2 (by have := s1.le; rw [me] at this; omega) y s3
       rw [hst]
       refine ⟨s3, fun v hv hi => ?_⟩
       have hvl := tn_at s2 hxs
       have hxl := s4 v hv hi
       refine a1.anc v (by rw [me]; omega) ?_
       have := b2.e
       omega
      ·exact a3 y hy
   obtain ⟨k1, k2, k3⟩ := key (nx.getD b []) (fun x hx => ⟨hn b x hx, hx⟩) (mark s b p) hm (Gd.refl _ _ _)
   rw [go_succ, ← e]
   obtain ⟨r, hr⟩ : ∃ r, r = (nx.getD b []).foldl (way nx f (t : Int)) (mark s b p) := ⟨_, rfl⟩
   rw [← hr] at k1 k2 k3 ⊢
   have kle := k1.le
   rw [me] at kle
   have hrb : r.ent.getD t 0 = b := by rw [k1.ent t (by omega)]; exact mb
   have hrf : r.fr.getD t 0 = p := by rw [k1.fr t (by rw [hm.fl]; omega)]; exact mf
   have hrt : r.tn.getD b 0 = (t : Int) := by rw [k1.tn b (by rw [mt]; omega)]; exact mt
   refine ⟨⟨by show s.ent.length ≤ r.ent.length; omega, fun i hi => ?_, fun i hi => ?_, fun x hx => ?_, fun i i1 i2 => ?_, fun i i1 i2 i3 => ?_, fun i i1 i2 n hnm => ?_, fun h9 => ?_⟩, by show t < r.ent.length; omega, hrf, hrb, hrt⟩
   ·show r.ent.getD i 0 = _
    rw [k1.ent i (by omega)]; exact gapp _ _ _ _ hi
   ·show r.fr.getD i 0 = _
    rw [k1.fr i (by rw [hm.fl]; omega)]; exact gapp _ _ _ _ hi
   ·show r.tn.getD x 0 = _
    have hxb : x ≠ b := fun e9 => by rw [e9] at hx; exact hx ht
    have e9 : (mark s b p).tn.getD x 0 = s.tn.getD x 0 := by
     show (s.tn.set b _).getD x 0 = _
     rw [getD_set _ _ _ _ htl, if_neg hxb]
    rw [k1.tn x (by rw [e9]; exact hx), e9]
   ·show Anc r.fr t i
    by_cases e9 : i = t
    ·rw [e9]; exact Anc.refl _ _
    ·exact k1.anc i (by omega) i2
   ·exact k1.par i (by omega) i2 i3
   ·show r.tn.getD n 0 ≠ -1 ∧ ∀ v : Nat, r.tn.getD n 0 = (v : Int) → i < v → Anc r.fr i v
    by_cases e9 : i = t
    ·rw [e9] at hnm ⊢
     have hnm2 : n ∈ nx.getD (r.ent.getD t 0) [] := hnm
     rw [hrb] at hnm2
     exact k3 n hnm2
    ·exact k1.suc i (by omega) i2 n hnm
   ·refine k1.tt fun i hi => ?_
    rw [me] at hi
    by_cases e9 : i = t
    ·rw [e9, mb]; exact mt
    ·have hi2 : i < s.ent.length := by omega
     have hse : (mark s b p).ent.getD i 0 = s.ent.getD i 0 := gapp _ _ _ _ hi2
     have h8 := h9 i hi2
     have hxb : s.ent.getD i 0 ≠ b := fun e8 => by rw [e8, ht] at h8; omega
     rw [hse]
     show (s.tn.set b _).getD _ 0 = _
     rw [getD_set _ _ _ _ htl, if_neg hxb]; exact h8
/- who is over whom, by a walk in depth: abstractly, of turns. -/
/-- a way from a to b; all that it comes to behind a meet Q -/
def Rc (E : Nat → Nat → Prop) (Q : Nat → Prop) (a b : Nat) : Prop := ∀ S : Nat → Prop, S a → (∀ b c, S b → E b c → Q c → S c) → S b
section
variable {E : Nat → Nat → Prop}
theorem Rc.refl (Q : Nat → Prop) (a : Nat) : Rc E Q a a := fun S h _ => h
theorem Rc.step {Q : Nat → Prop} {a b c : Nat} (h : Rc E Q a b) (e : E b c) (q : Q c) : Rc E Q a c := fun S h0 h1 => h1 b c (h S h0 h1) e q
theorem Rc.trans {Q : Nat → Prop} {a b c : Nat} (h : Rc E Q a b) (k : Rc E Q b c) : Rc E Q a c := k (fun c => Rc E Q a c) h fun _ _ hb e q => hb.step e q
theorem Rc.mono {Q R : Nat → Prop} {a b : Nat} (h : Rc E Q a b) (hq : ∀ c, Q c → R c) : Rc E R a b := h (fun b => Rc E R a b) (Rc.refl _ _) fun _ c hb e q => hb.step e (hq c q)
/-- a way that comes to the least at m first -/
theorem Rc.min {Q : Nat → Prop} {c b : Nat} (h : Rc E Q c b) : ∃ m, (m = c ∨ (m < c ∧ Q m ∧ ∃ b', Rc E (fun y => m < y) c b' ∧ E b' m)) ∧ Rc E (fun y => m ≤ y) m b ∧ Rc E Q c m ∧ m ≤ b := by
 refine (h (fun b => Rc E Q c b ∧ ∃ m, (m = c ∨ (m < c ∧ Q m ∧ ∃ b', Rc E (fun y => m < y) c b' ∧ E b' m)) ∧ Rc E (fun y => m ≤ y) m b ∧ Rc E Q c m ∧ m ≤ b) ⟨Rc.refl _ _, c, .inl rfl, Rc.refl _ _, Rc.refl _ _, Nat.le_refl _⟩ fun b d ⟨hb, m, h1, h2, h3, h4⟩ e q => ?_).2
 refine ⟨hb.step e q, ?_⟩
 by_cases hd : m ≤ d
 ·exact ⟨m, h1, h2.step e hd, h3, hd⟩
 ·have hmb : Rc E (fun y => d < y) m b := h2.mono fun y hy => by omega
  refine ⟨d, .inr ⟨?_, q, b, ?_, e⟩, Rc.refl _ _, hb.step e q, Nat.le_refl _⟩
  ·rcases h1 with rfl | ⟨h5, -⟩ <;> omega
  ·rcases h1 with rfl | ⟨h5, -, b', h6, h7⟩
   ·exact hmb
   ·exact ((h6.mono fun y hy => by omega).step h7 (by omega)).trans hmb
/-- a walk in depth: A its ways, p of each that it came from -/
structure Dfs (L : Nat) (E A : Nat → Nat → Prop) (p : Nat → Nat) : Prop where
 pos : 0 < L
 el : ∀ {u v}, E u v → u < L ∧ v < L
 d2 : ∀ {u v}, E u v → u < v → A u v
 pe : ∀ {i}, 0 < i → i < L → E (p i) i
 pl : ∀ {i}, 0 < i → i < L → p i < i
 pp : ∀ {i}, 0 < i → i < L → A (p i) (i - 1)
 rf : ∀ a, A a a
 tr : ∀ {a b c}, A a b → A b c → A a c
 le : ∀ {a b}, A a b → a ≤ b
 iv : ∀ {a b}, A a b → a = b ∨ (0 < b ∧ b < L ∧ A a (p b))
 up : ∀ {b}, 0 < b → b < L → A (p b) b
variable {L : Nat} {A : Nat → Nat → Prop} {p : Nat → Nat}
theorem Dfs.intv (d : Dfs L E A p) {m y : Nat} : ∀ k, m ≤ y → y + k < L → A m (y + k) → A m y := by
 intro k
 induction k with
 | zero => intro _ _ h; exact h
 | succ k ih =>
   intro h1 h2 h
   rcases d.iv h with e | ⟨h3, h4, h5⟩
   ·omega
   ·exact ih h1 (by omega) (d.tr h5 (d.pp h3 h4))
theorem Dfs.ml (d : Dfs L E A p) {m b : Nat} (hm : m < L) (h : Rc E (fun y => m ≤ y) m b) : A m b ∧ b < L :=
 h (fun b => A m b ∧ b < L) ⟨d.rf m, hm⟩ fun b c ⟨hb, hl⟩ e q => by
  have hc := (d.el e).2
  refine ⟨?_, hc⟩
  by_cases hbc : b < c
  ·exact d.tr hb (d.d2 e hbc)
  ·exact d.intv (b - c) q (by omega) (by rw [show c + (b - c) = b by omega]; exact hb)
/-- on the walk's own way down -/
theorem Dfs.down (d : Dfs L E A p) {a : Nat} : ∀ b, A a b → Rc E (fun y => a < y) a b := by
 intro b
 induction b using Nat.strongRecOn with
 | _ b ih =>
   intro h
   rcases d.iv h with rfl | ⟨h1, h2, h3⟩
   ·exact Rc.refl _ _
   ·exact (ih (p b) (d.pl h1 h2) h3).step (d.pe h1 h2) (by have := d.le h3; have := d.pl h1 h2; omega)
/-- a detour: a way on which all between were gone into later -/
def Det (E : Nat → Nat → Prop) (v w : Nat) : Prop := E v w ∨ ∃ c b, E v c ∧ w < c ∧ Rc E (fun y => w < y) c b ∧ E b w
/-- where the widest detours begin, as the program reckons -/
structure Wdt (L : Nat) (E A : Nat → Nat → Prop) (p D : Nat → Nat) : Prop where
 r0 : ∀ {w}, 0 < w → w < L → D w ≤ p w
 r1 : ∀ {v w}, 0 < w → E v w → v < w → D w ≤ v
 r2 : ∀ {v u w}, 0 < w → E v w → w < v → A u v → w < u → D w ≤ D u
 r3 : ∀ {w}, 0 < w → w < L → D w = p w ∨ (∃ v, E v w ∧ v < w ∧ D w = v) ∨ ∃ v u, E v w ∧ w < v ∧ A u v ∧ w < u ∧ D w = D u
variable {D : Nat → Nat}
theorem Wdt.s1 (d : Dfs L E A p) (s : Wdt L E A p D) : ∀ k w, L - w = k → 0 < w → w < L → ∀ v, Det E v w → D w ≤ v := by
 intro k
 induction k using Nat.strongRecOn with
 | _ k ih =>
   intro w hk h0 hL v h
   have hp := d.pl h0 hL
   have hr := s.r0 h0 hL
   by_cases hv : v < w
   ·rcases h with h | ⟨c, b, h1, h2, h3, h4⟩
    ·exact s.r1 h0 h hv
    ·obtain ⟨m, m1, m2, m3, m4⟩ := h3.min
     have hmw : w < m := by
      rcases m1 with rfl | ⟨-, q, -⟩
      ·exact h2
      ·exact q
     have hb := (d.el h4).1
     have hmL : m < L := by omega
     have hm := (d.ml hmL m2).1
     have hdet : Det E v m := by
      rcases m1 with rfl | ⟨q1, -, b', q2, q3⟩
      ·exact .inl h1
      ·exact .inr ⟨c, b', h1, q1, q2, q3⟩
     have h5 := ih (L - m) (by omega) m rfl (by omega) hmL v hdet
     have h6 := s.r2 h0 h4 (by omega) hm hmw
     omega
   ·omega
theorem Wdt.s2 (d : Dfs L E A p) (s : Wdt L E A p D) : ∀ k w, L - w = k → 0 < w → w < L → Det E (D w) w := by
 intro k
 induction k using Nat.strongRecOn with
 | _ k ih =>
   intro w hk h0 hL
   rcases s.r3 h0 hL with h | ⟨v, h1, h2, h3⟩ | ⟨v, u, h1, h2, h3, h4, h5⟩
   ·rw [h]; exact .inl (d.pe h0 hL)
   ·rw [h3]; exact .inl h1
   ·rw [h5]
    have hvL := (d.el h1).1
    have huv := d.le h3
    have hdn : Rc E (fun y => w < y) u v := (d.down v h3).mono fun y hy => by omega
    rcases ih (L - u) (by omega) u rfl (by omega) (by omega) with h6 | ⟨c, b, q1, q2, q3, q4⟩
    ·exact .inr ⟨u, v, h6, h4, hdn, h1⟩
    ·exact .inr ⟨c, v, q1, by omega, ((q3.mono fun y hy => by omega).step q4 h4).trans hdn, h1⟩
/-- come to from the first one, not through x -/
def Rx (E : Nat → Nat → Prop) (x b : Nat) : Prop := 0 ≠ x ∧ Rc E (fun y => y ≠ x) 0 b
/-- x is over b -/
def Dm (E : Nat → Nat → Prop) (x b : Nat) : Prop := x ≠ b ∧ ¬ Rx E x b
theorem Rx.step {x b c : Nat} (h : Rx E x b) (e : E b c) (q : c ≠ x) : Rx E x c := ⟨h.1, h.2.step e q⟩
theorem Dfs.on_way (d : Dfs L E A p) (x : Nat) : ∀ b, b < L → A x b ∨ Rx E x b := by
 intro b
 induction b using Nat.strongRecOn with
 | _ b ih =>
   intro hb
   by_cases h0 : b = 0
   ·subst h0
    by_cases hx : 0 = x
    ·exact .inl (hx ▸ d.rf _)
    ·exact .inr ⟨hx, Rc.refl _ _⟩
   ·have hp := d.pl (by omega) hb
    rcases ih (p b) hp (by omega) with h | h
    ·exact .inl (d.tr h (d.up (by omega) hb))
    ·by_cases hx : b = x
     ·exact .inl (hx ▸ d.rf _)
     ·exact .inr (h.step (d.pe (by omega) hb) hx)
theorem Dm.anc (d : Dfs L E A p) {x b : Nat} (hb : b < L) (h : Dm E x b) : A x b := (d.on_way x b hb).resolve_right h.2
theorem Dm.lt (d : Dfs L E A p) {x b : Nat} (hb : b < L) (h : Dm E x b) : x < b := by
 have := d.le (h.anc d hb)
 have := h.1
 omega
theorem Dm.par (d : Dfs L E A p) {x w : Nat} (h0 : 0 < w) (hw : w < L) (h : Dm E x w) : x = p w ∨ Dm E x (p w) := by
 by_cases e : x = p w
 ·exact .inl e
 ·exact .inr ⟨e, fun hr => h.2 (hr.step (d.pe h0 hw) (fun e => h.1 e.symm))⟩
theorem Rx.split {x y z : Nat} (h : Rx E x z) : Rx E y z ∨ Rx E x y := by
 refine (h.2 (fun z => Rx E x z ∧ (Rx E y z ∨ Rx E x y)) ⟨⟨h.1, Rc.refl _ _⟩, ?_⟩ fun b c ⟨hb, hs⟩ e q => ⟨hb.step e q, ?_⟩).2
 ·by_cases hy : 0 = y
  ·exact .inr (hy ▸ ⟨h.1, Rc.refl _ _⟩)
  ·exact .inl ⟨hy, Rc.refl _ _⟩
 ·rcases hs with hs | hs
  ·by_cases hc : c = y
   ·exact .inr (hc ▸ hb.step e q)
   ·exact .inl (hs.step e hc)
  ·exact .inr hs
theorem Dm.trans (d : Dfs L E A p) {x y z : Nat} (hz : z < L) (h : Dm E x y) (k : Dm E y z) : Dm E x z := by
 have h1 := k.lt d hz
 have h2 := h.lt d (by omega)
 refine ⟨by omega, fun hr => ?_⟩
 rcases hr.split (y := y) with e | e
 ·exact k.2 e
 ·exact h.2 e
/-- of two that are over one, one is over the other -/
theorem Dm.chain (d : Dfs L E A p) {x y z : Nat} (hz : z < L) (hxy : x < y) (h : Dm E x z) (k : Dm E y z) : Dm E x y := by
 refine ⟨by omega, fun hr => h.2 ⟨hr.1, hr.2.trans ((d.down z (k.anc d hz)).mono fun w hw => by omega)⟩⟩
/-- the nearest one over -/
def Nd (E : Nat → Nat → Prop) (x w : Nat) : Prop := Dm E x w ∧ ∀ y, Dm E y w → y = x ∨ Dm E y x
theorem Rx.last {x b : Nat} (h : Rx E x b) : b < x ∨ ∃ q c, q < x ∧ E q c ∧ x < c ∧ Rc E (fun y => y ≠ x) 0 c ∧ Rc E (fun y => x < y) c b := by
 have h0 := h.1
 refine (h.2 (fun b => Rc E (fun y => y ≠ x) 0 b ∧ b ≠ x ∧ (b < x ∨ ∃ q c, q < x ∧ E q c ∧ x < c ∧ Rc E (fun y => y ≠ x) 0 c ∧ Rc E (fun y => x < y) c b)) ⟨Rc.refl _ _, h0, .inl (by omega)⟩ fun b c ⟨hb, hbx, hs⟩ e q => ⟨hb.step e q, q, ?_⟩).2.2
 by_cases hc : c < x
 ·exact .inl hc
 ·refine .inr ?_
  rcases hs with hs | ⟨r, c', q1, q2, q3, q4, q5⟩
  ·exact ⟨b, c, hs, e, by omega, hb.step e q, Rc.refl _ _⟩
  ·exact ⟨r, c', q1, q2, q3, q4, q5.step e (by omega)⟩
/-- who is over w doesn't stand further than where its widest detour begins -/
theorem Dm.le_wd (d : Dfs L E A p) (s : Wdt L E A p D) {y w : Nat} (h0 : 0 < w) (hw : w < L) (h : Dm E y w) : y ≤ D w := by
 refine Nat.le_of_not_lt fun hlt => ?_
 have hD := s.r0 h0 hw
 have hp := d.pl h0 hw
 have hyw := h.lt d hw
 rcases d.on_way y (D w) (by omega) with ha | hr
 ·have := d.le ha; omega
 ·rcases s.s2 d (L - w) w rfl h0 hw with e | ⟨c, b, q1, q2, q3, q4⟩
  ·exact h.2 (hr.step e (by omega))
  ·have hc : Rx E y c := hr.step q1 (by omega)
   exact h.2 ((show Rx E y b from ⟨hc.1, hc.2.trans (q3.mono fun z hz => by omega)⟩).step q4 (by omega))
/-- one that is over the one ahead, and stands no further than that -/
theorem Dfs.wd_dm (d : Dfs L E A p) (s : Wdt L E A p D) {x w : Nat} (h0 : 0 < w) (hw : w < L) (hx : x ≤ D w) (hp : x = p w ∨ Dm E x (p w)) : Dm E x w := by
 have hD := s.r0 h0 hw
 have hpl := d.pl h0 hw
 refine ⟨by omega, fun hr => ?_⟩
 rcases hr.last with h | ⟨q, c, h1, h2, h3, h4, h5⟩
 ·omega
 ·obtain ⟨m, m1, m2, m3, m4⟩ := h5.min
  have hxm : x < m := by
   rcases m1 with rfl | ⟨-, e, -⟩
   ·exact h3
   ·exact e
  have hmL : m < L := by omega
  have hmw := (d.ml hmL m2).1
  have hdet : Det E q m := by
   rcases m1 with rfl | ⟨q1, -, b', q2, q3⟩
   ·exact .inl h2
   ·exact .inr ⟨c, b', h2, q1, q2, q3⟩
  have h6 := s.s1 d (L - m) m rfl (by omega) hmL q hdet
  rcases d.iv hmw with rfl | ⟨h7, h8, h9⟩
  ·omega
  ·have h10 := d.le h9
   rcases hp with rfl | hp
   ·omega
   ·refine hp.2 ⟨hr.1, (h4.trans (m3.mono fun y hy => by omega)).trans ((d.down (p w) h9).mono fun y hy => by omega)⟩
/-- what the program's climbing keeps -/
structure Cbg (E : Nat → Nat → Prop) (p : Nat → Nat) (w x : Nat) : Prop where
 lt : x < w
 ov : x = p w ∨ Dm E x (p w)
 all : ∀ y, Dm E y w → y = x ∨ Dm E y x
theorem Cbg.init (d : Dfs L E A p) {w : Nat} (h0 : 0 < w) (hw : w < L) : Cbg E p w (p w) := ⟨d.pl h0 hw, .inl rfl, fun y hy => hy.par d h0 hw⟩
theorem Cbg.next (d : Dfs L E A p) (s : Wdt L E A p D) {w x x' : Nat} (h0 : 0 < w) (hw : w < L) (h : Cbg E p w x) (hD : D w < x) (hn : Nd E x' x) : Cbg E p w x' := by
 have hxl := h.lt
 have h1 := hn.1.lt d (by omega)
 have hpl := d.pl h0 hw
 refine ⟨by omega, .inr ?_, fun y hy => ?_⟩
 ·rcases h.ov with e | e
  ·rw [← e]; exact hn.1
  ·exact hn.1.trans d (by omega) e
 ·rcases h.all y hy with e | e
  ·have := hy.le_wd d s h0 hw; omega
  ·exact hn.2 y e
theorem Cbg.done (d : Dfs L E A p) (s : Wdt L E A p D) {w x : Nat} (h0 : 0 < w) (hw : w < L) (h : Cbg E p w x) (hD : x ≤ D w) : Nd E x w := ⟨d.wd_dm s h0 hw hD h.ov, h.all⟩
end
/- flow: the widest detours, as the program reckons them. -/
/-- the walk, as it stands at its end -/
structure Wk (nx : List (List Nat)) (w : St) : Prop where
 inv : Inv nx.length w
 mkd : Mk nx.length w
 pos : 0 < w.ent.length
 f0 : w.fr.getD 0 0 = -1
 e0 : w.ent.getD 0 0 = 0
 gd : Gd nx (start nx.length) w 0
theorem wk_walk {nx : List (List Nat)} (hn : In nx) (h1 : 0 < nx.length) : Wk nx (walk nx) := by
 have ht : (start nx.length).tn.getD 0 0 = -1 := by simp only [start]; rw [getD_get _ _ _ (by simpa using h1)]; simp
 have hl : (start nx.length).ent.length = 0 := rfl
 obtain ⟨k1, k2, k3, k4, -⟩ := go_gd nx hn nx.length 0 (-1) (start nx.length) (Inv.start _) h1 ht (by omega) (by rw [hl]; omega) (by rw [hl]; omega)
 exact ⟨(go_inv nx hn nx.length 0 (-1) (start nx.length) (Inv.start _) h1 ht (by omega) (by rw [hl]; omega)).1, (go_wo nx hn nx.length 0 (-1) (start nx.length) (Mk.start _) h1 ht).2, k2, k3, k4, k1⟩
/-- ways between turns -/
def Et (nx : List (List Nat)) (w : St) (u v : Nat) : Prop := u < w.ent.length ∧ ∃ n ∈ nx.getD (w.ent.getD u 0) [], w.tn.getD n 0 = (v : Int)
def pt (w : St) (i : Nat) : Nat := (w.fr.getD i 0).toNat
section
variable {nx : List (List Nat)} {w : St}
theorem Wk.tt (h : Wk nx w) (i : Nat) (hi : i < w.ent.length) : w.tn.getD (w.ent.getD i 0) 0 = (i : Int) := h.gd.tt (fun i hi => by cases hi) i hi
theorem Wk.fp (h : Wk nx w) {i : Nat} (h0 : 0 < i) (hi : i < w.ent.length) : w.fr.getD i 0 = (pt w i : Int) ∧ pt w i < i := by
 obtain ⟨p, e, -⟩ := h.gd.par i (Nat.zero_le _) hi h0
 have := (h.inv.up.row i hi).2
 unfold pt
 rw [e] at this ⊢
 omega
theorem Wk.blk (h : Wk nx w) (hn : In nx) {i : Nat} (hi : i < w.ent.length) : w.ent.getD i 0 < nx.length := h.inv.eb _ (getD_mem _ _ _ hi)
theorem Wk.dfs (h : Wk nx w) (hn : In nx) : Dfs w.ent.length (Et nx w) (Anc w.fr) (pt w) := by
 have hfl := h.inv.fl
 refine ⟨h.pos, fun {u v} e => ⟨e.1, ?_⟩, fun {u v} e hlt => ?_, fun {i} h0 hi => ?_, fun {i} h0 hi => (h.fp h0 hi).2, fun {i} h0 hi => ?_, fun a => Anc.refl _ _, fun h k => h.trans k, fun k => k.le h.inv.up, fun {a b} k => ?_, fun {b} h0 hb => Anc.up (by omega) (h.fp h0 hb).1 (Anc.refl _ _)⟩
 ·obtain ⟨hu, n, hm, hv⟩ := e
  have := tn_at h.inv (hn _ n hm)
  omega
 ·obtain ⟨hu, n, hm, hv⟩ := e
  exact (h.gd.suc u (Nat.zero_le _) hu n hm).2 v hv hlt
 ·obtain ⟨p, e1, e2, e3⟩ := h.gd.par i (Nat.zero_le _) hi h0
  have hp : pt w i = p := by unfold pt; rw [e1]; rfl
  have := (h.fp h0 hi).2
  rw [hp]
  exact ⟨by omega, _, e3, h.tt i hi⟩
 ·obtain ⟨p, e1, e2, e3⟩ := h.gd.par i (Nat.zero_le _) hi h0
  have hp : pt w i = p := by unfold pt; rw [e1]; rfl
  rw [hp]; exact e2
 ·rcases k.inv with e | ⟨p, e1, e2, e3⟩
  ·exact .inl e
  ·have h0 : 0 < b := by
      refine Nat.pos_of_ne_zero fun e => ?_
      rw [e, h.f0] at e2; omega
   have hp : pt w b = p := by unfold pt; rw [e2]; rfl
   exact .inr ⟨h0, by omega, by rw [hp]; exact e3⟩
end
theorem Dfs.chn {L : Nat} {E A : Nat → Nat → Prop} {p : Nat → Nat} (d : Dfs L E A p) {u a : Nat} (hua : u ≤ a) : ∀ t, A u t → A a t → A u a := by
 intro t
 induction t using Nat.strongRecOn with
 | _ t ih =>
   intro h k
   rcases d.iv k with rfl | ⟨h1, h2, h3⟩
   ·exact h
   ·rcases d.iv h with rfl | ⟨h4, h5, h6⟩
    ·have := d.le k
     have : a = u := by omega
     subst this; exact d.rf _
    ·exact ih (p t) (d.pl h1 h2) h6 h3
/-- how far the ways up were climbed: of each turn behind m the least of the widest, from it on up to where it was climbed -/
structure Um (A : Nat → Nat → Prop) (L m : Nat) (o : List Int) (s : List Int × List Int) : Prop where
 l1 : s.1.length = L
 l2 : s.2.length = L
 up : ∀ v, m < v → v < L → ∃ a : Nat, s.1.getD v 0 = (a : Int) ∧ A a v ∧ a < v
 lo : ∀ v, m < v → v < L → ∀ u : Nat, A u v → s.1.getD v 0 < (u : Int) → m < u ∧ s.2.getD v 0 ≤ o.getD u 0
 at_ : ∀ v, m < v → v < L → ∃ u : Nat, A u v ∧ s.1.getD v 0 < (u : Int) ∧ s.2.getD v 0 = o.getD u 0
theorem lb_um {L : Nat} {E A : Nat → Nat → Prop} {p : Nat → Nat} (d : Dfs L E A p) {m : Nat} {o : List Int} : ∀ f s t, Um A L m o s → m < t → t < L → t ≤ f →
    Um A L m o (lb (m : Int) f s t) ∧ (lb (m : Int) f s t).1.getD t 0 ≤ (m : Int) ∧ (∀ i, i ≤ m ∨ t < i → (lb (m : Int) f s t).1.getD i 0 = s.1.getD i 0 ∧ (lb (m : Int) f s t).2.getD i 0 = s.2.getD i 0) := by
 intro f
 induction f with
 | zero => intro s t _ h1 _ h2; omega
 | succ f ih =>
   intro s t h h1 h2 h3
   by_cases hc : (m : Int) < s.1.getD t 0
   ·obtain ⟨a, ha, haA, hat⟩ := h.up t h1 h2
    have hma : m < a := by rw [ha] at hc; omega
    obtain ⟨k1, k2, k3⟩ := ih s a h hma (by omega) (by omega)
    rw [lb_yes (m : Int) f s t a hc ha]
    obtain ⟨r, hr⟩ : ∃ r, r = lb (m : Int) f s a := ⟨_, rfl⟩
    rw [← hr] at k1 k2 k3 ⊢
    have hrt : r.1.getD t 0 = (a : Int) := by rw [(k3 t (.inr hat)).1]; exact ha
    have e1 : ∀ i, (r.1.set t (r.1.getD a 0)).getD i 0 = if i = t then r.1.getD a 0 else r.1.getD i 0 := fun i => getD_set _ _ _ _ (by rw [k1.l1]; exact h2)
    have e2 : ∀ i, (r.2.set t (min (r.2.getD t 0) (r.2.getD a 0))).getD i 0 = if i = t then min (r.2.getD t 0) (r.2.getD a 0) else r.2.getD i 0 := fun i => getD_set _ _ _ _ (by rw [k1.l2]; exact h2)
    obtain ⟨b, hb, hbA, hba⟩ := k1.up a hma (by omega)
    refine ⟨⟨by simp [k1.l1], by simp [k1.l2], fun v v1 v2 => ?_, fun v v1 v2 u hu hlt => ?_, fun v v1 v2 => ?_⟩, ?_, fun i hi => ?_⟩
    ·show ∃ q : Nat, (r.1.set t (r.1.getD a 0)).getD v 0 = (q : Int) ∧ A q v ∧ q < v
     rw [e1]
     by_cases e : v = t
     ·subst e; rw [if_pos rfl]; exact ⟨b, hb, d.tr hbA haA, by omega⟩
     ·rw [if_neg e]; exact k1.up v v1 v2
    ·have hlt2 : (r.1.set t (r.1.getD a 0)).getD v 0 < (u : Int) := hlt
     show m < u ∧ (r.2.set t (min (r.2.getD t 0) (r.2.getD a 0))).getD v 0 ≤ o.getD u 0
     rw [e1] at hlt2
     rw [e2]
     by_cases e : v = t
     ·subst e
      rw [if_pos rfl] at hlt2 ⊢
      by_cases hua : u ≤ a
      ·obtain ⟨q1, q2⟩ := k1.lo a hma (by omega) u (d.chn hua v hu haA) hlt2
       exact ⟨q1, by omega⟩
      ·obtain ⟨q1, q2⟩ := k1.lo v v1 v2 u hu (by rw [hrt]; omega)
       exact ⟨q1, by omega⟩
     ·rw [if_neg e] at hlt2 ⊢
      exact k1.lo v v1 v2 u hu hlt2
    ·show ∃ u : Nat, A u v ∧ (r.1.set t (r.1.getD a 0)).getD v 0 < (u : Int) ∧ (r.2.set t (min (r.2.getD t 0) (r.2.getD a 0))).getD v 0 = o.getD u 0
     rw [e1, e2]
     by_cases e : v = t
     ·subst e
      rw [if_pos rfl, if_pos rfl]
      obtain ⟨u1, a1, a2, a3⟩ := k1.at_ v v1 v2
      obtain ⟨u2, b1, b2, b3⟩ := k1.at_ a hma (by omega)
      rw [hrt] at a2
      by_cases hle : r.2.getD v 0 ≤ r.2.getD a 0
      ·exact ⟨u1, a1, by rw [hb]; omega, by omega⟩
      ·exact ⟨u2, d.tr b1 haA, b2, by omega⟩
     ·rw [if_neg e, if_neg e]; exact k1.at_ v v1 v2
    ·show (r.1.set t (r.1.getD a 0)).getD t 0 ≤ (m : Int)
     rw [e1, if_pos rfl]; exact k2
    ·show (r.1.set t (r.1.getD a 0)).getD i 0 = _ ∧ (r.2.set t (min (r.2.getD t 0) (r.2.getD a 0))).getD i 0 = _
     rw [e1, e2, if_neg (by omega), if_neg (by omega)]
     exact k3 i (by omega)
   ·rw [lb_no (m : Int) _ s t hc]
    exact ⟨h, by omega, fun i _ => ⟨rfl, rfl⟩⟩
/-- what is ahead, in plain words -/
theorem ahs_at (nx : List (List Nat)) (hn : In nx) : ∀ k b, b < nx.length → (ahs nx k).getD b [] = (List.range k).filter fun x => decide (b ∈ nx.getD x []) := by
 intro k
 induction k with
 | zero => intro b hb; simp only [ahs, List.range_zero, List.foldl_nil, List.filter_nil]; rw [getD_get _ _ _ (by simpa using hb)]; simp
 | succ k ih =>
   intro b hb
   rw [ahs_succ, List.range_succ, List.filter_append, ← ih b hb]
   have hlen := (ahs_inv nx hn k).len
   -- one block's ways out
   have key : ∀ (r : List Nat) (o : List (List Nat)) (P : Prop) [Decidable P], o.length = nx.length → (o.getD b [] = (ahs nx k).getD b [] ++ if P then [k] else []) →
       (r.foldl (ah1 k) o).getD b [] = (ahs nx k).getD b [] ++ if P ∨ b ∈ r then [k] else [] := by
    intro r
    induction r with
    | nil => intro o P _ _ h; simpa using h
    | cons x r ihr =>
      intro o P _ ho h
      simp only [List.foldl_cons]
      have hlast : (ahs nx k).getD b [] ≠ [] → ((ahs nx k).getD b []).getLast? ≠ some k := fun _ e => by
       have hm := List.mem_of_getLast? e
       rw [ih b hb] at hm
       have := List.mem_range.1 (List.mem_filter.1 hm).1
       omega
      by_cases hx : x = b
      ·subst hx
       have h1 : (ah1 k o x).getD x [] = (ahs nx k).getD x [] ++ [k] := by
        by_cases hP : P
        ·rw [if_pos hP] at h
         rw [ah1_same k (by rw [h]; simp)]; exact h
        ·rw [if_neg hP, List.append_nil] at h
         have hne : ¬ (o.getD x []).getLast? = some k := by
          rw [h]
          by_cases he : (ahs nx k).getD x [] = []
          ·rw [he]; simp
          ·exact hlast he
         rw [ah1_add k hne, List.getD_eq_getElem?_getD, List.getElem?_set, if_pos rfl, if_pos (by rw [ho]; exact hb), ← h]
         rfl
       have h2 : (ah1 k o x).length = nx.length := by unfold ah1; split <;> simp [ho]
       rw [ihr (ah1 k o x) True h2 (by rw [h1]; simp)]
       simp
      ·have h1 : (ah1 k o x).getD b [] = o.getD b [] := by
          unfold ah1
          split
          ·rfl
          ·rw [List.getD_eq_getElem?_getD, List.getElem?_set, if_neg hx, List.getD_eq_getElem?_getD]
       have h2 : (ah1 k o x).length = nx.length := by unfold ah1; split <;> simp [ho]
       rw [ihr (ah1 k o x) P h2 (by rw [h1]; exact h)]
       have hbx : ¬ b = x := fun e => hx e.symm
       have : (P ∨ b ∈ x :: r) ↔ (P ∨ b ∈ r) := by simp [List.mem_cons, hbx]
       by_cases hq : P ∨ b ∈ r
       ·rw [if_pos hq, if_pos (this.2 hq)]
       ·rw [if_neg hq, if_neg (fun e => hq (this.1 e))]
   rw [key (nx.getD k []) (ahs nx k) False hlen (by simp)]
   by_cases hb2 : b ∈ nx.getD k []
   ·rw [if_pos (.inr hb2), List.filter_cons_of_pos (by simpa using hb2)]; rfl
   ·rw [if_neg (fun e => e.elim (fun h => h) hb2), List.filter_cons_of_neg (by simpa using hb2)]; rfl
theorem ahead_at (nx : List (List Nat)) (hn : In nx) (b : Nat) (hb : b < nx.length) : (ahead nx).getD b [] = (List.range nx.length).filter fun x => decide (b ∈ nx.getD x []) := ahs_at nx hn _ b hb
/- flow: the program's tree tells of each turn the nearest one over it. -/
section
variable {nx : List (List Nat)} {w : St}
theorem Wk.ti (h : Wk nx w) (hn : In nx) {n v : Nat} (hl : n < nx.length) (e : w.tn.getD n 0 = (v : Int)) : v < w.ent.length ∧ w.ent.getD v 0 = n := by
 have hm : n ∈ w.ent := by
  by_cases hm : n ∈ w.ent
  ·exact hm
  ·have := (h.mkd.iff n hl).2 hm; omega
 obtain ⟨i, hi, e2⟩ := List.getElem_of_mem hm
 have h3 := h.tt i hi
 rw [getD_get _ _ _ hi, e2, e] at h3
 have : v = i := by omega
 subst this
 exact ⟨hi, by rw [getD_get _ _ _ hi]; exact e2⟩
theorem Wk.et (h : Wk nx w) (hn : In nx) {u v : Nat} : Et nx w u v ↔ u < w.ent.length ∧ v < w.ent.length ∧ w.ent.getD v 0 ∈ nx.getD (w.ent.getD u 0) [] := by
 constructor
 ·rintro ⟨h1, n, h2, h3⟩
  obtain ⟨h4, h5⟩ := h.ti hn (hn _ n h2) h3
  exact ⟨h1, h4, by rw [h5]; exact h2⟩
 ·rintro ⟨h1, h2, h3⟩
  exact ⟨h1, _, h3, h.tt v h2⟩
theorem Um.congr {A : Nat → Nat → Prop} {L m : Nat} {o o' : List Int} {s : List Int × List Int} (h : Um A L m o s) (e : ∀ u, m < u → o'.getD u 0 = o.getD u 0) : Um A L m o' s :=
 ⟨h.l1, h.l2, h.up, fun v v1 v2 u hu hl => by
  obtain ⟨a, b⟩ := h.lo v v1 v2 u hu hl
  exact ⟨a, by rw [e u a]; exact b⟩, fun v v1 v2 => by
  obtain ⟨u, a, b, c⟩ := h.at_ v v1 v2
  exact ⟨u, a, b, by rw [e u (h.lo v v1 v2 u a b).1]; exact c⟩⟩
/-- a turn whose widest detour is reckoned -/
structure Rr (nx : List (List Nat)) (w : St) (t : Nat) (o : List Int) : Prop where
 r0 : o.getD t 0 ≤ w.fr.getD t 0
 r1 : ∀ v, Et nx w v t → v < t → o.getD t 0 ≤ (v : Int)
 r2 : ∀ v u, Et nx w v t → t < v → Anc w.fr u v → t < u → o.getD t 0 ≤ o.getD u 0
 r3 : o.getD t 0 = w.fr.getD t 0 ∨ (∃ v : Nat, Et nx w v t ∧ v < t ∧ o.getD t 0 = (v : Int)) ∨ ∃ v u, Et nx w v t ∧ t < v ∧ Anc w.fr u v ∧ t < u ∧ o.getD t 0 = o.getD u 0
theorem Rr.congr {t : Nat} {o o' : List Int} (h : Rr nx w t o) (e : ∀ u, t ≤ u → o'.getD u 0 = o.getD u 0) : Rr nx w t o' := by
 have e0 := e t (Nat.le_refl _)
 refine ⟨by rw [e0]; exact h.r0, fun v a b => by rw [e0]; exact h.r1 v a b, fun v u a b c d => by rw [e0, e u (by omega)]; exact h.r2 v u a b c d, ?_⟩
 rw [e0]
 rcases h.r3 with a | a | ⟨v, u, a, b, c, d, f⟩
 ·exact .inl a
 ·exact .inr (.inl a)
 ·exact .inr (.inr ⟨v, u, a, b, c, d, by rw [e u (by omega)]; exact f⟩)
structure Fm (w : St) (m : Nat) (o0 : List Int) (pre : List Nat) (s : Wi) : Prop where
 lo : s.out.length = w.ent.length
 ll : s.le.length = w.ent.length
 o1 : ∀ t, t < m → s.out.getD t 0 = w.fr.getD t 0
 u1 : ∀ t, t ≤ m → s.up.getD t 0 = w.fr.getD t 0
 um : Um (Anc w.fr) w.ent.length m s.out (s.up, s.le)
 oo : ∀ t, m < t → s.out.getD t 0 = o0.getD t 0
 q0 : s.out.getD m 0 ≤ w.fr.getD m 0
 q1 : ∀ b ∈ pre, ∀ v : Nat, w.tn.getD b 0 = (v : Int) → v < m → s.out.getD m 0 ≤ (v : Int)
 q2 : ∀ b ∈ pre, ∀ v u : Nat, w.tn.getD b 0 = (v : Int) → m < v → Anc w.fr u v → m < u → s.out.getD m 0 ≤ s.out.getD u 0
 q3 : s.out.getD m 0 = w.fr.getD m 0 ∨ ∃ b ∈ pre, (∃ v : Nat, w.tn.getD b 0 = (v : Int) ∧ v < m ∧ s.out.getD m 0 = (v : Int)) ∨ ∃ v u : Nat, w.tn.getD b 0 = (v : Int) ∧ m < v ∧ Anc w.fr u v ∧ m < u ∧ s.out.getD m 0 = s.out.getD u 0
theorem Fm.step (h : Wk nx w) (hn : In nx) {m : Nat} (h0 : 0 < m) (hm : m < w.ent.length) {o0 : List Int} {pre : List Nat} {s : Wi} (f : Fm w m o0 pre s) {b : Nat} (hb : b < nx.length) : Fm w m o0 (pre ++ [b]) (wi1 w.tn m s b) := by
 have d := h.dfs hn
 have ht := tn_at h.inv hb
 have hpm := h.fp h0 hm
 have hlm : m < s.out.length := by rw [f.lo]; exact hm
 have e0 : ∀ x i, (s.out.set m x).getD i 0 = if i = m then x else s.out.getD i 0 := fun x i => getD_set _ _ _ _ hlm
 have eo : ∀ x u, m < u → (s.out.set m x).getD u 0 = s.out.getD u 0 := fun x u hu => by rw [e0, if_neg (by omega)]
 have em : ∀ x, (s.out.set m x).getD m 0 = x := fun x => by rw [e0, if_pos rfl]
 have hq := f.q0
 -- whatever is the least of what it was and one more
 have fin : ∀ (x : Int) (up le : List Int), le.length = w.ent.length → (∀ t, t ≤ m → up.getD t 0 = w.fr.getD t 0) → Um (Anc w.fr) w.ent.length m s.out (up, le) → (∀ v : Nat, w.tn.getD b 0 = (v : Int) → v < m → x ≤ (v : Int)) → (∀ v u : Nat, w.tn.getD b 0 = (v : Int) → m < v → Anc w.fr u v → m < u → x ≤ s.out.getD u 0) →
     (s.out.getD m 0 ≤ x ∨ (∃ v : Nat, w.tn.getD b 0 = (v : Int) ∧ v < m ∧ x = (v : Int)) ∨ ∃ v u : Nat, w.tn.getD b 0 = (v : Int) ∧ m < v ∧ Anc w.fr u v ∧ m < u ∧ x = s.out.getD u 0) → Fm w m o0 (pre ++ [b]) ⟨s.out.set m (min (s.out.getD m 0) x), up, le⟩ := by
  intro x up le hle hup hum h1 h2 h3
  refine ⟨by simp [f.lo], hle, fun t ht => ?_, hup, hum.congr fun u hu => eo _ u hu, fun t ht => (eo _ t ht).trans (f.oo t ht), ?_, fun c hc v hv hl => ?_, fun c hc v u hv hl ha hu => ?_, ?_⟩
  ·show (s.out.set m _).getD t 0 = _
   rw [e0, if_neg (by omega)]; exact f.o1 t ht
  ·show (s.out.set m _).getD m 0 ≤ _
   rw [em]; omega
  ·show (s.out.set m _).getD m 0 ≤ _
   rw [em]
   rcases List.mem_append.1 hc with hc | hc
   ·have := f.q1 c hc v hv hl; omega
   ·rw [List.mem_singleton] at hc; subst hc
    have := h1 v hv hl; omega
  ·show (s.out.set m _).getD m 0 ≤ (s.out.set m _).getD u 0
   rw [em, eo _ u hu]
   rcases List.mem_append.1 hc with hc | hc
   ·have := f.q2 c hc v u hv hl ha hu; omega
   ·rw [List.mem_singleton] at hc; subst hc
    have := h2 v u hv hl ha hu; omega
  ·show (s.out.set m (min (s.out.getD m 0) x)).getD m 0 = w.fr.getD m 0 ∨ ∃ c ∈ pre ++ [b], (∃ v : Nat, w.tn.getD c 0 = (v : Int) ∧ v < m ∧ (s.out.set m (min (s.out.getD m 0) x)).getD m 0 = (v : Int)) ∨ ∃ v u : Nat, w.tn.getD c 0 = (v : Int) ∧ m < v ∧ Anc w.fr u v ∧ m < u ∧ (s.out.set m (min (s.out.getD m 0) x)).getD m 0 = (s.out.set m (min (s.out.getD m 0) x)).getD u 0
   rw [em]
   by_cases hlx : s.out.getD m 0 ≤ x
   ·rw [Int.min_eq_left hlx]
    rcases f.q3 with a | ⟨c, hc, a⟩
    ·exact .inl a
    ·refine .inr ⟨c, List.mem_append_left _ hc, ?_⟩
     rcases a with a | ⟨v, u, a1, a2, a3, a4, a5⟩
     ·exact .inl a
     ·exact .inr ⟨v, u, a1, a2, a3, a4, by rw [eo _ u a4]; exact a5⟩
   ·rw [Int.min_eq_right (by omega)]
    refine .inr ⟨b, by simp, ?_⟩
    rcases h3 with a | a | ⟨v, u, a1, a2, a3, a4, a5⟩
    ·exact absurd a hlx
    ·exact .inl a
    ·exact .inr ⟨v, u, a1, a2, a3, a4, by rw [eo _ u a4]; exact a5⟩
 unfold wi1
 split
 ·rename_i hlt
  obtain ⟨v, hv⟩ : ∃ v : Nat, w.tn.getD b 0 = (v : Int) := ⟨(w.tn.getD b 0).toNat, by omega⟩
  have hmv : m < v := by omega
  have hvL : v < w.ent.length := by omega
  obtain ⟨k1, k2, k3⟩ := lb_um d v (s.up, s.le) v f.um hmv hvL (Nat.le_refl _)
  have hvt : (w.tn.getD b 0).toNat = v := by omega
  rw [hvt]
  refine fin _ _ _ k1.l2 (fun t ht => ((k3 t (.inl ht)).1).trans (f.u1 t ht)) k1 (fun v' hv' hl => by omega) (fun v' u hv' hl ha hu => ?_) (.inr (.inr ?_))
  ·have : v' = v := by omega
   subst this
   exact (k1.lo v' hmv hvL u ha (by omega)).2
  ·obtain ⟨u, a1, a2, a3⟩ := k1.at_ v hmv hvL
   exact ⟨v, u, hv, hmv, a1, (k1.lo v hmv hvL u a1 a2).1, a3⟩
 ·split
  ·rename_i h1 h2
   refine ⟨f.lo, f.ll, f.o1, f.u1, f.um, f.oo, f.q0, fun c hc v hv hl => ?_, fun c hc v u hv hl ha hu => ?_, ?_⟩
   ·rcases List.mem_append.1 hc with hc | hc
    ·exact f.q1 c hc v hv hl
    ·rw [List.mem_singleton] at hc; subst hc; omega
   ·rcases List.mem_append.1 hc with hc | hc
    ·exact f.q2 c hc v u hv hl ha hu
    ·rw [List.mem_singleton] at hc; subst hc; omega
   ·rcases f.q3 with a | ⟨c, hc, a⟩
    ·exact .inl a
    ·exact .inr ⟨c, List.mem_append_left _ hc, a⟩
  ·rename_i h1 h2
   obtain ⟨v, hv⟩ : ∃ v : Nat, w.tn.getD b 0 = (v : Int) := ⟨(w.tn.getD b 0).toNat, by omega⟩
   refine fin _ _ _ f.ll f.u1 f.um (fun v' hv' hl => by omega) (fun v' u hv' hl ha hu => by omega) ?_
   by_cases hvm : v < m
   ·exact .inr (.inl ⟨v, hv, hvm, hv⟩)
   ·exact .inl (by omega)
theorem Fm.steps (h : Wk nx w) (hn : In nx) {m : Nat} (h0 : 0 < m) (hm : m < w.ent.length) {o0 : List Int} : ∀ (l pre : List Nat) (s : Wi), (∀ b ∈ l, b < nx.length) → Fm w m o0 pre s → Fm w m o0 (pre ++ l) (l.foldl (wi1 w.tn m) s) := by
 intro l
 induction l with
 | nil => intro pre s _ f; simpa using f
 | cons b r ih =>
   intro pre s hl f
   have := ih (pre ++ [b]) _ (fun c hc => hl c (List.mem_cons_of_mem _ hc)) (f.step h hn h0 hm (hl b (List.mem_cons_self ..)))
   rw [List.append_assoc] at this
   exact this
/-- all turns behind m are reckoned -/
structure Wm (nx : List (List Nat)) (w : St) (m : Nat) (s : Wi) : Prop where
 lo : s.out.length = w.ent.length
 ll : s.le.length = w.ent.length
 o1 : ∀ t, t ≤ m → s.out.getD t 0 = w.fr.getD t 0
 u1 : ∀ t, t ≤ m → s.up.getD t 0 = w.fr.getD t 0
 um : Um (Anc w.fr) w.ent.length m s.out (s.up, s.le)
 o2 : ∀ t, m < t → t < w.ent.length → 0 ≤ s.out.getD t 0
 r : ∀ t, m < t → t < w.ent.length → Rr nx w t s.out
theorem Wm.step (h : Wk nx w) (hn : In nx) {m : Nat} (hm : m + 1 < w.ent.length) {s : Wi} (f : Wm nx w (m + 1) s) : Wm nx w m (wiT w (ahead nx) s (m + 1)) := by
 have d := h.dfs hn
 have hb := h.blk hn hm
 have ha := ahead_at nx hn _ hb
 obtain ⟨l, hl⟩ : ∃ l, l = (ahead nx).getD (w.ent.getD (m + 1) 0) [] := ⟨_, rfl⟩
 rw [← hl] at ha
 have hlm : ∀ b, b ∈ l ↔ b < nx.length ∧ w.ent.getD (m + 1) 0 ∈ nx.getD b [] := fun b => by rw [ha]; simp
 have hpm := h.fp (show 0 < m + 1 from Nat.succ_pos m) hm
 have f0 : Fm w (m + 1) s.out [] s := ⟨f.lo, f.ll, fun t ht => f.o1 t (by omega), f.u1, f.um, fun _ _ => rfl, by rw [f.o1 _ (Nat.le_refl _)]; exact Int.le_refl _, fun b hb => (by cases hb), fun b hb => (by cases hb), .inl (f.o1 _ (Nat.le_refl _))⟩
 have g := f0.steps h hn (Nat.succ_pos m) hm l [] s (fun b hb => ((hlm b).1 hb).1)
 rw [List.nil_append] at g
 unfold wiT
 rw [← hl]
 obtain ⟨r, hr⟩ : ∃ r, r = l.foldl (wi1 w.tn ((m + 1 : Nat) : Int).toNat) s := ⟨_, rfl⟩
 have hr2 : r = l.foldl (wi1 w.tn (m + 1)) s := by rw [hr]; rfl
 rw [← hr2] at g ⊢
 have e0 : ∀ x i, (r.le.set (m + 1) x).getD i 0 = if i = m + 1 then x else r.le.getD i 0 := fun x i => getD_set _ _ _ _ (by rw [g.ll]; exact hm)
 -- whom the list tells of
 have hE : ∀ v, Et nx w v (m + 1) ↔ ∃ b ∈ l, w.tn.getD b 0 = (v : Int) := fun v => by
  rw [h.et hn]
  constructor
  ·rintro ⟨h1, -, h3⟩
   exact ⟨_, (hlm _).2 ⟨h.blk hn h1, h3⟩, h.tt v h1⟩
  ·rintro ⟨b, h1, h2⟩
   obtain ⟨h3, h4⟩ := (hlm b).1 h1
   obtain ⟨h5, h6⟩ := h.ti hn h3 h2
   exact ⟨h5, hm, by rw [h6]; exact h4⟩
 have hR : Rr nx w (m + 1) r.out := by
  refine ⟨g.q0, fun v hv hlt => ?_, fun v u hv hlt hau hu => ?_, ?_⟩
  ·obtain ⟨b, h1, h2⟩ := (hE v).1 hv
   exact g.q1 b h1 v h2 hlt
  ·obtain ⟨b, h1, h2⟩ := (hE v).1 hv
   exact g.q2 b h1 v u h2 hlt hau hu
  ·rcases g.q3 with a | ⟨b, hb, ⟨v, a1, a2, a3⟩ | ⟨v, u, a1, a2, a3, a4, a5⟩⟩
   ·exact .inl a
   ·exact .inr (.inl ⟨v, (hE v).2 ⟨b, hb, a1⟩, a2, a3⟩)
   ·exact .inr (.inr ⟨v, u, (hE v).2 ⟨b, hb, a1⟩, a2, a3, a4, a5⟩)
 have hpos : 0 ≤ r.out.getD (m + 1) 0 := by
  rcases hR.r3 with a | ⟨v, -, -, a⟩ | ⟨v, u, a1, a2, a3, a4, a5⟩
  ·rw [a, hpm.1]; omega
  ·rw [a]; omega
  ·have hvL := (d.el a1).1
   have := d.le a3
   rw [a5, g.oo u a4]
   exact f.o2 u a4 (by omega)
 refine ⟨g.lo, by simp [g.ll], fun t ht => g.o1 t (by omega), fun t ht => g.u1 t (by omega), ⟨g.um.l1, by simp [g.ll], fun v v1 v2 => ?_, fun v v1 v2 u hu hlt => ?_, fun v v1 v2 => ?_⟩, fun t t1 t2 => ?_, fun t t1 t2 => ?_⟩
 ·by_cases e : v = m + 1
  ·subst e; exact ⟨pt w (m + 1), by rw [show r.up.getD (m + 1) 0 = _ from g.u1 _ (Nat.le_refl _)]; exact hpm.1, d.up (Nat.succ_pos m) hm, hpm.2⟩
  ·exact g.um.up v (by omega) v2
 ·show m < u ∧ (r.le.set (m + 1) _).getD v 0 ≤ r.out.getD u 0
  have hlt2 : r.up.getD v 0 < (u : Int) := hlt
  rw [e0]
  by_cases e : v = m + 1
  ·subst e
   rw [if_pos rfl]
   rw [g.u1 _ (Nat.le_refl _), hpm.1] at hlt2
   rcases d.iv hu with rfl | ⟨h1, h2, h3⟩
   ·exact ⟨by omega, Int.le_refl _⟩
   ·have := d.le h3; omega
  ·rw [if_neg e]
   obtain ⟨h1, h2⟩ := g.um.lo v (by omega) v2 u hu hlt2
   exact ⟨by omega, h2⟩
 ·show ∃ u : Nat, Anc w.fr u v ∧ r.up.getD v 0 < (u : Int) ∧ (r.le.set (m + 1) _).getD v 0 = r.out.getD u 0
  rw [e0]
  by_cases e : v = m + 1
  ·subst e
   rw [if_pos rfl]
   exact ⟨m + 1, d.rf _, by rw [g.u1 _ (Nat.le_refl _), hpm.1]; omega, rfl⟩
  ·rw [if_neg e]; exact g.um.at_ v (by omega) v2
 ·by_cases e : t = m + 1
  ·subst e; exact hpos
  ·show 0 ≤ r.out.getD t 0
   rw [g.oo t (by omega)]; exact f.o2 t (by omega) t2
 ·by_cases e : t = m + 1
  ·subst e; exact hR
  ·exact (f.r t (by omega) t2).congr fun u hu => g.oo u (by omega)
theorem wis_wm (h : Wk nx w) (hn : In nx) : ∀ k, k ≤ w.ent.length - 1 → Wm nx w (w.ent.length - 1 - k) (wis w (ahead nx) k) := by
 have hfl := h.inv.fl
 have hpos := h.pos
 intro k
 induction k with
 | zero =>
   intro _
   refine ⟨hfl, by simp [wis, hfl], fun _ _ => rfl, fun _ _ => rfl, ⟨hfl, by simp [wis, hfl], fun v v1 v2 => by omega, fun v v1 v2 => by omega, fun v v1 v2 => by omega⟩, fun t t1 t2 => by omega, fun t t1 t2 => by omega⟩
 | succ k ih =>
   intro hk
   have h1 := ih (by omega)
   rw [wis_succ, hfl]
   obtain ⟨m, hm⟩ : ∃ m, w.ent.length - 1 - k = m + 1 := ⟨w.ent.length - 1 - (k + 1), by omega⟩
   rw [hm] at h1 ⊢
   rw [show w.ent.length - 1 - (k + 1) = m by omega]
   exact h1.step h hn (by omega)
end
/- flow: the nearest one over each, as the document finds it, is the program's. -/
section
variable {nx : List (List Nat)} {w : St}
def dn (w : St) (ah : List (List Nat)) (t : Nat) : Nat := ((widest w ah).getD t 0).toNat
theorem Wk.w0 (h : Wk nx w) (hn : In nx) : Wm nx w 0 (wis w (ahead nx) (w.ent.length - 1)) := by
 have := wis_wm h hn (w.ent.length - 1) (Nat.le_refl _)
 rw [Nat.sub_self] at this; exact this
theorem Wk.wdo (h : Wk nx w) (hn : In nx) {t : Nat} (h0 : 0 < t) (ht : t < w.ent.length) : (wis w (ahead nx) (w.ent.length - 1)).out.getD t 0 = (dn w (ahead nx) t : Int) := by
 have h1 := (h.w0 hn).o2 t h0 ht
 unfold dn widest
 rw [h.inv.fl]; omega
theorem Wk.wd (h : Wk nx w) (hn : In nx) : Wdt w.ent.length (Et nx w) (Anc w.fr) (pt w) (dn w (ahead nx)) := by
 have d := h.dfs hn
 have hw := h.w0 hn
 refine ⟨fun {t} h0 ht => ?_, fun {v t} h0 he hv => ?_, fun {v u t} h0 he hv ha hu => ?_, fun {t} h0 ht => ?_⟩
 ·have h1 := (hw.r t h0 ht).r0
  rw [h.wdo hn h0 ht, (h.fp h0 ht).1] at h1; omega
 ·have ht := (d.el he).2
  have h1 := (hw.r t h0 ht).r1 v he hv
  rw [h.wdo hn h0 ht] at h1; omega
 ·have ht := (d.el he).2
  have h1 := (hw.r t h0 ht).r2 v u he hv ha hu
  have huL : u < w.ent.length := by have := d.le ha; have := (d.el he).1; omega
  rw [h.wdo hn h0 ht, h.wdo hn (by omega) huL] at h1; omega
 ·rcases (hw.r t h0 ht).r3 with a | ⟨v, a, b, c⟩ | ⟨v, u, a, b, c, e, f⟩
  ·rw [h.wdo hn h0 ht, (h.fp h0 ht).1] at a; exact .inl (by omega)
  ·rw [h.wdo hn h0 ht] at c; exact .inr (.inl ⟨v, a, b, by omega⟩)
  ·have huL : u < w.ent.length := by have := d.le c; have := (d.el a).1; omega
   rw [h.wdo hn h0 ht, h.wdo hn (by omega) huL] at f; exact .inr (.inr ⟨v, u, a, b, c, e, by omega⟩)
/-- one turn climbs to the nearest one over it -/
theorem cut_nd (h : Wk nx w) (hn : In nx) {k : Nat} (h0 : 0 < k) (hk : k < w.ent.length) : ∀ f (t : List Int) (x : Nat), t.length = w.ent.length → (∀ j, 0 < j → j < k → ∃ y : Nat, t.getD j 0 = (y : Int) ∧ Nd (Et nx w) y j) → t.getD k 0 = (x : Int) → Cbg (Et nx w) (pt w) k x → x < f →
    (∃ y : Nat, (cutF f t k (dn w (ahead nx) k : Int)).getD k 0 = (y : Int) ∧ Nd (Et nx w) y k) ∧ (cutF f t k (dn w (ahead nx) k : Int)).length = w.ent.length ∧ ∀ j, j ≠ k → (cutF f t k (dn w (ahead nx) k : Int)).getD j 0 = t.getD j 0 := by
 have d := h.dfs hn
 have s := h.wd hn
 intro f
 induction f with
 | zero => intro t x _ _ _ _ hf; omega
 | succ f ih =>
   intro t x hl hj hx hc hf
   by_cases hlt : (dn w (ahead nx) k : Int) < t.getD k 0
   ·rw [cutF_yes f t k _ hlt]
    have hD : dn w (ahead nx) k < x := by rw [hx] at hlt; omega
    have hxk := hc.lt
    obtain ⟨y, hy, hyn⟩ := hj x (by omega) hxk
    have hyx := hyn.1.lt d (by omega)
    have e1 : (t.getD k 0).toNat = x := by rw [hx]; rfl
    rw [e1, hy]
    have e0 : ∀ j, (t.set k (y : Int)).getD j 0 = if j = k then (y : Int) else t.getD j 0 := fun j => getD_set _ _ _ _ (by rw [hl]; exact hk)
    obtain ⟨k1, k2, k3⟩ := ih (t.set k (y : Int)) y (by simp [hl]) (fun j a b => by rw [e0, if_neg (by omega)]; exact hj j a b) (by rw [e0, if_pos rfl]) (hc.next d s h0 hk hD hyn) (by omega)
    exact ⟨k1, k2, fun j hjk => by rw [k3 j hjk, e0, if_neg hjk]⟩
   ·rw [cutF_no _ t k _ hlt]
    exact ⟨⟨x, hx, hc.done d s h0 hk (by rw [hx] at hlt; omega)⟩, hl, fun j _ => rfl⟩
theorem Wk.trs_nd (h : Wk nx w) (hn : In nx) : ∀ k, k ≤ w.ent.length → (trs (widest w (ahead nx)) w.fr k).length = w.ent.length ∧ (trs (widest w (ahead nx)) w.fr k).getD 0 0 = -1 ∧ (∀ j, 0 < j → j < k → ∃ y : Nat, (trs (widest w (ahead nx)) w.fr k).getD j 0 = (y : Int) ∧ Nd (Et nx w) y j) ∧ ∀ j, k ≤ j → (trs (widest w (ahead nx)) w.fr k).getD j 0 = w.fr.getD j 0 := by
 have d := h.dfs hn
 intro k
 induction k with
 | zero => intro _; exact ⟨h.inv.fl, h.f0, fun j a b => by omega, fun _ _ => rfl⟩
 | succ k ih =>
   intro hk
   obtain ⟨h1, h2, h3, h4⟩ := ih (by omega)
   rw [trs_succ]
   obtain ⟨t, ht⟩ : ∃ t, t = trs (widest w (ahead nx)) w.fr k := ⟨_, rfl⟩
   rw [← ht] at h1 h2 h3 h4 ⊢
   by_cases e : k = 0
   ·subst e
    have ew : (widest w (ahead nx)).getD 0 0 = -1 := by
     have := (h.w0 hn).o1 0 (Nat.le_refl _)
     unfold widest
     rw [h.inv.fl, this]; exact h.f0
    rw [ew, cutF_no _ t 0 (-1) (by rw [h2]; omega)]
    exact ⟨h1, h2, fun j a b => by omega, fun j hj => h4 j (Nat.zero_le _)⟩
   ·have h0 : 0 < k := by omega
    have ew : (widest w (ahead nx)).getD k 0 = (dn w (ahead nx) k : Int) := by
     have := h.wdo hn h0 (by omega)
     unfold widest
     rw [h.inv.fl]; exact this
    have hp := h.fp h0 (by omega)
    obtain ⟨k1, k2, k3⟩ := cut_nd h hn h0 (by omega) (k + 1) t (pt w k) h1 h3 (by rw [h4 k (Nat.le_refl _)]; exact hp.1) (Cbg.init d h0 (by omega)) (by omega)
    rw [ew]
    refine ⟨k2, by rw [k3 0 (by omega)]; exact h2, fun j a b => ?_, fun j hj => by rw [k3 j (by omega)]; exact h4 j (by omega)⟩
    by_cases ej : j = k
    ·subst ej; exact k1
    ·rw [k3 j ej]; exact h3 j a (by omega)
/-- each turn's nearest one over it -/
theorem Wk.tree_nd (h : Wk nx w) (hn : In nx) : (tree w (ahead nx)).length = w.ent.length ∧ (tree w (ahead nx)).getD 0 0 = -1 ∧ ∀ j, 0 < j → j < w.ent.length → ∃ y : Nat, (tree w (ahead nx)).getD j 0 = (y : Int) ∧ Nd (Et nx w) y j := by
 have hl : (widest w (ahead nx)).length = w.ent.length := by
  unfold widest; rw [h.inv.fl]; exact (h.w0 hn).lo
 obtain ⟨h1, h2, h3, -⟩ := h.trs_nd hn w.ent.length (Nat.le_refl _)
 unfold tree
 rw [hl]
 exact ⟨h1, h2, h3⟩
theorem Wk.inj (h : Wk nx w) {i j : Nat} (hi : i < w.ent.length) (hj : j < w.ent.length) (e : w.ent.getD i 0 = w.ent.getD j 0) : i = j := by
 have h1 := h.tt i hi
 rw [e, h.tt j hj] at h1; omega
theorem Wk.ovs_at (h : Wk nx w) (hn : In nx) (t : List Int) : ∀ K, K ≤ w.ent.length → (∀ j, j < K → t.getD j 0 ≠ -1 → (ovs w t nx.length K).getD (w.ent.getD j 0) 0 = ((w.ent.getD (t.getD j 0).toNat 0 : Nat) : Int)) ∧ ∀ b, b < nx.length → (∀ j, j < K → w.ent.getD j 0 = b → t.getD j 0 = -1) → (ovs w t nx.length K).getD b 0 = -1 := by
 intro K
 induction K with
 | zero => intro _; exact ⟨fun j hj => by omega, fun b hb _ => by simp only [ovs, List.range_zero, List.foldl_nil]; rw [getD_get _ _ _ (by simpa using hb)]; simp⟩
 | succ K ih =>
   intro hK
   obtain ⟨h1, h2⟩ := ih (by omega)
   rw [ovs_succ]
   by_cases e : t.getD K 0 = -1
   ·rw [if_pos e]
    refine ⟨fun j hj hne => ?_, fun b hb hall => h2 b hb fun j hj => hall j (by omega)⟩
    by_cases ej : j = K
    ·subst ej; exact absurd e hne
    ·exact h1 j (by omega) hne
   ·rw [if_neg e]
    have hbl := h.blk hn (show K < w.ent.length by omega)
    have e0 : ∀ b x, ((ovs w t nx.length K).set (w.ent.getD K 0) x).getD b 0 = if b = w.ent.getD K 0 then x else (ovs w t nx.length K).getD b 0 := fun b x => getD_set _ _ _ _ (by rw [ovs_len]; exact hbl)
    refine ⟨fun j hj hne => ?_, fun b hb hall => ?_⟩
    ·rw [e0]
     by_cases ej : j = K
     ·subst ej; rw [if_pos rfl]
     ·rw [if_neg (fun e9 => ej (h.inj (by omega) (by omega) e9))]; exact h1 j (by omega) hne
    ·rw [e0, if_neg (fun e9 => e (hall K (by omega) e9.symm))]
     exact h2 b hb fun j hj => hall j (by omega)
/-- from a block on, not through one: whoever is come to -/
theorem wo_snd (nx : List (List Nat)) (no : Int) : ∀ f b i x, x ∈ wo nx no f b i → x ∈ i ∨ ((b : Int) ≠ no ∧ Rc (fun u v => v ∈ nx.getD u []) (fun y => (y : Int) ≠ no) b x) := by
 intro f
 induction f with
 | zero => intro b i x h; exact .inl h
 | succ f ih =>
   intro b i x h
   unfold wo at h
   split at h
   ·exact .inl h
   ·rename_i hc
    have hb : (b : Int) ≠ no := fun e => hc (.inl e)
    have key : ∀ (l : List Nat), (∀ y ∈ l, y ∈ nx.getD b []) → ∀ q : List Nat, x ∈ l.foldl (fun i x => wo nx no f x i) q → x ∈ q ∨ Rc (fun u v => v ∈ nx.getD u []) (fun y => (y : Int) ≠ no) b x := by
     intro l
     induction l with
     | nil => intro _ q h; exact .inl h
     | cons y r ihl =>
       intro hy q h
       simp only [List.foldl_cons] at h
       rcases ihl (fun z hz => hy z (List.mem_cons_of_mem _ hz)) _ h with h1 | h1
       ·rcases ih y q x h1 with h2 | ⟨h2, h3⟩
        ·exact .inl h2
        ·exact .inr (((Rc.refl _ b).step (hy y (List.mem_cons_self ..)) h2).trans h3)
       ·exact .inr h1
    rcases key (nx.getD b []) (fun y hy => hy) _ h with h1 | h1
    ·rcases List.mem_append.1 h1 with h2 | h2
     ·exact .inl h2
     ·rw [List.mem_singleton] at h2; subst h2
      exact .inr ⟨hb, Rc.refl _ _⟩
    ·exact .inr ⟨hb, h1⟩
structure Cn (nx : List (List Nat)) (no : Int) (i j : List Nat) : Prop where
 sub : ∀ x ∈ i, x ∈ j
 nd : j.Nodup
 lt : ∀ x ∈ j, x < nx.length
 le : i.length ≤ j.length
 cl : ∀ x ∈ j, x ∈ i ∨ ∀ y ∈ nx.getD x [], (y : Int) ≠ no → y ∈ j
theorem wo_cn (nx : List (List Nat)) (hn : In nx) (no : Int) : ∀ f b i, i.Nodup → (∀ x ∈ i, x < nx.length) → b < nx.length → nx.length ≤ i.length + f → Cn nx no i (wo nx no f b i) ∧ ((b : Int) ≠ no → b ∈ wo nx no f b i) := by
 intro f
 induction f with
 | zero =>
   intro b i hd hi hb hl
   exact ⟨⟨fun x h => h, hd, hi, Nat.le_refl _, fun x h => .inl h⟩, fun _ => nodup_all hd hi (by omega) b hb⟩
 | succ f ih =>
   intro b i hd hi hb hl
   unfold wo
   split
   ·rename_i hc
    exact ⟨⟨fun x h => h, hd, hi, Nat.le_refl _, fun x h => .inl h⟩, fun hne => hc.resolve_left hne⟩
   ·rename_i hc
    have hm : b ∉ i := fun e => hc (.inr e)
    have hd1 : (i ++ [b]).Nodup := by
     rw [List.nodup_append]
     exact ⟨hd, by simp, fun x hx y hy => by rw [List.mem_singleton] at hy; subst hy; exact fun e => hm (e ▸ hx)⟩
    have hi1 : ∀ x ∈ i ++ [b], x < nx.length := fun x hx => by
     rcases List.mem_append.1 hx with h | h
     ·exact hi x h
     ·rw [List.mem_singleton] at h; subst h; exact hb
    have key : ∀ (l : List Nat), (∀ x ∈ l, x < nx.length) → ∀ q : List Nat, q.Nodup → (∀ x ∈ q, x < nx.length) → i.length + 1 ≤ q.length → Cn nx no q (l.foldl (fun i x => wo nx no f x i) q) ∧ ∀ x ∈ l, (x : Int) ≠ no → x ∈ l.foldl (fun i x => wo nx no f x i) q := by
     intro l
     induction l with
     | nil => intro _ q h1 h2 _; exact ⟨⟨fun x h => h, h1, h2, Nat.le_refl _, fun x h => .inl h⟩, fun x h => by cases h⟩
     | cons x r ihl =>
       intro hx q h1 h2 h3
       simp only [List.foldl_cons]
       obtain ⟨k1, k2⟩ := ih x q h1 h2 (hx x (List.mem_cons_self ..)) (by omega)
       obtain ⟨k3, k4⟩ := ihl (fun y hy => hx y (List.mem_cons_of_mem _ hy)) _ k1.nd k1.lt (by have := k1.le; omega)
       refine ⟨⟨fun y hy => k3.sub y (k1.sub y hy), k3.nd, k3.lt, Nat.le_trans k1.le k3.le, fun y hy => ?_⟩, fun y hy hne => ?_⟩
       ·rcases k3.cl y hy with h | h
        ·rcases k1.cl y h with h5 | h5
         ·exact .inl h5
         ·exact .inr fun z hz hzn => k3.sub z (h5 z hz hzn)
        ·exact .inr h
       ·rcases List.mem_cons.1 hy with rfl | h
        ·exact k3.sub _ (k2 hne)
        ·exact k4 y h hne
    obtain ⟨k1, k2⟩ := key (nx.getD b []) (hn b) (i ++ [b]) hd1 hi1 (by simp)
    have hbm := k1.sub b (by simp)
    refine ⟨⟨fun x h => k1.sub x (by simp [h]), k1.nd, k1.lt, by have h9 := k1.le; rw [List.length_append, List.length_singleton] at h9; omega, fun x hx => ?_⟩, fun _ => hbm⟩
    rcases k1.cl x hx with h | h
    ·rcases List.mem_append.1 h with h | h
     ·exact .inl h
     ·rw [List.mem_singleton] at h; subst h; exact .inr k2
    ·exact .inr h
/-- without a block -/
def wt (nx : List (List Nat)) (a : Nat) : List Nat := wo nx (a : Int) nx.length 0 []
theorem Wk.wt_iff (h : Wk nx w) (hn : In nx) (h1 : 0 < nx.length) {i j : Nat} (hi : i < w.ent.length) (hj : j < w.ent.length) : w.ent.getD j 0 ∈ wt nx (w.ent.getD i 0) ↔ Rx (Et nx w) i j := by
 constructor
 ·intro hm
  rcases wo_snd nx _ _ _ _ _ hm with h2 | ⟨h2, h3⟩
  ·cases h2
  ·have h0i : 0 ≠ i := fun e => h2 (by rw [← e, h.e0])
   have key := h3 (fun x => ∃ k, k < w.ent.length ∧ w.ent.getD k 0 = x ∧ Rc (Et nx w) (fun y => y ≠ i) 0 k) ⟨0, h.pos, h.e0, Rc.refl _ _⟩ (fun b c ⟨k, k1, k2, k3⟩ e q => by
    subst k2
    have hne := (h.gd.suc k (Nat.zero_le _) k1 c e).1
    have hb := tn_at h.inv (hn _ c e)
    obtain ⟨v, hv⟩ : ∃ v : Nat, w.tn.getD c 0 = (v : Int) := ⟨(w.tn.getD c 0).toNat, by omega⟩
    obtain ⟨h5, h6⟩ := h.ti hn (hn _ c e) hv
    exact ⟨v, h5, h6, k3.step ⟨k1, c, e, hv⟩ (fun e9 => q (by rw [← h6, e9]))⟩)
   obtain ⟨k, k1, k2, k3⟩ := key
   have := h.inj k1 hj k2
   subst this
   exact ⟨h0i, k3⟩
 ·rintro ⟨h0, hr⟩
  obtain ⟨k1, k2⟩ := wo_cn nx hn (w.ent.getD i 0 : Int) nx.length 0 [] (by simp) (by simp) h1 (by simp)
  have h0m : 0 ∈ wt nx (w.ent.getD i 0) := k2 (fun e => h0 (h.inj h.pos hi (by rw [h.e0]; omega)))
  exact (hr (fun k => k < w.ent.length ∧ w.ent.getD k 0 ∈ wt nx (w.ent.getD i 0)) ⟨h.pos, by rw [h.e0]; exact h0m⟩ (fun b c ⟨hb, hs⟩ e q => by
   obtain ⟨e1, e2, e3⟩ := (h.et hn).1 e
   refine ⟨e2, ?_⟩
   rcases k1.cl _ hs with h5 | h5
   ·cases h5
   ·exact h5 _ e3 (fun e9 => q (h.inj e2 hi (by omega))))).2
/-- is a block over another one? the document's words -/
abbrev isOv (nx : List (List Nat)) (a b : Nat) : Prop := a ≠ b ∧ b ∉ wt nx a
theorem Wk.ov_iff (h : Wk nx w) (hn : In nx) (h1 : 0 < nx.length) {i j : Nat} (hi : i < w.ent.length) (hj : j < w.ent.length) : isOv nx (w.ent.getD i 0) (w.ent.getD j 0) ↔ Dm (Et nx w) i j := by
 unfold isOv Dm
 rw [h.wt_iff hn h1 hi hj]
 exact and_congr_left fun _ => ⟨fun k e => k (by rw [e]), fun k e => k (h.inj hi hj e)⟩
def ov1 (nx : List (List Nat)) (b : Nat) (at_ : Int) (a : Nat) : Int := if a ∈ reach nx ∧ isOv nx a b then (if at_ < 0 ∨ isOv nx at_.toNat a then (a : Int) else at_) else at_
def ovk (nx : List (List Nat)) (b k : Nat) : Int := (List.range k).foldl (ov1 nx b) (-1)
theorem ovk_succ (nx : List (List Nat)) (b k : Nat) : ovk nx b (k + 1) = ov1 nx b (ovk nx b k) k := by unfold ovk; rw [List.range_succ, List.foldl_append]; rfl
/-- the document's Over, of a block -/
def ovD (nx : List (List Nat)) (b : Nat) : Int := if b ∈ reach nx then ovk nx b nx.length else -1
theorem Wk.ovk_inv (h : Wk nx w) (hn : In nx) (h1 : 0 < nx.length) (he : w.ent = reach nx) {j : Nat} (hj : j < w.ent.length) : ∀ k, k ≤ nx.length → (ovk nx (w.ent.getD j 0) k = -1 ∧ ∀ i, i < w.ent.length → w.ent.getD i 0 < k → ¬ Dm (Et nx w) i j) ∨
    ∃ i, i < w.ent.length ∧ ovk nx (w.ent.getD j 0) k = (w.ent.getD i 0 : Int) ∧ Dm (Et nx w) i j ∧ ∀ i', i' < w.ent.length → w.ent.getD i' 0 < k → Dm (Et nx w) i' j → i' = i ∨ Dm (Et nx w) i' i := by
 have d := h.dfs hn
 intro k
 induction k with
 | zero => intro _; exact .inl ⟨rfl, fun i _ hi => by omega⟩
 | succ k ih =>
   intro hk
   rw [ovk_succ]
   unfold ov1
   by_cases hc : k ∈ reach nx ∧ isOv nx k (w.ent.getD j 0)
   ·rw [if_pos hc]
    have hm := hc.1
    rw [← he] at hm
    obtain ⟨a, ha, hae⟩ := List.getElem_of_mem hm
    have hae : w.ent.getD a 0 = k := by rw [getD_get _ _ _ ha]; exact hae
    have had : Dm (Et nx w) a j := (h.ov_iff hn h1 ha hj).1 (by rw [hae]; exact hc.2)
    rcases ih (by omega) with ⟨e1, e2⟩ | ⟨i, i1, i2, i3, i4⟩
    ·rw [e1, if_pos (.inl (by omega))]
     refine .inr ⟨a, ha, by rw [hae], had, fun i' q1 q2 q3 => ?_⟩
     by_cases e9 : w.ent.getD i' 0 < k
     ·exact absurd q3 (e2 i' q1 e9)
     ·exact .inl (h.inj q1 ha (by omega))
    ·rw [i2]
     have hti : ((w.ent.getD i 0 : Nat) : Int).toNat = w.ent.getD i 0 := by omega
     rw [hti]
     by_cases hi : isOv nx (w.ent.getD i 0) k
     ·rw [if_pos (.inr hi)]
      have hia : Dm (Et nx w) i a := (h.ov_iff hn h1 i1 ha).1 (by rw [hae]; exact hi)
      refine .inr ⟨a, ha, by rw [hae], had, fun i' q1 q2 q3 => ?_⟩
      by_cases e9 : w.ent.getD i' 0 < k
      ·rcases i4 i' q1 e9 q3 with e | e
       ·rw [e]; exact .inr hia
       ·exact .inr (e.trans d ha hia)
      ·exact .inl (h.inj q1 ha (by omega))
     ·have hnl : ¬ (((w.ent.getD i 0 : Nat) : Int) < 0 ∨ isOv nx (w.ent.getD i 0) k) := fun e => e.elim (fun e => by omega) hi
      rw [if_neg hnl]
      have hia : ¬ Dm (Et nx w) i a := fun e => hi (by rw [← hae]; exact (h.ov_iff hn h1 i1 ha).2 e)
      refine .inr ⟨i, i1, rfl, i3, fun i' q1 q2 q3 => ?_⟩
      by_cases e9 : w.ent.getD i' 0 < k
      ·exact i4 i' q1 e9 q3
      ·have : i' = a := h.inj q1 ha (by omega)
       subst this
       rcases Nat.lt_trichotomy i i' with e | e | e
       ·exact absurd (i3.chain d hj e q3) hia
       ·exact .inl e.symm
       ·exact .inr (q3.chain d hj e i3)
   ·rw [if_neg hc]
    have hno : ∀ i, i < w.ent.length → w.ent.getD i 0 = k → ¬ Dm (Et nx w) i j := fun i hi e hd => hc ⟨by rw [← he, ← e]; exact getD_mem _ _ _ hi, by rw [← e]; exact (h.ov_iff hn h1 hi hj).2 hd⟩
    rcases ih (by omega) with ⟨e1, e2⟩ | ⟨i, i1, i2, i3, i4⟩
    ·refine .inl ⟨e1, fun i hi hlt => ?_⟩
     by_cases e9 : w.ent.getD i 0 < k
     ·exact e2 i hi e9
     ·exact hno i hi (by omega)
    ·refine .inr ⟨i, i1, i2, i3, fun i' q1 q2 q3 => ?_⟩
     by_cases e9 : w.ent.getD i' 0 < k
     ·exact i4 i' q1 e9 q3
     ·exact absurd q3 (hno i' q1 (by omega))
end
/-- the program's answer is the document's -/
theorem over_eq {nx : List (List Nat)} (hn : In nx) (h1 : 0 < nx.length) (b : Nat) (hb : b < nx.length) : (over nx).getD b 0 = ovD nx b := by
 have h := wk_walk hn h1
 have he := reach_eq hn h1
 obtain ⟨w, hw⟩ : ∃ w, w = walk nx := ⟨_, rfl⟩
 unfold over
 rw [← hw] at h he ⊢
 have d := h.dfs hn
 obtain ⟨t1, t2, t3⟩ := h.tree_nd hn
 obtain ⟨t, ht⟩ : ∃ t, t = tree w (ahead nx) := ⟨_, rfl⟩
 rw [← ht] at t1 t2 t3 ⊢
 rw [t1]
 obtain ⟨o1, o2⟩ := h.ovs_at hn t w.ent.length (Nat.le_refl _)
 unfold ovD
 by_cases hr : b ∈ reach nx
 ·rw [if_pos hr]
  have hm := hr
  rw [← he] at hm
  obtain ⟨j, hj, hje⟩ := List.getElem_of_mem hm
  have hje : w.ent.getD j 0 = b := by rw [getD_get _ _ _ hj]; exact hje
  subst hje
  have inv := h.ovk_inv hn h1 he hj nx.length (Nat.le_refl _)
  by_cases h0 : j = 0
  ·subst h0
   rw [o2 _ hb fun i hi e => by rw [h.inj hi hj e]; exact t2]
   rcases inv with ⟨e, -⟩ | ⟨i, i1, -, i3, -⟩
   ·exact e.symm
   ·have := i3.lt d hj; omega
  ·obtain ⟨y, hy, hyn⟩ := t3 j (by omega) hj
   have hyj := hyn.1.lt d hj
   rw [o1 j hj (by rw [hy]; omega), hy]
   rcases inv with ⟨-, e⟩ | ⟨i, i1, i2, i3, i4⟩
   ·exact absurd hyn.1 (e y (by omega) (h.blk hn (by omega)))
   ·rw [i2]
    have : y = i := by
     rcases i4 y (by omega) (h.blk hn (by omega)) hyn.1 with e | e
     ·exact e
     ·rcases hyn.2 i i3 with e2 | e2
      ·exact e2.symm
      ·have := e.lt d i1; have := e2.lt d (by omega); omega
    subst this
    rfl
 ·rw [if_neg hr]
  exact o2 b hb fun j hj e => absurd (by rw [← he, ← e]; exact getD_mem _ _ _ hj) hr
end Fw
end Go.Proofs.YtglehoekehiaiaaGreatDoor
