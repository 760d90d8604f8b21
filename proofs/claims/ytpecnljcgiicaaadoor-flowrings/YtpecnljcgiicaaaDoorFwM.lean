/- flow: which way code goes, as plain lists: the walk, what is ahead, the tree, loops. -/
namespace Go.Proofs.YtpecnljcgiicaaaDoor
namespace Fw
set_option linter.unusedVariables false

structure St where
  ent : List Nat
  fr : List Int
  tn : List Int
  lf : List Nat
/-- into a block, and out of it into all others that were not gone into yet -/
def go (nx : List (List Nat)) : Nat → Nat → Int → St → St
  | 0, _, _, s => s
  | f + 1, b, p, s =>
    let s2 := (nx.getD b []).foldl (fun (q : St) n => if q.tn.getD n 0 = -1 then go nx f n (s.ent.length : Int) q else q) ⟨s.ent ++ [b], s.fr ++ [p], s.tn.set b (s.ent.length : Int), s.lf⟩
    ⟨s2.ent, s2.fr, s2.tn, s2.lf ++ [b]⟩
/-- one way out of a block -/
def way (nx : List (List Nat)) (f : Nat) (t : Int) (q : St) (n : Nat) : St := if q.tn.getD n 0 = -1 then go nx f n t q else q
def mark (s : St) (b : Nat) (p : Int) : St := ⟨s.ent ++ [b], s.fr ++ [p], s.tn.set b (s.ent.length : Int), s.lf⟩
theorem go_succ (nx : List (List Nat)) (f b : Nat) (p : Int) (s : St) : go nx (f + 1) b p s = { (nx.getD b []).foldl (way nx f (s.ent.length : Int)) (mark s b p) with lf := ((nx.getD b []).foldl (way nx f (s.ent.length : Int)) (mark s b p)).lf ++ [b] } := rfl
def start (n : Nat) : St := ⟨[], [], List.replicate n (-1), []⟩
def walk (nx : List (List Nat)) : St := go nx nx.length 0 (-1) (start nx.length)
/-- all numbers are of blocks that are there -/
def In (nx : List (List Nat)) : Prop := ∀ b, ∀ x ∈ nx.getD b [], x < nx.length

structure Inv (n : Nat) (s : St) : Prop where
  tl : s.tn.length = n
  fl : s.fr.length = s.ent.length
  ec : s.ent.length + s.tn.count (-1) = n
  eb : ∀ x ∈ s.ent, x < n
  lb : ∀ x ∈ s.lf, x < n
  ll : s.lf.length ≤ s.ent.length
  fb : ∀ i (h : i < s.fr.length), -1 ≤ s.fr[i] ∧ s.fr[i] < (i : Int)
  tb : ∀ x ∈ s.tn, -1 ≤ x ∧ x < (s.ent.length : Int)
theorem count_set {l : List Int} {b : Nat} (h : b < l.length) (hb : l.getD b 0 = -1) {x : Int} (hx : x ≠ -1) : (l.set b x).count (-1) + 1 = l.count (-1) := by
  have e : -1 = l[b] := by rw [← hb, List.getD_eq_getElem?_getD, List.getElem?_eq_getElem h]; rfl
  rw [List.count_set (by exact h)]
  have h1 : 0 < l.count (-1) := List.count_pos_iff.2 (e ▸ List.getElem_mem h)
  simp [← e, hx]
  omega
theorem Inv.start (n : Nat) : Inv n (start n) := by
  refine ⟨by simp [Fw.start], rfl, by simp [Fw.start], by simp [Fw.start], by simp [Fw.start], Nat.le_refl _, by simp [Fw.start], fun x hx => ?_⟩
  have := (List.mem_replicate.1 hx).2; subst this; simp [Fw.start]
theorem Inv.mark {n : Nat} {s : St} (h : Inv n s) {b : Nat} {p : Int} (hb : b < n) (ht : s.tn.getD b 0 = -1) (h0 : -1 ≤ p) (h1 : p < (s.ent.length : Int)) : Inv n (mark s b p) := by
  have hl : b < s.tn.length := by rw [h.tl]; exact hb
  have hc := count_set hl ht (x := (s.ent.length : Int)) (by omega)
  refine ⟨by simp [Fw.mark, h.tl], by simp [Fw.mark, h.fl], ?_, ?_, h.lb, ?_, ?_, ?_⟩
  · have := h.ec; simp only [Fw.mark, List.length_append, List.length_cons, List.length_nil]; omega
  · intro x hx
    simp only [Fw.mark, List.mem_append, List.mem_singleton] at hx
    rcases hx with hx | rfl
    · exact h.eb x hx
    · exact hb
  · have := h.ll; simp only [Fw.mark, List.length_append, List.length_cons, List.length_nil]; omega
  · intro i hi
    simp only [Fw.mark] at hi ⊢
    rw [List.getElem_append]
    split
    · exact h.fb i _
    · have := h.fl; simp at hi ⊢; omega
  · intro x hx
    simp only [Fw.mark] at hx ⊢
    simp only [List.length_append, List.length_cons, List.length_nil]
    rcases List.mem_or_eq_of_mem_set hx with h2 | rfl
    · have := h.tb x h2; omega
    · omega
theorem Inv.leave {n : Nat} {s : St} (h : Inv n s) {b : Nat} (hb : b < n) (hlt : s.lf.length < s.ent.length) : Inv n ⟨s.ent, s.fr, s.tn, s.lf ++ [b]⟩ :=
  ⟨h.tl, h.fl, h.ec, h.eb, fun x hx => by rcases List.mem_append.1 hx with h2 | h2; exact h.lb x h2; rw [List.mem_singleton.1 h2]; exact hb, by simp only [List.length_append, List.length_cons, List.length_nil]; omega, h.fb, h.tb⟩
/-- what a walk leaves: more was gone into, no less is left -/
structure On (s s' : St) : Prop where
  e : s.ent.length ≤ s'.ent.length
  c : s'.tn.count (-1) ≤ s.tn.count (-1)
  d : s'.lf.length + s.ent.length ≤ s.lf.length + s'.ent.length
theorem On.refl (s : St) : On s s := ⟨Nat.le_refl _, Nat.le_refl _, Nat.le_refl _⟩
theorem On.trans {a b c : St} (h : On a b) (k : On b c) : On a c := ⟨Nat.le_trans h.e k.e, Nat.le_trans k.c h.c, by have := h.d; have := k.d; omega⟩
theorem go_inv (nx : List (List Nat)) (hn : In nx) : ∀ f b p s, Inv nx.length s → b < nx.length → s.tn.getD b 0 = -1 → -1 ≤ p → p < (s.ent.length : Int) → Inv nx.length (go nx f b p s) ∧ On s (go nx f b p s) := by
  intro f
  induction f with
  | zero => intro b p s h _ _ _ _; exact ⟨h, On.refl s⟩
  | succ f ih =>
    intro b p s h hb ht h0 h1
    have hm := h.mark hb ht h0 h1
    have hom : (mark s b p).ent.length = s.ent.length + 1 := by simp [mark]
    have hcm : (mark s b p).tn.count (-1) ≤ s.tn.count (-1) := by
      have := count_set (show b < s.tn.length by rw [h.tl]; exact hb) ht (x := (s.ent.length : Int)) (by omega)
      simp only [mark]; omega
    have key : ∀ l : List Nat, (∀ x ∈ l, x < nx.length) → ∀ q, Inv nx.length q → On (mark s b p) q → Inv nx.length (l.foldl (way nx f (s.ent.length : Int)) q) ∧ On (mark s b p) (l.foldl (way nx f (s.ent.length : Int)) q) := by
      intro l
      induction l with
      | nil => intro _ q hq ho; exact ⟨hq, ho⟩
      | cons x r ihl =>
        intro hx q hq ho
        simp only [List.foldl_cons]
        have hxs := hx x (List.mem_cons_self ..)
        refine ihl (fun y hy => hx y (List.mem_cons_of_mem _ hy)) _ ?_ ?_
        · unfold way; split
          · have := ho.e; exact (ih x _ q hq hxs (by assumption) (by omega) (by omega)).1
          · exact hq
        · unfold way; split
          · have := ho.e; exact ho.trans (ih x _ q hq hxs (by assumption) (by omega) (by omega)).2
          · exact ho
    obtain ⟨k1, k2⟩ := key (nx.getD b []) (hn b) (mark s b p) hm (On.refl _)
    rw [go_succ]
    have hd := k2.d
    have he := k2.e
    have hlm : (mark s b p).lf.length = s.lf.length := rfl
    have hll := h.ll
    refine ⟨k1.leave hb (by omega), ⟨by have := k2.e; simp only; omega, Nat.le_trans k2.c hcm, by simp only [List.length_append, List.length_cons, List.length_nil]; omega⟩⟩
/-- a round's begin, of the ways out of a block -/
theorem way_inv (nx : List (List Nat)) (hn : In nx) (f : Nat) (t : Int) (h0 : -1 ≤ t) : ∀ l : List Nat, (∀ x ∈ l, x < nx.length) → ∀ q, Inv nx.length q → t < (q.ent.length : Int) → Inv nx.length (l.foldl (way nx f t) q) ∧ On q (l.foldl (way nx f t) q) := by
  intro l
  induction l with
  | nil => intro _ q hq ho; exact ⟨hq, On.refl q⟩
  | cons x r ihl =>
    intro hx q hq ho
    simp only [List.foldl_cons]
    have hxs := hx x (List.mem_cons_self ..)
    have h1 : Inv nx.length (way nx f t q x) ∧ On q (way nx f t q x) := by
      unfold way; split
      · exact go_inv nx hn f x t q hq hxs (by assumption) h0 ho
      · exact ⟨hq, On.refl q⟩
    have he := h1.2.e
    obtain ⟨k1, k2⟩ := ihl (fun y hy => hx y (List.mem_cons_of_mem _ hy)) _ h1.1 (by omega)
    exact ⟨k1, h1.2.trans k2⟩

/-- what is ahead of each -/
def ah1 (i : Nat) (o : List (List Nat)) (n : Nat) : List (List Nat) := if (o.getD n []).getLast? = some i then o else o.set n (o.getD n [] ++ [i])
def ahs (nx : List (List Nat)) (k : Nat) : List (List Nat) := (List.range k).foldl (fun o i => (nx.getD i []).foldl (ah1 i) o) (List.replicate nx.length [])
def ahead (nx : List (List Nat)) : List (List Nat) := ahs nx nx.length
theorem getD_out {α : Type} (l : List α) (i : Nat) (d : α) (h : l.length ≤ i) : l.getD i d = d := by
  rw [List.getD_eq_getElem?_getD, List.getElem?_eq_none h]; rfl
structure AhI (n i : Nat) (o : List (List Nat)) : Prop where
  len : o.length = n
  row : ∀ l ∈ o, (∀ x ∈ l, x ≤ i) ∧ (l.length ≤ i ∨ (l.length ≤ i + 1 ∧ l.getLast? = some i))
theorem getD_mem {α : Type} (l : List α) (i : Nat) (d : α) (h : i < l.length) : l.getD i d ∈ l := by
  rw [List.getD_eq_getElem?_getD, List.getElem?_eq_getElem h]; exact List.getElem_mem h
theorem getD_get {α : Type} (l : List α) (i : Nat) (d : α) (h : i < l.length) : l.getD i d = l[i] := by
  rw [List.getD_eq_getElem?_getD, List.getElem?_eq_getElem h]; rfl
theorem get?_getD {α : Type} (l : List α) (i : Nat) (d : α) (h : i < l.length) : l[i]? = some (l.getD i d) := by
  rw [getD_get l i d h]; exact List.getElem?_eq_getElem h
theorem AhI.start (n : Nat) : AhI n 0 (List.replicate n []) := ⟨by simp, fun l hl => by rw [(List.mem_replicate.1 hl).2]; simp⟩
theorem AhI.step {n i : Nat} {o : List (List Nat)} (h : AhI n i o) (x : Nat) (hx : x < n) : AhI n i (ah1 i o x) := by
  unfold ah1
  split
  · exact h
  · rename_i hne
    refine ⟨by simp [h.len], fun l hl => ?_⟩
    rcases List.mem_or_eq_of_mem_set hl with h2 | rfl
    · exact h.row l h2
    · have hm := h.row _ (getD_mem o x [] (by rw [h.len]; exact hx))
      refine ⟨fun y hy => ?_, .inr ⟨?_, by simp⟩⟩
      · rcases List.mem_append.1 hy with h3 | h3
        · exact hm.1 y h3
        · rw [List.mem_singleton.1 h3]; exact Nat.le_refl _
      · rcases hm.2 with h3 | ⟨_, h3⟩
        · simp only [List.length_append, List.length_cons, List.length_nil]; omega
        · exact absurd h3 hne
theorem AhI.steps {n i : Nat} : ∀ (l : List Nat) {o : List (List Nat)} (h : AhI n i o) (hx : ∀ x ∈ l, x < n), AhI n i (l.foldl (ah1 i) o) := by
  intro l
  induction l with
  | nil => intro o h _; exact h
  | cons x r ih => intro o h hx; exact ih (h.step x (hx x (List.mem_cons_self ..))) fun y hy => hx y (List.mem_cons_of_mem _ hy)
theorem AhI.next {n i : Nat} {o : List (List Nat)} (h : AhI n i o) : AhI n (i + 1) o :=
  ⟨h.len, fun l hl => ⟨fun x hx => Nat.le_succ_of_le ((h.row l hl).1 x hx), .inl (by rcases (h.row l hl).2 with h3 | ⟨h3, _⟩ <;> omega)⟩⟩
theorem ahs_succ (nx : List (List Nat)) (k : Nat) : ahs nx (k + 1) = (nx.getD k []).foldl (ah1 k) (ahs nx k) := by unfold ahs; rw [List.range_succ, List.foldl_append]; rfl
theorem ahs_inv (nx : List (List Nat)) (hn : In nx) : ∀ k, AhI nx.length k (ahs nx k) := by
  intro k
  induction k with
  | zero => exact AhI.start _
  | succ k ih => rw [ahs_succ]; exact (AhI.steps _ ih (hn k)).next
theorem ah1_same (i : Nat) {o : List (List Nat)} {n : Nat} (h : (o.getD n []).getLast? = some i) : ah1 i o n = o := if_pos h
theorem ah1_add (i : Nat) {o : List (List Nat)} {n : Nat} (h : ¬ (o.getD n []).getLast? = some i) : ah1 i o n = o.set n (o.getD n [] ++ [i]) := if_neg h
/-- the entries are of blocks that are there -/
theorem ahs_lt (nx : List (List Nat)) (hn : In nx) : ∀ k, k ≤ nx.length → ∀ l ∈ ahs nx k, ∀ x ∈ l, x < nx.length := by
  intro k
  induction k with
  | zero => intro _ l hl x hx; rw [(List.mem_replicate.1 hl).2] at hx; cases hx
  | succ k ih =>
    intro hk
    have key : ∀ (r : List Nat) (o : List (List Nat)), (∀ l ∈ o, ∀ x ∈ l, x < nx.length) → ∀ l ∈ r.foldl (ah1 k) o, ∀ x ∈ l, x < nx.length := by
      intro r
      induction r with
      | nil => intro o h; exact h
      | cons a r ihr =>
        intro o h
        refine ihr _ fun l hl x hx => ?_
        unfold ah1 at hl
        split at hl
        · exact h l hl x hx
        · rcases List.mem_or_eq_of_mem_set hl with h2 | rfl
          · exact h l h2 x hx
          · rcases List.mem_append.1 hx with h3 | h3
            · by_cases ha : a < o.length
              · exact h _ (getD_mem o a [] ha) x h3
              · rw [getD_out _ _ _ (by omega)] at h3; cases h3
            · rw [List.mem_singleton.1 h3]; omega
    rw [ahs_succ]
    exact key _ _ (ih (by omega))

/-- numbers that point down -/
structure Up (L : Nat) (l : List Int) : Prop where
  len : l.length = L
  row : ∀ i, i < L → -1 ≤ l.getD i 0 ∧ l.getD i 0 < (i : Int)
structure Lo (L : Nat) (l : List Int) : Prop where
  len : l.length = L
  row : ∀ i, i < L → -1 ≤ l.getD i 0
theorem getD_set (l : List Int) (i j : Nat) (x : Int) (hi : i < l.length) : (l.set i x).getD j 0 = if j = i then x else l.getD j 0 := by
  rw [List.getD_eq_getElem?_getD, List.getElem?_set, List.getD_eq_getElem?_getD]
  by_cases h : i = j
  · subst h; simp [hi]
  · rw [if_neg h, if_neg (fun e => h e.symm)]
theorem Up.lo {L : Nat} {l : List Int} (h : Up L l) : Lo L l := ⟨h.len, fun i hi => (h.row i hi).1⟩
theorem Up.set {L : Nat} {l : List Int} (h : Up L l) {i : Nat} {x : Int} (hi : i < L) (h0 : -1 ≤ x) (h1 : x < (i : Int)) : Up L (l.set i x) :=
  ⟨by simp [h.len], fun j hj => by
    rw [getD_set l i j x (by rw [h.len]; exact hi)]
    split
    · rename_i e; subst e; exact ⟨h0, h1⟩
    · exact h.row j hj⟩
theorem Lo.set {L : Nat} {l : List Int} (h : Lo L l) {i : Nat} {x : Int} (hi : i < L) (h0 : -1 ≤ x) : Lo L (l.set i x) :=
  ⟨by simp [h.len], fun j hj => by
    rw [getD_set l i j x (by rw [h.len]; exact hi)]
    split
    · exact h0
    · exact h.row j hj⟩
theorem Inv.up {n : Nat} {s : St} (h : Inv n s) : Up s.ent.length s.fr := ⟨h.fl, fun i hi => by
  have hl : i < s.fr.length := by rw [h.fl]; exact hi
  rw [getD_get _ _ _ hl]; exact h.fb i hl⟩

/-- up, and the least behind -/
def lb (lim : Int) : Nat → List Int × List Int → Nat → List Int × List Int
  | 0, s, _ => s
  | f + 1, s, t =>
    if lim < s.1.getD t 0 then
      let s2 := lb lim f s (s.1.getD t 0).toNat
      (s2.1.set t (s2.1.getD (s.1.getD t 0).toNat 0), s2.2.set t (min (s2.2.getD t 0) (s2.2.getD (s.1.getD t 0).toNat 0)))
    else s
theorem lb_no (lim : Int) (f : Nat) (s : List Int × List Int) (t : Nat) (h : ¬ lim < s.1.getD t 0) : lb lim f s t = s := by cases f; rfl; exact if_neg h
theorem lb_yes (lim : Int) (f : Nat) (s : List Int × List Int) (t a : Nat) (h : lim < s.1.getD t 0) (ha : s.1.getD t 0 = (a : Int)) : lb lim (f + 1) s t = ((lb lim f s a).1.set t ((lb lim f s a).1.getD a 0), (lb lim f s a).2.set t (min ((lb lim f s a).2.getD t 0) ((lb lim f s a).2.getD a 0))) := by
  have e : (s.1.getD t 0).toNat = a := by omega
  show (if lim < s.1.getD t 0 then _ else s) = _
  rw [if_pos h]; simp only [e]
structure LbI (L : Nat) (s : List Int × List Int) : Prop where
  up : Up L s.1
  lo : Lo L s.2
theorem lb_inv {L : Nat} (lim : Int) (h0 : -1 ≤ lim) : ∀ f s t, LbI L s → t < L → LbI L (lb lim f s t) ∧ (∀ i, t < i → (lb lim f s t).2.getD i 0 = s.2.getD i 0) := by
  intro f
  induction f with
  | zero => intro s t h _; exact ⟨h, fun _ _ => rfl⟩
  | succ f ih =>
    intro s t h ht
    by_cases hc : lim < s.1.getD t 0
    · obtain ⟨a, ha⟩ : ∃ a : Nat, s.1.getD t 0 = (a : Int) := ⟨(s.1.getD t 0).toNat, by omega⟩
      have hu := h.up.row t ht
      obtain ⟨k1, k2⟩ := ih s a h (by omega)
      have ua := k1.up.row a (by omega)
      have la := k1.lo.row a (by omega)
      have lt := k1.lo.row t ht
      rw [lb_yes lim f s t a hc ha]
      refine ⟨⟨k1.up.set ht ua.1 (by omega), k1.lo.set ht (by omega)⟩, fun i hi => ?_⟩
      show ((lb lim f s a).2.set t _).getD i 0 = _
      rw [getD_set _ _ _ _ (by rw [k1.lo.len]; exact ht), if_neg (by omega)]
      exact k2 i (by omega)
    · rw [lb_no lim _ s t hc]; exact ⟨h, fun _ _ => rfl⟩
structure Wi where
  out : List Int
  up : List Int
  le : List Int
def wi1 (tn : List Int) (t : Nat) (s : Wi) (b : Nat) : Wi :=
  if (t : Int) < tn.getD b 0 then
    ⟨s.out.set t (min (s.out.getD t 0) ((lb t (tn.getD b 0).toNat (s.up, s.le) (tn.getD b 0).toNat).2.getD (tn.getD b 0).toNat 0)), (lb t (tn.getD b 0).toNat (s.up, s.le) (tn.getD b 0).toNat).1, (lb t (tn.getD b 0).toNat (s.up, s.le) (tn.getD b 0).toNat).2⟩
  else if tn.getD b 0 = -1 then s
  else ⟨s.out.set t (min (s.out.getD t 0) (tn.getD b 0)), s.up, s.le⟩
structure WiI (L : Nat) (s : Wi) : Prop where
  out : Lo L s.out
  up : Up L s.up
  le : Lo L s.le
theorem wi1_inv {L : Nat} {tn : List Int} {t : Nat} {s : Wi} {b : Nat} (h : WiI L s) (ht : t < L) (hb : -1 ≤ tn.getD b 0 ∧ tn.getD b 0 < (L : Int)) : WiI L (wi1 tn t s b) := by
  unfold wi1
  have ho := h.out.row t ht
  split
  · obtain ⟨k1, _⟩ := lb_inv (L := L) (t : Int) (by omega) (tn.getD b 0).toNat (s.up, s.le) (tn.getD b 0).toNat ⟨h.up, h.le⟩ (by omega)
    have := k1.lo.row (tn.getD b 0).toNat (by omega)
    exact ⟨h.out.set ht (by omega), k1.up, k1.lo⟩
  · split
    · exact h
    · exact ⟨h.out.set ht (by omega), h.up, h.le⟩
theorem wi1s_inv {L : Nat} {tn : List Int} {t : Nat} (ht : t < L) : ∀ (l : List Nat) (s : Wi), WiI L s → (∀ b ∈ l, -1 ≤ tn.getD b 0 ∧ tn.getD b 0 < (L : Int)) → WiI L (l.foldl (wi1 tn t) s) := by
  intro l
  induction l with
  | nil => intro s h _; exact h
  | cons b r ih => intro s h hb; exact ih _ (wi1_inv h ht (hb b (List.mem_cons_self ..))) fun x hx => hb x (List.mem_cons_of_mem _ hx)
def wiT (w : St) (ah : List (List Nat)) (s : Wi) (t : Nat) : Wi :=
  ⟨((ah.getD (w.ent.getD t 0) []).foldl (wi1 w.tn t) s).out, ((ah.getD (w.ent.getD t 0) []).foldl (wi1 w.tn t) s).up, ((ah.getD (w.ent.getD t 0) []).foldl (wi1 w.tn t) s).le.set t (((ah.getD (w.ent.getD t 0) []).foldl (wi1 w.tn t) s).out.getD t 0)⟩
def wis (w : St) (ah : List (List Nat)) (k : Nat) : Wi := (List.range k).foldl (fun s k => wiT w ah s (w.fr.length - 1 - k)) ⟨w.fr, w.fr, List.replicate w.fr.length 0⟩
def widest (w : St) (ah : List (List Nat)) : List Int := (wis w ah (w.fr.length - 1)).out
theorem wis_succ (w : St) (ah : List (List Nat)) (k : Nat) : wis w ah (k + 1) = wiT w ah (wis w ah k) (w.fr.length - 1 - k) := by unfold wis; rw [List.range_succ, List.foldl_append]; rfl
structure AhO (n : Nat) (ah : List (List Nat)) : Prop where
  len : ah.length = n
  lt : ∀ b, ∀ x ∈ ah.getD b [], x < n
theorem ahead_ok (nx : List (List Nat)) (hn : In nx) : AhO nx.length (ahead nx) := by
  have h := ahs_inv nx hn nx.length
  refine ⟨h.len, fun b x hx => ?_⟩
  by_cases hb : b < (ahead nx).length
  · exact ahs_lt nx hn nx.length (Nat.le_refl _) _ (getD_mem _ _ _ hb) x hx
  · rw [getD_out _ _ _ (by omega)] at hx; cases hx
theorem tn_at {n : Nat} {s : St} (h : Inv n s) {b : Nat} (hb : b < n) : -1 ≤ s.tn.getD b 0 ∧ s.tn.getD b 0 < (s.ent.length : Int) := h.tb _ (getD_mem _ _ _ (by rw [h.tl]; exact hb))
theorem wis_inv {n : Nat} {w : St} {ah : List (List Nat)} (h : Inv n w) (ha : AhO n ah) : ∀ k, k ≤ w.fr.length - 1 → WiI w.fr.length (wis w ah k) := by
  intro k
  induction k with
  | zero =>
    intro _
    have hu := h.up
    rw [← h.fl] at hu
    exact ⟨hu.lo, hu, ⟨by simp [wis], fun i hi => by rw [show (wis w ah 0).le = List.replicate w.fr.length 0 from rfl, getD_get _ _ _ (by simpa using hi)]; simp⟩⟩
  | succ k ih =>
    intro hk
    rw [wis_succ]
    have h1 := ih (by omega)
    have h2 := wi1s_inv (tn := w.tn) (show w.fr.length - 1 - k < w.fr.length by omega) (ah.getD (w.ent.getD (w.fr.length - 1 - k) 0) []) _ h1 (fun b hb => by rw [h.fl]; exact tn_at h (ha.lt _ b hb))
    exact ⟨h2.out, h2.up, h2.le.set (by omega) (h2.out.row _ (by omega))⟩
def cutF : Nat → List Int → Nat → Int → List Int
  | 0, t, _, _ => t
  | f + 1, t, k, b => if b < t.getD k 0 then cutF f (t.set k (t.getD (t.getD k 0).toNat 0)) k b else t
theorem cutF_no (f : Nat) (t : List Int) (k : Nat) (b : Int) (h : ¬ b < t.getD k 0) : cutF f t k b = t := by cases f; rfl; exact if_neg h
theorem cutF_yes (f : Nat) (t : List Int) (k : Nat) (b : Int) (h : b < t.getD k 0) : cutF (f + 1) t k b = cutF f (t.set k (t.getD (t.getD k 0).toNat 0)) k b := if_pos h
theorem cut_step {L : Nat} {t : List Int} (h : Up L t) {k : Nat} (hk : k < L) {b : Int} (hb : -1 ≤ b) (hc : b < t.getD k 0) : Up L (t.set k (t.getD (t.getD k 0).toNat 0)) ∧ (t.set k (t.getD (t.getD k 0).toNat 0)).getD k 0 < t.getD k 0 := by
  have h1 := h.row k hk
  have h2 := h.row (t.getD k 0).toNat (by omega)
  refine ⟨h.set hk h2.1 (by omega), ?_⟩
  rw [getD_set _ _ _ _ (by rw [h.len]; exact hk), if_pos rfl]; omega
theorem cutF_up {L : Nat} {k : Nat} (hk : k < L) {b : Int} (hb : -1 ≤ b) : ∀ f t, Up L t → Up L (cutF f t k b) := by
  intro f
  induction f with
  | zero => intro t h; exact h
  | succ f ih =>
    intro t h
    by_cases hc : b < t.getD k 0
    · rw [cutF_yes f t k b hc]; exact ih _ (cut_step h hk hb hc).1
    · rw [cutF_no _ t k b hc]; exact h
def trs (wd : List Int) (t : List Int) (k : Nat) : List Int := (List.range k).foldl (fun t k => cutF (k + 1) t k (wd.getD k 0)) t
def tree (w : St) (ah : List (List Nat)) : List Int := trs (widest w ah) w.fr (widest w ah).length
theorem trs_succ (wd t : List Int) (k : Nat) : trs wd t (k + 1) = cutF (k + 1) (trs wd t k) k (wd.getD k 0) := by unfold trs; rw [List.range_succ, List.foldl_append]; rfl
theorem trs_up {L : Nat} {wd t : List Int} (hw : Lo L wd) (ht : Up L t) : ∀ k, k ≤ L → Up L (trs wd t k) := by
  intro k
  induction k with
  | zero => intro _; exact ht
  | succ k ih => intro hk; rw [trs_succ]; exact cutF_up (by omega) (hw.row k (by omega)) _ _ (ih (by omega))
theorem tree_up {n : Nat} {w : St} {ah : List (List Nat)} (h : Inv n w) (ha : AhO n ah) : Up w.fr.length (tree w ah) := by
  have h1 := wis_inv h ha (w.fr.length - 1) (Nat.le_refl _)
  have hu := h.up
  rw [← h.fl] at hu
  exact trs_up h1.out hu _ (by rw [show (widest w ah).length = w.fr.length from h1.out.len]; exact Nat.le_refl _)
def cov (t : List Int) (a : Int) : Nat → Int → Bool
  | 0, b => b == a
  | f + 1, b => if a < b then cov t a f (t.getD b.toNat 0) else b == a
theorem cov_no (t : List Int) (a : Int) (f : Nat) (b : Int) (h : ¬ a < b) : cov t a f b = (b == a) := by cases f; rfl; exact if_neg h
theorem cov_yes (t : List Int) (a : Int) (f : Nat) (b : Int) (h : a < b) : cov t a (f + 1) b = cov t a f (t.getD b.toNat 0) := if_pos h
end Fw
end Go.Proofs.YtpecnljcgiicaaaDoor
