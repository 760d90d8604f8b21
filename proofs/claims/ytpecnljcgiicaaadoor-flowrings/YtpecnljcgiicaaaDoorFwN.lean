/- flow, plain: ways back, loops, what is over what. -/
import Derived.Test.YtpecnljcgiicaaaDoorFwM
namespace Go.Proofs.YtpecnljcgiicaaaDoor
namespace Fw
set_option linter.unusedVariables false

/-- the begins of the ways back -/
def wb1 (s : St) (t : List Int) (k : Nat) (o : List (List Nat)) (x : Nat) : List (List Nat) := if cov t (s.tn.getD x 0) (k + 1) (k : Int) = true then o.set x (o.getD x [] ++ [s.ent.getD k 0]) else o
def wbs (nx : List (List Nat)) (s : St) (t : List Int) (k : Nat) : List (List Nat) := (List.range k).foldl (fun o k => (nx.getD (s.ent.getD k 0) []).foldl (wb1 s t k) o) (List.replicate nx.length [])
def waysBack (nx : List (List Nat)) (s : St) (t : List Int) : List (List Nat) := wbs nx s t s.ent.length
theorem wbs_succ (nx : List (List Nat)) (s : St) (t : List Int) (k : Nat) : wbs nx s t (k + 1) = (nx.getD (s.ent.getD k 0) []).foldl (wb1 s t k) (wbs nx s t k) := by unfold wbs; rw [List.range_succ, List.foldl_append]; rfl
theorem wb1_no {s : St} {t : List Int} {k : Nat} {o : List (List Nat)} {x : Nat} (h : cov t (s.tn.getD x 0) (k + 1) (k : Int) = false) : wb1 s t k o x = o := by unfold wb1; rw [h]; rfl
theorem wb1_yes {s : St} {t : List Int} {k : Nat} {o : List (List Nat)} {x : Nat} (h : cov t (s.tn.getD x 0) (k + 1) (k : Int) = true) : wb1 s t k o x = o.set x (o.getD x [] ++ [s.ent.getD k 0]) := by unfold wb1; rw [h]; rfl
structure WbI (n c : Nat) (o : List (List Nat)) : Prop where
  len : o.length = n
  row : ∀ l ∈ o, l.length ≤ c ∧ ∀ x ∈ l, x < n
theorem WbI.start (n : Nat) : WbI n 0 (List.replicate n []) := ⟨by simp, fun l hl => by rw [(List.mem_replicate.1 hl).2]; simp⟩
theorem WbI.mono {n c d : Nat} {o : List (List Nat)} (h : WbI n c o) (hc : c ≤ d) : WbI n d o := ⟨h.len, fun l hl => ⟨Nat.le_trans (h.row l hl).1 hc, (h.row l hl).2⟩⟩
theorem WbI.step {n c : Nat} {o : List (List Nat)} {s : St} {t : List Int} {k x : Nat} (h : WbI n c o) (hx : x < n) (hk : s.ent.getD k 0 < n) : WbI n (c + 1) (wb1 s t k o x) := by
  unfold wb1
  split
  · refine ⟨by simp [h.len], fun l hl => ?_⟩
    rcases List.mem_or_eq_of_mem_set hl with h2 | rfl
    · have := h.row l h2; exact ⟨by omega, this.2⟩
    · have hm := h.row _ (getD_mem o x [] (by rw [h.len]; exact hx))
      refine ⟨by simp only [List.length_append, List.length_cons, List.length_nil]; omega, fun y hy => ?_⟩
      rcases List.mem_append.1 hy with h3 | h3
      · exact hm.2 y h3
      · rw [List.mem_singleton.1 h3]; exact hk
  · exact h.mono (Nat.le_succ _)
theorem WbI.steps {n : Nat} {s : St} {t : List Int} {k : Nat} (hk : s.ent.getD k 0 < n) : ∀ (l : List Nat) {c : Nat} {o : List (List Nat)} (h : WbI n c o) (hx : ∀ x ∈ l, x < n), WbI n (c + l.length) (l.foldl (wb1 s t k) o) := by
  intro l
  induction l with
  | nil => intro c o h _; exact h
  | cons x r ih =>
    intro c o h hx
    have := ih (h.step (s := s) (t := t) (k := k) (hx x (List.mem_cons_self ..)) hk) fun y hy => hx y (List.mem_cons_of_mem _ hy)
    exact this.mono (by simp; omega)
theorem wbs_inv {nx : List (List Nat)} (hn : In nx) {s : St} (hI : Inv nx.length s) (t : List Int) (hl : ∀ b, (nx.getD b []).length ≤ 1048576) : ∀ k, k ≤ s.ent.length → WbI nx.length (k * 1048576) (wbs nx s t k) := by
  intro k
  induction k with
  | zero => intro _; exact (WbI.start _)
  | succ k ih =>
    intro hk
    rw [wbs_succ]
    exact ((ih (by omega)).steps (hI.eb _ (getD_mem _ _ _ (by omega))) _ (hn _)).mono (by have := hl (s.ent.getD k 0); omega)

/-- those that wait, and what is in -/
structure Sp where
  inn : List Bool
  wt : List Nat
def come1 (s : Sp) (b : Nat) : Sp := if s.inn.getD b false = true then s else ⟨s.inn.set b true, s.wt ++ [b]⟩
def spread (ah : List (List Nat)) : Nat → Sp → Sp
  | 0, s => s
  | f + 1, s => if s.wt = [] then s else spread ah f ((ah.getD (s.wt.getD (s.wt.length - 1) 0) []).foldl come1 ⟨s.inn, s.wt.take (s.wt.length - 1)⟩)
def lay (n h : Nat) : Sp := ⟨(List.replicate n false).set h true, []⟩
def around (ah : List (List Nat)) (h : Nat) (bg : List Nat) : List Nat :=
  (List.range ah.length).filter fun b => (spread ah (ah.length + 1) (bg.foldl come1 (lay ah.length h))).inn.getD b false
structure SpI (n : Nat) (s : Sp) : Prop where
  len : s.inn.length = n
  lt : ∀ x ∈ s.wt, x < n
  ct : s.wt.length + s.inn.count false ≤ n
theorem countB_set {l : List Bool} {b : Nat} (h : b < l.length) (hb : l.getD b false = false) : (l.set b true).count false + 1 = l.count false := by
  have e : false = l[b] := by rw [← hb, List.getD_eq_getElem?_getD, List.getElem?_eq_getElem h]; rfl
  rw [List.count_set (by exact h)]
  have h1 : 0 < l.count false := List.count_pos_iff.2 (e ▸ List.getElem_mem h)
  simp [← e]
  omega
theorem come1_yes {s : Sp} {b : Nat} (h : s.inn.getD b false = true) : come1 s b = s := if_pos h
theorem come1_no {s : Sp} {b : Nat} (h : s.inn.getD b false = false) : come1 s b = ⟨s.inn.set b true, s.wt ++ [b]⟩ := by unfold come1; rw [h]; rfl
theorem SpI.come {n : Nat} {s : Sp} (h : SpI n s) {b : Nat} (hb : b < n) : SpI n (come1 s b) := by
  cases hc : s.inn.getD b false with
  | true => rw [come1_yes hc]; exact h
  | false =>
    rw [come1_no hc]
    have := countB_set (by rw [h.len]; exact hb) hc
    refine ⟨by simp [h.len], fun x hx => ?_, by have := h.ct; simp only [List.length_append, List.length_cons, List.length_nil]; omega⟩
    rcases List.mem_append.1 hx with h2 | h2
    · exact h.lt x h2
    · rw [List.mem_singleton.1 h2]; exact hb
/-- what is left to be done -/
def Sp.left (s : Sp) : Nat := s.wt.length + s.inn.count false
theorem come1_left {n : Nat} {s : Sp} (h : SpI n s) {b : Nat} (hb : b < n) : (come1 s b).left = s.left := by
  cases hc : s.inn.getD b false with
  | true => rw [come1_yes hc]
  | false =>
    rw [come1_no hc]
    have := countB_set (by rw [h.len]; exact hb) hc
    simp only [Sp.left, List.length_append, List.length_cons, List.length_nil]; omega
theorem comes_inv {n : Nat} : ∀ (l : List Nat) {s : Sp} (h : SpI n s) (hx : ∀ x ∈ l, x < n), SpI n (l.foldl come1 s) ∧ (l.foldl come1 s).left = s.left := by
  intro l
  induction l with
  | nil => intro s h _; exact ⟨h, rfl⟩
  | cons x r ih =>
    intro s h hx
    have hb := hx x (List.mem_cons_self ..)
    obtain ⟨k1, k2⟩ := ih (h.come hb) fun y hy => hx y (List.mem_cons_of_mem _ hy)
    exact ⟨k1, k2.trans (come1_left h hb)⟩
theorem lay_inv (n h : Nat) : SpI n (lay n h) := by
  refine ⟨by simp [lay], by simp [lay], ?_⟩
  simp only [lay, List.length_nil, Nat.zero_add]
  exact Nat.le_trans List.count_le_length (by simp)
theorem spread_none (ah : List (List Nat)) (f : Nat) (s : Sp) (h : s.wt = []) : spread ah f s = s := by cases f; rfl; exact if_pos h
theorem spread_some (ah : List (List Nat)) (f : Nat) (s : Sp) (h : ¬ s.wt = []) : spread ah (f + 1) s = spread ah f ((ah.getD (s.wt.getD (s.wt.length - 1) 0) []).foldl come1 ⟨s.inn, s.wt.take (s.wt.length - 1)⟩) := if_neg h
theorem pop_inv {n : Nat} {s : Sp} (h : SpI n s) (hw : ¬ s.wt = []) : SpI n ⟨s.inn, s.wt.take (s.wt.length - 1)⟩ ∧ (⟨s.inn, s.wt.take (s.wt.length - 1)⟩ : Sp).left + 1 = s.left := by
  have hl := List.length_pos_iff.2 hw
  have ht : (s.wt.take (s.wt.length - 1)).length = s.wt.length - 1 := by rw [List.length_take]; omega
  refine ⟨⟨h.len, fun x hx => h.lt x (List.mem_of_mem_take hx), by have := h.ct; simp only [ht]; omega⟩, by simp only [Sp.left, ht]; omega⟩
/-- loops: heads, and their blocks -/
def loops (nx : List (List Nat)) : List (Nat × List Nat) :=
  (List.range nx.length).filterMap fun h => if (waysBack nx (walk nx) (tree (walk nx) (ahead nx))).getD h [] = [] then none else some (h, around (ahead nx) h ((waysBack nx (walk nx) (tree (walk nx) (ahead nx))).getD h []))
/-- of each block the nearest one over it -/
def ovs (s : St) (t : List Int) (n k : Nat) : List Int := (List.range k).foldl (fun o k => if t.getD k 0 = -1 then o else o.set (s.ent.getD k 0) ((s.ent.getD (t.getD k 0).toNat 0 : Nat) : Int)) (List.replicate n (-1))
def over (nx : List (List Nat)) : List Int := ovs (walk nx) (tree (walk nx) (ahead nx)) nx.length (tree (walk nx) (ahead nx)).length
theorem ovs_succ (s : St) (t : List Int) (n k : Nat) : ovs s t n (k + 1) = if t.getD k 0 = -1 then ovs s t n k else (ovs s t n k).set (s.ent.getD k 0) ((s.ent.getD (t.getD k 0).toNat 0 : Nat) : Int) := by unfold ovs; rw [List.range_succ, List.foldl_append]; rfl
theorem ovs_len (s : St) (t : List Int) (n k : Nat) : (ovs s t n k).length = n := by
  induction k with
  | zero => simp [ovs]
  | succ k ih => rw [ovs_succ]; split <;> simp [ih]
end Fw
end Go.Proofs.YtpecnljcgiicaaaDoor
