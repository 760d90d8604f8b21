/- Sections in memory: a list that is read; one of the call's own, and one more. -/
import Derived.Test.YtcmidegffpehoaaDoorScA
import Derived.Deep.AppendLies
namespace Go.Proofs.YtcmidegffpehoaaDoor
open Go.RowKit
namespace Sc
set_option linter.unusedVariables false

/-- a slice of bytes, in a block that g lets -/
def Byt (w : World) (g : Nat → Prop) (bs : List Int) (v : Value) : Prop :=
  ∃ a cap, v = .slice a bs.length cap ∧ bs.length ≤ cap ∧ (a = none → cap = 0) ∧ Row w a bs.length bs ∧ (0 < bs.length → ∃ b o, a = some ⟨b, o, none⟩ ∧ g b)
/-- what stays -/
def Moves (w w' : World) (g g' : Nat → Prop) : Prop := ∀ k, k < w.heap.size → g k → g' k ∧ w'.heap[k]? = w.heap[k]?
theorem cel_move {w w' : World} {b : Nat} (h : w'.heap[b]? = w.heap[b]?) (o : Nat) : w'.cell? ⟨b, o, none⟩ = w.cell? ⟨b, o, none⟩ := World.cell?_of_block (a := ⟨b, o, none⟩) h
theorem Byt.move {w w' : World} {g g' : Nat → Prop} (hm : Moves w w' g g') (hs : w.heap.size ≤ w'.heap.size) {bs : List Int} {v : Value} (h : Byt w g bs v) : Byt w' g' bs v := by
  obtain ⟨a, cap, h1, h2, h3, h4, h5⟩ := h
  refine ⟨a, cap, h1, h2, h3, ⟨h4.1, h4.2.1, fun hl => ?_⟩, fun hl => ?_⟩
  · obtain ⟨b, o, e, hb, hc⟩ := h4.2.2 hl
    obtain ⟨b', o', e', hg⟩ := h5 hl
    rw [e] at e'; cases e'
    exact ⟨b, o, e, by omega, fun i hi => (cel_move (hm b hb hg).2 _).trans (hc i hi)⟩
  · obtain ⟨b, o, e, hb, hc⟩ := h4.2.2 hl
    obtain ⟨b', o', e', hg⟩ := h5 hl
    rw [e] at e'; cases e'
    exact ⟨b, o, e, (hm b hb hg).1⟩
theorem moves_below {w w' : World} {g g' : Nat → Prop} (hb : Below w.heap.size w w') (hg : ∀ k, k < w.heap.size → g k → g' k) : Moves w w' g g' := fun k hk hne => ⟨hg k hk hne, hb.block k hk⟩
theorem Byt.below {w w' : World} {g : Nat → Prop} {bs : List Int} {v : Value} (h : Byt w g bs v) (hb : Below w.heap.size w w') : Byt w' g bs v := h.move (moves_below hb (fun _ _ h => h)) hb.size
theorem Byt.any {w : World} {g g' : Nat → Prop} {bs : List Int} {v : Value} (h : Byt w g bs v) (hg : ∀ k, k < w.heap.size → g k → g' k) : Byt w g' bs v := h.move (moves_below (Below.refl _ _) hg) (Nat.le_refl _)
theorem Byt.nil (w : World) (g : Nat → Prop) : Byt w g [] (.slice none 0 0) := ⟨none, 0, rfl, Nat.le_refl _, fun _ => rfl, row_none w _, fun h => absurd h (by simp)⟩
theorem Byt.sl {w : World} {g : Nat → Prop} {bs : List Int} {v : Value} (h : Byt w g bs v) : v.oneCell' = true := by obtain ⟨a, cap, rfl, _⟩ := h; rfl

/-- three cells -/
def Cel (w : World) (g : Nat → Prop) (s : Sec) (b o : Nat) : Prop := w.cell? ⟨b, o, none⟩ = some (.int .u8 s.id) ∧ w.cell? ⟨b, o + 1, none⟩ = some (.int .i64 s.at_) ∧ ∃ v, w.cell? ⟨b, o + 2, none⟩ = some v ∧ Byt w g s.bs v
/-- a list of sections that is read -/
def SecL (w : World) (l : List Sec) (v : Value) : Prop :=
  ∃ a cap, v = .slice a l.length cap ∧ l.length ≤ cap ∧ (a = none → cap = 0) ∧ ∀ j (hj : j < l.length), ∃ b o, a = some ⟨b, o, none⟩ ∧ b < w.heap.size ∧ Cel w (fun _ => True) l[j] b (o + j * 3)
theorem Cel.below {w w' : World} {g : Nat → Prop} {s : Sec} {b o : Nat} (h : Cel w g s b o) (hb : Below w.heap.size w w') (hlt : b < w.heap.size) : Cel w' g s b o := by
  have e := hb.block b hlt
  obtain ⟨h1, h2, v, h3, h4⟩ := h
  exact ⟨(cel_move e _).trans h1, (cel_move e _).trans h2, v, (cel_move e _).trans h3, h4.below hb⟩
theorem SecL.below {w w' : World} {l : List Sec} {v : Value} (h : SecL w l v) (hb : Below w.heap.size w w') : SecL w' l v := by
  obtain ⟨a, cap, h1, h2, h3, h4⟩ := h
  refine ⟨a, cap, h1, h2, h3, fun j hj => ?_⟩
  obtain ⟨b, o, e, hlt, hc⟩ := h4 j hj
  exact ⟨b, o, e, Nat.lt_of_lt_of_le hlt hb.size, hc.below hb hlt⟩
theorem SecL.nil (w : World) : SecL w [] (.slice none 0 0) := ⟨none, 0, rfl, Nat.le_refl _, fun _ => rfl, fun j hj => absurd hj (by simp)⟩

/-- a section's cells, as values -/
def cel (s : Sec) (v : Value) : List Value := [.int .u8 s.id, .int .i64 s.at_, v]
def Its (w : World) (g : Nat → Prop) : List Sec → List Value → Prop
  | [], xs => xs = []
  | s :: r, xs => ∃ v ys, xs = cel s v ++ ys ∧ Byt w g s.bs v ∧ Its w g r ys
theorem Its.snoc {w : World} {g : Nat → Prop} {s : Sec} {v : Value} (h1 : Byt w g s.bs v) : ∀ {l : List Sec} {xs : List Value}, Its w g l xs → Its w g (l ++ [s]) (xs ++ cel s v) := by
  intro l
  induction l with
  | nil => intro xs h; cases (show xs = [] from h); exact ⟨v, [], by simp, h1, rfl⟩
  | cons x r ih =>
    rintro xs ⟨v', ys, rfl, a1, a2⟩
    exact ⟨v', ys ++ cel s v, by simp, a1, ih a2⟩
theorem Its.move {w w' : World} {g g' : Nat → Prop} (hm : Moves w w' g g') (hs : w.heap.size ≤ w'.heap.size) : ∀ {l : List Sec} {xs : List Value}, Its w g l xs → Its w' g' l xs := by
  intro l
  induction l with
  | nil => intro xs h; exact h
  | cons x r ih =>
    rintro xs ⟨v, ys, rfl, a1, a2⟩
    exact ⟨v, ys, rfl, a1.move hm hs, ih a2⟩
theorem Its.get {w : World} {g : Nat → Prop} {b : Nat} : ∀ {l : List Sec} {xs : List Value} {o : Nat}, Its w g l xs → (∀ j u, xs[j]? = some u → w.cell? ⟨b, o + j, none⟩ = some u) → ∀ j (hj : j < l.length), Cel w g l[j] b (o + j * 3) := by
  intro l
  induction l with
  | nil => intro xs o _ _ j hj; simp at hj
  | cons x r ih =>
    rintro xs o ⟨v, ys, rfl, a1, a2⟩ hc j hj
    cases j with
    | zero => exact ⟨hc 0 _ rfl, hc 1 _ rfl, v, hc 2 _ rfl, a1⟩
    | succ j =>
      have := ih (o := o + 3) a2 (fun j u hj => by
        rw [show o + 3 + j = o + (3 + j) by omega]
        refine hc (3 + j) u ?_
        rw [List.getElem?_append_right (by simp [cel])]
        simpa [cel] using hj) j (by simpa using hj)
      rw [show o + (j + 1) * 3 = o + 3 + j * 3 by omega]
      simpa using this
theorem row_cells {w : World} {B e size n cap g : Nat} {xs : List Value} (h : w.ownsRow B e size (.slice (some ⟨g, 0, none⟩) n cap) n xs) : ∀ j u, xs[j]? = some u → w.cell? ⟨g, j, none⟩ = some u := by
  intro j u hj
  rcases h.2 with ⟨h1, _⟩ | ⟨g', cap', cur, h1, _, hc, _, _, _, ht⟩
  · simp at h1
  · simp at h1
    obtain ⟨rfl, rfl⟩ := h1
    rw [cell_of_row w g j cur e _ hc]
    rw [← ht, List.getElem?_take] at hj
    split at hj
    · rw [← Array.getElem?_toList]; exact hj
    · cases hj
/-- a list of the call's own: what is in it lies elsewhere, in blocks that G lets -/
def own (G : Nat → Prop) (v : Value) (k : Nat) : Prop := v.ownBlock ≠ some k ∧ G k
def OwnS (T : TypeId) (w : World) (B : Nat) (G : Nat → Prop) (v : Value) (l : List Sec) : Prop := ∃ xs, w.ownsRow B T 3 v l.length xs ∧ Its w (own G v) l xs
theorem OwnS_nil (T : TypeId) (w : World) (B : Nat) (G : Nat → Prop) : OwnS T w B G (.slice none 0 0) [] := ⟨[], World.ownsRow_nil _ _ _ _, rfl⟩
theorem OwnS.secL {T : TypeId} {w : World} {B : Nat} {G : Nat → Prop} {v : Value} {l : List Sec} (h : OwnS T w B G v l) : SecL w l v := by
  obtain ⟨xs, hx, hi⟩ := h
  have hx0 := hx
  rcases hx.2 with ⟨rfl, h0⟩ | ⟨g, cap, cur, rfl, hg, hc, hn, _⟩
  · rw [List.eq_nil_of_length_eq_zero h0]; exact SecL.nil _
  · have hlt : g < w.heap.size := (Array.getElem?_eq_some_iff.1 hc).1
    refine ⟨_, cap, rfl, hn, by simp, fun j hj => ⟨g, 0, rfl, hlt, ?_⟩⟩
    obtain ⟨h1, h2, v, h3, h4⟩ := Its.get (o := 0) hi (fun j u hj => by rw [Nat.zero_add]; exact row_cells hx0 j u hj) j hj
    exact ⟨h1, h2, v, h3, h4.any fun _ _ _ => trivial⟩
theorem OwnS.move {T : TypeId} {w w' : World} {B : Nat} {G : Nat → Prop} {v : Value} {l : List Sec} (h : OwnS T w B G v l) (hs : w.heap.size ≤ w'.heap.size) (ho : ∀ k, v.ownBlock = some k → w'.heap[k]? = w.heap[k]?) (hm : Moves w w' (own G v) (own G v)) : OwnS T w' B G v l := by
  obtain ⟨xs, hx, hi⟩ := h
  rcases hx.2 with ⟨rfl, h0⟩ | ⟨g, cap, cur, rfl, hg, hc, hn, h5⟩
  · have hl : l = [] := List.eq_nil_of_length_eq_zero h0
    subst hl
    exact OwnS_nil _ _ _ _
  · exact ⟨xs, ⟨hx.1, .inr ⟨g, cap, cur, rfl, hg, (ho g rfl).trans hc, hn, h5⟩⟩, Its.move hm hs hi⟩
theorem OwnS.lt {T : TypeId} {w : World} {B : Nat} {G : Nat → Prop} {v : Value} {l : List Sec} (h : OwnS T w B G v l) : ∀ k, v.ownBlock = some k → B ≤ k ∧ k < w.heap.size := by
  obtain ⟨xs, hx, hi⟩ := h
  exact hx.lt
theorem OwnS.below {T : TypeId} {w w' : World} {B : Nat} {G : Nat → Prop} {v : Value} {l : List Sec} (h : OwnS T w B G v l) (hb : Below w.heap.size w w') : OwnS T w' B G v l :=
  h.move hb.size (fun k hk => hb.block k (h.lt k hk).2) (moves_below hb (fun _ _ h => h))
theorem OwnS.shape {T : TypeId} {w : World} {B : Nat} {G : Nat → Prop} {v : Value} {l : List Sec} (h : OwnS T w B G v l) : ∃ a cap, v = .slice a l.length cap ∧ l.length ≤ cap := by
  obtain ⟨xs, hx, hi⟩ := h
  rcases hx.2 with ⟨rfl, h0⟩ | ⟨g, cap, cur, rfl, hg, hc, hn, _⟩
  · exact ⟨none, 0, by rw [h0], by omega⟩
  · exact ⟨_, cap, rfl, hn⟩
/-- one more -/
theorem OwnS.snoc {T : TypeId} {w w1 : World} {B : Nat} {G : Nat → Prop} {v : Value} {l : List Sec} {xs : List Value} {s : Sec} {vb : Value} {g cap : Nat}
    (hx : w.ownsRow B T 3 v l.length xs) (hi : Its w (own G v) l xs) (h1 : Byt w (own G v) s.bs vb)
    (hown : w1.ownsRow B T 3 (.slice (some ⟨g, 0, none⟩) (l.length + 1) cap) (l.length + 1) (xs ++ cel s vb)) (hgrow : w.grownBy w1 v.ownBlock) (hat : v.ownBlock = some g ∨ g = w.heap.size) :
    OwnS T w1 B G (.slice (some ⟨g, 0, none⟩) (l.length + 1) cap) (l ++ [s]) := by
  refine ⟨xs ++ cel s vb, by simpa using hown, ?_⟩
  have hm : Moves w w1 (own G v) (own G (.slice (some ⟨g, 0, none⟩) (l.length + 1) cap)) := by
    intro k hk hne
    have hk2 : some k ≠ v.ownBlock := fun e => hne.1 e.symm
    refine ⟨⟨?_, hne.2⟩, hgrow.block k hk hk2⟩
    intro e
    simp only [Value.ownBlock, Option.some.injEq] at e
    subst e
    rcases hat with e | e
    · exact hk2 e.symm
    · omega
  exact Its.snoc (h1.move hm hgrow.size) (Its.move hm hgrow.size hi)
/-- a new element's cells -/
theorem new_cel (w : World) (s : Sec) (v : Value) (t : TypeId) : ∀ j u, (cel s v)[j]? = some u → (w.alloc (.cells (cel s v).toArray t)).cell? ((⟨w.heap.size, 0, none⟩ : Addr).add j) = some u := by
  intro j u hj
  have : ((⟨w.heap.size, 0, none⟩ : Addr).add j) = ⟨w.heap.size, j, none⟩ := by by_cases h : j = 0 <;> simp [Addr.add, h]
  rw [this]
  simp
  exact hj
theorem cel_one (s : Sec) {v : Value} (h : v.oneCell' = true) : ∀ u ∈ cel s v, u.oneCell' = true := by
  intro u hu
  simp only [cel, List.mem_cons, List.not_mem_nil, or_false] at hu
  rcases hu with rfl | rfl | rfl
  · rfl
  · rfl
  · exact h
theorem one_alloc (w : World) (x : Obj) : Below w.heap.size w (w.alloc x) := (Below.refl _ _).alloc (Nat.le_refl _) _
end Sc
end Go.Proofs.YtcmidegffpehoaaDoor
