/- Instructions in memory: where they lie, what stays of them, and how one more is appended. -/
import Derived.Test.YtcpknafaocdjdaaGreatDoorExM
import Derived.Deep.OwnRows
import Derived.Deep.AppendLies
namespace Go.Proofs.YtcpknafaocdjdaaGreatDoor
open Go.RowKit
namespace Ex
set_option linter.unusedVariables false

/-- a slice of so many, in a block that g lets -/
def Lies (g : Nat → Prop) (len : Nat) (P : Nat → Nat → Prop) (v : Value) : Prop :=
  ∃ a cap, v = .slice a len cap ∧ len ≤ cap ∧ (a = none → cap = 0) ∧ (0 < len → ∃ b o, a = some ⟨b, o, none⟩ ∧ g b ∧ P b o)
/-- an instruction's eight cells -/
def Cel (w : World) (b o : Nat) (op n al of re : Int) (vb ve vl : Value) : Prop :=
  w.cell? ⟨b, o, none⟩ = some (.int .u8 op) ∧ w.cell? ⟨b, o + 1, none⟩ = some (.int .i64 n) ∧ w.cell? ⟨b, o + 2, none⟩ = some (.int .u32 al) ∧ w.cell? ⟨b, o + 3, none⟩ = some (.int .u32 of) ∧
  w.cell? ⟨b, o + 4, none⟩ = some (.int .u8 re) ∧ w.cell? ⟨b, o + 5, none⟩ = some vb ∧ w.cell? ⟨b, o + 6, none⟩ = some ve ∧ w.cell? ⟨b, o + 7, none⟩ = some vl
def Lab (w : World) (ls : List Int) (b o : Nat) : Prop := ∀ j, j < ls.length → w.cell? ⟨b, o + j, none⟩ = some (.int .u32 (ls.getD j 0))
def Items (w : World) (g : Nat → Prop) : List Ins → Nat → Nat → Prop
  | [], _, _ => True
  | ⟨op, n, al, of, re, bo, el, ls⟩ :: r, b, o =>
    (∃ vb ve vl, Cel w b o op n al of re vb ve vl ∧ Lies g bo.length (fun b' o' => Items w g bo b' o') vb ∧ Lies g el.length (fun b' o' => Items w g el b' o') ve ∧ Lies g ls.length (Lab w ls) vl) ∧ Items w g r b (o + 8)
/-- a slice value that is such a list -/
def Code (w : World) (g : Nat → Prop) (l : List Ins) (v : Value) : Prop := Lies g l.length (Items w g l) v
def ItemAt (w : World) (g : Nat → Prop) (i : Ins) (b o : Nat) : Prop :=
  ∃ vb ve vl, Cel w b o i.op i.n i.al i.of i.re vb ve vl ∧ Code w g i.body vb ∧ Code w g i.els ve ∧ Lies g i.ls.length (Lab w i.ls) vl
theorem Items_nil (w : World) (g : Nat → Prop) (b o : Nat) : Items w g [] b o := by rw [Items]; trivial
theorem Items_cons (w : World) (g : Nat → Prop) (i : Ins) (r : List Ins) (b o : Nat) : Items w g (i :: r) b o ↔ ItemAt w g i b o ∧ Items w g r b (o + 8) := by
  obtain ⟨op, n, al, of, re, bo, el, ls⟩ := i
  rw [Items]; rfl
theorem Items_get {w : World} {g : Nat → Prop} {b : Nat} : ∀ {l : List Ins} {o : Nat}, Items w g l b o → ∀ j (hj : j < l.length), ItemAt w g l[j] b (o + j * 8) := by
  intro l
  induction l with
  | nil => intro o _ j hj; simp at hj
  | cons i r ih =>
    intro o h j hj
    rw [Items_cons] at h
    cases j with
    | zero => simpa using h.1
    | succ j => have := ih h.2 j (by simpa using hj); rw [show o + (j + 1) * 8 = o + 8 + j * 8 by omega]; simpa using this
theorem Items_of {w : World} {g : Nat → Prop} {b : Nat} : ∀ {l : List Ins} {o : Nat}, (∀ j (hj : j < l.length), ItemAt w g l[j] b (o + j * 8)) → Items w g l b o := by
  intro l
  induction l with
  | nil => intro o _; exact Items_nil w g b o
  | cons i r ih =>
    intro o h
    rw [Items_cons]
    refine ⟨by have h0 := h 0 (by simp); rw [Nat.zero_mul, Nat.add_zero] at h0; exact h0, ih fun j hj => ?_⟩
    have := h (j + 1) (by simpa using hj)
    rw [show o + (j + 1) * 8 = o + 8 + j * 8 by omega] at this
    simpa using this
theorem Items_lt {w : World} {g : Nat → Prop} {b o : Nat} {l : List Ins} (h : Items w g l b o) (hl : 0 < l.length) : b < w.heap.size := by
  obtain ⟨vb, ve, vl, hc, _⟩ := Items_get h 0 hl
  exact World.block_lt_of_cell? w _ hc.1
theorem Lab_lt {w : World} {b o : Nat} {ls : List Int} (h : Lab w ls b o) (hl : 0 < ls.length) : b < w.heap.size := World.block_lt_of_cell? w _ (h 0 hl)

/-- a block that can be of instructions, or of labels -/
def Kin (w : World) (k : Nat) : Prop := ∃ o x, w.cell? ⟨k, o, none⟩ = some (.int .u8 x) ∨ w.cell? ⟨k, o, none⟩ = some (.int .u32 x)
theorem Items_kin {w : World} {g : Nat → Prop} {b o : Nat} {l : List Ins} (h : Items w g l b o) (hl : 0 < l.length) : Kin w b := by
  obtain ⟨vb, ve, vl, hc, _⟩ := Items_get h 0 hl
  exact ⟨_, _, .inl hc.1⟩
theorem Lab_kin {w : World} {b o : Nat} {ls : List Int} (h : Lab w ls b o) (hl : 0 < ls.length) : Kin w b := ⟨_, _, .inr (h 0 hl)⟩
/-- from one world to another, from one block that is left alone to another -/
def Moves (w w' : World) (g g' : Nat → Prop) : Prop := ∀ k, k < w.heap.size → Kin w k → g k → g' k ∧ w'.heap[k]? = w.heap[k]?
theorem cel_move {w w' : World} {b : Nat} (h : w'.heap[b]? = w.heap[b]?) (o : Nat) : w'.cell? ⟨b, o, none⟩ = w.cell? ⟨b, o, none⟩ := World.cell?_of_block (a := ⟨b, o, none⟩) h
theorem Cel.move {w w' : World} {b o : Nat} {op n al of re : Int} {vb ve vl : Value} (h : w'.heap[b]? = w.heap[b]?) (hc : Cel w b o op n al of re vb ve vl) : Cel w' b o op n al of re vb ve vl := by
  unfold Cel at *
  simpa only [cel_move h] using hc
theorem Lab.move {w w' : World} {b o : Nat} {ls : List Int} (h : w'.heap[b]? = w.heap[b]?) (hc : Lab w ls b o) : Lab w' ls b o := fun j hj => (cel_move h _).trans (hc j hj)
theorem Lies.move {g g' : Nat → Prop} {len : Nat} {P Q : Nat → Nat → Prop} {v : Value} (h : Lies g len P v) (hpq : 0 < len → ∀ b o, g b → P b o → g' b ∧ Q b o) : Lies g' len Q v := by
  obtain ⟨a, cap, h1, h2, h3, h4⟩ := h
  refine ⟨a, cap, h1, h2, h3, fun hl => ?_⟩
  obtain ⟨b, o, e, hb, hp⟩ := h4 hl
  exact ⟨b, o, e, hpq hl b o hb hp⟩
theorem Items.move {w w' : World} {g g' : Nat → Prop} (hm : Moves w w' g g') (l : List Ins) : ∀ b o, w'.heap[b]? = w.heap[b]? → Items w g l b o → Items w' g' l b o := by
  refine ind (P := fun l => ∀ b o, w'.heap[b]? = w.heap[b]? → Items w g l b o → Items w' g' l b o) ?_ ?_ l
  · intro b o _ _; exact Items_nil _ _ _ _
  · intro op n al of re bo el ls r hbo hel hr b o hb h
    rw [Items_cons] at h ⊢
    obtain ⟨⟨vb, ve, vl, hc, h1, h2, h3⟩, h4⟩ := h
    refine ⟨⟨vb, ve, vl, hc.move hb, ?_, ?_, ?_⟩, hr b _ hb h4⟩
    · exact Lies.move h1 fun hl b' o' hne hp => have q := hm b' (Items_lt hp hl) (Items_kin hp hl) hne; ⟨q.1, hbo b' o' q.2 hp⟩
    · exact Lies.move h2 fun hl b' o' hne hp => have q := hm b' (Items_lt hp hl) (Items_kin hp hl) hne; ⟨q.1, hel b' o' q.2 hp⟩
    · exact Lies.move h3 fun hl b' o' hne hp => have q := hm b' (Lab_lt hp hl) (Lab_kin hp hl) hne; ⟨q.1, hp.move q.2⟩
theorem Code.move {w w' : World} {g g' : Nat → Prop} (hm : Moves w w' g g') {l : List Ins} {v : Value} (h : Code w g l v) : Code w' g' l v :=
  Lies.move h fun hl b o hne hp => have q := hm b (Items_lt hp hl) (Items_kin hp hl) hne; ⟨q.1, Items.move hm l b o q.2 hp⟩
theorem Labs.move {w w' : World} {g g' : Nat → Prop} (hm : Moves w w' g g') {ls : List Int} {v : Value} (h : Lies g ls.length (Lab w ls) v) : Lies g' ls.length (Lab w' ls) v :=
  Lies.move h fun hl b o hne hp => have q := hm b (Lab_lt hp hl) (Lab_kin hp hl) hne; ⟨q.1, hp.move q.2⟩
theorem ItemAt.move {w w' : World} {g g' : Nat → Prop} (hm : Moves w w' g g') {i : Ins} {b o : Nat} (hb : w'.heap[b]? = w.heap[b]?) (h : ItemAt w g i b o) : ItemAt w' g' i b o := by
  obtain ⟨vb, ve, vl, hc, h1, h2, h3⟩ := h
  exact ⟨vb, ve, vl, hc.move hb, h1.move hm, h2.move hm, Labs.move hm h3⟩
/-- nothing old has turned -/
theorem moves_below {w w' : World} {g g' : Nat → Prop} (hb : Below w.heap.size w w') (hg : ∀ k, k < w.heap.size → g k → g' k) : Moves w w' g g' := fun k hk _ hne =>
  ⟨hg k hk hne, hb.block k hk⟩
theorem Code.below {w w' : World} {g : Nat → Prop} {l : List Ins} {v : Value} (h : Code w g l v) (hb : Below w.heap.size w w') : Code w' g l v := h.move (moves_below hb (fun _ _ h => h))
theorem Labs.below {w w' : World} {g : Nat → Prop} {ls : List Int} {v : Value} (h : Lies g ls.length (Lab w ls) v) (hb : Below w.heap.size w w') : Lies g ls.length (Lab w' ls) v := Labs.move (moves_below hb (fun _ _ h => h)) h
theorem Code.any {w : World} {g : Nat → Prop} {l : List Ins} {v : Value} (h : Code w g l v) {g' : Nat → Prop} (hg : ∀ k, k < w.heap.size → g k → g' k) : Code w g' l v := h.move (moves_below (Below.refl _ _) hg)
theorem Labs.any {w : World} {g : Nat → Prop} {ls : List Int} {v : Value} (h : Lies g ls.length (Lab w ls) v) {g' : Nat → Prop} (hg : ∀ k, k < w.heap.size → g k → g' k) : Lies g' ls.length (Lab w ls) v := Labs.move (moves_below (Below.refl _ _) hg) h
/-- the empty list -/
theorem Code_nil (w : World) (g : Nat → Prop) : Code w g [] (.slice none 0 0) := ⟨none, 0, rfl, Nat.le_refl _, fun _ => rfl, fun h => absurd h (by simp)⟩
theorem Labs_nil (w : World) (g : Nat → Prop) : Lies g ([] : List Int).length (Lab w []) (.slice none 0 0) := ⟨none, 0, rfl, Nat.le_refl _, fun _ => rfl, fun h => absurd h (by simp)⟩

/-- eight cells, as values -/
def cel (i : Ins) (vb ve vl : Value) : List Value := [.int .u8 i.op, .int .i64 i.n, .int .u32 i.al, .int .u32 i.of, .int .u8 i.re, vb, ve, vl]
/-- the cells of a list of instructions -/
def Its (w : World) (g : Nat → Prop) : List Ins → List Value → Prop
  | [], xs => xs = []
  | i :: r, xs => ∃ vb ve vl ys, xs = cel i vb ve vl ++ ys ∧ Code w g i.body vb ∧ Code w g i.els ve ∧ Lies g i.ls.length (Lab w i.ls) vl ∧ Its w g r ys
theorem Its.snoc {w : World} {g : Nat → Prop} {i : Ins} {vb ve vl : Value} (h1 : Code w g i.body vb) (h2 : Code w g i.els ve) (h3 : Lies g i.ls.length (Lab w i.ls) vl) :
    ∀ {l : List Ins} {xs : List Value}, Its w g l xs → Its w g (l ++ [i]) (xs ++ cel i vb ve vl) := by
  intro l
  induction l with
  | nil => intro xs h; cases (show xs = [] from h); exact ⟨vb, ve, vl, [], by simp, h1, h2, h3, rfl⟩
  | cons x r ih =>
    rintro xs ⟨vb', ve', vl', ys, rfl, a1, a2, a3, a4⟩
    exact ⟨vb', ve', vl', ys ++ cel i vb ve vl, by simp, a1, a2, a3, ih a4⟩
theorem Its.move {w w' : World} {g g' : Nat → Prop} (hm : Moves w w' g g') : ∀ {l : List Ins} {xs : List Value}, Its w g l xs → Its w' g' l xs := by
  intro l
  induction l with
  | nil => intro xs h; exact h
  | cons x r ih =>
    rintro xs ⟨vb, ve, vl, ys, rfl, a1, a2, a3, a4⟩
    exact ⟨vb, ve, vl, ys, rfl, a1.move hm, a2.move hm, Labs.move hm a3, ih a4⟩
theorem Its.len {w : World} {g : Nat → Prop} : ∀ {l : List Ins} {xs : List Value}, Its w g l xs → xs.length = l.length * 8 := by
  intro l
  induction l with
  | nil => intro xs h; cases (show xs = [] from h); rfl
  | cons x r ih =>
    rintro xs ⟨vb, ve, vl, ys, rfl, a1, a2, a3, a4⟩
    rw [List.length_append, ih a4, List.length_cons]; simp [cel]; omega
/-- such cells, lying in a row -/
theorem Its.items {w : World} {g : Nat → Prop} {b : Nat} : ∀ {l : List Ins} {xs : List Value} {o : Nat}, Its w g l xs → (∀ j u, xs[j]? = some u → w.cell? ⟨b, o + j, none⟩ = some u) → Items w g l b o := by
  intro l
  induction l with
  | nil => intro xs o _ _; exact Items_nil _ _ _ _
  | cons x r ih =>
    rintro xs o ⟨vb, ve, vl, ys, rfl, a1, a2, a3, a4⟩ hc
    rw [Items_cons]
    refine ⟨⟨vb, ve, vl, ⟨hc 0 _ rfl, hc 1 _ rfl, hc 2 _ rfl, hc 3 _ rfl, hc 4 _ rfl, hc 5 _ rfl, hc 6 _ rfl, hc 7 _ rfl⟩, a1, a2, a3⟩, ih a4 fun j u hj => ?_⟩
    rw [show o + 8 + j = o + (8 + j) by omega]
    refine hc (8 + j) u ?_
    rw [List.getElem?_append_right (by simp [cel])]
    simpa [cel] using hj

/-- a list of the call's own: what is in it lies elsewhere, in blocks that G lets -/
def own (G : Nat → Prop) (v : Value) (k : Nat) : Prop := v.ownBlock ≠ some k ∧ G k
def OwnC (w : World) (B : Nat) (G : Nat → Prop) (v : Value) (l : List Ins) : Prop := ∃ xs, w.ownsRow B 63 8 v l.length xs ∧ Its w (own G v) l xs
theorem OwnC_nil (w : World) (B : Nat) (G : Nat → Prop) : OwnC w B G (.slice none 0 0) [] := ⟨[], World.ownsRow_nil _ _ _ _, rfl⟩
theorem row_cells {w : World} {B e size n cap g : Nat} {xs : List Value} (h : w.ownsRow B e size (.slice (some ⟨g, 0, none⟩) n cap) n xs) : ∀ j u, xs[j]? = some u → w.cell? ⟨g, j, none⟩ = some u := by
  intro j u hj
  rcases h.2 with ⟨h1, _⟩ | ⟨g', cap', cur, h1, _, hc, _, _, _, ht⟩
  · simp at h1
  · simp at h1
    obtain ⟨rfl, rfl⟩ := h1
    rw [cell_of_row w g j cur e _ hc]
    rw [← ht, List.getElem?_take] at hj
    split at hj
    · rw [← Array.getElem?_toList]; exact hj
    · cases hj
theorem OwnC.code {w : World} {B : Nat} {G : Nat → Prop} {v : Value} {l : List Ins} (h : OwnC w B G v l) {g' : Nat → Prop} (hg' : ∀ k, k < w.heap.size → G k ∨ B ≤ k → g' k) : Code w g' l v := by
  obtain ⟨xs, hx, hi⟩ := h
  have hx0 := hx
  rcases hx.2 with ⟨rfl, h0⟩ | ⟨g, cap, cur, rfl, hg, hc, hn, _⟩
  · rw [List.eq_nil_of_length_eq_zero h0]; exact Code_nil _ _
  · have hlt : g < w.heap.size := (Array.getElem?_eq_some_iff.1 hc).1
    refine ⟨_, cap, rfl, hn, by simp, fun hl => ⟨g, 0, rfl, hg' g hlt (.inr hg), ?_⟩⟩
    have : Items w (own G (.slice (some ⟨g, 0, none⟩) l.length cap)) l g 0 := Its.items hi fun j u hj => by rw [Nat.zero_add]; exact row_cells hx0 j u hj
    exact Items.move (moves_below (Below.refl _ _) (fun k hk h => hg' k hk (.inl h.2))) l g 0 rfl this
theorem OwnC.shape {w : World} {B : Nat} {G : Nat → Prop} {v : Value} {l : List Ins} (h : OwnC w B G v l) : ∃ a cap, v = .slice a l.length cap ∧ l.length ≤ cap := by
  obtain ⟨xs, hx, hi⟩ := h
  rcases hx.2 with ⟨rfl, h0⟩ | ⟨g, cap, cur, rfl, hg, hc, hn, _⟩
  · exact ⟨none, 0, by rw [h0], by omega⟩
  · exact ⟨_, cap, rfl, hn⟩
/-- behind calls that turn none of it -/
theorem OwnC.move {w w' : World} {B : Nat} {G : Nat → Prop} {v : Value} {l : List Ins} (h : OwnC w B G v l) (ho : ∀ k, v.ownBlock = some k → w'.heap[k]? = w.heap[k]?) (hm : Moves w w' (own G v) (own G v)) : OwnC w' B G v l := by
  obtain ⟨xs, hx, hi⟩ := h
  rcases hx.2 with ⟨rfl, h0⟩ | ⟨g, cap, cur, rfl, hg, hc, hn, h5⟩
  · have hl : l = [] := List.eq_nil_of_length_eq_zero h0
    subst hl
    exact OwnC_nil _ _ _
  · exact ⟨xs, ⟨hx.1, .inr ⟨g, cap, cur, rfl, hg, (ho g rfl).trans hc, hn, h5⟩⟩, Its.move hm hi⟩
theorem OwnC.lt {w : World} {B : Nat} {G : Nat → Prop} {v : Value} {l : List Ins} (h : OwnC w B G v l) : ∀ k, v.ownBlock = some k → B ≤ k ∧ k < w.heap.size := by
  obtain ⟨xs, hx, hi⟩ := h
  exact hx.lt
theorem OwnC.below {w w' : World} {B : Nat} {G : Nat → Prop} {v : Value} {l : List Ins} (h : OwnC w B G v l) (hb : Below w.heap.size w w') : OwnC w' B G v l :=
  h.move (fun k hk => hb.block k (h.lt k hk).2) (moves_below hb (fun _ _ h => h))
/-- the block of such a list -/
theorem OwnC.block {w : World} {B : Nat} {G : Nat → Prop} {v : Value} {l : List Ins} (h : OwnC w B G v l) : ∀ k, v.ownBlock = some k → ∃ cur, w.heap[k]? = some (.cells cur 63 (0, 0)) := by
  obtain ⟨xs, hx, hi⟩ := h
  intro k hk
  rcases hx.2 with ⟨rfl, h0⟩ | ⟨g, cap, cur, rfl, hg, hc, hn, h5⟩
  · cases hk
  · cases hk; exact ⟨cur, hc⟩
/-- one more -/
theorem OwnC.snoc {w w1 : World} {B H : Nat} {G : Nat → Prop} {v : Value} {l : List Ins} {xs : List Value} {i : Ins} {vb ve vl : Value} {g cap : Nat}
    (hx : w.ownsRow B 63 8 v l.length xs) (hi : Its w (own G v) l xs) (h1 : Code w (own G v) i.body vb) (h2 : Code w (own G v) i.els ve) (h3 : Lies (own G v) i.ls.length (Lab w i.ls) vl)
    (hown : w1.ownsRow B 63 8 (.slice (some ⟨g, 0, none⟩) (l.length + 1) cap) (l.length + 1) (xs ++ cel i vb ve vl)) (hgrow : w.grownBy w1 v.ownBlock) (hat : v.ownBlock = some g ∨ g = H) (hH : w.heap.size = H) :
    OwnC w1 B G (.slice (some ⟨g, 0, none⟩) (l.length + 1) cap) (l ++ [i]) := by
  refine ⟨xs ++ cel i vb ve vl, by simpa using hown, ?_⟩
  have hm : Moves w w1 (own G v) (own G (.slice (some ⟨g, 0, none⟩) (l.length + 1) cap)) := by
    intro k hk _ hne
    have hk2 : some k ≠ v.ownBlock := fun e => hne.1 e.symm
    refine ⟨⟨?_, hne.2⟩, hgrow.block k hk hk2⟩
    intro e
    simp only [Value.ownBlock, Option.some.injEq] at e
    subst e
    rcases hat with e | e
    · exact hk2 e.symm
    · omega
  exact Its.snoc (h1.move hm) (h2.move hm) (Labs.move hm h3) (Its.move hm hi)
end Ex
end Go.Proofs.YtcpknafaocdjdaaGreatDoor
