/- Lists of the call's own whose items have cells of their own. -/
import Derived.Test.YtpecnljcgiicaaaDoorVcA
namespace Go.Proofs.YtpecnljcgiicaaaDoor
open Go.RowKit
namespace Vc
set_option linter.unusedVariables false

/-- cells of a list that is being made -/
def Its {α : Type} (It : α → List Value → Prop) (c : Nat) (l : List α) (xs : List Value) : Prop :=
  xs.length = l.length * c ∧ ∀ i x, l[i]? = some x → ∃ cs, cs.length = c ∧ It x cs ∧ ∀ j, j < c → xs[i * c + j]? = cs[j]?
theorem Its.nil {α : Type} (It : α → List Value → Prop) (c : Nat) : Its It c [] [] := ⟨by simp, fun i x h => by simp at h⟩
theorem Its.snoc {α : Type} {It : α → List Value → Prop} {c : Nat} {l : List α} {xs : List Value} {x : α} {cs : List Value} (h : Its It c l xs) (hx : It x cs) (hc : cs.length = c) : Its It c (l ++ [x]) (xs ++ cs) := by
  refine ⟨by rw [List.length_append, h.1, hc, List.length_append, Nat.add_mul]; simp, fun i y hy => ?_⟩
  by_cases e : i < l.length
  · rw [List.getElem?_append_left e] at hy
    obtain ⟨ds, h1, h2, h3⟩ := h.2 i y hy
    refine ⟨ds, h1, h2, fun j hj => ?_⟩
    rw [List.getElem?_append_left (by rw [h.1]; have : (i + 1) * c ≤ l.length * c := Nat.mul_le_mul_right _ e; rw [Nat.add_mul] at this; omega)]
    exact h3 j hj
  · have hi : i = l.length := by
      have := (List.getElem?_eq_some_iff.1 hy).1; simp at this; omega
    subst hi
    rw [List.getElem?_append_right (Nat.le_refl _)] at hy
    simp at hy
    subst hy
    refine ⟨cs, hc, hx, fun j hj => ?_⟩
    rw [List.getElem?_append_right (by rw [h.1]; omega), h.1]
    congr 1; omega
theorem Its.mono {α : Type} {It It' : α → List Value → Prop} {c : Nat} {l : List α} {xs : List Value} (hI : ∀ x cs, It x cs → It' x cs) (h : Its It c l xs) : Its It' c l xs :=
  ⟨h.1, fun i x hx => by obtain ⟨cs, h1, h2, h3⟩ := h.2 i x hx; exact ⟨cs, h1, hI _ _ h2, h3⟩⟩
def own (G : Nat → Prop) (v : Value) (k : Nat) : Prop := v.ownBlock ≠ some k ∧ G k
def OwnL {α : Type} (It : World → (Nat → Prop) → α → List Value → Prop) (c : Nat) (T : TypeId) (w : World) (B : Nat) (G : Nat → Prop) (v : Value) (l : List α) : Prop := ∃ xs, w.ownsRow B T c v l.length xs ∧ Its (It w (own G v)) c l xs
theorem row_cells {w : World} {B e size n cap g : Nat} {xs : List Value} (h : w.ownsRow B e size (.slice (some ⟨g, 0, none⟩) n cap) n xs) : ∀ j u, xs[j]? = some u → w.cell? ⟨g, j, none⟩ = some u := by
  intro j u hj
  rcases h.2 with ⟨h1, _⟩ | ⟨g', cap', cur, h1, _, hc, _, _, _, ht⟩
  · simp at h1
  · simp at h1
    obtain ⟨rfl, rfl⟩ := h1
    rw [cell_of_row w g j cur e _ hc]
    rw [← ht, List.getElem?_take] at hj
    split at hj
    · rw [← Array.getElem?_toList]; exact hj
    · cases hj
theorem ownsRow_below {w w' : World} {B : Nat} {e : TypeId} {size : Nat} {v : Value} {n : Nat} {xs : List Value} (h : w.ownsRow B e size v n xs) (hb : Below w.heap.size w w') : w'.ownsRow B e size v n xs := by
  refine ⟨h.1, ?_⟩
  rcases h.2 with h0 | ⟨g, cap, cur, rfl, hg, hc, h5⟩
  · exact .inl h0
  · exact .inr ⟨g, cap, cur, rfl, hg, (hb.block g (Array.getElem?_eq_some_iff.1 hc).1).trans hc, h5⟩
theorem OwnL.made {α : Type} {It : World → (Nat → Prop) → α → List Value → Prop} {c : Nat} {T : TypeId} {w : World} {B : Nat} {G g : Nat → Prop} {v : Value} {l : List α} (h : OwnL It c T w B G v l) (hI : ∀ x cs, It w (own G v) x cs → It w g x cs) (hg : ∀ k, B ≤ k → k < w.heap.size → g k) : LL It c w g l v := by
  obtain ⟨xs, ho, hi⟩ := h
  have ho0 := ho
  rcases ho.2 with ⟨rfl, h0⟩ | ⟨gg, cap, cur, rfl, hB, hh, hc, _⟩
  · obtain rfl : l = [] := List.eq_nil_of_length_eq_zero h0
    exact LL_nil _ _ _ _
  · have hlt := (Array.getElem?_eq_some_iff.1 hh).1
    refine ⟨_, cap, rfl, hc, by simp, fun hl => ⟨gg, 0, rfl, hg gg hB hlt, hlt, fun i x hx => ?_⟩⟩
    obtain ⟨cs, h1, h2, h3⟩ := hi.2 i x hx
    refine ⟨cs, h1, hI _ _ h2, fun j u hu => ?_⟩
    have hj : j < c := by have := (List.getElem?_eq_some_iff.1 hu).1; omega
    rw [Nat.zero_add]
    exact row_cells ho0 _ u (by rw [h3 j hj]; exact hu)
theorem OwnL.shape {α : Type} {It : World → (Nat → Prop) → α → List Value → Prop} {c : Nat} {T : TypeId} {w : World} {B : Nat} {G : Nat → Prop} {v : Value} {l : List α} (h : OwnL It c T w B G v l) : ∃ a cap, v = .slice a l.length cap := by
  obtain ⟨xs, ho, hi⟩ := h
  exact own_slice ho
theorem OwnL.lt {α : Type} {It : World → (Nat → Prop) → α → List Value → Prop} {c : Nat} {T : TypeId} {w : World} {B : Nat} {G : Nat → Prop} {v : Value} {l : List α} (h : OwnL It c T w B G v l) : ∀ k, v.ownBlock = some k → B ≤ k ∧ k < w.heap.size := by
  obtain ⟨xs, ho, hi⟩ := h
  exact ho.lt
theorem OwnL.blk {α : Type} {It : World → (Nat → Prop) → α → List Value → Prop} {c : Nat} {T : TypeId} {w : World} {B : Nat} {G : Nat → Prop} {v : Value} {l : List α} (h : OwnL It c T w B G v l) : ∀ k, v.ownBlock = some k → ∃ cur, w.heap[k]? = some (.cells cur T (0, 0)) := by
  obtain ⟨xs, ho, hi⟩ := h
  intro k hk
  rcases ho.2 with ⟨rfl, h0⟩ | ⟨g, cap, cur, rfl, hg, hc, hn, h5⟩
  · cases hk
  · cases hk; exact ⟨cur, hc⟩
/-- behind what turns none of it -/
theorem OwnL.move {α : Type} {It : World → (Nat → Prop) → α → List Value → Prop} {c : Nat} {T : TypeId} {w w' : World} {B : Nat} {G G' : Nat → Prop} {v : Value} {l : List α} (h : OwnL It c T w B G v l) (ho : ∀ k, v.ownBlock = some k → w'.heap[k]? = w.heap[k]?) (hI : ∀ x cs, It w (own G v) x cs → It w' (own G' v) x cs) : OwnL It c T w' B G' v l := by
  obtain ⟨xs, hx, hi⟩ := h
  refine ⟨xs, ⟨hx.1, ?_⟩, hi.mono hI⟩
  rcases hx.2 with h0 | ⟨g, cap, cur, rfl, hg, hc, hn, h5⟩
  · exact .inl h0
  · exact .inr ⟨g, cap, cur, rfl, hg, (ho g rfl).trans hc, hn, h5⟩
theorem OwnL_nil {α : Type} (It : World → (Nat → Prop) → α → List Value → Prop) (c : Nat) (T : TypeId) (w : World) (B : Nat) (G : Nat → Prop) : OwnL It c T w B G (.slice none 0 0) [] := ⟨[], World.ownsRow_nil _ _ _ _, Its.nil _ _⟩
/-- one more -/
theorem OwnL.snoc {α : Type} {It : World → (Nat → Prop) → α → List Value → Prop} {c : Nat} {T : TypeId} {w w1 : World} {B : Nat} {G : Nat → Prop} {v : Value} {l : List α} {xs cs : List Value} {x : α} {g cap : Nat}
    (hm : ∀ x cs, It w (own G v) x cs → Mv w w1 (own G v) (own G (.slice (some ⟨g, 0, none⟩) (l.length + 1) cap)) → It w1 (own G (.slice (some ⟨g, 0, none⟩) (l.length + 1) cap)) x cs)
    (hi : Its (It w (own G v)) c l xs) (hx : It w (own G v) x cs) (hc : cs.length = c)
    (hown : w1.ownsRow B T c (.slice (some ⟨g, 0, none⟩) (l.length + 1) cap) (l.length + 1) (xs ++ cs)) (hgrow : w.grownBy w1 v.ownBlock) (hat : v.ownBlock = some g ∨ g = w.heap.size) :
    OwnL It c T w1 B G (.slice (some ⟨g, 0, none⟩) (l.length + 1) cap) (l ++ [x]) := by
  have hmv : Mv w w1 (own G v) (own G (.slice (some ⟨g, 0, none⟩) (l.length + 1) cap)) := by
    intro k hk hne
    have hk2 : some k ≠ v.ownBlock := fun e => hne.1 e.symm
    refine ⟨⟨?_, hne.2⟩, hgrow.block k hk hk2⟩
    intro e
    simp only [Value.ownBlock, Option.some.injEq] at e
    subst e
    rcases hat with e | e
    · exact hk2 e.symm
    · omega
  exact ⟨xs ++ cs, by simpa using hown, (hi.mono fun x cs h => hm x cs h hmv).snoc (hm x cs hx hmv) hc⟩
theorem infoIn : (Tryd.prog.info? 29).map (fun i => (i.zero, i.size, i.bytes)) = some (some (.agg #[.int .u8 0, .int .i64 0, .slice none 0 0, .int .i64 0, .int .u32 0]), 5, 56) := by kernel_rfl
theorem infoBl : (Tryd.prog.info? 32).map (fun i => (i.zero, i.size, i.bytes)) = some (some (.agg #[.slice none 0 0, .slice none 0 0, .int .i64 0]), 3, 56) := by kernel_rfl
def inC (x : In) (v : Value) : List Value := [.int .u8 (x.op : Int), .int .i64 x.dst, v, .int .i64 x.n, .int .u32 x.of]
def blC (d : Int) (v v' : Value) : List Value := [v, v', .int .i64 d]
theorem new_row (w : World) (l : List Value) (t : TypeId) : ∀ j u, l[j]? = some u → (w.alloc (.cells l.toArray t)).cell? ((⟨w.heap.size, 0, none⟩ : Addr).add j) = some u := by
  intro j u hj
  rw [Addr.add_lit, Nat.zero_add, cell_of_row _ _ j _ _ _ (heap_alloc_new w (.cells l.toArray t))]
  simpa using hj
end Vc
end Go.Proofs.YtpecnljcgiicaaaDoor
