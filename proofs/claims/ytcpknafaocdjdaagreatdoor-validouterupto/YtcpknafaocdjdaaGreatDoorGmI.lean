/- giveModule: what holds while it goes on; a round's end. -/
import Derived.Test.YtcpknafaocdjdaaGreatDoorGmD
import Derived.Test.YtcpknafaocdjdaaGreatDoorGmT
namespace Go.Proofs.YtcpknafaocdjdaaGreatDoor
open Go.RowKit
namespace Gm
set_option linter.unusedVariables false

def zeroMod : Array Value := #[.slice none 0 0, .slice none 0 0, .slice none 0 0, .slice none 0 0, .slice none 0 0, .slice none 0 0, .slice none 0 0, .slice none 0 0]
structure Inv (w wr : World) (g G H : Nat → Prop) (ms us : Array Value) (u : Value) : Prop where
  b : Below w.heap.size w wr
  bm : wr.heap[w.heap.size]? = some (.cells ms 30 (0, 0))
  br : wr.heap[w.heap.size + 1]? = some (.cells zeroMod 41 (0, 0))
  bo : wr.heap[w.heap.size + 2]? = some (.cells us 41 (0, 0))
  gG : ∀ k, g k → G k
  G1 : ∀ k, G k → k < wr.heap.size ∧ (k < w.heap.size ∨ w.heap.size + 3 ≤ k) ∧ u.ownBlock ≠ some k
  G2 : ∀ k, G k → k < w.heap.size → g k
  H1 : ∀ k, H k → k < wr.heap.size ∧ w.heap.size + 3 ≤ k ∧ u.ownBlock ≠ some k
  dj : ∀ k, G k → ¬ H k
theorem Inv.lt {w wr : World} {g G H : Nat → Prop} {ms us : Array Value} {u : Value} (h : Inv w wr g G H ms us u) : w.heap.size + 3 ≤ wr.heap.size := (Array.getElem?_eq_some_iff.1 h.bo).1
theorem Inv.step {w wr wl wx : World} {g G H : Nat → Prop} {ms us : Array Value} {u : Value} {T c n cap gg k : Nat} {xs : List Value} (it : Obj) (h : Inv w wr g G H ms us u) (hown : wr.ownsRow (w.heap.size + 3) T c u n xs)
    (hbl : Below wr.heap.size wr wl) (hgr : (wl.alloc it).grownBy wx u.ownBlock) (hat : u.ownBlock = some gg ∨ gg = wl.heap.size + 1) (hlt : gg < wx.heap.size) (hk : k < us.size) :
    Inv w (wx.setCell ⟨w.heap.size + 2, k, none⟩ (.slice (some ⟨gg, 0, none⟩) (n + 1) cap)) g (fun i => G i ∨ (wr.heap.size ≤ i ∧ i < wl.heap.size)) H ms (us.setIfInBounds k (.slice (some ⟨gg, 0, none⟩) (n + 1) cap)) (.slice (some ⟨gg, 0, none⟩) (n + 1) cap) ∧
    (∀ i, i < wl.heap.size → i ≠ w.heap.size + 2 → u.ownBlock ≠ some i → (wx.setCell ⟨w.heap.size + 2, k, none⟩ (.slice (some ⟨gg, 0, none⟩) (n + 1) cap)).heap[i]? = wl.heap[i]?) ∧
    Mv wr (wx.setCell ⟨w.heap.size + 2, k, none⟩ (.slice (some ⟨gg, 0, none⟩) (n + 1) cap)) G (fun i => G i ∨ (wr.heap.size ≤ i ∧ i < wl.heap.size)) ∧ wr.heap.size ≤ (wx.setCell ⟨w.heap.size + 2, k, none⟩ (.slice (some ⟨gg, 0, none⟩) (n + 1) cap)).heap.size ∧ Mv wr (wx.setCell ⟨w.heap.size + 2, k, none⟩ (.slice (some ⟨gg, 0, none⟩) (n + 1) cap)) H H := by
  have hl3 := h.lt
  have hlw := hbl.size
  have hos : ∀ i, u.ownBlock = some i → w.heap.size + 3 ≤ i ∧ i < wr.heap.size := hown.lt
  have hsa : (wl.alloc it).heap.size = wl.heap.size + 1 := by simp
  have hsx := hgr.size
  rw [hsa] at hsx
  have hss : (wx.setCell ⟨w.heap.size + 2, k, none⟩ (.slice (some ⟨gg, 0, none⟩) (n + 1) cap)).heap.size = wx.heap.size := by simp
  have keep0 : ∀ i, i < wl.heap.size → u.ownBlock ≠ some i → wx.heap[i]? = wl.heap[i]? := fun i hi hne => (hgr.block i (by omega) (fun e => hne e.symm)).trans (Below.heap_alloc wl it i hi)
  have keep : ∀ i, i < wl.heap.size → i ≠ w.heap.size + 2 → u.ownBlock ≠ some i → (wx.setCell ⟨w.heap.size + 2, k, none⟩ (.slice (some ⟨gg, 0, none⟩) (n + 1) cap)).heap[i]? = wl.heap[i]? := fun i hi h2 hne =>
    (heap_setCell_other wx _ i _ h2).trans (keep0 i hi hne)
  have hmv : ∀ i, G i → (wx.setCell ⟨w.heap.size + 2, k, none⟩ (.slice (some ⟨gg, 0, none⟩) (n + 1) cap)).heap[i]? = wr.heap[i]? := fun i hi => by
    obtain ⟨h1, h2, h3⟩ := h.G1 i hi
    exact (keep i (by omega) (by omega) h3).trans (hbl.block i h1)
  have ho : ∀ i, i < wl.heap.size → u.ownBlock ≠ some i → (Value.slice (some ⟨gg, 0, none⟩) (n + 1) cap).ownBlock ≠ some i := fun i hi hne e => by
    have e1 : gg = i := by simpa [Value.ownBlock] using e
    rcases hat with h1 | h1
    · rw [e1] at h1; exact hne h1
    · omega
  have hmvH : ∀ i, H i → (wx.setCell ⟨w.heap.size + 2, k, none⟩ (.slice (some ⟨gg, 0, none⟩) (n + 1) cap)).heap[i]? = wr.heap[i]? := fun i hi => by
    obtain ⟨h1, h2, h3⟩ := h.H1 i hi
    exact (keep i (by omega) (by omega) h3).trans (hbl.block i h1)
  refine ⟨⟨?_, ?_, ?_, ?_, fun i hi => .inl (h.gG i hi), ?_, fun i hi h1 => (by rcases hi with hi | hi; exact h.G2 i hi h1; omega), fun i hi => (by obtain ⟨h1, h2, h3⟩ := h.H1 i hi; exact ⟨by rw [hss]; omega, h2, ho i (by omega) h3⟩), fun i hi hH => (by rcases hi with hi | hi; exact h.dj i hi hH; have := (h.H1 i hH).1; omega)⟩, keep, fun i _ hi => ⟨.inl hi, hmv i hi⟩, by rw [hss]; omega, fun i _ hi => ⟨hi, hmvH i hi⟩⟩
  · have h1 : Below w.heap.size w (wl.alloc it) := (h.b.trans (hbl.mono (by omega))).alloc (by omega) it
    exact (h1.grown hgr (by omega) (fun i hi => by have := (hos i hi).1; omega)).setCell (p := ⟨w.heap.size + 2, k, none⟩) (by simp) _
  · exact (keep _ (by omega) (by omega) (fun e => by have := (hos _ e).1; omega)).trans ((hbl.block _ (by omega)).trans h.bm)
  · exact (keep _ (by omega) (by omega) (fun e => by have := (hos _ e).1; omega)).trans ((hbl.block _ (by omega)).trans h.br)
  · have h1 := (keep0 (w.heap.size + 2) (by omega) (fun e => by have := (hos _ e).1; omega)).trans ((hbl.block _ (by omega)).trans h.bo)
    exact heap_setCell_same wx (w.heap.size + 2) k us _ _ h1
  · intro i hi
    rw [hss]
    rcases hi with hi | ⟨hi1, hi2⟩
    · obtain ⟨h1, h2, h3⟩ := h.G1 i hi
      exact ⟨by omega, h2, ho i (by omega) h3⟩
    · exact ⟨by omega, .inr (by omega), ho i hi2 (fun e => by have := (hos i e).2; omega)⟩
/-- the row of functions is the call's own -/
def OwF (B n : Nat) (v : Value) (wr : World) (G : Nat → Prop) : Prop := (∃ xs, wr.ownsRow B 66 3 v n xs) ∧ ∀ i, v.ownBlock = some i → G i
theorem OwF.moved {B n : Nat} {v : Value} {wr wr' : World} {G G' : Nat → Prop} (hm : Mv wr wr' G G') (h : OwF B n v wr G) : OwF B n v wr' G' := by
  obtain ⟨⟨xs, ho⟩, hG⟩ := h
  refine ⟨⟨xs, ho.1, ?_⟩, fun i hi => (hm i (ho.lt i hi).2 (hG i hi)).1⟩
  rcases ho.2 with h | ⟨g, cap, cur, rfl, e2, e3, e4⟩
  · exact .inl h
  · exact .inr ⟨g, cap, cur, rfl, e2, ((hm g (Array.getElem?_eq_some_iff.1 e3).1 (hG g rfl)).2).trans e3, e4⟩
/-- rows that are made: what was, and one more -/
def Hx (H : Nat → Prop) (v : Value) : Nat → Prop := fun i => H i ∨ v.ownBlock = some i
/-- a list whose row is the call's own, and apart from all parts -/
def OwL {α : Type} (T : TypeId) (It : World → (Nat → Prop) → α → List Value → Prop) (c B : Nat) (wr : World) (G H : Nat → Prop) (l : List α) (v : Value) : Prop :=
  (∃ xs, wr.ownsRow B T c v l.length xs ∧ Its (It wr G) c l xs) ∧ ∀ i, v.ownBlock = some i → H i
theorem OwL.moved {α : Type} {T : TypeId} {It : World → (Nat → Prop) → α → List Value → Prop} {c B : Nat} {wr wr' : World} {G G' H H' : Nat → Prop} {l : List α} {v : Value} (hh : Mv wr wr' H H') (hI : ∀ x cs, It wr G x cs → It wr' G' x cs) (h : OwL T It c B wr G H l v) : OwL T It c B wr' G' H' l v := by
  obtain ⟨⟨xs, ho, hi⟩, hG⟩ := h
  refine ⟨⟨xs, ⟨ho.1, ?_⟩, hi.mono hI⟩, fun i hi => (hh i (ho.lt i hi).2 (hG i hi)).1⟩
  rcases ho.2 with h | ⟨g, cap, cur, rfl, e2, e3, e4⟩
  · exact .inl h
  · exact .inr ⟨g, cap, cur, rfl, e2, ((hh g (Array.getElem?_eq_some_iff.1 e3).1 (hG g rfl)).2).trans e3, e4⟩
theorem OwL.ll {α : Type} {T : TypeId} {It : World → (Nat → Prop) → α → List Value → Prop} {c B : Nat} {wr : World} {G H K : Nat → Prop} {l : List α} {v : Value} (hI : ∀ x cs, It wr G x cs → It wr K x cs) (hK : ∀ i, H i → K i) (h : OwL T It c B wr G H l v) : LL It c wr K l v := by
  obtain ⟨⟨xs, ho, hi⟩, hG⟩ := h
  exact LL.made ho (hi.mono hI) (fun i h => hK i (hG i h))
theorem OwL.owF {It : World → (Nat → Prop) → Fnc → List Value → Prop} {B : Nat} {wr : World} {G H K : Nat → Prop} {l : List Fnc} {v : Value} (hK : ∀ i, H i → K i) (h : OwL 66 It 3 B wr G H l v) : OwF B l.length v wr K := by
  obtain ⟨⟨xs, ho, _⟩, hG⟩ := h
  exact ⟨⟨xs, ho⟩, fun i h => hK i (hG i h)⟩
/-- a loop's end: the row is made; the next one is not begun -/
theorem Inv.next {α : Type} {It : World → (Nat → Prop) → α → List Value → Prop} {w wr : World} {g G H : Nat → Prop} {ms us : Array Value} {u : Value} {T : TypeId} {c : Nat} {l : List α} {xs : List Value} (h : Inv w wr g G H ms us u) (hown : wr.ownsRow (w.heap.size + 3) T c u l.length xs) (hit : Its (It wr G) c l xs) :
    Inv w wr g G (Hx H u) ms us (.slice none 0 0) ∧ OwL T It c (w.heap.size + 3) wr G (Hx H u) l u ∧ Mv wr wr H (Hx H u) ∧ ∀ k, H k → u.ownBlock ≠ some k := by
  have hno : ∀ i, (Value.slice none 0 0).ownBlock ≠ some i := fun i => by simp [Value.ownBlock]
  refine ⟨⟨h.b, h.bm, h.br, h.bo, h.gG, fun i hi => ⟨(h.G1 i hi).1, (h.G1 i hi).2.1, hno i⟩, h.G2, fun i hi => ?_, fun i hi hH => ?_⟩, ⟨⟨xs, hown, hit⟩, fun i hi => .inr hi⟩, fun i _ hi => ⟨.inl hi, rfl⟩, fun i hi => (h.H1 i hi).2.2⟩
  · rcases hi with hi | hi
    · obtain ⟨h1, h2, _⟩ := h.H1 i hi
      exact ⟨h1, h2, hno i⟩
    · have := hown.lt i hi
      exact ⟨this.2, this.1, hno i⟩
  · rcases hH with hH | hH
    · exact h.dj i hi hH
    · exact (h.G1 i hi).2.2 hH
end Gm
end Go.Proofs.YtcpknafaocdjdaaGreatDoor
