/- giveModule: what holds while it goes on; a round's end. -/
import Derived.Test.YtcpknafaocdjdaaGreatDoorGmD
import Derived.Test.YtcpknafaocdjdaaGreatDoorGmT
namespace Go.Proofs.YtcpknafaocdjdaaGreatDoor
open Go.RowKit
namespace Gm
set_option linter.unusedVariables false

def zeroMod : Array Value := #[.slice none 0 0, .slice none 0 0, .slice none 0 0, .slice none 0 0, .slice none 0 0, .slice none 0 0, .slice none 0 0, .slice none 0 0]
structure Inv (w wr : World) (g G : Nat → Prop) (ms us : Array Value) (u : Value) : Prop where
  b : Below w.heap.size w wr
  bm : wr.heap[w.heap.size]? = some (.cells ms 30 (0, 0))
  br : wr.heap[w.heap.size + 1]? = some (.cells zeroMod 41 (0, 0))
  bo : wr.heap[w.heap.size + 2]? = some (.cells us 41 (0, 0))
  gG : ∀ k, g k → G k
  G1 : ∀ k, G k → k < wr.heap.size ∧ (k < w.heap.size ∨ w.heap.size + 3 ≤ k) ∧ u.ownBlock ≠ some k
  G2 : ∀ k, G k → k < w.heap.size → g k
theorem Inv.lt {w wr : World} {g G : Nat → Prop} {ms us : Array Value} {u : Value} (h : Inv w wr g G ms us u) : w.heap.size + 3 ≤ wr.heap.size := (Array.getElem?_eq_some_iff.1 h.bo).1
theorem Inv.step {w wr wl wx : World} {g G : Nat → Prop} {ms us : Array Value} {u : Value} {T c n cap gg k : Nat} {xs : List Value} (it : Obj) (h : Inv w wr g G ms us u) (hown : wr.ownsRow (w.heap.size + 3) T c u n xs)
    (hbl : Below wr.heap.size wr wl) (hgr : (wl.alloc it).grownBy wx u.ownBlock) (hat : u.ownBlock = some gg ∨ gg = wl.heap.size + 1) (hlt : gg < wx.heap.size) (hk : k < us.size) :
    Inv w (wx.setCell ⟨w.heap.size + 2, k, none⟩ (.slice (some ⟨gg, 0, none⟩) (n + 1) cap)) g (fun i => G i ∨ (wr.heap.size ≤ i ∧ i < wl.heap.size)) ms (us.setIfInBounds k (.slice (some ⟨gg, 0, none⟩) (n + 1) cap)) (.slice (some ⟨gg, 0, none⟩) (n + 1) cap) ∧
    (∀ i, i < wl.heap.size → i ≠ w.heap.size + 2 → u.ownBlock ≠ some i → (wx.setCell ⟨w.heap.size + 2, k, none⟩ (.slice (some ⟨gg, 0, none⟩) (n + 1) cap)).heap[i]? = wl.heap[i]?) ∧
    Mv wr (wx.setCell ⟨w.heap.size + 2, k, none⟩ (.slice (some ⟨gg, 0, none⟩) (n + 1) cap)) G (fun i => G i ∨ (wr.heap.size ≤ i ∧ i < wl.heap.size)) ∧ wr.heap.size ≤ (wx.setCell ⟨w.heap.size + 2, k, none⟩ (.slice (some ⟨gg, 0, none⟩) (n + 1) cap)).heap.size := by
  have hl3 := h.lt
  have hlw := hbl.size
  have hos : ∀ i, u.ownBlock = some i → w.heap.size + 3 ≤ i ∧ i < wr.heap.size := hown.lt
  have hsa : (wl.alloc it).heap.size = wl.heap.size + 1 := by simp
  have hsx := hgr.size
  rw [hsa] at hsx
  have hss : (wx.setCell ⟨w.heap.size + 2, k, none⟩ (.slice (some ⟨gg, 0, none⟩) (n + 1) cap)).heap.size = wx.heap.size := by simp
  have keep0 : ∀ i, i < wl.heap.size → u.ownBlock ≠ some i → wx.heap[i]? = wl.heap[i]? := fun i hi hne => (hgr.block i (by omega) (fun e => hne e.symm)).trans (Below.heap_alloc wl it i hi)
  have keep : ∀ i, i < wl.heap.size → i ≠ w.heap.size + 2 → u.ownBlock ≠ some i → (wx.setCell ⟨w.heap.size + 2, k, none⟩ (.slice (some ⟨gg, 0, none⟩) (n + 1) cap)).heap[i]? = wl.heap[i]? := fun i hi h2 hne =>
    (heap_setCell_other wx _ i _ h2).trans (keep0 i hi hne)
  have hmv : ∀ i, G i → (wx.setCell ⟨w.heap.size + 2, k, none⟩ (.slice (some ⟨gg, 0, none⟩) (n + 1) cap)).heap[i]? = wr.heap[i]? := fun i hi => by
    obtain ⟨h1, h2, h3⟩ := h.G1 i hi
    exact (keep i (by omega) (by omega) h3).trans (hbl.block i h1)
  refine ⟨⟨?_, ?_, ?_, ?_, fun i hi => .inl (h.gG i hi), ?_, fun i hi h1 => by rcases hi with hi | hi; exact h.G2 i hi h1; omega⟩, keep, fun i _ hi => ⟨.inl hi, hmv i hi⟩, by rw [hss]; omega⟩
  · have h1 : Below w.heap.size w (wl.alloc it) := (h.b.trans (hbl.mono (by omega))).alloc (by omega) it
    exact (h1.grown hgr (by omega) (fun i hi => by have := (hos i hi).1; omega)).setCell (p := ⟨w.heap.size + 2, k, none⟩) (by simp) _
  · exact (keep _ (by omega) (by omega) (fun e => by have := (hos _ e).1; omega)).trans ((hbl.block _ (by omega)).trans h.bm)
  · exact (keep _ (by omega) (by omega) (fun e => by have := (hos _ e).1; omega)).trans ((hbl.block _ (by omega)).trans h.br)
  · have h1 := (keep0 (w.heap.size + 2) (by omega) (fun e => by have := (hos _ e).1; omega)).trans ((hbl.block _ (by omega)).trans h.bo)
    exact heap_setCell_same wx (w.heap.size + 2) k us _ _ h1
  · intro i hi
    rw [hss]
    have ho : ∀ i, i < wl.heap.size → u.ownBlock ≠ some i → (Value.slice (some ⟨gg, 0, none⟩) (n + 1) cap).ownBlock ≠ some i := fun i hi hne e => by
      have e1 : gg = i := by simpa [Value.ownBlock] using e
      rcases hat with h1 | h1
      · rw [e1] at h1; exact hne h1
      · omega
    rcases hi with hi | ⟨hi1, hi2⟩
    · obtain ⟨h1, h2, h3⟩ := h.G1 i hi
      exact ⟨by omega, h2, ho i (by omega) h3⟩
    · exact ⟨by omega, .inr (by omega), ho i hi2 (fun e => by have := (hos i e).2; omega)⟩
/-- the row of functions is the call's own -/
def OwF (B n : Nat) (v : Value) (wr : World) (G : Nat → Prop) : Prop := (∃ xs, wr.ownsRow B 66 3 v n xs) ∧ ∀ i, v.ownBlock = some i → G i
theorem OwF.moved {B n : Nat} {v : Value} {wr wr' : World} {G G' : Nat → Prop} (hm : Mv wr wr' G G') (h : OwF B n v wr G) : OwF B n v wr' G' := by
  obtain ⟨⟨xs, ho⟩, hG⟩ := h
  refine ⟨⟨xs, ho.1, ?_⟩, fun i hi => (hm i (ho.lt i hi).2 (hG i hi)).1⟩
  rcases ho.2 with h | ⟨g, cap, cur, rfl, e2, e3, e4⟩
  · exact .inl h
  · exact .inr ⟨g, cap, cur, rfl, e2, ((hm g (Array.getElem?_eq_some_iff.1 e3).1 (hG g rfl)).2).trans e3, e4⟩
/-- a loop's end: the list can be read; the next one is not begun -/
theorem Inv.next {α : Type} {It : World → (Nat → Prop) → α → List Value → Prop} {w wr : World} {g G : Nat → Prop} {ms us : Array Value} {u : Value} {T c : Nat} {l : List α} {xs : List Value} (h : Inv w wr g G ms us u) (hown : wr.ownsRow (w.heap.size + 3) T c u l.length xs) (hit : Its (It wr G) c l xs)
    (hI : ∀ G', (∀ i, G i → G' i) → ∀ x cs, It wr G x cs → It wr G' x cs) : Inv w wr g (fun i => G i ∨ u.ownBlock = some i) ms us (.slice none 0 0) ∧ LL It c wr (fun i => G i ∨ u.ownBlock = some i) l u ∧ Mv wr wr G (fun i => G i ∨ u.ownBlock = some i) := by
  refine ⟨⟨h.b, h.bm, h.br, h.bo, fun i hi => .inl (h.gG i hi), fun i hi => ?_, fun i hi h1 => by rcases hi with hi | hi; exact h.G2 i hi h1; have := hown.lt i hi; omega⟩, LL.made hown (hit.mono fun x cs q => hI _ (fun i hi => .inl hi) x cs q) (fun i hi => .inr hi), fun i _ hi => ⟨.inl hi, rfl⟩⟩
  have hno : (Value.slice none 0 0).ownBlock ≠ some i := by simp [Value.ownBlock]
  rcases hi with hi | hi
  · obtain ⟨h1, h2, _⟩ := h.G1 i hi
    exact ⟨h1, h2, hno⟩
  · have := hown.lt i hi
    exact ⟨this.2, .inr this.1, hno⟩
end Gm
end Go.Proofs.YtcpknafaocdjdaaGreatDoor
