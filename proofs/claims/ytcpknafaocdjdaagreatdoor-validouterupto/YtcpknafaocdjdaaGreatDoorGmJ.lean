/- Small things that giveModule's loops want. -/
import Derived.Test.YtcpknafaocdjdaaGreatDoorGmI
namespace Go.Proofs.YtcpknafaocdjdaaGreatDoor
open Go.RowKit
namespace Gm
set_option linter.unusedVariables false
set_option linter.unusedSimpArgs false
theorem set_same {us : Array Value} {k : Nat} {v : Value} (h : us[k]? = some v) : us.setIfInBounds k v = us := by
  apply Array.ext_getElem?
  intro j
  rw [Array.getElem?_setIfInBounds]
  by_cases e : k = j
  · subst e
    rw [if_pos rfl, if_pos (Array.getElem?_eq_some_iff.1 h).1, h]
  · rw [if_neg e]
theorem set_get {us : Array Value} {k : Nat} {v : Value} (h : k < us.size) : (us.setIfInBounds k v)[k]? = some v := by
  rw [Array.getElem?_setIfInBounds, if_pos rfl, if_pos h]
theorem owns_set {w : World} {base T c n b k : Nat} {v x : Value} {xs : List Value} (h : w.ownsRow base T c v n xs) (hne : v.ownBlock ≠ some b) : (w.setCell ⟨b, k, none⟩ x).ownsRow base T c v n xs := by
  refine ⟨h.1, ?_⟩
  rcases h.2 with hn | ⟨g, cap, cur, rfl, e2, e3, e4⟩
  · exact .inl hn
  · exact .inr ⟨g, cap, cur, rfl, e2, (heap_setCell_other w _ g _ (fun e => hne (by have e1 : g = b := e; rw [e1]; rfl))).trans e3, e4⟩
theorem row_of {w : World} {g : Nat → Prop} {zs : List Int} {a : Option Addr} {n c : Nat} (h : Ex.Lies g zs.length (Byts w zs) (.slice a n c)) (hb : ∀ z ∈ zs, 0 ≤ z ∧ z ≤ 255) : Row w a n zs := by
  obtain ⟨a', c', e, _, _, hr⟩ := h
  simp only [Value.slice.injEq] at e
  obtain ⟨rfl, rfl, rfl⟩ := e
  refine ⟨rfl, hb, fun hl => ?_⟩
  obtain ⟨b, o, rfl, _, hby⟩ := hr hl
  exact ⟨b, o, rfl, hby.lt hl, hby⟩
theorem own_byts {w w' : World} {g' : Nat → Prop} {B T n : Nat} {v : Value} {zs : List Int} (h : w.ownsRow B T 1 v n (zs.map (Value.int .u8))) (hl : n = zs.length) (hk : ∀ i, B ≤ i → i < w.heap.size → g' i ∧ w'.heap[i]? = w.heap[i]?) : Ex.Lies g' zs.length (Byts w' zs) v := by
  subst hl
  have h0 := h
  rcases h.2 with ⟨rfl, e⟩ | ⟨gg, cap, cur, rfl, e2, e3, e4, _⟩
  · rw [e]; exact ⟨none, 0, rfl, Nat.le_refl _, fun _ => rfl, fun h => absurd h (by omega)⟩
  · have hlt := (Array.getElem?_eq_some_iff.1 e3).1
    obtain ⟨q1, q2⟩ := hk gg e2 hlt
    refine ⟨_, cap, rfl, e4, by simp, fun _ => ⟨gg, 0, rfl, q1, fun j hj => ?_⟩⟩
    have := Ex.row_cells h0 j (.int .u8 (zs.getD j 0)) (by simp [List.getD, hj])
    rw [Nat.zero_add]
    exact (World.cell?_of_block (a := ⟨gg, j, none⟩) q2).trans this
theorem Moves.of_gor {w w' : World} {g G' : Nat → Prop} {B B' : Nat} (h : Mv w w' (Ex.gor g B) G') (hB : B ≤ B') : Ex.Moves w w' (Ex.gor g B') G' := fun k hk _ hg => h k hk (by rcases hg with hg | hg; exact .inl hg; exact .inr (by omega))
theorem szI_mono {x : Ex.Ins} (h : Ex.SzI 1048576 x) : Ex.SzI 1099511627776 x := ⟨by have := h.1; omega, by have := h.2.1; omega, by have := h.2.2.1; omega, Ex.Sz_mono (by omega) _ h.2.2.2.1, Ex.Sz_mono (by omega) _ h.2.2.2.2⟩
end Gm
end Go.Proofs.YtcpknafaocdjdaaGreatDoor
