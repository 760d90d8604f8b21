/- A row of bytes of the call's own: one append to it; its shape. -/
import Derived.Test.YtjhmglefejclpaaDoorLaws0
namespace Go.Proofs.YtjhmglefejclpaaDoor
open Go.RowKit
set_option linter.unusedVariables false

/-- what one append does to the relation of the document's loops -/
theorem rel_ref (B : Nat) (w wr w2 : World) (s v' : Value) (ds : List Int) (c : Int) (hw : w.heap.size = B) (hbel : Below B w wr) (hB : B ≤ wr.heap.size) (hown : wr.ownsRow B 5 1 s ds.length (ds.map (Value.int .u8)))
    (hown3 : w2.ownsRow B 5 1 v' (ds.length + 1) (ds.map (Value.int .u8) ++ [.int .u8 c]))
    (hgrow : (wr.alloc (.cells #[.int .u8 c] 5)).grownBy w2 s.ownBlock) :
    w2.ownsRow B 5 1 v' (ds ++ [c]).length ((ds ++ [c]).map (Value.int .u8)) ∧ Below B w w2 ∧ B ≤ w2.heap.size := by
  have h1 : Below B w w2 := (hbel.alloc hB _).grown hgrow (by simp; omega) (fun k hk => (hown.lt k hk).1)
  exact ⟨by simpa using hown3, h1, by have := h1.size; omega⟩
theorem own_shape {w : World} {B n : Nat} {v : Value} {zs : List Int} (h : w.ownsRow B 5 1 v n (zs.map (Value.int .u8))) (hn : 1 ≤ n) (hz : ∀ z ∈ zs, 0 ≤ z ∧ z ≤ 255) :
    ∃ g cap, v = .slice (some ⟨g, 0, none⟩) n cap ∧ Row w (some ⟨g, 0, none⟩) n zs ∧ n ≤ cap ∧ B ≤ g := by
  rcases h.2 with ⟨_, h0⟩ | ⟨g, cap, cur, rfl, hg, _, hc, _⟩
  · omega
  · exact ⟨g, cap, rfl, Row.own h hz, hc, hg⟩
end Go.Proofs.YtjhmglefejclpaaDoor
