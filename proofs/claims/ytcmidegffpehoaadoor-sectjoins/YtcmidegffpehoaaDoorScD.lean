/- bytes.Clone; takeSection. -/
import Derived.Test.YtcmidegffpehoaaDoorScC
import Derived.Laws.OwnMore
import Derived.Lib.SliceRun
namespace Go.Proofs.YtcmidegffpehoaaDoor
open Go.RowKit
namespace Sc
set_option linter.unusedVariables false

theorem own_byt {w : World} {B n : Nat} {v : Value} {zs : List Int} (h : w.ownsRow B 5 1 v n (zs.map (Value.int .u8))) (hz : ∀ z ∈ zs, 0 ≤ z ∧ z ≤ 255) : Byt w (B ≤ ·) zs v := by
  have hl : zs.length = n := by have := h.1; simpa using this
  rcases h.2 with ⟨rfl, h0⟩ | ⟨g, cap, cur, rfl, hg, hc, hn, _⟩
  · rw [List.eq_nil_of_length_eq_zero (hl.trans h0)]; exact Byt.nil _ _
  · subst hl
    exact ⟨_, cap, rfl, hn, by simp, Row.own h hz, fun _ => ⟨g, 0, rfl, hg⟩⟩
set_option maxRecDepth 100000 in
set_option maxHeartbeats 800000 in
theorem clone_any {a : Addr} {n cap : Nat} {zs : List Int} {w : World} (h : Row w (some a) n zs) (hn : n ≤ 50000) :
    Calls Tryd.prog 29 #[.slice (some a) n cap] w fun e w' => ∃ v, e = .returned v ∧ Byt w' (w.heap.size ≤ ·) zs v ∧ Below w.heap.size w w' := by
  have hz := h.2.1
  have HH := hide h; have HZ := hide hz; clear h hz
  have hnl : ∀ W, (binOp .eql 22 (.slice (some a) n cap) (.slice none 0 0)).run Tryd.prog W = .ok (.bool false) W := fun W => Lib.run_eql_slice_nil W _ _ (some a) _ _ _ _ Tryd.underlying22
  go_enter Tryd.func29, Tryd.ntmps29
  go_wp2_with (at_builtin; refine wpList_append_row _ rfl (.tmp 5) (.tmp 6) rfl w.heap.size _ 0 [] rfl ?o1 (some a) n cap zs rfl ?o2 (by simp) (by omega) ?o3 ?_)
  case o1 => exact World.ownsRow_lit w #[] 0 (Nat.le_refl _) (by unfold maxLen; omega) rfl
  case o2 => exact (unhide HH).below (Nat.le_refl _) (one_alloc _ _)
  case o3 => simp
  intro v' w2 hown hbel
  have hb := own_byt hown (unhide HZ)
  have hbw : Below w.heap.size w w2 := ((Below.refl _ _).alloc (Nat.le_refl _) _).trans hbel
  have HB := hide hb; have HW := hide hbw
  clear hown hbel hb hbw
  go_wp2
  go_ret
  exact ⟨v', rfl, unhide HB, unhide HW⟩
end Sc
end Go.Proofs.YtcmidegffpehoaaDoor
