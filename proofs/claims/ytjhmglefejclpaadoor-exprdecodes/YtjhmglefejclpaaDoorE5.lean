/- The document's rest: of each form but those of blocks. -/
import Derived.Test.YtjhmglefejclpaaDoorE1
import Derived.Deep.Cut

/- The document's rest: of each form but those of blocks. -/
namespace Go.Proofs.YtjhmglefejclpaaDoor
open Go.RowKit
namespace Ex
set_option linter.unusedVariables false
set_option linter.unusedSimpArgs false

set_option maxRecDepth 100000 in
set_option maxHeartbeats 3200000 in
theorem rest_0 (a : Option Addr) (len cap p k nest : Nat) (op : Int) (zs : List Int) (w : World) (hrow : Row w a len zs) (hl : len ≤ 3000) (hp : p ≤ len) (hc : len ≤ cap) (hf : fr op = 0) :
    Calls Tryd.prog 51 #[RV a len cap p k 0, .agg #[.int .u8 op, .int .i64 0, .int .u32 0, .int .u32 0, .int .u8 0, .slice none 0 0, .slice none 0 0, .slice none 0 0], .int .i64 0, .int .i64 nest] w (RestPost w a len cap (pI (D zs) zs p k nest op)) := by
  obtain ⟨R, hR, hRe⟩ : ∃ R, pI (D zs) zs p k nest op = R ∧ R.e = 0 ∧ R.at_ = p ∧ R.k = k ∧ R.v = plain op := ⟨⟨0, p, k, plain op⟩, by unfold pI; rw [hf]; rfl, rfl, rfl, rfl, rfl⟩
  rw [hR]
  have HE : Hid (R.e = 0) ∧ Hid (R.at_ = p) ∧ Hid (R.k = k) ∧ Hid (R.v = plain op) := hRe
  clear hRe hR hf hrow
  have fx := fx_new w (.slice a len cap) (.int .i64 p) (.int .i64 k) (.int .i64 0) (.int .u8 op) (.int .i64 0) (.int .u32 0) (.int .u32 0) (.int .u8 0) (.slice none 0 0) (.slice none 0 0) (.slice none 0 0)
  obtain ⟨fx, hb⟩ := fx
  go_enter Tryd.func51, Tryd.ntmps51
  go_wp2_with fail
  generalize (((w.alloc (.cells #[.slice a len cap, .int .i64 p, .int .i64 k, .int .i64 0] 80)).alloc (.cells #[.int .u8 op, .int .i64 0, .int .u32 0, .int .u32 0, .int .u8 0, .slice none 0 0, .slice none 0 0, .slice none 0 0] 55)).alloc (.cells #[.slice none 0 0, .int .i64 0, .int .i64 0, .int .i64 0] 80)).alloc (.cells #[.int .u8 0, .int .i64 0, .int .u32 0, .int .u32 0, .int .u8 0, .slice none 0 0, .slice none 0 0, .slice none 0 0] 55) = w2 at *
  have FX := hide fx; have HB := hide hb
  clear fx hb
  generalize hN : w.heap.size = N at *
  have HN := hide hN; clear hN
  obtain ⟨p0, p1, p2, p3⟩ := (unhide FX).cr
  obtain ⟨q0, q1, q2, q3, q4, q5, q6, q7⟩ := (unhide FX).cx
  obtain ⟨a0, a1, a2, a3⟩ := (unhide FX).ca
  obtain ⟨b0, b1, b2, b3, b4, b5, b6, b7⟩ := (unhide FX).cb
  have y0 := (unhide FX).f0; have y1 := (unhide FX).f1; have y2 := (unhide FX).f2; have y3 := (unhide FX).f3
  have yl := (unhide FX).lt
  go_region
  go_wp2
  refine bodyPost_ret (v := .tuple #[.agg #[.slice a len cap, .int .i64 p, .int .i64 k, .int .i64 0], .agg #[.int .u8 op, .int .i64 0, .int .u32 0, .int .u32 0, .int .u8 0, .slice none 0 0, .slice none 0 0, .slice none 0 0]]) (by simp [results, Tryd.results51, go_sem, a0, a1, a2, a3, b0, b1, b2, b3, b4, b5, b6, b7]) rfl ?_
  refine ⟨k, ⟨op, 0, 0, 0, 0, [], [], []⟩, .slice none 0 0, .slice none 0 0, .slice none 0 0, ?_, ?_, ⟨⟨_, _, _, rfl⟩, ⟨_, _, _, rfl⟩, ⟨_, _, _, rfl⟩⟩, fun he => ?_⟩
  · rw [unhide HE.1, unhide HE.2.1]
  · rw [unhide HN]
    have h3 := unhide HB
    refine Below.drew ?_
    repeat' (with_reducible refine Below.setCell ?_ ?_ _)
    all_goals first | with_reducible assumption | (dsimp only; omega)
  · exact ⟨by rw [unhide HE.2.2.1], (unhide HE.2.2.2).symm, Code_nil _ _, Code_nil _ _, Labs_nil _ _⟩

set_option maxRecDepth 100000 in
set_option maxHeartbeats 3200000 in
theorem rest_1 (a : Option Addr) (len cap p k nest : Nat) (op : Int) (zs : List Int) (w : World) (hrow : Row w a len zs) (hl : len ≤ 3000) (hp : p ≤ len) (hc : len ≤ cap) (hf : fr op = 1) :
    Calls Tryd.prog 51 #[RV a len cap p k 0, .agg #[.int .u8 op, .int .i64 0, .int .u32 0, .int .u32 0, .int .u8 0, .slice none 0 0, .slice none 0 0, .slice none 0 0], .int .i64 1, .int .i64 nest] w (RestPost w a len cap (pI (D zs) zs p k nest op)) := by
  have hR : _ ∧ _ ∧ _ ∧ _ := part_f (pS zs p 32) k (plain op) (fun v => { plain op with n := v })
  have hI : pI (D zs) zs p k nest op = (pS zs p 32).on k (plain op) (fun a1 v => ⟨0, a1, k, { plain op with n := v }⟩) := by unfold pI; rw [hf]; rfl
  rw [hI]
  generalize (pS zs p 32).on k (plain op) (fun a1 v => ⟨0, a1, k, { plain op with n := v }⟩) = R at *
  have HE : Hid (R.e = ((pS zs p 32)).e) ∧ Hid (R.at_ = ((pS zs p 32)).at_) ∧ Hid (R.k = k) ∧ Hid (((pS zs p 32)).e = 0 → R.v = { plain op with n := (pS zs p 32).v }) := hR
  clear hI hR hf
  have hq := fun (wx : World) (hb : Below w.heap.size w wx) => signed_ok 32 (by decide) a len cap p k zs wx (hrow.below (Nat.le_refl _) hb) hl hp hc
  have HQ := hide hq
  clear hq
  generalize (pS zs p 32) = P at *
  clear hrow
  have fx := fx_new w (.slice a len cap) (.int .i64 p) (.int .i64 k) (.int .i64 0) (.int .u8 op) (.int .i64 0) (.int .u32 0) (.int .u32 0) (.int .u8 0) (.slice none 0 0) (.slice none 0 0) (.slice none 0 0)
  obtain ⟨fx, hb⟩ := fx
  go_enter Tryd.func51, Tryd.ntmps51
  go_wp2_with fail
  generalize (((w.alloc (.cells #[.slice a len cap, .int .i64 p, .int .i64 k, .int .i64 0] 80)).alloc (.cells #[.int .u8 op, .int .i64 0, .int .u32 0, .int .u32 0, .int .u8 0, .slice none 0 0, .slice none 0 0, .slice none 0 0] 55)).alloc (.cells #[.slice none 0 0, .int .i64 0, .int .i64 0, .int .i64 0] 80)).alloc (.cells #[.int .u8 0, .int .i64 0, .int .u32 0, .int .u32 0, .int .u8 0, .slice none 0 0, .slice none 0 0, .slice none 0 0] 55) = w2 at *
  have FX := hide fx; have HB := hide hb
  clear fx hb
  generalize hN : w.heap.size = N at *
  have HN := hide hN; clear hN
  refine (unhide HQ _ (unhide HB)).mono ?_
  rintro e w3 ⟨rfl, hb3⟩
  have fx := (unhide FX).below hb3
  have hb := (unhide HB).trans (hb3.mono (by have := (unhide FX).lt; omega))
  clear FX HB
  have FX := hide fx; have HB := hide hb
  clear fx hb
  obtain ⟨p0, p1, p2, p3⟩ := (unhide FX).cr
  obtain ⟨q0, q1, q2, q3, q4, q5, q6, q7⟩ := (unhide FX).cx
  have y0 := (unhide FX).f0; have y1 := (unhide FX).f1
  have yl := (unhide FX).lt
  have fx := (unhide FX).put4 (.slice a len cap) (.int .i64 P.at_) (.int .i64 k) (.int .i64 P.e)
  have hb := Fx.bput (unhide HB) (Nat.le_refl _) (.slice a len cap) (.int .i64 P.at_) (.int .i64 k) (.int .i64 P.e)
  have hk := (Kb.refl N w3).put (.slice a len cap) (.int .i64 P.at_) (.int .i64 k) (.int .i64 P.e)
  have fx2 := fx.set1 (.int .i64 P.v)
  have hb2 := Fx.bset hb (Nat.le_refl _) 1 (.int .i64 P.v)
  have hk2 := hk.set (b := N + 1) (by omega) 1 (.int .i64 P.v)
  have FX' := hide fx2; have HB' := hide hb2; have HK3 := hide hk2
  clear fx hb hk fx2 hb2 hk2
  go_wp2_with fail
  generalize ((((w3.setCell ⟨N, 0, none⟩ (.slice a len cap)).setCell ⟨N, 1, none⟩ (.int .i64 P.at_)).setCell ⟨N, 2, none⟩ (.int .i64 k)).setCell ⟨N, 3, none⟩ (.int .i64 P.e)).setCell ⟨N + 1, 1, none⟩ (.int .i64 P.v) = w4 at *
  clear p0 p1 p2 p3 q0 q1 q2 q3 q4 q5 q6 q7 y0 y1 yl
  clear FX HB
  have FX := FX'; have HB := HB'
  clear FX' HB'
  obtain ⟨p0, p1, p2, p3⟩ := (unhide FX).cr
  obtain ⟨q0, q1, q2, q3, q4, q5, q6, q7⟩ := (unhide FX).cx
  obtain ⟨a0, a1, a2, a3⟩ := (unhide FX).ca
  obtain ⟨b0, b1, b2, b3, b4, b5, b6, b7⟩ := (unhide FX).cb
  have y0 := (unhide FX).f0; have y1 := (unhide FX).f1; have y2 := (unhide FX).f2; have y3 := (unhide FX).f3
  have yl := (unhide FX).lt
  go_region
  go_wp2
  refine bodyPost_ret (v := .tuple #[.agg #[.slice a len cap, .int .i64 P.at_, .int .i64 k, .int .i64 P.e], .agg #[.int .u8 op, .int .i64 P.v, .int .u32 0, .int .u32 0, .int .u8 0, .slice none 0 0, .slice none 0 0, .slice none 0 0]]) (by simp [results, Tryd.results51, go_sem, a0, a1, a2, a3, b0, b1, b2, b3, b4, b5, b6, b7]) rfl ?_
  refine ⟨k, ⟨op, P.v, 0, 0, 0, [], [], []⟩, .slice none 0 0, .slice none 0 0, .slice none 0 0, ?_, ?_, ⟨⟨_, _, _, rfl⟩, ⟨_, _, _, rfl⟩, ⟨_, _, _, rfl⟩⟩, fun he => ?_⟩
  · rw [unhide HE.1, unhide HE.2.1]
  · rw [unhide HN]
    have h3 := unhide HB
    refine Below.drew ?_
    repeat' (with_reducible refine Below.setCell ?_ ?_ _)
    all_goals first | with_reducible assumption | (dsimp only; omega)
  · exact ⟨by rw [unhide HE.2.2.1], (unhide HE.2.2.2 (by rw [← unhide HE.1]; exact he)).symm, Code_nil _ _, Code_nil _ _, Labs_nil _ _⟩

set_option maxRecDepth 100000 in
set_option maxHeartbeats 3200000 in
theorem rest_2 (a : Option Addr) (len cap p k nest : Nat) (op : Int) (zs : List Int) (w : World) (hrow : Row w a len zs) (hl : len ≤ 3000) (hp : p ≤ len) (hc : len ≤ cap) (hf : fr op = 2) :
    Calls Tryd.prog 51 #[RV a len cap p k 0, .agg #[.int .u8 op, .int .i64 0, .int .u32 0, .int .u32 0, .int .u8 0, .slice none 0 0, .slice none 0 0, .slice none 0 0], .int .i64 2, .int .i64 nest] w (RestPost w a len cap (pI (D zs) zs p k nest op)) := by
  have hR : _ ∧ _ ∧ _ ∧ _ := part_f (pS zs p 64) k (plain op) (fun v => { plain op with n := v })
  have hI : pI (D zs) zs p k nest op = (pS zs p 64).on k (plain op) (fun a1 v => ⟨0, a1, k, { plain op with n := v }⟩) := by unfold pI; rw [hf]; rfl
  rw [hI]
  generalize (pS zs p 64).on k (plain op) (fun a1 v => ⟨0, a1, k, { plain op with n := v }⟩) = R at *
  have HE : Hid (R.e = ((pS zs p 64)).e) ∧ Hid (R.at_ = ((pS zs p 64)).at_) ∧ Hid (R.k = k) ∧ Hid (((pS zs p 64)).e = 0 → R.v = { plain op with n := (pS zs p 64).v }) := hR
  clear hI hR hf
  have hq := fun (wx : World) (hb : Below w.heap.size w wx) => signed_ok 64 (by decide) a len cap p k zs wx (hrow.below (Nat.le_refl _) hb) hl hp hc
  have HQ := hide hq
  clear hq
  generalize (pS zs p 64) = P at *
  clear hrow
  have fx := fx_new w (.slice a len cap) (.int .i64 p) (.int .i64 k) (.int .i64 0) (.int .u8 op) (.int .i64 0) (.int .u32 0) (.int .u32 0) (.int .u8 0) (.slice none 0 0) (.slice none 0 0) (.slice none 0 0)
  obtain ⟨fx, hb⟩ := fx
  go_enter Tryd.func51, Tryd.ntmps51
  go_wp2_with fail
  generalize (((w.alloc (.cells #[.slice a len cap, .int .i64 p, .int .i64 k, .int .i64 0] 80)).alloc (.cells #[.int .u8 op, .int .i64 0, .int .u32 0, .int .u32 0, .int .u8 0, .slice none 0 0, .slice none 0 0, .slice none 0 0] 55)).alloc (.cells #[.slice none 0 0, .int .i64 0, .int .i64 0, .int .i64 0] 80)).alloc (.cells #[.int .u8 0, .int .i64 0, .int .u32 0, .int .u32 0, .int .u8 0, .slice none 0 0, .slice none 0 0, .slice none 0 0] 55) = w2 at *
  have FX := hide fx; have HB := hide hb
  clear fx hb
  generalize hN : w.heap.size = N at *
  have HN := hide hN; clear hN
  refine (unhide HQ _ (unhide HB)).mono ?_
  rintro e w3 ⟨rfl, hb3⟩
  have fx := (unhide FX).below hb3
  have hb := (unhide HB).trans (hb3.mono (by have := (unhide FX).lt; omega))
  clear FX HB
  have FX := hide fx; have HB := hide hb
  clear fx hb
  obtain ⟨p0, p1, p2, p3⟩ := (unhide FX).cr
  obtain ⟨q0, q1, q2, q3, q4, q5, q6, q7⟩ := (unhide FX).cx
  have y0 := (unhide FX).f0; have y1 := (unhide FX).f1
  have yl := (unhide FX).lt
  have fx := (unhide FX).put4 (.slice a len cap) (.int .i64 P.at_) (.int .i64 k) (.int .i64 P.e)
  have hb := Fx.bput (unhide HB) (Nat.le_refl _) (.slice a len cap) (.int .i64 P.at_) (.int .i64 k) (.int .i64 P.e)
  have hk := (Kb.refl N w3).put (.slice a len cap) (.int .i64 P.at_) (.int .i64 k) (.int .i64 P.e)
  have fx2 := fx.set1 (.int .i64 P.v)
  have hb2 := Fx.bset hb (Nat.le_refl _) 1 (.int .i64 P.v)
  have hk2 := hk.set (b := N + 1) (by omega) 1 (.int .i64 P.v)
  have FX' := hide fx2; have HB' := hide hb2; have HK3 := hide hk2
  clear fx hb hk fx2 hb2 hk2
  go_wp2_with fail
  generalize ((((w3.setCell ⟨N, 0, none⟩ (.slice a len cap)).setCell ⟨N, 1, none⟩ (.int .i64 P.at_)).setCell ⟨N, 2, none⟩ (.int .i64 k)).setCell ⟨N, 3, none⟩ (.int .i64 P.e)).setCell ⟨N + 1, 1, none⟩ (.int .i64 P.v) = w4 at *
  clear p0 p1 p2 p3 q0 q1 q2 q3 q4 q5 q6 q7 y0 y1 yl
  clear FX HB
  have FX := FX'; have HB := HB'
  clear FX' HB'
  obtain ⟨p0, p1, p2, p3⟩ := (unhide FX).cr
  obtain ⟨q0, q1, q2, q3, q4, q5, q6, q7⟩ := (unhide FX).cx
  obtain ⟨a0, a1, a2, a3⟩ := (unhide FX).ca
  obtain ⟨b0, b1, b2, b3, b4, b5, b6, b7⟩ := (unhide FX).cb
  have y0 := (unhide FX).f0; have y1 := (unhide FX).f1; have y2 := (unhide FX).f2; have y3 := (unhide FX).f3
  have yl := (unhide FX).lt
  go_region
  go_wp2
  refine bodyPost_ret (v := .tuple #[.agg #[.slice a len cap, .int .i64 P.at_, .int .i64 k, .int .i64 P.e], .agg #[.int .u8 op, .int .i64 P.v, .int .u32 0, .int .u32 0, .int .u8 0, .slice none 0 0, .slice none 0 0, .slice none 0 0]]) (by simp [results, Tryd.results51, go_sem, a0, a1, a2, a3, b0, b1, b2, b3, b4, b5, b6, b7]) rfl ?_
  refine ⟨k, ⟨op, P.v, 0, 0, 0, [], [], []⟩, .slice none 0 0, .slice none 0 0, .slice none 0 0, ?_, ?_, ⟨⟨_, _, _, rfl⟩, ⟨_, _, _, rfl⟩, ⟨_, _, _, rfl⟩⟩, fun he => ?_⟩
  · rw [unhide HE.1, unhide HE.2.1]
  · rw [unhide HN]
    have h3 := unhide HB
    refine Below.drew ?_
    repeat' (with_reducible refine Below.setCell ?_ ?_ _)
    all_goals first | with_reducible assumption | (dsimp only; omega)
  · exact ⟨by rw [unhide HE.2.2.1], (unhide HE.2.2.2 (by rw [← unhide HE.1]; exact he)).symm, Code_nil _ _, Code_nil _ _, Labs_nil _ _⟩

set_option maxRecDepth 100000 in
set_option maxHeartbeats 3200000 in
theorem rest_5 (a : Option Addr) (len cap p k nest : Nat) (op : Int) (zs : List Int) (w : World) (hrow : Row w a len zs) (hl : len ≤ 3000) (hp : p ≤ len) (hc : len ≤ cap) (hf : fr op = 5) :
    Calls Tryd.prog 51 #[RV a len cap p k 0, .agg #[.int .u8 op, .int .i64 0, .int .u32 0, .int .u32 0, .int .u8 0, .slice none 0 0, .slice none 0 0, .slice none 0 0], .int .i64 5, .int .i64 nest] w (RestPost w a len cap (pI (D zs) zs p k nest op)) := by
  have hR : _ ∧ _ ∧ _ ∧ _ := part_f (pB zs p jZ) k (plain op) (fun _ => plain op)
  have hI : pI (D zs) zs p k nest op = (pB zs p jZ).on k (plain op) (fun a1 _ => ⟨0, a1, k, plain op⟩) := by unfold pI; rw [hf]; rfl
  rw [hI]
  generalize (pB zs p jZ).on k (plain op) (fun a1 _ => ⟨0, a1, k, plain op⟩) = R at *
  have HE : Hid (R.e = ((pB zs p jZ)).e) ∧ Hid (R.at_ = ((pB zs p jZ)).at_) ∧ Hid (R.k = k) ∧ Hid (((pB zs p jZ)).e = 0 → R.v = plain op) := hR
  clear hI hR hf
  have hq := fun (wx : World) (hb : Below w.heap.size w wx) => nought_any a len cap p k zs wx (hrow.below (Nat.le_refl _) hb) hl hc
  have HQ := hide hq
  clear hq
  generalize (pB zs p jZ) = P at *
  clear hrow
  have fx := fx_new w (.slice a len cap) (.int .i64 p) (.int .i64 k) (.int .i64 0) (.int .u8 op) (.int .i64 0) (.int .u32 0) (.int .u32 0) (.int .u8 0) (.slice none 0 0) (.slice none 0 0) (.slice none 0 0)
  obtain ⟨fx, hb⟩ := fx
  go_enter Tryd.func51, Tryd.ntmps51
  go_wp2_with fail
  generalize (((w.alloc (.cells #[.slice a len cap, .int .i64 p, .int .i64 k, .int .i64 0] 80)).alloc (.cells #[.int .u8 op, .int .i64 0, .int .u32 0, .int .u32 0, .int .u8 0, .slice none 0 0, .slice none 0 0, .slice none 0 0] 55)).alloc (.cells #[.slice none 0 0, .int .i64 0, .int .i64 0, .int .i64 0] 80)).alloc (.cells #[.int .u8 0, .int .i64 0, .int .u32 0, .int .u32 0, .int .u8 0, .slice none 0 0, .slice none 0 0, .slice none 0 0] 55) = w2 at *
  have FX := hide fx; have HB := hide hb
  clear fx hb
  generalize hN : w.heap.size = N at *
  have HN := hide hN; clear hN
  refine (unhide HQ _ (unhide HB)).mono ?_
  rintro e w3 ⟨rfl, hb3⟩
  have fx := (unhide FX).below hb3
  have hb := (unhide HB).trans (hb3.mono (by have := (unhide FX).lt; omega))
  clear FX HB
  have FX := hide fx; have HB := hide hb
  clear fx hb
  obtain ⟨p0, p1, p2, p3⟩ := (unhide FX).cr
  obtain ⟨q0, q1, q2, q3, q4, q5, q6, q7⟩ := (unhide FX).cx
  have y0 := (unhide FX).f0; have y1 := (unhide FX).f1
  have yl := (unhide FX).lt
  have fx := (unhide FX).put4 (.slice a len cap) (.int .i64 P.at_) (.int .i64 k) (.int .i64 P.e)
  have hb := Fx.bput (unhide HB) (Nat.le_refl _) (.slice a len cap) (.int .i64 P.at_) (.int .i64 k) (.int .i64 P.e)
  have hk := (Kb.refl N w3).put (.slice a len cap) (.int .i64 P.at_) (.int .i64 k) (.int .i64 P.e)
  have FX' := hide fx; have HB' := hide hb; have HK3 := hide hk
  clear fx hb hk
  go_wp2_with fail
  generalize (((w3.setCell ⟨N, 0, none⟩ (.slice a len cap)).setCell ⟨N, 1, none⟩ (.int .i64 P.at_)).setCell ⟨N, 2, none⟩ (.int .i64 k)).setCell ⟨N, 3, none⟩ (.int .i64 P.e) = w4 at *
  clear p0 p1 p2 p3 q0 q1 q2 q3 q4 q5 q6 q7 y0 y1 yl
  clear FX HB
  have FX := FX'; have HB := HB'
  clear FX' HB'
  obtain ⟨p0, p1, p2, p3⟩ := (unhide FX).cr
  obtain ⟨q0, q1, q2, q3, q4, q5, q6, q7⟩ := (unhide FX).cx
  obtain ⟨a0, a1, a2, a3⟩ := (unhide FX).ca
  obtain ⟨b0, b1, b2, b3, b4, b5, b6, b7⟩ := (unhide FX).cb
  have y0 := (unhide FX).f0; have y1 := (unhide FX).f1; have y2 := (unhide FX).f2; have y3 := (unhide FX).f3
  have yl := (unhide FX).lt
  go_region
  go_wp2
  refine bodyPost_ret (v := .tuple #[.agg #[.slice a len cap, .int .i64 P.at_, .int .i64 k, .int .i64 P.e], .agg #[.int .u8 op, .int .i64 0, .int .u32 0, .int .u32 0, .int .u8 0, .slice none 0 0, .slice none 0 0, .slice none 0 0]]) (by simp [results, Tryd.results51, go_sem, a0, a1, a2, a3, b0, b1, b2, b3, b4, b5, b6, b7]) rfl ?_
  refine ⟨k, ⟨op, 0, 0, 0, 0, [], [], []⟩, .slice none 0 0, .slice none 0 0, .slice none 0 0, ?_, ?_, ⟨⟨_, _, _, rfl⟩, ⟨_, _, _, rfl⟩, ⟨_, _, _, rfl⟩⟩, fun he => ?_⟩
  · rw [unhide HE.1, unhide HE.2.1]
  · rw [unhide HN]
    have h3 := unhide HB
    refine Below.drew ?_
    repeat' (with_reducible refine Below.setCell ?_ ?_ _)
    all_goals first | with_reducible assumption | (dsimp only; omega)
  · exact ⟨by rw [unhide HE.2.2.1], (unhide HE.2.2.2 (by rw [← unhide HE.1]; exact he)).symm, Code_nil _ _, Code_nil _ _, Labs_nil _ _⟩

set_option maxRecDepth 100000 in
set_option maxHeartbeats 3200000 in
theorem rest_8 (a : Option Addr) (len cap p k nest : Nat) (op : Int) (zs : List Int) (w : World) (hrow : Row w a len zs) (hl : len ≤ 3000) (hp : p ≤ len) (hc : len ≤ cap) (hf : fr op = 8) :
    Calls Tryd.prog 51 #[RV a len cap p k 0, .agg #[.int .u8 op, .int .i64 0, .int .u32 0, .int .u32 0, .int .u8 0, .slice none 0 0, .slice none 0 0, .slice none 0 0], .int .i64 8, .int .i64 nest] w (RestPost w a len cap (pI (D zs) zs p k nest op)) := by
  have hR := pT_ins zs p k op
  have hI : pI (D zs) zs p k nest op = (pU zs p 256).on k (plain op) fun a1 v => (pL zs (v.toNat + 1) a1 k).on (plain op) fun a2 k2 ls => ⟨0, a2, k2, { plain op with ls := ls }⟩ := by unfold pI; rw [hf]; rfl
  rw [hI]
  generalize ((pU zs p 256).on k (plain op) fun a1 v => (pL zs (v.toNat + 1) a1 k).on (plain op) fun a2 k2 ls => ⟨0, a2, k2, { plain op with ls := ls }⟩) = R at *
  have HE : Hid (R.e = (pT zs p k).e) ∧ Hid (R.at_ = (pT zs p k).at_) ∧ Hid (R.k = k) ∧ Hid ((pT zs p k).e = 0 → R.v = { plain op with ls := (pT zs p k).v }) := hR
  clear hI hR hf
  have hq := fun (wx : World) (hb : Below w.heap.size w wx) => labels_any a len cap p k zs wx (hrow.below (Nat.le_refl _) hb) hl hp hc
  have HQ := hide hq
  clear hq
  generalize pT zs p k = P at *
  clear hrow
  have fx := fx_new w (.slice a len cap) (.int .i64 p) (.int .i64 k) (.int .i64 0) (.int .u8 op) (.int .i64 0) (.int .u32 0) (.int .u32 0) (.int .u8 0) (.slice none 0 0) (.slice none 0 0) (.slice none 0 0)
  obtain ⟨fx, hb⟩ := fx
  go_enter Tryd.func51, Tryd.ntmps51
  go_wp2_with fail
  generalize (((w.alloc (.cells #[.slice a len cap, .int .i64 p, .int .i64 k, .int .i64 0] 80)).alloc (.cells #[.int .u8 op, .int .i64 0, .int .u32 0, .int .u32 0, .int .u8 0, .slice none 0 0, .slice none 0 0, .slice none 0 0] 55)).alloc (.cells #[.slice none 0 0, .int .i64 0, .int .i64 0, .int .i64 0] 80)).alloc (.cells #[.int .u8 0, .int .i64 0, .int .u32 0, .int .u32 0, .int .u8 0, .slice none 0 0, .slice none 0 0, .slice none 0 0] 55) = w2 at *
  have FX := hide fx; have HB := hide hb
  clear fx hb
  generalize hN : w.heap.size = N at *
  have HN := hide hN; clear hN
  refine (unhide HQ _ (unhide HB)).mono ?_
  have HZ2 := hide (unhide FX).lt
  rintro e w3 ⟨v, rfl, ⟨la, ll, lc, rfl⟩, hb3, hok⟩
  have fx := (unhide FX).below hb3
  have hb := (unhide HB).trans (hb3.mono (by have := (unhide FX).lt; omega))
  clear FX HB
  have FX := hide fx; have HB := hide hb
  clear fx hb
  have HOk := hide hok; clear hok hb3
  obtain ⟨p0, p1, p2, p3⟩ := (unhide FX).cr
  obtain ⟨q0, q1, q2, q3, q4, q5, q6, q7⟩ := (unhide FX).cx
  have y0 := (unhide FX).f0; have y1 := (unhide FX).f1
  have yl := (unhide FX).lt
  have fx := (unhide FX).put4 (.slice a len cap) (.int .i64 P.at_) (.int .i64 k) (.int .i64 P.e)
  have hb := Fx.bput (unhide HB) (Nat.le_refl _) (.slice a len cap) (.int .i64 P.at_) (.int .i64 k) (.int .i64 P.e)
  have hk := (Kb.refl N w3).put (.slice a len cap) (.int .i64 P.at_) (.int .i64 k) (.int .i64 P.e)
  have fx2 := fx.set7 (.slice la ll lc)
  have hb2 := Fx.bset hb (Nat.le_refl _) 7 (.slice la ll lc)
  have hk2 := hk.set (b := N + 1) (by omega) 7 (.slice la ll lc)
  have FX' := hide fx2; have HB' := hide hb2; have HK3 := hide hk2
  clear fx hb hk fx2 hb2 hk2
  go_wp2_with fail
  generalize ((((w3.setCell ⟨N, 0, none⟩ (.slice a len cap)).setCell ⟨N, 1, none⟩ (.int .i64 P.at_)).setCell ⟨N, 2, none⟩ (.int .i64 k)).setCell ⟨N, 3, none⟩ (.int .i64 P.e)).setCell ⟨N + 1, 7, none⟩ (.slice la ll lc) = w4 at *
  clear p0 p1 p2 p3 q0 q1 q2 q3 q4 q5 q6 q7 y0 y1 yl
  clear FX HB
  have FX := FX'; have HB := HB'
  clear FX' HB'
  obtain ⟨p0, p1, p2, p3⟩ := (unhide FX).cr
  obtain ⟨q0, q1, q2, q3, q4, q5, q6, q7⟩ := (unhide FX).cx
  obtain ⟨a0, a1, a2, a3⟩ := (unhide FX).ca
  obtain ⟨b0, b1, b2, b3, b4, b5, b6, b7⟩ := (unhide FX).cb
  have y0 := (unhide FX).f0; have y1 := (unhide FX).f1; have y2 := (unhide FX).f2; have y3 := (unhide FX).f3
  have yl := (unhide FX).lt
  go_region
  go_wp2
  refine bodyPost_ret (v := .tuple #[.agg #[.slice a len cap, .int .i64 P.at_, .int .i64 k, .int .i64 P.e], .agg #[.int .u8 op, .int .i64 0, .int .u32 0, .int .u32 0, .int .u8 0, .slice none 0 0, .slice none 0 0, .slice la ll lc]]) (by simp [results, Tryd.results51, go_sem, a0, a1, a2, a3, b0, b1, b2, b3, b4, b5, b6, b7]) rfl ?_
  refine ⟨k, ⟨op, 0, 0, 0, 0, [], [], P.v⟩, .slice none 0 0, .slice none 0 0, .slice la ll lc, ?_, ?_, ⟨⟨_, _, _, rfl⟩, ⟨_, _, _, rfl⟩, ⟨_, _, _, rfl⟩⟩, fun he => ?_⟩
  · rw [unhide HE.1, unhide HE.2.1]
  · rw [unhide HN]
    have h3 := unhide HB
    refine Below.drew ?_
    repeat' (with_reducible refine Below.setCell ?_ ?_ _)
    all_goals first | with_reducible assumption | (dsimp only; omega)
  · have hv := unhide HE.2.2.2 (by rw [← unhide HE.1]; exact he)
    have hl := unhide HOk (by rw [← unhide HE.1]; exact he)
    refine ⟨by rw [unhide HE.2.2.1], hv.symm, Code_nil _ _, Code_nil _ _, ?_⟩
    refine Labs.move (fun q hq _ hg => ⟨by have := unhide HZ2; have : w2.heap.size ≤ q := hg; have := unhide HN; show w.heap.size ≤ q; omega, ?_⟩) hl
    have hg' : w2.heap.size ≤ q := hg
    have := unhide HZ2
    refine Eq.trans (?_ : _ = w4.heap[q]?) (unhide HK3 q (by omega))
    refine (show Kb N w4 _ from ?_) q (by omega)
    refine Kb.drew ?_
    repeat' (with_reducible refine Kb.set ?_ ?_ _ _)
    all_goals first | exact Kb.refl _ _ | omega

set_option maxRecDepth 100000 in
set_option maxHeartbeats 3200000 in
theorem rest_3 (a : Option Addr) (len cap p k nest : Nat) (op : Int) (zs : List Int) (w : World) (hrow : Row w a len zs) (hl : len ≤ 3000) (hp : p ≤ len) (hc : len ≤ cap) (hf : fr op = 3) :
    Calls Tryd.prog 51 #[RV a len cap p k 0, .agg #[.int .u8 op, .int .i64 0, .int .u32 0, .int .u32 0, .int .u8 0, .slice none 0 0, .slice none 0 0, .slice none 0 0], .int .i64 3, .int .i64 nest] w (RestPost w a len cap (pI (D zs) zs p k nest op)) := by
  have hR : _ ∧ _ ∧ _ ∧ _ := part_f (pU zs p 4294967295) k (plain op) (fun v => { plain op with n := v })
  have hI : pI (D zs) zs p k nest op = (pU zs p 4294967295).on k (plain op) (fun a1 v => ⟨0, a1, k, { plain op with n := v }⟩) := by unfold pI; rw [hf]; rfl
  rw [hI]
  generalize (pU zs p 4294967295).on k (plain op) (fun a1 v => ⟨0, a1, k, { plain op with n := v }⟩) = R at *
  have HE : Hid (R.e = ((pU zs p 4294967295)).e) ∧ Hid (R.at_ = ((pU zs p 4294967295)).at_) ∧ Hid (R.k = k) ∧ Hid (((pU zs p 4294967295)).e = 0 → R.v = { plain op with n := (pU zs p 4294967295).v }) := hR
  clear hI hR hf
  have hpv := pU_v hrow.2.1 p 4294967295
  obtain ⟨pv0, pv1⟩ := hpv
  have hq := fun (wx : World) (hb : Below w.heap.size w wx) => number_ok a len cap p k zs wx (hrow.below (Nat.le_refl _) hb) hl hp hc
  have HQ := hide hq
  clear hq
  generalize (pU zs p 4294967295) = P at *
  clear hrow
  have fx := fx_new w (.slice a len cap) (.int .i64 p) (.int .i64 k) (.int .i64 0) (.int .u8 op) (.int .i64 0) (.int .u32 0) (.int .u32 0) (.int .u8 0) (.slice none 0 0) (.slice none 0 0) (.slice none 0 0)
  obtain ⟨fx, hb⟩ := fx
  go_enter Tryd.func51, Tryd.ntmps51
  go_wp2_with fail
  generalize (((w.alloc (.cells #[.slice a len cap, .int .i64 p, .int .i64 k, .int .i64 0] 80)).alloc (.cells #[.int .u8 op, .int .i64 0, .int .u32 0, .int .u32 0, .int .u8 0, .slice none 0 0, .slice none 0 0, .slice none 0 0] 55)).alloc (.cells #[.slice none 0 0, .int .i64 0, .int .i64 0, .int .i64 0] 80)).alloc (.cells #[.int .u8 0, .int .i64 0, .int .u32 0, .int .u32 0, .int .u8 0, .slice none 0 0, .slice none 0 0, .slice none 0 0] 55) = w2 at *
  have FX := hide fx; have HB := hide hb
  clear fx hb
  generalize hN : w.heap.size = N at *
  have HN := hide hN; clear hN
  refine (unhide HQ _ (unhide HB)).mono ?_
  rintro e w3 ⟨rfl, hb3⟩
  have fx := (unhide FX).below hb3
  have hb := (unhide HB).trans (hb3.mono (by have := (unhide FX).lt; omega))
  clear FX HB
  have FX := hide fx; have HB := hide hb
  clear fx hb
  clear hb3
  have HAl := hide (one_alloc w3 (.cells #[.slice a len cap, .int .i64 P.at_, .int .i64 k, .int .i64 P.e] 80))
  have yl := (unhide FX).lt
  go_upto_region 9 with fail
  have e0 : (w3.alloc (.cells #[.slice a len cap, .int .i64 P.at_, .int .i64 k, .int .i64 P.e] 80)).cell? ⟨w3.heap.size, 0, none⟩ = some (.slice a len cap) := by simp
  have e1 : (w3.alloc (.cells #[.slice a len cap, .int .i64 P.at_, .int .i64 k, .int .i64 P.e] 80)).cell? ⟨w3.heap.size, 1, none⟩ = some (.int .i64 P.at_) := by simp
  have e2 : (w3.alloc (.cells #[.slice a len cap, .int .i64 P.at_, .int .i64 k, .int .i64 P.e] 80)).cell? ⟨w3.heap.size, 2, none⟩ = some (.int .i64 k) := by simp
  have e3 : (w3.alloc (.cells #[.slice a len cap, .int .i64 P.at_, .int .i64 k, .int .i64 P.e] 80)).cell? ⟨w3.heap.size, 3, none⟩ = some (.int .i64 P.e) := by simp
  generalize w3.alloc (.cells #[.slice a len cap, .int .i64 P.at_, .int .i64 k, .int .i64 P.e] 80) = w4 at *
  have fx := (unhide FX).below (unhide HAl)
  have hb := (unhide HB).trans ((unhide HAl).mono (by omega))
  clear FX HB yl
  have FX := hide fx; have HB := hide hb
  clear fx hb HAl
  generalize w3.heap.size = M at *
  obtain ⟨p0, p1, p2, p3⟩ := (unhide FX).cr
  obtain ⟨q0, q1, q2, q3, q4, q5, q6, q7⟩ := (unhide FX).cx
  have y0 := (unhide FX).f0; have y1 := (unhide FX).f1
  have yl := (unhide FX).lt
  have fx := (unhide FX).put4 (.slice a len cap) (.int .i64 P.at_) (.int .i64 k) (.int .i64 P.e)
  have hb := Fx.bput (unhide HB) (Nat.le_refl _) (.slice a len cap) (.int .i64 P.at_) (.int .i64 k) (.int .i64 P.e)
  have hk := (Kb.refl N w4).put (.slice a len cap) (.int .i64 P.at_) (.int .i64 k) (.int .i64 P.e)
  have fx2 := fx.set1 (.int .i64 P.v)
  have hb2 := Fx.bset hb (Nat.le_refl _) 1 (.int .i64 P.v)
  have hk2 := hk.set (b := N + 1) (by omega) 1 (.int .i64 P.v)
  have FX' := hide fx2; have HB' := hide hb2; have HK4 := hide hk2
  clear fx hb hk fx2 hb2 hk2
  go_wp2_with fail
  generalize ((((w4.setCell ⟨N, 0, none⟩ (.slice a len cap)).setCell ⟨N, 1, none⟩ (.int .i64 P.at_)).setCell ⟨N, 2, none⟩ (.int .i64 k)).setCell ⟨N, 3, none⟩ (.int .i64 P.e)).setCell ⟨N + 1, 1, none⟩ (.int .i64 P.v) = w5 at *
  clear p0 p1 p2 p3 q0 q1 q2 q3 q4 q5 q6 q7 y0 y1 yl
  clear FX HB
  have FX := FX'; have HB := HB'
  clear FX' HB'
  clear e0 e1 e2 e3
  obtain ⟨p0, p1, p2, p3⟩ := (unhide FX).cr
  obtain ⟨q0, q1, q2, q3, q4, q5, q6, q7⟩ := (unhide FX).cx
  obtain ⟨a0, a1, a2, a3⟩ := (unhide FX).ca
  obtain ⟨b0, b1, b2, b3, b4, b5, b6, b7⟩ := (unhide FX).cb
  have y0 := (unhide FX).f0; have y1 := (unhide FX).f1; have y2 := (unhide FX).f2; have y3 := (unhide FX).f3
  have yl := (unhide FX).lt
  go_region
  go_wp2
  refine bodyPost_ret (v := .tuple #[.agg #[.slice a len cap, .int .i64 P.at_, .int .i64 k, .int .i64 P.e], .agg #[.int .u8 op, .int .i64 P.v, .int .u32 0, .int .u32 0, .int .u8 0, .slice none 0 0, .slice none 0 0, .slice none 0 0]]) (by simp [results, Tryd.results51, go_sem, a0, a1, a2, a3, b0, b1, b2, b3, b4, b5, b6, b7]) rfl ?_
  refine ⟨k, ⟨op, P.v, 0, 0, 0, [], [], []⟩, .slice none 0 0, .slice none 0 0, .slice none 0 0, ?_, ?_, ⟨⟨_, _, _, rfl⟩, ⟨_, _, _, rfl⟩, ⟨_, _, _, rfl⟩⟩, fun he => ?_⟩
  · rw [unhide HE.1, unhide HE.2.1]
  · rw [unhide HN]
    have h3 := unhide HB
    refine Below.drew ?_
    repeat' (with_reducible refine Below.setCell ?_ ?_ _)
    all_goals first | with_reducible assumption | (dsimp only; omega)
  · exact ⟨by rw [unhide HE.2.2.1], (unhide HE.2.2.2 (by rw [← unhide HE.1]; exact he)).symm, Code_nil _ _, Code_nil _ _, Labs_nil _ _⟩

set_option maxRecDepth 100000 in
set_option maxHeartbeats 3200000 in
theorem rest_4_ok (a : Option Addr) (len cap p k nest : Nat) (op : Int) (zs : List Int) (w : World) (hrow : Row w a len zs) (hl : len ≤ 3000) (hp : p ≤ len) (hc : len ≤ cap) (hf : fr op = 4) (hP : (pU zs p 4294967295).e = 0) :
    Calls Tryd.prog 51 #[RV a len cap p k 0, .agg #[.int .u8 op, .int .i64 0, .int .u32 0, .int .u32 0, .int .u8 0, .slice none 0 0, .slice none 0 0, .slice none 0 0], .int .i64 4, .int .i64 nest] w (RestPost w a len cap (pI (D zs) zs p k nest op)) := by
  have hR := part_f (pU zs (pU zs p 4294967295).at_ 4294967295) k (plain op) (fun u => { plain op with al := (pU zs p 4294967295).v, of := u })
  have hI : pI (D zs) zs p k nest op = (pU zs (pU zs p 4294967295).at_ 4294967295).on k (plain op) (fun a2 u => ⟨0, a2, k, { plain op with al := (pU zs p 4294967295).v, of := u }⟩) := by unfold pI; rw [hf, if_neg (by decide), if_neg (by decide), if_neg (by decide), if_pos rfl, Part.on_ok hP]
  rw [hI]
  generalize (pU zs (pU zs p 4294967295).at_ 4294967295).on k (plain op) (fun a2 u => ⟨0, a2, k, { plain op with al := (pU zs p 4294967295).v, of := u }⟩) = R at *
  have HE : Hid (R.e = (pU zs (pU zs p 4294967295).at_ 4294967295).e) ∧ Hid (R.at_ = (pU zs (pU zs p 4294967295).at_ 4294967295).at_) ∧ Hid (R.k = k) ∧ Hid ((pU zs (pU zs p 4294967295).at_ 4294967295).e = 0 → R.v = { plain op with al := (pU zs p 4294967295).v, of := (pU zs (pU zs p 4294967295).at_ 4294967295).v }) := hR
  clear hI hR hf
  have hat := pU_bd zs p 4294967295 (by rw [hrow.1]; exact hp)
  rw [hrow.1] at hat
  have hat2 : (pU zs p 4294967295).at_ ≤ len := hat.2.1
  clear hat
  have hq := fun (wx : World) (hb : Below w.heap.size w wx) => number_ok a len cap p k zs wx (hrow.below (Nat.le_refl _) hb) hl hp hc
  have HQ := hide hq
  clear hq
  have hq2 := fun (wx : World) (hb : Below w.heap.size w wx) => number_ok a len cap (pU zs p 4294967295).at_ k zs wx (hrow.below (Nat.le_refl _) hb) hl hat2 hc
  have HQ2 := hide hq2
  clear hq2
  rw [hP] at HQ
  generalize (pU zs (pU zs p 4294967295).at_ 4294967295) = S at *
  generalize (pU zs p 4294967295) = P at *
  clear hrow hP hat2
  have fx := fx_new w (.slice a len cap) (.int .i64 p) (.int .i64 k) (.int .i64 0) (.int .u8 op) (.int .i64 0) (.int .u32 0) (.int .u32 0) (.int .u8 0) (.slice none 0 0) (.slice none 0 0) (.slice none 0 0)
  obtain ⟨fx, hb⟩ := fx
  go_enter Tryd.func51, Tryd.ntmps51
  go_wp2_with fail
  generalize (((w.alloc (.cells #[.slice a len cap, .int .i64 p, .int .i64 k, .int .i64 0] 80)).alloc (.cells #[.int .u8 op, .int .i64 0, .int .u32 0, .int .u32 0, .int .u8 0, .slice none 0 0, .slice none 0 0, .slice none 0 0] 55)).alloc (.cells #[.slice none 0 0, .int .i64 0, .int .i64 0, .int .i64 0] 80)).alloc (.cells #[.int .u8 0, .int .i64 0, .int .u32 0, .int .u32 0, .int .u8 0, .slice none 0 0, .slice none 0 0, .slice none 0 0] 55) = w2 at *
  have FX := hide fx; have HB := hide hb
  clear fx hb
  generalize hN : w.heap.size = N at *
  have HN := hide hN; clear hN
  refine (unhide HQ _ (unhide HB)).mono ?_
  rintro e w3 ⟨rfl, hb3⟩
  have fx := (unhide FX).below hb3
  have hb := (unhide HB).trans (hb3.mono (by have := (unhide FX).lt; omega))
  clear FX HB
  have FX := hide fx; have HB := hide hb
  clear fx hb
  clear hb3
  obtain ⟨p0, p1, p2, p3⟩ := (unhide FX).cr
  obtain ⟨q0, q1, q2, q3, q4, q5, q6, q7⟩ := (unhide FX).cx
  have y0 := (unhide FX).f0; have y1 := (unhide FX).f1
  have yl := (unhide FX).lt
  have fx := (unhide FX).put4 (.slice a len cap) (.int .i64 P.at_) (.int .i64 k) (.int .i64 0)
  have hb := Fx.bput (unhide HB) (Nat.le_refl _) (.slice a len cap) (.int .i64 P.at_) (.int .i64 k) (.int .i64 0)
  have hk := (Kb.refl N w3).put (.slice a len cap) (.int .i64 P.at_) (.int .i64 k) (.int .i64 0)
  have fx2 := fx.set2 (.int .u32 P.v)
  have hb2 := Fx.bset hb (Nat.le_refl _) 2 (.int .u32 P.v)
  have hk2 := hk.set (b := N + 1) (by omega) 2 (.int .u32 P.v)
  have FX' := hide fx2; have HB' := hide hb2; have HK3 := hide hk2
  clear fx hb hk fx2 hb2 hk2
  go_wp2_with fail
  generalize ((((w3.setCell ⟨N, 0, none⟩ (.slice a len cap)).setCell ⟨N, 1, none⟩ (.int .i64 P.at_)).setCell ⟨N, 2, none⟩ (.int .i64 k)).setCell ⟨N, 3, none⟩ (.int .i64 0)).setCell ⟨N + 1, 2, none⟩ (.int .u32 P.v) = w4 at *
  clear p0 p1 p2 p3 q0 q1 q2 q3 q4 q5 q6 q7 y0 y1 yl
  clear FX HB
  have FX := FX'; have HB := HB'
  clear FX' HB'
  refine (unhide HQ2 _ (unhide HB)).mono ?_
  rintro e w5 ⟨rfl, hb5⟩
  have fx := (unhide FX).below hb5
  have hb := (unhide HB).trans (hb5.mono (by have := (unhide FX).lt; omega))
  clear FX HB
  have FX := hide fx; have HB := hide hb
  clear fx hb
  clear hb5
  obtain ⟨p0, p1, p2, p3⟩ := (unhide FX).cr
  obtain ⟨q0, q1, q2, q3, q4, q5, q6, q7⟩ := (unhide FX).cx
  have y0 := (unhide FX).f0; have y1 := (unhide FX).f1
  have yl := (unhide FX).lt
  have fx := (unhide FX).put4 (.slice a len cap) (.int .i64 S.at_) (.int .i64 k) (.int .i64 S.e)
  have hb := Fx.bput (unhide HB) (Nat.le_refl _) (.slice a len cap) (.int .i64 S.at_) (.int .i64 k) (.int .i64 S.e)
  have hk := (Kb.refl N w5).put (.slice a len cap) (.int .i64 S.at_) (.int .i64 k) (.int .i64 S.e)
  have fx2 := fx.set3 (.int .u32 S.v)
  have hb2 := Fx.bset hb (Nat.le_refl _) 3 (.int .u32 S.v)
  have hk2 := hk.set (b := N + 1) (by omega) 3 (.int .u32 S.v)
  have FX' := hide fx2; have HB' := hide hb2; have HK5 := hide hk2
  clear fx hb hk fx2 hb2 hk2
  go_wp2_with fail
  generalize ((((w5.setCell ⟨N, 0, none⟩ (.slice a len cap)).setCell ⟨N, 1, none⟩ (.int .i64 S.at_)).setCell ⟨N, 2, none⟩ (.int .i64 k)).setCell ⟨N, 3, none⟩ (.int .i64 S.e)).setCell ⟨N + 1, 3, none⟩ (.int .u32 S.v) = w6 at *
  clear p0 p1 p2 p3 q0 q1 q2 q3 q4 q5 q6 q7 y0 y1 yl
  clear FX HB
  have FX := FX'; have HB := HB'
  clear FX' HB'
  obtain ⟨p0, p1, p2, p3⟩ := (unhide FX).cr
  obtain ⟨q0, q1, q2, q3, q4, q5, q6, q7⟩ := (unhide FX).cx
  obtain ⟨a0, a1, a2, a3⟩ := (unhide FX).ca
  obtain ⟨b0, b1, b2, b3, b4, b5, b6, b7⟩ := (unhide FX).cb
  have y0 := (unhide FX).f0; have y1 := (unhide FX).f1; have y2 := (unhide FX).f2; have y3 := (unhide FX).f3
  have yl := (unhide FX).lt
  go_region
  go_wp2
  refine bodyPost_ret (v := .tuple #[.agg #[.slice a len cap, .int .i64 S.at_, .int .i64 k, .int .i64 S.e], .agg #[.int .u8 op, .int .i64 0, .int .u32 P.v, .int .u32 S.v, .int .u8 0, .slice none 0 0, .slice none 0 0, .slice none 0 0]]) (by simp [results, Tryd.results51, go_sem, a0, a1, a2, a3, b0, b1, b2, b3, b4, b5, b6, b7]) rfl ?_
  refine ⟨k, ⟨op, 0, P.v, S.v, 0, [], [], []⟩, .slice none 0 0, .slice none 0 0, .slice none 0 0, ?_, ?_, ⟨⟨_, _, _, rfl⟩, ⟨_, _, _, rfl⟩, ⟨_, _, _, rfl⟩⟩, fun he => ?_⟩
  · rw [unhide HE.1, unhide HE.2.1]
  · rw [unhide HN]
    have h3 := unhide HB
    refine Below.drew ?_
    repeat' (with_reducible refine Below.setCell ?_ ?_ _)
    all_goals first | with_reducible assumption | (dsimp only; omega)
  · exact ⟨by rw [unhide HE.2.2.1], (unhide HE.2.2.2 (by rw [← unhide HE.1]; exact he)).symm, Code_nil _ _, Code_nil _ _, Labs_nil _ _⟩

set_option maxRecDepth 100000 in
set_option maxHeartbeats 3200000 in
theorem rest_4_no (a : Option Addr) (len cap p k nest : Nat) (op : Int) (zs : List Int) (w : World) (hrow : Row w a len zs) (hl : len ≤ 3000) (hp : p ≤ len) (hc : len ≤ cap) (hf : fr op = 4) (hP : ¬ (pU zs p 4294967295).e = 0) :
    Calls Tryd.prog 51 #[RV a len cap p k 0, .agg #[.int .u8 op, .int .i64 0, .int .u32 0, .int .u32 0, .int .u8 0, .slice none 0 0, .slice none 0 0, .slice none 0 0], .int .i64 4, .int .i64 nest] w (RestPost w a len cap (pI (D zs) zs p k nest op)) := by
  obtain ⟨R, hR, hRe⟩ : ∃ R, pI (D zs) zs p k nest op = R ∧ R.e = (pU zs p 4294967295).e ∧ R.at_ = (pU zs p 4294967295).at_ ∧ R.k = k ∧ True := ⟨⟨(pU zs p 4294967295).e, (pU zs p 4294967295).at_, k, plain op⟩, by unfold pI; rw [hf, if_neg (by decide), if_neg (by decide), if_neg (by decide), if_pos rfl, Part.on_no hP], rfl, rfl, rfl, trivial⟩
  rw [hR]
  have HE : Hid (R.e = (pU zs p 4294967295).e) ∧ Hid (R.at_ = (pU zs p 4294967295).at_) ∧ Hid (R.k = k) ∧ Hid True := hRe
  clear hRe hR hf
  have hq := fun (wx : World) (hb : Below w.heap.size w wx) => number_ok a len cap p k zs wx (hrow.below (Nat.le_refl _) hb) hl hp hc
  have HQ := hide hq
  clear hq
  have hq2 := fun wx => number_err a len cap (pU zs p 4294967295).at_ k (pU zs p 4294967295).e hP wx
  have HQ2 := hide hq2
  clear hq2
  have HP := hide hP; clear hP
  generalize (pU zs p 4294967295) = P at *
  clear hrow
  have fx := fx_new w (.slice a len cap) (.int .i64 p) (.int .i64 k) (.int .i64 0) (.int .u8 op) (.int .i64 0) (.int .u32 0) (.int .u32 0) (.int .u8 0) (.slice none 0 0) (.slice none 0 0) (.slice none 0 0)
  obtain ⟨fx, hb⟩ := fx
  go_enter Tryd.func51, Tryd.ntmps51
  go_wp2_with fail
  generalize (((w.alloc (.cells #[.slice a len cap, .int .i64 p, .int .i64 k, .int .i64 0] 80)).alloc (.cells #[.int .u8 op, .int .i64 0, .int .u32 0, .int .u32 0, .int .u8 0, .slice none 0 0, .slice none 0 0, .slice none 0 0] 55)).alloc (.cells #[.slice none 0 0, .int .i64 0, .int .i64 0, .int .i64 0] 80)).alloc (.cells #[.int .u8 0, .int .i64 0, .int .u32 0, .int .u32 0, .int .u8 0, .slice none 0 0, .slice none 0 0, .slice none 0 0] 55) = w2 at *
  have FX := hide fx; have HB := hide hb
  clear fx hb
  generalize hN : w.heap.size = N at *
  have HN := hide hN; clear hN
  refine (unhide HQ _ (unhide HB)).mono ?_
  rintro e w3 ⟨rfl, hb3⟩
  have fx := (unhide FX).below hb3
  have hb := (unhide HB).trans (hb3.mono (by have := (unhide FX).lt; omega))
  clear FX HB
  have FX := hide fx; have HB := hide hb
  clear fx hb
  clear hb3
  obtain ⟨p0, p1, p2, p3⟩ := (unhide FX).cr
  obtain ⟨q0, q1, q2, q3, q4, q5, q6, q7⟩ := (unhide FX).cx
  have y0 := (unhide FX).f0; have y1 := (unhide FX).f1
  have yl := (unhide FX).lt
  have fx := (unhide FX).put4 (.slice a len cap) (.int .i64 P.at_) (.int .i64 k) (.int .i64 P.e)
  have hb := Fx.bput (unhide HB) (Nat.le_refl _) (.slice a len cap) (.int .i64 P.at_) (.int .i64 k) (.int .i64 P.e)
  have hk := (Kb.refl N w3).put (.slice a len cap) (.int .i64 P.at_) (.int .i64 k) (.int .i64 P.e)
  have fx2 := fx.set2 (.int .u32 P.v)
  have hb2 := Fx.bset hb (Nat.le_refl _) 2 (.int .u32 P.v)
  have hk2 := hk.set (b := N + 1) (by omega) 2 (.int .u32 P.v)
  have FX' := hide fx2; have HB' := hide hb2; have HK3 := hide hk2
  clear fx hb hk fx2 hb2 hk2
  go_wp2_with fail
  generalize ((((w3.setCell ⟨N, 0, none⟩ (.slice a len cap)).setCell ⟨N, 1, none⟩ (.int .i64 P.at_)).setCell ⟨N, 2, none⟩ (.int .i64 k)).setCell ⟨N, 3, none⟩ (.int .i64 P.e)).setCell ⟨N + 1, 2, none⟩ (.int .u32 P.v) = w4 at *
  clear p0 p1 p2 p3 q0 q1 q2 q3 q4 q5 q6 q7 y0 y1 yl
  clear FX HB
  have FX := FX'; have HB := HB'
  clear FX' HB'
  refine (unhide HQ2 _).mono ?_
  rintro e w5 ⟨rfl, hb5⟩
  have fx := (unhide FX).below hb5
  have hb := (unhide HB).trans (hb5.mono (by have := (unhide FX).lt; omega))
  clear FX HB
  have FX := hide fx; have HB := hide hb
  clear fx hb
  clear hb5
  obtain ⟨p0, p1, p2, p3⟩ := (unhide FX).cr
  obtain ⟨q0, q1, q2, q3, q4, q5, q6, q7⟩ := (unhide FX).cx
  have y0 := (unhide FX).f0; have y1 := (unhide FX).f1
  have yl := (unhide FX).lt
  have fx := (unhide FX).put4 (.slice a len cap) (.int .i64 P.at_) (.int .i64 k) (.int .i64 P.e)
  have hb := Fx.bput (unhide HB) (Nat.le_refl _) (.slice a len cap) (.int .i64 P.at_) (.int .i64 k) (.int .i64 P.e)
  have hk := (Kb.refl N w5).put (.slice a len cap) (.int .i64 P.at_) (.int .i64 k) (.int .i64 P.e)
  have fx2 := fx.set3 (.int .u32 0)
  have hb2 := Fx.bset hb (Nat.le_refl _) 3 (.int .u32 0)
  have hk2 := hk.set (b := N + 1) (by omega) 3 (.int .u32 0)
  have FX' := hide fx2; have HB' := hide hb2; have HK5 := hide hk2
  clear fx hb hk fx2 hb2 hk2
  go_wp2_with fail
  generalize ((((w5.setCell ⟨N, 0, none⟩ (.slice a len cap)).setCell ⟨N, 1, none⟩ (.int .i64 P.at_)).setCell ⟨N, 2, none⟩ (.int .i64 k)).setCell ⟨N, 3, none⟩ (.int .i64 P.e)).setCell ⟨N + 1, 3, none⟩ (.int .u32 0) = w6 at *
  clear p0 p1 p2 p3 q0 q1 q2 q3 q4 q5 q6 q7 y0 y1 yl
  clear FX HB
  have FX := FX'; have HB := HB'
  clear FX' HB'
  obtain ⟨p0, p1, p2, p3⟩ := (unhide FX).cr
  obtain ⟨q0, q1, q2, q3, q4, q5, q6, q7⟩ := (unhide FX).cx
  obtain ⟨a0, a1, a2, a3⟩ := (unhide FX).ca
  obtain ⟨b0, b1, b2, b3, b4, b5, b6, b7⟩ := (unhide FX).cb
  have y0 := (unhide FX).f0; have y1 := (unhide FX).f1; have y2 := (unhide FX).f2; have y3 := (unhide FX).f3
  have yl := (unhide FX).lt
  go_region
  go_wp2
  refine bodyPost_ret (v := .tuple #[.agg #[.slice a len cap, .int .i64 P.at_, .int .i64 k, .int .i64 P.e], .agg #[.int .u8 op, .int .i64 0, .int .u32 P.v, .int .u32 0, .int .u8 0, .slice none 0 0, .slice none 0 0, .slice none 0 0]]) (by simp [results, Tryd.results51, go_sem, a0, a1, a2, a3, b0, b1, b2, b3, b4, b5, b6, b7]) rfl ?_
  refine ⟨k, ⟨op, 0, P.v, 0, 0, [], [], []⟩, .slice none 0 0, .slice none 0 0, .slice none 0 0, ?_, ?_, ⟨⟨_, _, _, rfl⟩, ⟨_, _, _, rfl⟩, ⟨_, _, _, rfl⟩⟩, fun he => ?_⟩
  · rw [unhide HE.1, unhide HE.2.1]
  · rw [unhide HN]
    have h3 := unhide HB
    refine Below.drew ?_
    repeat' (with_reducible refine Below.setCell ?_ ?_ _)
    all_goals first | with_reducible assumption | (dsimp only; omega)
  · exact absurd (by rw [← unhide HE.1]; exact he) (unhide HP)

set_option maxRecDepth 100000 in
set_option maxHeartbeats 3200000 in
theorem rest_9_ok (a : Option Addr) (len cap p k nest : Nat) (op : Int) (zs : List Int) (w : World) (hrow : Row w a len zs) (hl : len ≤ 3000) (hp : p ≤ len) (hc : len ≤ cap) (hf : fr op = 9) (hP : (pU zs p 4294967295).e = 0) :
    Calls Tryd.prog 51 #[RV a len cap p k 0, .agg #[.int .u8 op, .int .i64 0, .int .u32 0, .int .u32 0, .int .u8 0, .slice none 0 0, .slice none 0 0, .slice none 0 0], .int .i64 9, .int .i64 nest] w (RestPost w a len cap (pI (D zs) zs p k nest op)) := by
  have hR := part_f (pB zs (pU zs p 4294967295).at_ jZ) k (plain op) (fun _ => { plain op with n := (pU zs p 4294967295).v })
  have hI : pI (D zs) zs p k nest op = (pB zs (pU zs p 4294967295).at_ jZ).on k (plain op) (fun a2 _ => ⟨0, a2, k, { plain op with n := (pU zs p 4294967295).v }⟩) := by unfold pI; rw [hf, if_neg (by decide), if_neg (by decide), if_neg (by decide), if_neg (by decide), if_neg (by decide), if_neg (by decide), if_pos rfl, Part.on_ok hP]
  rw [hI]
  generalize (pB zs (pU zs p 4294967295).at_ jZ).on k (plain op) (fun a2 _ => ⟨0, a2, k, { plain op with n := (pU zs p 4294967295).v }⟩) = R at *
  have HE : Hid (R.e = (pB zs (pU zs p 4294967295).at_ jZ).e) ∧ Hid (R.at_ = (pB zs (pU zs p 4294967295).at_ jZ).at_) ∧ Hid (R.k = k) ∧ Hid ((pB zs (pU zs p 4294967295).at_ jZ).e = 0 → R.v = { plain op with n := (pU zs p 4294967295).v }) := hR
  clear hI hR hf
  have hpv := pU_v hrow.2.1 p 4294967295
  obtain ⟨pv0, pv1⟩ := hpv
  have hq := fun (wx : World) (hb : Below w.heap.size w wx) => number_ok a len cap p k zs wx (hrow.below (Nat.le_refl _) hb) hl hp hc
  have HQ := hide hq
  clear hq
  have hq2 := fun (wx : World) (hb : Below w.heap.size w wx) => nought_any a len cap (pU zs p 4294967295).at_ k zs wx (hrow.below (Nat.le_refl _) hb) hl hc
  have HQ2 := hide hq2
  clear hq2
  rw [hP] at HQ
  generalize (pB zs (pU zs p 4294967295).at_ jZ) = S at *
  generalize hPU : (pU zs p 4294967295) = P at *
  clear hrow hP hPU
  have fx := fx_new w (.slice a len cap) (.int .i64 p) (.int .i64 k) (.int .i64 0) (.int .u8 op) (.int .i64 0) (.int .u32 0) (.int .u32 0) (.int .u8 0) (.slice none 0 0) (.slice none 0 0) (.slice none 0 0)
  obtain ⟨fx, hb⟩ := fx
  go_enter Tryd.func51, Tryd.ntmps51
  go_wp2_with fail
  generalize (((w.alloc (.cells #[.slice a len cap, .int .i64 p, .int .i64 k, .int .i64 0] 80)).alloc (.cells #[.int .u8 op, .int .i64 0, .int .u32 0, .int .u32 0, .int .u8 0, .slice none 0 0, .slice none 0 0, .slice none 0 0] 55)).alloc (.cells #[.slice none 0 0, .int .i64 0, .int .i64 0, .int .i64 0] 80)).alloc (.cells #[.int .u8 0, .int .i64 0, .int .u32 0, .int .u32 0, .int .u8 0, .slice none 0 0, .slice none 0 0, .slice none 0 0] 55) = w2 at *
  have FX := hide fx; have HB := hide hb
  clear fx hb
  generalize hN : w.heap.size = N at *
  have HN := hide hN; clear hN
  refine (unhide HQ _ (unhide HB)).mono ?_
  rintro e w3 ⟨rfl, hb3⟩
  have fx := (unhide FX).below hb3
  have hb := (unhide HB).trans (hb3.mono (by have := (unhide FX).lt; omega))
  clear FX HB
  have FX := hide fx; have HB := hide hb
  clear fx hb
  clear hb3
  have HAl := hide (one_alloc w3 (.cells #[.slice a len cap, .int .i64 P.at_, .int .i64 k, .int .i64 0] 80))
  have yl := (unhide FX).lt
  go_upto_region 9 with fail
  have e0 : (w3.alloc (.cells #[.slice a len cap, .int .i64 P.at_, .int .i64 k, .int .i64 0] 80)).cell? ⟨w3.heap.size, 0, none⟩ = some (.slice a len cap) := by simp
  have e1 : (w3.alloc (.cells #[.slice a len cap, .int .i64 P.at_, .int .i64 k, .int .i64 0] 80)).cell? ⟨w3.heap.size, 1, none⟩ = some (.int .i64 P.at_) := by simp
  have e2 : (w3.alloc (.cells #[.slice a len cap, .int .i64 P.at_, .int .i64 k, .int .i64 0] 80)).cell? ⟨w3.heap.size, 2, none⟩ = some (.int .i64 k) := by simp
  have e3 : (w3.alloc (.cells #[.slice a len cap, .int .i64 P.at_, .int .i64 k, .int .i64 0] 80)).cell? ⟨w3.heap.size, 3, none⟩ = some (.int .i64 0) := by simp
  generalize w3.alloc (.cells #[.slice a len cap, .int .i64 P.at_, .int .i64 k, .int .i64 0] 80) = w4 at *
  have fx := (unhide FX).below (unhide HAl)
  have hb := (unhide HB).trans ((unhide HAl).mono (by omega))
  clear FX HB yl
  have FX := hide fx; have HB := hide hb
  clear fx hb HAl
  generalize w3.heap.size = M at *
  obtain ⟨p0, p1, p2, p3⟩ := (unhide FX).cr
  obtain ⟨q0, q1, q2, q3, q4, q5, q6, q7⟩ := (unhide FX).cx
  have y0 := (unhide FX).f0; have y1 := (unhide FX).f1
  have yl := (unhide FX).lt
  have fx := (unhide FX).put4 (.slice a len cap) (.int .i64 P.at_) (.int .i64 k) (.int .i64 0)
  have hb := Fx.bput (unhide HB) (Nat.le_refl _) (.slice a len cap) (.int .i64 P.at_) (.int .i64 k) (.int .i64 0)
  have hk := (Kb.refl N w4).put (.slice a len cap) (.int .i64 P.at_) (.int .i64 k) (.int .i64 0)
  have fx2 := fx.set1 (.int .i64 P.v)
  have hb2 := Fx.bset hb (Nat.le_refl _) 1 (.int .i64 P.v)
  have hk2 := hk.set (b := N + 1) (by omega) 1 (.int .i64 P.v)
  have FX' := hide fx2; have HB' := hide hb2; have HK4 := hide hk2
  clear fx hb hk fx2 hb2 hk2
  go_wp2_with fail
  generalize ((((w4.setCell ⟨N, 0, none⟩ (.slice a len cap)).setCell ⟨N, 1, none⟩ (.int .i64 P.at_)).setCell ⟨N, 2, none⟩ (.int .i64 k)).setCell ⟨N, 3, none⟩ (.int .i64 0)).setCell ⟨N + 1, 1, none⟩ (.int .i64 P.v) = w5 at *
  clear p0 p1 p2 p3 q0 q1 q2 q3 q4 q5 q6 q7 y0 y1 yl
  clear FX HB
  have FX := FX'; have HB := HB'
  clear FX' HB'
  clear e0 e1 e2 e3
  refine (unhide HQ2 _ (unhide HB)).mono ?_
  rintro e w6 ⟨rfl, hb5⟩
  have fx := (unhide FX).below hb5
  have hb := (unhide HB).trans (hb5.mono (by have := (unhide FX).lt; omega))
  clear FX HB
  have FX := hide fx; have HB := hide hb
  clear fx hb
  clear hb5
  obtain ⟨p0, p1, p2, p3⟩ := (unhide FX).cr
  obtain ⟨q0, q1, q2, q3, q4, q5, q6, q7⟩ := (unhide FX).cx
  have y0 := (unhide FX).f0; have y1 := (unhide FX).f1
  have yl := (unhide FX).lt
  have fx := (unhide FX).put4 (.slice a len cap) (.int .i64 S.at_) (.int .i64 k) (.int .i64 S.e)
  have hb := Fx.bput (unhide HB) (Nat.le_refl _) (.slice a len cap) (.int .i64 S.at_) (.int .i64 k) (.int .i64 S.e)
  have hk := (Kb.refl N w6).put (.slice a len cap) (.int .i64 S.at_) (.int .i64 k) (.int .i64 S.e)
  have FX' := hide fx; have HB' := hide hb; have HK6 := hide hk
  clear fx hb hk
  go_wp2_with fail
  generalize (((w6.setCell ⟨N, 0, none⟩ (.slice a len cap)).setCell ⟨N, 1, none⟩ (.int .i64 S.at_)).setCell ⟨N, 2, none⟩ (.int .i64 k)).setCell ⟨N, 3, none⟩ (.int .i64 S.e) = w7 at *
  clear p0 p1 p2 p3 q0 q1 q2 q3 q4 q5 q6 q7 y0 y1 yl
  clear FX HB
  have FX := FX'; have HB := HB'
  clear FX' HB'
  obtain ⟨p0, p1, p2, p3⟩ := (unhide FX).cr
  obtain ⟨q0, q1, q2, q3, q4, q5, q6, q7⟩ := (unhide FX).cx
  obtain ⟨a0, a1, a2, a3⟩ := (unhide FX).ca
  obtain ⟨b0, b1, b2, b3, b4, b5, b6, b7⟩ := (unhide FX).cb
  have y0 := (unhide FX).f0; have y1 := (unhide FX).f1; have y2 := (unhide FX).f2; have y3 := (unhide FX).f3
  have yl := (unhide FX).lt
  go_region
  go_wp2
  refine bodyPost_ret (v := .tuple #[.agg #[.slice a len cap, .int .i64 S.at_, .int .i64 k, .int .i64 S.e], .agg #[.int .u8 op, .int .i64 P.v, .int .u32 0, .int .u32 0, .int .u8 0, .slice none 0 0, .slice none 0 0, .slice none 0 0]]) (by simp [results, Tryd.results51, go_sem, a0, a1, a2, a3, b0, b1, b2, b3, b4, b5, b6, b7]) rfl ?_
  refine ⟨k, ⟨op, P.v, 0, 0, 0, [], [], []⟩, .slice none 0 0, .slice none 0 0, .slice none 0 0, ?_, ?_, ⟨⟨_, _, _, rfl⟩, ⟨_, _, _, rfl⟩, ⟨_, _, _, rfl⟩⟩, fun he => ?_⟩
  · rw [unhide HE.1, unhide HE.2.1]
  · rw [unhide HN]
    have h3 := unhide HB
    refine Below.drew ?_
    repeat' (with_reducible refine Below.setCell ?_ ?_ _)
    all_goals first | with_reducible assumption | (dsimp only; omega)
  · exact ⟨by rw [unhide HE.2.2.1], (unhide HE.2.2.2 (by rw [← unhide HE.1]; exact he)).symm, Code_nil _ _, Code_nil _ _, Labs_nil _ _⟩

set_option maxRecDepth 100000 in
set_option maxHeartbeats 3200000 in
theorem rest_9_no (a : Option Addr) (len cap p k nest : Nat) (op : Int) (zs : List Int) (w : World) (hrow : Row w a len zs) (hl : len ≤ 3000) (hp : p ≤ len) (hc : len ≤ cap) (hf : fr op = 9) (hP : ¬ (pU zs p 4294967295).e = 0) :
    Calls Tryd.prog 51 #[RV a len cap p k 0, .agg #[.int .u8 op, .int .i64 0, .int .u32 0, .int .u32 0, .int .u8 0, .slice none 0 0, .slice none 0 0, .slice none 0 0], .int .i64 9, .int .i64 nest] w (RestPost w a len cap (pI (D zs) zs p k nest op)) := by
  obtain ⟨R, hR, hRe⟩ : ∃ R, pI (D zs) zs p k nest op = R ∧ R.e = (pU zs p 4294967295).e ∧ R.at_ = (pU zs p 4294967295).at_ ∧ R.k = k ∧ True := ⟨⟨(pU zs p 4294967295).e, (pU zs p 4294967295).at_, k, plain op⟩, by unfold pI; rw [hf, if_neg (by decide), if_neg (by decide), if_neg (by decide), if_neg (by decide), if_neg (by decide), if_neg (by decide), if_pos rfl, Part.on_no hP], rfl, rfl, rfl, trivial⟩
  rw [hR]
  have HE : Hid (R.e = (pU zs p 4294967295).e) ∧ Hid (R.at_ = (pU zs p 4294967295).at_) ∧ Hid (R.k = k) ∧ Hid True := hRe
  clear hRe hR hf
  have hpv := pU_v hrow.2.1 p 4294967295
  obtain ⟨pv0, pv1⟩ := hpv
  have hq := fun (wx : World) (hb : Below w.heap.size w wx) => number_ok a len cap p k zs wx (hrow.below (Nat.le_refl _) hb) hl hp hc
  have HQ := hide hq
  clear hq
  have hq2 := fun wx => nought_err a len cap (pU zs p 4294967295).at_ k wx (pU zs p 4294967295).e hP
  have HQ2 := hide hq2
  clear hq2
  have HP := hide hP; clear hP
  generalize (pU zs p 4294967295) = P at *
  clear hrow
  have fx := fx_new w (.slice a len cap) (.int .i64 p) (.int .i64 k) (.int .i64 0) (.int .u8 op) (.int .i64 0) (.int .u32 0) (.int .u32 0) (.int .u8 0) (.slice none 0 0) (.slice none 0 0) (.slice none 0 0)
  obtain ⟨fx, hb⟩ := fx
  go_enter Tryd.func51, Tryd.ntmps51
  go_wp2_with fail
  generalize (((w.alloc (.cells #[.slice a len cap, .int .i64 p, .int .i64 k, .int .i64 0] 80)).alloc (.cells #[.int .u8 op, .int .i64 0, .int .u32 0, .int .u32 0, .int .u8 0, .slice none 0 0, .slice none 0 0, .slice none 0 0] 55)).alloc (.cells #[.slice none 0 0, .int .i64 0, .int .i64 0, .int .i64 0] 80)).alloc (.cells #[.int .u8 0, .int .i64 0, .int .u32 0, .int .u32 0, .int .u8 0, .slice none 0 0, .slice none 0 0, .slice none 0 0] 55) = w2 at *
  have FX := hide fx; have HB := hide hb
  clear fx hb
  generalize hN : w.heap.size = N at *
  have HN := hide hN; clear hN
  refine (unhide HQ _ (unhide HB)).mono ?_
  rintro e w3 ⟨rfl, hb3⟩
  have fx := (unhide FX).below hb3
  have hb := (unhide HB).trans (hb3.mono (by have := (unhide FX).lt; omega))
  clear FX HB
  have FX := hide fx; have HB := hide hb
  clear fx hb
  clear hb3
  have HAl := hide (one_alloc w3 (.cells #[.slice a len cap, .int .i64 P.at_, .int .i64 k, .int .i64 P.e] 80))
  have yl := (unhide FX).lt
  go_upto_region 9 with fail
  have e0 : (w3.alloc (.cells #[.slice a len cap, .int .i64 P.at_, .int .i64 k, .int .i64 P.e] 80)).cell? ⟨w3.heap.size, 0, none⟩ = some (.slice a len cap) := by simp
  have e1 : (w3.alloc (.cells #[.slice a len cap, .int .i64 P.at_, .int .i64 k, .int .i64 P.e] 80)).cell? ⟨w3.heap.size, 1, none⟩ = some (.int .i64 P.at_) := by simp
  have e2 : (w3.alloc (.cells #[.slice a len cap, .int .i64 P.at_, .int .i64 k, .int .i64 P.e] 80)).cell? ⟨w3.heap.size, 2, none⟩ = some (.int .i64 k) := by simp
  have e3 : (w3.alloc (.cells #[.slice a len cap, .int .i64 P.at_, .int .i64 k, .int .i64 P.e] 80)).cell? ⟨w3.heap.size, 3, none⟩ = some (.int .i64 P.e) := by simp
  generalize w3.alloc (.cells #[.slice a len cap, .int .i64 P.at_, .int .i64 k, .int .i64 P.e] 80) = w4 at *
  have fx := (unhide FX).below (unhide HAl)
  have hb := (unhide HB).trans ((unhide HAl).mono (by omega))
  clear FX HB yl
  have FX := hide fx; have HB := hide hb
  clear fx hb HAl
  generalize w3.heap.size = M at *
  obtain ⟨p0, p1, p2, p3⟩ := (unhide FX).cr
  obtain ⟨q0, q1, q2, q3, q4, q5, q6, q7⟩ := (unhide FX).cx
  have y0 := (unhide FX).f0; have y1 := (unhide FX).f1
  have yl := (unhide FX).lt
  have fx := (unhide FX).put4 (.slice a len cap) (.int .i64 P.at_) (.int .i64 k) (.int .i64 P.e)
  have hb := Fx.bput (unhide HB) (Nat.le_refl _) (.slice a len cap) (.int .i64 P.at_) (.int .i64 k) (.int .i64 P.e)
  have hk := (Kb.refl N w4).put (.slice a len cap) (.int .i64 P.at_) (.int .i64 k) (.int .i64 P.e)
  have fx2 := fx.set1 (.int .i64 P.v)
  have hb2 := Fx.bset hb (Nat.le_refl _) 1 (.int .i64 P.v)
  have hk2 := hk.set (b := N + 1) (by omega) 1 (.int .i64 P.v)
  have FX' := hide fx2; have HB' := hide hb2; have HK4 := hide hk2
  clear fx hb hk fx2 hb2 hk2
  go_wp2_with fail
  generalize ((((w4.setCell ⟨N, 0, none⟩ (.slice a len cap)).setCell ⟨N, 1, none⟩ (.int .i64 P.at_)).setCell ⟨N, 2, none⟩ (.int .i64 k)).setCell ⟨N, 3, none⟩ (.int .i64 P.e)).setCell ⟨N + 1, 1, none⟩ (.int .i64 P.v) = w5 at *
  clear p0 p1 p2 p3 q0 q1 q2 q3 q4 q5 q6 q7 y0 y1 yl
  clear FX HB
  have FX := FX'; have HB := HB'
  clear FX' HB'
  clear e0 e1 e2 e3
  refine (unhide HQ2 _).mono ?_
  rintro e w6 ⟨rfl, hb5⟩
  have fx := (unhide FX).below hb5
  have hb := (unhide HB).trans (hb5.mono (by have := (unhide FX).lt; omega))
  clear FX HB
  have FX := hide fx; have HB := hide hb
  clear fx hb
  clear hb5
  obtain ⟨p0, p1, p2, p3⟩ := (unhide FX).cr
  obtain ⟨q0, q1, q2, q3, q4, q5, q6, q7⟩ := (unhide FX).cx
  have y0 := (unhide FX).f0; have y1 := (unhide FX).f1
  have yl := (unhide FX).lt
  have fx := (unhide FX).put4 (.slice a len cap) (.int .i64 P.at_) (.int .i64 k) (.int .i64 P.e)
  have hb := Fx.bput (unhide HB) (Nat.le_refl _) (.slice a len cap) (.int .i64 P.at_) (.int .i64 k) (.int .i64 P.e)
  have hk := (Kb.refl N w6).put (.slice a len cap) (.int .i64 P.at_) (.int .i64 k) (.int .i64 P.e)
  have FX' := hide fx; have HB' := hide hb; have HK6 := hide hk
  clear fx hb hk
  go_wp2_with fail
  generalize (((w6.setCell ⟨N, 0, none⟩ (.slice a len cap)).setCell ⟨N, 1, none⟩ (.int .i64 P.at_)).setCell ⟨N, 2, none⟩ (.int .i64 k)).setCell ⟨N, 3, none⟩ (.int .i64 P.e) = w7 at *
  clear p0 p1 p2 p3 q0 q1 q2 q3 q4 q5 q6 q7 y0 y1 yl
  clear FX HB
  have FX := FX'; have HB := HB'
  clear FX' HB'
  obtain ⟨p0, p1, p2, p3⟩ := (unhide FX).cr
  obtain ⟨q0, q1, q2, q3, q4, q5, q6, q7⟩ := (unhide FX).cx
  obtain ⟨a0, a1, a2, a3⟩ := (unhide FX).ca
  obtain ⟨b0, b1, b2, b3, b4, b5, b6, b7⟩ := (unhide FX).cb
  have y0 := (unhide FX).f0; have y1 := (unhide FX).f1; have y2 := (unhide FX).f2; have y3 := (unhide FX).f3
  have yl := (unhide FX).lt
  go_region
  go_wp2
  refine bodyPost_ret (v := .tuple #[.agg #[.slice a len cap, .int .i64 P.at_, .int .i64 k, .int .i64 P.e], .agg #[.int .u8 op, .int .i64 P.v, .int .u32 0, .int .u32 0, .int .u8 0, .slice none 0 0, .slice none 0 0, .slice none 0 0]]) (by simp [results, Tryd.results51, go_sem, a0, a1, a2, a3, b0, b1, b2, b3, b4, b5, b6, b7]) rfl ?_
  refine ⟨k, ⟨op, P.v, 0, 0, 0, [], [], []⟩, .slice none 0 0, .slice none 0 0, .slice none 0 0, ?_, ?_, ⟨⟨_, _, _, rfl⟩, ⟨_, _, _, rfl⟩, ⟨_, _, _, rfl⟩⟩, fun he => ?_⟩
  · rw [unhide HE.1, unhide HE.2.1]
  · rw [unhide HN]
    have h3 := unhide HB
    refine Below.drew ?_
    repeat' (with_reducible refine Below.setCell ?_ ?_ _)
    all_goals first | with_reducible assumption | (dsimp only; omega)
  · exact absurd (by rw [← unhide HE.1]; exact he) (unhide HP)
end Ex
end Go.Proofs.YtjhmglefejclpaaDoor
