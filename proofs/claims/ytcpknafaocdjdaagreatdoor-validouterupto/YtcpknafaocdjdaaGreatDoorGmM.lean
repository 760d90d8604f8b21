/- giveModule whole; its rows are the call's own, apart from all parts. -/
import Derived.Test.YtcpknafaocdjdaaGreatDoorGmL0
import Derived.Test.YtcpknafaocdjdaaGreatDoorGmL1
import Derived.Test.YtcpknafaocdjdaaGreatDoorGmL2
import Derived.Test.YtcpknafaocdjdaaGreatDoorGmL3
import Derived.Test.YtcpknafaocdjdaaGreatDoorGmL4
import Derived.Test.YtcpknafaocdjdaaGreatDoorGmL5
import Derived.Test.YtcpknafaocdjdaaGreatDoorGmL6
import Derived.Test.YtcpknafaocdjdaaGreatDoorGmL7
namespace Go.Proofs.YtcpknafaocdjdaaGreatDoor
open Go.RowKit
namespace Gm
set_option linter.unusedVariables false
set_option linter.unusedSimpArgs false
/-- a module whose rows are a call's own: G the parts, H the rows -/
structure ModO (B : Nat) (w : World) (G H : Nat → Prop) (M : Mod) (v0 v1 v2 v3 v4 v5 v6 v7 : Value) : Prop where
  l0 : OwL 96 TypC 2 B w G H M.types v0
  l1 : OwL 66 FncC 3 B w G H M.funcs v1
  l2 : OwL 75 LimC 3 B w G H M.tables v2
  l3 : OwL 75 LimC 3 B w G H M.mems v3
  l4 : OwL 77 GloC 10 B w G H M.globs v4
  l5 : OwL 73 ExoC 3 B w G H M.exps v5
  l6 : OwL 79 ElmC 10 B w G H M.elems v6
  l7 : OwL 81 DatC 10 B w G H M.datas v7
  dj : ∀ k, G k → ¬ H k
  d23 : ∀ k, v2.ownBlock = some k → v3.ownBlock ≠ some k
theorem ModO.modL {B : Nat} {w : World} {G H K : Nat → Prop} {M : Mod} {v0 v1 v2 v3 v4 v5 v6 v7 : Value} (h : ModO B w G H M v0 v1 v2 v3 v4 v5 v6 v7) (hG : ∀ k, G k → K k) (hH : ∀ k, H k → K k) : ModL w K M v0 v1 v2 v3 v4 v5 v6 v7 :=
  have m : Mv w w G K := fun k _ hk => ⟨hG k hk, rfl⟩
  ⟨h.l0.ll (fun _ _ p => TypC.moved m p) hH, h.l1.ll (fun _ _ p => FncC.moved m p) hH, h.l2.ll (fun _ _ p => LimC.moved m p) hH, h.l3.ll (fun _ _ p => LimC.moved m p) hH, h.l4.ll (fun _ _ p => GloC.moved m p) hH, h.l5.ll (fun _ _ p => ExoC.moved m p) hH, h.l6.ll (fun _ _ p => ElmC.moved m p) hH, h.l7.ll (fun _ _ p => DatC.moved m p) hH⟩
theorem ModO.moved {B : Nat} {w w' : World} {G G' H H' : Nat → Prop} {M : Mod} {v0 v1 v2 v3 v4 v5 v6 v7 : Value} (hm : Mv w w' G G') (hh : Mv w w' H H') (hd : ∀ k, G' k → ¬ H' k) (h : ModO B w G H M v0 v1 v2 v3 v4 v5 v6 v7) : ModO B w' G' H' M v0 v1 v2 v3 v4 v5 v6 v7 :=
  ⟨h.l0.moved hh (fun _ _ p => TypC.moved hm p), h.l1.moved hh (fun _ _ p => FncC.moved hm p), h.l2.moved hh (fun _ _ p => LimC.moved hm p), h.l3.moved hh (fun _ _ p => LimC.moved hm p), h.l4.moved hh (fun _ _ p => GloC.moved hm p), h.l5.moved hh (fun _ _ p => ExoC.moved hm p), h.l6.moved hh (fun _ _ p => ElmC.moved hm p), h.l7.moved hh (fun _ _ p => DatC.moved hm p), hd, h.d23⟩
structure SzM (M : Mod) : Prop where
  n0 : M.types.length ≤ 1048576
  n1 : M.funcs.length ≤ 1048576
  n2 : M.tables.length ≤ 1048576
  n3 : M.mems.length ≤ 1048576
  n4 : M.globs.length ≤ 1048576
  n5 : M.exps.length ≤ 1048576
  n6 : M.elems.length ≤ 1048576
  n7 : M.datas.length ≤ 1048576
  s0 : ∀ x ∈ M.types, (∀ z ∈ x.ps, 0 ≤ z ∧ z ≤ 255) ∧ x.ps.length ≤ 1048576
  s1 : ∀ x ∈ M.funcs, (∀ z ∈ x.ls, 0 ≤ z ∧ z ≤ 255) ∧ x.ls.length ≤ 1048576 ∧ x.body.length ≤ 1048576 ∧ Ex.Sz 1048576 x.body
  s2 : ∀ x ∈ M.tables, True
  s3 : ∀ x ∈ M.mems, True
  s4 : ∀ x ∈ M.globs, Ex.SzI 1048576 x.ini
  s5 : ∀ x ∈ M.exps, True
  s6 : ∀ x ∈ M.elems, Ex.SzI 1048576 x.off
  s7 : ∀ x ∈ M.datas, Ex.SzI 1048576 x.off

theorem inv0 (w : World) (g : Nat → Prop) (ms : Array Value) (hg : ∀ k, g k → k < w.heap.size) : Inv w (((w.alloc (.cells ms 30)).alloc (.cells zeroMod 41)).alloc (.cells zeroMod 41)) g g (fun _ => False) ms zeroMod (.slice none 0 0) := by
  have e1 : (w.alloc (.cells ms 30)).heap.size = w.heap.size + 1 := by simp
  have e2 : ((w.alloc (.cells ms 30)).alloc (.cells zeroMod 41)).heap.size = w.heap.size + 2 := by simp
  refine ⟨(((Below.refl _ _).alloc (Nat.le_refl _) _).alloc (by simp) _).alloc (by simp; omega) _, ?_, ?_, ?_, fun _ h => h, fun k hk => ⟨by have := hg k hk; simp; omega, .inl (hg k hk), by simp [Value.ownBlock]⟩, fun _ h _ => h, fun _ h => h.elim, fun _ _ h => h⟩
  · rw [Below.heap_alloc _ _ _ (by simp; omega), Below.heap_alloc _ _ _ (by simp)]
    exact heap_alloc_new w (.cells ms 30)
  · rw [Below.heap_alloc _ _ _ (by simp)]
    have := heap_alloc_new (w.alloc (.cells ms 30)) (.cells zeroMod 41)
    rw [e1] at this; exact this
  · have := heap_alloc_new ((w.alloc (.cells ms 30)).alloc (.cells zeroMod 41)) (.cells zeroMod 41)
    rw [e2] at this; exact this
set_option maxRecDepth 1000000 in
set_option maxHeartbeats 6400000 in
theorem giveModule_all (M : Mod) (g : Nat → Prop) (v0 v1 v2 v3 v4 v5 v6 v7 : Value) (w : World) (hg : ∀ k, g k → k < w.heap.size) (hM : ModL w g M v0 v1 v2 v3 v4 v5 v6 v7) (hs : SzM M) :
    Calls Tryz.prog 11 #[.agg #[v0, v1, v2, v3, v4, v5, v6, v7]] w fun e w' => ∃ v0' v1' v2' v3' v4' v5' v6' v7', e = .returned (.agg #[v0', v1', v2', v3', v4', v5', v6', v7']) ∧ ∃ G H, ModO (w.heap.size + 3) w' G H M v0' v1' v2' v3' v4' v5' v6' v7' ∧ (∀ k, G k → Ex.gor g w.heap.size k) ∧ (∀ k, H k → w.heap.size + 3 ≤ k) ∧ Below w.heap.size w w' := by
  have HM := hide hM; have HS := hide hs
  obtain ⟨h0, h1, h2, h3, h4, h5, h6, h7⟩ := hM
  obtain ⟨sa0, sc0, rfl, -⟩ := h0
  obtain ⟨sa1, sc1, rfl, -⟩ := h1
  obtain ⟨sa2, sc2, rfl, -⟩ := h2
  obtain ⟨sa3, sc3, rfl, -⟩ := h3
  obtain ⟨sa4, sc4, rfl, -⟩ := h4
  obtain ⟨sa5, sc5, rfl, -⟩ := h5
  obtain ⟨sa6, sc6, rfl, -⟩ := h6
  obtain ⟨sa7, sc7, rfl, -⟩ := h7
  have I0 := hide (inv0 w g #[.slice sa0 M.types.length sc0, .slice sa1 M.funcs.length sc1, .slice sa2 M.tables.length sc2, .slice sa3 M.mems.length sc3, .slice sa4 M.globs.length sc4, .slice sa5 M.exps.length sc5, .slice sa6 M.elems.length sc6, .slice sa7 M.datas.length sc7] hg)
  have K0 : Hid True := hide trivial
  clear hs
  go_enter Tryz.func11, Tryz.ntmps11
  go_wp2_with fail
  unfold zeroMod at I0
  generalize hW0 : ((w.alloc _).alloc _).alloc _ = W0 at I0 ⊢
  refine lp_0 (w := w) (g := g) (G0 := g) (H := fun _ => False) (ms := #[.slice sa0 M.types.length sc0, .slice sa1 M.funcs.length sc1, .slice sa2 M.tables.length sc2, .slice sa3 M.mems.length sc3, .slice sa4 M.globs.length sc4, .slice sa5 M.exps.length sc5, .slice sa6 M.elems.length sc6, .slice sa7 M.datas.length sc7]) (us := #[.slice none 0 0, .slice none 0 0, .slice none 0 0, .slice none 0 0, .slice none 0 0, .slice none 0 0, .slice none 0 0, .slice none 0 0]) (l := M.types) (sa := sa0) (cp := sc0) (Keep := fun _ _ _ => True) hg rfl rfl (unhide HM).l0 (unhide HS).n0 (unhide HS).s0 (fun _ _ _ _ _ _ _ _ _ _ => trivial) (unhide I0) rfl (unhide K0) ?_
  intro a0_0 a0_1 a0_2 a0_3 a0_4 a0_5 a0_6 a0_7 a0_8 a0_9 a0_10 a0_11 a0_12 a0_13 a0_14 a0_15 a0_16 a0_17 a0_18 a0_19 a0_20 a0_21 a0_22 a0_23 a0_24 a0_25 a0_26 W1 G1 oa0 oc0 hi hl hk hd0
  obtain ⟨H1, hH1⟩ : ∃ H1, Hx (fun _ => False) (.slice oa0 M.types.length oc0) = H1 := ⟨_, rfl⟩
  rw [hH1] at hi hl
  have I1 : Hid (Inv w W1 g G1 H1 #[.slice sa0 M.types.length sc0, .slice sa1 M.funcs.length sc1, .slice sa2 M.tables.length sc2, .slice sa3 M.mems.length sc3, .slice sa4 M.globs.length sc4, .slice sa5 M.exps.length sc5, .slice sa6 M.elems.length sc6, .slice sa7 M.datas.length sc7] #[.slice oa0 M.types.length oc0, .slice none 0 0, .slice none 0 0, .slice none 0 0, .slice none 0 0, .slice none 0 0, .slice none 0 0, .slice none 0 0] (.slice none 0 0)) := hide hi
  have K1 := hide hl
  clear hi hl hk hd0 hH1 I0 K0
  go_wp2_with fail
  refine lp_1 (w := w) (g := g) (G0 := G1) (H := H1) (ms := #[.slice sa0 M.types.length sc0, .slice sa1 M.funcs.length sc1, .slice sa2 M.tables.length sc2, .slice sa3 M.mems.length sc3, .slice sa4 M.globs.length sc4, .slice sa5 M.exps.length sc5, .slice sa6 M.elems.length sc6, .slice sa7 M.datas.length sc7]) (us := #[.slice oa0 M.types.length oc0, .slice none 0 0, .slice none 0 0, .slice none 0 0, .slice none 0 0, .slice none 0 0, .slice none 0 0, .slice none 0 0]) (l := M.funcs) (sa := sa1) (cp := sc1) (Keep := fun wr G H => OwL 96 TypC 2 (w.heap.size + 3) wr G H M.types (.slice oa0 M.types.length oc0)) hg rfl rfl (unhide HM).l1 (unhide HS).n1 (unhide HS).s1 (fun wr wr' G G' H H' hm hh hs q => q.moved hh (fun _ _ p => TypC.moved hm p)) (unhide I1) rfl (unhide K1) ?_
  intro a1_0 a1_1 a1_2 a1_3 a1_4 a1_5 a1_6 a1_7 a1_8 a1_9 a1_10 a1_11 a1_12 a1_13 a1_14 a1_15 a1_16 a1_17 a1_18 a1_19 a1_20 a1_21 a1_22 a1_23 a1_24 a1_25 a1_26 a1_27 a1_28 a1_29 a1_30 a1_31 a1_32 a1_33 W2 G2 oa1 oc1 hi hl hk hd1
  obtain ⟨H2, hH2⟩ : ∃ H2, Hx H1 (.slice oa1 M.funcs.length oc1) = H2 := ⟨_, rfl⟩
  rw [hH2] at hi hl hk
  have I2 : Hid (Inv w W2 g G2 H2 #[.slice sa0 M.types.length sc0, .slice sa1 M.funcs.length sc1, .slice sa2 M.tables.length sc2, .slice sa3 M.mems.length sc3, .slice sa4 M.globs.length sc4, .slice sa5 M.exps.length sc5, .slice sa6 M.elems.length sc6, .slice sa7 M.datas.length sc7] #[.slice oa0 M.types.length oc0, .slice oa1 M.funcs.length oc1, .slice none 0 0, .slice none 0 0, .slice none 0 0, .slice none 0 0, .slice none 0 0, .slice none 0 0] (.slice none 0 0)) := hide hi
  have K2 : Hid ((fun wr G H => OwL 96 TypC 2 (w.heap.size + 3) wr G H M.types (.slice oa0 M.types.length oc0) ∧ OwL 66 FncC 3 (w.heap.size + 3) wr G H M.funcs (.slice oa1 M.funcs.length oc1)) W2 G2 H2) := hide ⟨hk, hl⟩
  clear hi hl hk hd1 hH2 I1 K1
  go_wp2_with fail
  refine lp_2 (w := w) (g := g) (G0 := G2) (H := H2) (ms := #[.slice sa0 M.types.length sc0, .slice sa1 M.funcs.length sc1, .slice sa2 M.tables.length sc2, .slice sa3 M.mems.length sc3, .slice sa4 M.globs.length sc4, .slice sa5 M.exps.length sc5, .slice sa6 M.elems.length sc6, .slice sa7 M.datas.length sc7]) (us := #[.slice oa0 M.types.length oc0, .slice oa1 M.funcs.length oc1, .slice none 0 0, .slice none 0 0, .slice none 0 0, .slice none 0 0, .slice none 0 0, .slice none 0 0]) (l := M.tables) (sa := sa2) (cp := sc2) (Keep := fun wr G H => OwL 96 TypC 2 (w.heap.size + 3) wr G H M.types (.slice oa0 M.types.length oc0) ∧ OwL 66 FncC 3 (w.heap.size + 3) wr G H M.funcs (.slice oa1 M.funcs.length oc1)) hg rfl rfl (unhide HM).l2 (unhide HS).n2 (unhide HS).s2 (fun wr wr' G G' H H' hm hh hs q => ⟨q.1.moved hh (fun _ _ p => TypC.moved hm p), q.2.moved hh (fun _ _ p => FncC.moved hm p)⟩) (unhide I2) rfl (unhide K2) ?_
  intro a2_0 a2_1 a2_2 a2_3 a2_4 a2_5 a2_6 a2_7 a2_8 a2_9 a2_10 a2_11 a2_12 a2_13 a2_14 a2_15 a2_16 a2_17 W3 G3 oa2 oc2 hi hl hk hd2
  obtain ⟨H3, hH3⟩ : ∃ H3, Hx H2 (.slice oa2 M.tables.length oc2) = H3 := ⟨_, rfl⟩
  rw [hH3] at hi hl hk
  have I3 : Hid (Inv w W3 g G3 H3 #[.slice sa0 M.types.length sc0, .slice sa1 M.funcs.length sc1, .slice sa2 M.tables.length sc2, .slice sa3 M.mems.length sc3, .slice sa4 M.globs.length sc4, .slice sa5 M.exps.length sc5, .slice sa6 M.elems.length sc6, .slice sa7 M.datas.length sc7] #[.slice oa0 M.types.length oc0, .slice oa1 M.funcs.length oc1, .slice oa2 M.tables.length oc2, .slice none 0 0, .slice none 0 0, .slice none 0 0, .slice none 0 0, .slice none 0 0] (.slice none 0 0)) := hide hi
  have K3 : Hid ((fun wr G H => OwL 96 TypC 2 (w.heap.size + 3) wr G H M.types (.slice oa0 M.types.length oc0) ∧ OwL 66 FncC 3 (w.heap.size + 3) wr G H M.funcs (.slice oa1 M.funcs.length oc1) ∧ OwL 75 LimC 3 (w.heap.size + 3) wr G H M.tables (.slice oa2 M.tables.length oc2)) W3 G3 H3) := hide ⟨hk.1, hk.2, hl⟩
  have D2 : Hid (∀ k, (Value.slice oa2 M.tables.length oc2).ownBlock = some k → H3 k) := hide (fun k h => by rw [← hH3]; exact .inr h)
  clear hi hl hk hd2 hH3 I2 K2
  go_wp2_with fail
  refine lp_3 (w := w) (g := g) (G0 := G3) (H := H3) (ms := #[.slice sa0 M.types.length sc0, .slice sa1 M.funcs.length sc1, .slice sa2 M.tables.length sc2, .slice sa3 M.mems.length sc3, .slice sa4 M.globs.length sc4, .slice sa5 M.exps.length sc5, .slice sa6 M.elems.length sc6, .slice sa7 M.datas.length sc7]) (us := #[.slice oa0 M.types.length oc0, .slice oa1 M.funcs.length oc1, .slice oa2 M.tables.length oc2, .slice none 0 0, .slice none 0 0, .slice none 0 0, .slice none 0 0, .slice none 0 0]) (l := M.mems) (sa := sa3) (cp := sc3) (Keep := fun wr G H => OwL 96 TypC 2 (w.heap.size + 3) wr G H M.types (.slice oa0 M.types.length oc0) ∧ OwL 66 FncC 3 (w.heap.size + 3) wr G H M.funcs (.slice oa1 M.funcs.length oc1) ∧ OwL 75 LimC 3 (w.heap.size + 3) wr G H M.tables (.slice oa2 M.tables.length oc2)) hg rfl rfl (unhide HM).l3 (unhide HS).n3 (unhide HS).s3 (fun wr wr' G G' H H' hm hh hs q => ⟨q.1.moved hh (fun _ _ p => TypC.moved hm p), q.2.1.moved hh (fun _ _ p => FncC.moved hm p), q.2.2.moved hh (fun _ _ p => LimC.moved hm p)⟩) (unhide I3) rfl (unhide K3) ?_
  intro a3_0 a3_1 a3_2 a3_3 a3_4 a3_5 a3_6 a3_7 a3_8 a3_9 a3_10 a3_11 a3_12 a3_13 a3_14 a3_15 a3_16 a3_17 W4 G4 oa3 oc3 hi hl hk hd3
  obtain ⟨H4, hH4⟩ : ∃ H4, Hx H3 (.slice oa3 M.mems.length oc3) = H4 := ⟨_, rfl⟩
  rw [hH4] at hi hl hk
  have I4 : Hid (Inv w W4 g G4 H4 #[.slice sa0 M.types.length sc0, .slice sa1 M.funcs.length sc1, .slice sa2 M.tables.length sc2, .slice sa3 M.mems.length sc3, .slice sa4 M.globs.length sc4, .slice sa5 M.exps.length sc5, .slice sa6 M.elems.length sc6, .slice sa7 M.datas.length sc7] #[.slice oa0 M.types.length oc0, .slice oa1 M.funcs.length oc1, .slice oa2 M.tables.length oc2, .slice oa3 M.mems.length oc3, .slice none 0 0, .slice none 0 0, .slice none 0 0, .slice none 0 0] (.slice none 0 0)) := hide hi
  have K4 : Hid ((fun wr G H => OwL 96 TypC 2 (w.heap.size + 3) wr G H M.types (.slice oa0 M.types.length oc0) ∧ OwL 66 FncC 3 (w.heap.size + 3) wr G H M.funcs (.slice oa1 M.funcs.length oc1) ∧ OwL 75 LimC 3 (w.heap.size + 3) wr G H M.tables (.slice oa2 M.tables.length oc2) ∧ OwL 75 LimC 3 (w.heap.size + 3) wr G H M.mems (.slice oa3 M.mems.length oc3)) W4 G4 H4) := hide ⟨hk.1, hk.2.1, hk.2.2, hl⟩
  have D3 : Hid (∀ k, (Value.slice oa2 M.tables.length oc2).ownBlock = some k → (Value.slice oa3 M.mems.length oc3).ownBlock ≠ some k) := hide (fun k h => hd3 k (unhide D2 k h))
  clear hi hl hk hd3 hH4 I3 K3
  go_wp2_with fail
  refine lp_4 (w := w) (g := g) (G0 := G4) (H := H4) (ms := #[.slice sa0 M.types.length sc0, .slice sa1 M.funcs.length sc1, .slice sa2 M.tables.length sc2, .slice sa3 M.mems.length sc3, .slice sa4 M.globs.length sc4, .slice sa5 M.exps.length sc5, .slice sa6 M.elems.length sc6, .slice sa7 M.datas.length sc7]) (us := #[.slice oa0 M.types.length oc0, .slice oa1 M.funcs.length oc1, .slice oa2 M.tables.length oc2, .slice oa3 M.mems.length oc3, .slice none 0 0, .slice none 0 0, .slice none 0 0, .slice none 0 0]) (l := M.globs) (sa := sa4) (cp := sc4) (Keep := fun wr G H => OwL 96 TypC 2 (w.heap.size + 3) wr G H M.types (.slice oa0 M.types.length oc0) ∧ OwL 66 FncC 3 (w.heap.size + 3) wr G H M.funcs (.slice oa1 M.funcs.length oc1) ∧ OwL 75 LimC 3 (w.heap.size + 3) wr G H M.tables (.slice oa2 M.tables.length oc2) ∧ OwL 75 LimC 3 (w.heap.size + 3) wr G H M.mems (.slice oa3 M.mems.length oc3)) hg rfl rfl (unhide HM).l4 (unhide HS).n4 (unhide HS).s4 (fun wr wr' G G' H H' hm hh hs q => ⟨q.1.moved hh (fun _ _ p => TypC.moved hm p), q.2.1.moved hh (fun _ _ p => FncC.moved hm p), q.2.2.1.moved hh (fun _ _ p => LimC.moved hm p), q.2.2.2.moved hh (fun _ _ p => LimC.moved hm p)⟩) (unhide I4) rfl (unhide K4) ?_
  intro a4_0 a4_1 a4_2 a4_3 a4_4 a4_5 a4_6 a4_7 a4_8 a4_9 a4_10 a4_11 a4_12 a4_13 a4_14 a4_15 a4_16 a4_17 a4_18 a4_19 a4_20 a4_21 a4_22 a4_23 a4_24 a4_25 a4_26 a4_27 a4_28 a4_29 a4_30 a4_31 a4_32 W5 G5 oa4 oc4 hi hl hk hd4
  obtain ⟨H5, hH5⟩ : ∃ H5, Hx H4 (.slice oa4 M.globs.length oc4) = H5 := ⟨_, rfl⟩
  rw [hH5] at hi hl hk
  have I5 : Hid (Inv w W5 g G5 H5 #[.slice sa0 M.types.length sc0, .slice sa1 M.funcs.length sc1, .slice sa2 M.tables.length sc2, .slice sa3 M.mems.length sc3, .slice sa4 M.globs.length sc4, .slice sa5 M.exps.length sc5, .slice sa6 M.elems.length sc6, .slice sa7 M.datas.length sc7] #[.slice oa0 M.types.length oc0, .slice oa1 M.funcs.length oc1, .slice oa2 M.tables.length oc2, .slice oa3 M.mems.length oc3, .slice oa4 M.globs.length oc4, .slice none 0 0, .slice none 0 0, .slice none 0 0] (.slice none 0 0)) := hide hi
  have K5 : Hid ((fun wr G H => OwL 96 TypC 2 (w.heap.size + 3) wr G H M.types (.slice oa0 M.types.length oc0) ∧ OwL 66 FncC 3 (w.heap.size + 3) wr G H M.funcs (.slice oa1 M.funcs.length oc1) ∧ OwL 75 LimC 3 (w.heap.size + 3) wr G H M.tables (.slice oa2 M.tables.length oc2) ∧ OwL 75 LimC 3 (w.heap.size + 3) wr G H M.mems (.slice oa3 M.mems.length oc3) ∧ OwL 77 GloC 10 (w.heap.size + 3) wr G H M.globs (.slice oa4 M.globs.length oc4)) W5 G5 H5) := hide ⟨hk.1, hk.2.1, hk.2.2.1, hk.2.2.2, hl⟩
  clear hi hl hk hd4 hH5 I4 K4
  go_wp2_with fail
  refine lp_5 (w := w) (g := g) (G0 := G5) (H := H5) (ms := #[.slice sa0 M.types.length sc0, .slice sa1 M.funcs.length sc1, .slice sa2 M.tables.length sc2, .slice sa3 M.mems.length sc3, .slice sa4 M.globs.length sc4, .slice sa5 M.exps.length sc5, .slice sa6 M.elems.length sc6, .slice sa7 M.datas.length sc7]) (us := #[.slice oa0 M.types.length oc0, .slice oa1 M.funcs.length oc1, .slice oa2 M.tables.length oc2, .slice oa3 M.mems.length oc3, .slice oa4 M.globs.length oc4, .slice none 0 0, .slice none 0 0, .slice none 0 0]) (l := M.exps) (sa := sa5) (cp := sc5) (Keep := fun wr G H => OwL 96 TypC 2 (w.heap.size + 3) wr G H M.types (.slice oa0 M.types.length oc0) ∧ OwL 66 FncC 3 (w.heap.size + 3) wr G H M.funcs (.slice oa1 M.funcs.length oc1) ∧ OwL 75 LimC 3 (w.heap.size + 3) wr G H M.tables (.slice oa2 M.tables.length oc2) ∧ OwL 75 LimC 3 (w.heap.size + 3) wr G H M.mems (.slice oa3 M.mems.length oc3) ∧ OwL 77 GloC 10 (w.heap.size + 3) wr G H M.globs (.slice oa4 M.globs.length oc4)) hg rfl rfl (unhide HM).l5 (unhide HS).n5 (unhide HS).s5 (fun wr wr' G G' H H' hm hh hs q => ⟨q.1.moved hh (fun _ _ p => TypC.moved hm p), q.2.1.moved hh (fun _ _ p => FncC.moved hm p), q.2.2.1.moved hh (fun _ _ p => LimC.moved hm p), q.2.2.2.1.moved hh (fun _ _ p => LimC.moved hm p), q.2.2.2.2.moved hh (fun _ _ p => GloC.moved hm p)⟩) (unhide I5) rfl (unhide K5) ?_
  intro a5_0 a5_1 a5_2 a5_3 a5_4 a5_5 a5_6 a5_7 a5_8 a5_9 a5_10 a5_11 a5_12 a5_13 a5_14 a5_15 a5_16 a5_17 W6 G6 oa5 oc5 hi hl hk hd5
  obtain ⟨H6, hH6⟩ : ∃ H6, Hx H5 (.slice oa5 M.exps.length oc5) = H6 := ⟨_, rfl⟩
  rw [hH6] at hi hl hk
  have I6 : Hid (Inv w W6 g G6 H6 #[.slice sa0 M.types.length sc0, .slice sa1 M.funcs.length sc1, .slice sa2 M.tables.length sc2, .slice sa3 M.mems.length sc3, .slice sa4 M.globs.length sc4, .slice sa5 M.exps.length sc5, .slice sa6 M.elems.length sc6, .slice sa7 M.datas.length sc7] #[.slice oa0 M.types.length oc0, .slice oa1 M.funcs.length oc1, .slice oa2 M.tables.length oc2, .slice oa3 M.mems.length oc3, .slice oa4 M.globs.length oc4, .slice oa5 M.exps.length oc5, .slice none 0 0, .slice none 0 0] (.slice none 0 0)) := hide hi
  have K6 : Hid ((fun wr G H => OwL 96 TypC 2 (w.heap.size + 3) wr G H M.types (.slice oa0 M.types.length oc0) ∧ OwL 66 FncC 3 (w.heap.size + 3) wr G H M.funcs (.slice oa1 M.funcs.length oc1) ∧ OwL 75 LimC 3 (w.heap.size + 3) wr G H M.tables (.slice oa2 M.tables.length oc2) ∧ OwL 75 LimC 3 (w.heap.size + 3) wr G H M.mems (.slice oa3 M.mems.length oc3) ∧ OwL 77 GloC 10 (w.heap.size + 3) wr G H M.globs (.slice oa4 M.globs.length oc4) ∧ OwL 73 ExoC 3 (w.heap.size + 3) wr G H M.exps (.slice oa5 M.exps.length oc5)) W6 G6 H6) := hide ⟨hk.1, hk.2.1, hk.2.2.1, hk.2.2.2.1, hk.2.2.2.2, hl⟩
  clear hi hl hk hd5 hH6 I5 K5
  go_wp2_with fail
  refine lp_6 (w := w) (g := g) (G0 := G6) (H := H6) (ms := #[.slice sa0 M.types.length sc0, .slice sa1 M.funcs.length sc1, .slice sa2 M.tables.length sc2, .slice sa3 M.mems.length sc3, .slice sa4 M.globs.length sc4, .slice sa5 M.exps.length sc5, .slice sa6 M.elems.length sc6, .slice sa7 M.datas.length sc7]) (us := #[.slice oa0 M.types.length oc0, .slice oa1 M.funcs.length oc1, .slice oa2 M.tables.length oc2, .slice oa3 M.mems.length oc3, .slice oa4 M.globs.length oc4, .slice oa5 M.exps.length oc5, .slice none 0 0, .slice none 0 0]) (l := M.elems) (sa := sa6) (cp := sc6) (Keep := fun wr G H => OwL 96 TypC 2 (w.heap.size + 3) wr G H M.types (.slice oa0 M.types.length oc0) ∧ OwL 66 FncC 3 (w.heap.size + 3) wr G H M.funcs (.slice oa1 M.funcs.length oc1) ∧ OwL 75 LimC 3 (w.heap.size + 3) wr G H M.tables (.slice oa2 M.tables.length oc2) ∧ OwL 75 LimC 3 (w.heap.size + 3) wr G H M.mems (.slice oa3 M.mems.length oc3) ∧ OwL 77 GloC 10 (w.heap.size + 3) wr G H M.globs (.slice oa4 M.globs.length oc4) ∧ OwL 73 ExoC 3 (w.heap.size + 3) wr G H M.exps (.slice oa5 M.exps.length oc5)) hg rfl rfl (unhide HM).l6 (unhide HS).n6 (unhide HS).s6 (fun wr wr' G G' H H' hm hh hs q => ⟨q.1.moved hh (fun _ _ p => TypC.moved hm p), q.2.1.moved hh (fun _ _ p => FncC.moved hm p), q.2.2.1.moved hh (fun _ _ p => LimC.moved hm p), q.2.2.2.1.moved hh (fun _ _ p => LimC.moved hm p), q.2.2.2.2.1.moved hh (fun _ _ p => GloC.moved hm p), q.2.2.2.2.2.moved hh (fun _ _ p => ExoC.moved hm p)⟩) (unhide I6) rfl (unhide K6) ?_
  intro a6_0 a6_1 a6_2 a6_3 a6_4 a6_5 a6_6 a6_7 a6_8 a6_9 a6_10 a6_11 a6_12 a6_13 a6_14 a6_15 a6_16 a6_17 a6_18 a6_19 a6_20 a6_21 a6_22 a6_23 a6_24 a6_25 a6_26 a6_27 a6_28 a6_29 a6_30 a6_31 a6_32 W7 G7 oa6 oc6 hi hl hk hd6
  obtain ⟨H7, hH7⟩ : ∃ H7, Hx H6 (.slice oa6 M.elems.length oc6) = H7 := ⟨_, rfl⟩
  rw [hH7] at hi hl hk
  have I7 : Hid (Inv w W7 g G7 H7 #[.slice sa0 M.types.length sc0, .slice sa1 M.funcs.length sc1, .slice sa2 M.tables.length sc2, .slice sa3 M.mems.length sc3, .slice sa4 M.globs.length sc4, .slice sa5 M.exps.length sc5, .slice sa6 M.elems.length sc6, .slice sa7 M.datas.length sc7] #[.slice oa0 M.types.length oc0, .slice oa1 M.funcs.length oc1, .slice oa2 M.tables.length oc2, .slice oa3 M.mems.length oc3, .slice oa4 M.globs.length oc4, .slice oa5 M.exps.length oc5, .slice oa6 M.elems.length oc6, .slice none 0 0] (.slice none 0 0)) := hide hi
  have K7 : Hid ((fun wr G H => OwL 96 TypC 2 (w.heap.size + 3) wr G H M.types (.slice oa0 M.types.length oc0) ∧ OwL 66 FncC 3 (w.heap.size + 3) wr G H M.funcs (.slice oa1 M.funcs.length oc1) ∧ OwL 75 LimC 3 (w.heap.size + 3) wr G H M.tables (.slice oa2 M.tables.length oc2) ∧ OwL 75 LimC 3 (w.heap.size + 3) wr G H M.mems (.slice oa3 M.mems.length oc3) ∧ OwL 77 GloC 10 (w.heap.size + 3) wr G H M.globs (.slice oa4 M.globs.length oc4) ∧ OwL 73 ExoC 3 (w.heap.size + 3) wr G H M.exps (.slice oa5 M.exps.length oc5) ∧ OwL 79 ElmC 10 (w.heap.size + 3) wr G H M.elems (.slice oa6 M.elems.length oc6)) W7 G7 H7) := hide ⟨hk.1, hk.2.1, hk.2.2.1, hk.2.2.2.1, hk.2.2.2.2.1, hk.2.2.2.2.2, hl⟩
  clear hi hl hk hd6 hH7 I6 K6
  go_wp2_with fail
  refine lp_7 (w := w) (g := g) (G0 := G7) (H := H7) (ms := #[.slice sa0 M.types.length sc0, .slice sa1 M.funcs.length sc1, .slice sa2 M.tables.length sc2, .slice sa3 M.mems.length sc3, .slice sa4 M.globs.length sc4, .slice sa5 M.exps.length sc5, .slice sa6 M.elems.length sc6, .slice sa7 M.datas.length sc7]) (us := #[.slice oa0 M.types.length oc0, .slice oa1 M.funcs.length oc1, .slice oa2 M.tables.length oc2, .slice oa3 M.mems.length oc3, .slice oa4 M.globs.length oc4, .slice oa5 M.exps.length oc5, .slice oa6 M.elems.length oc6, .slice none 0 0]) (l := M.datas) (sa := sa7) (cp := sc7) (Keep := fun wr G H => OwL 96 TypC 2 (w.heap.size + 3) wr G H M.types (.slice oa0 M.types.length oc0) ∧ OwL 66 FncC 3 (w.heap.size + 3) wr G H M.funcs (.slice oa1 M.funcs.length oc1) ∧ OwL 75 LimC 3 (w.heap.size + 3) wr G H M.tables (.slice oa2 M.tables.length oc2) ∧ OwL 75 LimC 3 (w.heap.size + 3) wr G H M.mems (.slice oa3 M.mems.length oc3) ∧ OwL 77 GloC 10 (w.heap.size + 3) wr G H M.globs (.slice oa4 M.globs.length oc4) ∧ OwL 73 ExoC 3 (w.heap.size + 3) wr G H M.exps (.slice oa5 M.exps.length oc5) ∧ OwL 79 ElmC 10 (w.heap.size + 3) wr G H M.elems (.slice oa6 M.elems.length oc6)) hg rfl rfl (unhide HM).l7 (unhide HS).n7 (unhide HS).s7 (fun wr wr' G G' H H' hm hh hs q => ⟨q.1.moved hh (fun _ _ p => TypC.moved hm p), q.2.1.moved hh (fun _ _ p => FncC.moved hm p), q.2.2.1.moved hh (fun _ _ p => LimC.moved hm p), q.2.2.2.1.moved hh (fun _ _ p => LimC.moved hm p), q.2.2.2.2.1.moved hh (fun _ _ p => GloC.moved hm p), q.2.2.2.2.2.1.moved hh (fun _ _ p => ExoC.moved hm p), q.2.2.2.2.2.2.moved hh (fun _ _ p => ElmC.moved hm p)⟩) (unhide I7) rfl (unhide K7) ?_
  intro a7_0 a7_1 a7_2 a7_3 a7_4 a7_5 a7_6 a7_7 a7_8 a7_9 a7_10 a7_11 a7_12 a7_13 a7_14 a7_15 a7_16 a7_17 a7_18 a7_19 a7_20 a7_21 a7_22 a7_23 a7_24 a7_25 a7_26 a7_27 a7_28 a7_29 a7_30 a7_31 a7_32 W8 G8 oa7 oc7 hi hl hk hd7
  obtain ⟨H8, hH8⟩ : ∃ H8, Hx H7 (.slice oa7 M.datas.length oc7) = H8 := ⟨_, rfl⟩
  rw [hH8] at hi hl hk
  have I8 : Hid (Inv w W8 g G8 H8 #[.slice sa0 M.types.length sc0, .slice sa1 M.funcs.length sc1, .slice sa2 M.tables.length sc2, .slice sa3 M.mems.length sc3, .slice sa4 M.globs.length sc4, .slice sa5 M.exps.length sc5, .slice sa6 M.elems.length sc6, .slice sa7 M.datas.length sc7] #[.slice oa0 M.types.length oc0, .slice oa1 M.funcs.length oc1, .slice oa2 M.tables.length oc2, .slice oa3 M.mems.length oc3, .slice oa4 M.globs.length oc4, .slice oa5 M.exps.length oc5, .slice oa6 M.elems.length oc6, .slice oa7 M.datas.length oc7] (.slice none 0 0)) := hide hi
  have K8 : Hid ((fun wr G H => OwL 96 TypC 2 (w.heap.size + 3) wr G H M.types (.slice oa0 M.types.length oc0) ∧ OwL 66 FncC 3 (w.heap.size + 3) wr G H M.funcs (.slice oa1 M.funcs.length oc1) ∧ OwL 75 LimC 3 (w.heap.size + 3) wr G H M.tables (.slice oa2 M.tables.length oc2) ∧ OwL 75 LimC 3 (w.heap.size + 3) wr G H M.mems (.slice oa3 M.mems.length oc3) ∧ OwL 77 GloC 10 (w.heap.size + 3) wr G H M.globs (.slice oa4 M.globs.length oc4) ∧ OwL 73 ExoC 3 (w.heap.size + 3) wr G H M.exps (.slice oa5 M.exps.length oc5) ∧ OwL 79 ElmC 10 (w.heap.size + 3) wr G H M.elems (.slice oa6 M.elems.length oc6) ∧ OwL 81 DatC 10 (w.heap.size + 3) wr G H M.datas (.slice oa7 M.datas.length oc7)) W8 G8 H8) := hide ⟨hk.1, hk.2.1, hk.2.2.1, hk.2.2.2.1, hk.2.2.2.2.1, hk.2.2.2.2.2.1, hk.2.2.2.2.2.2, hl⟩
  clear hi hl hk hd7 hH8 I7 K7
  obtain ⟨q0, q1, q2, q3, q4, q5, q6, q7⟩ := Ex.cel8 (unhide I8).bo
  obtain ⟨z0, z1, z2, z3, z4, z5, z6, z7⟩ := Ex.cel8 (unhide I8).br
  have fz : ∀ j, W8.frozen? ⟨w.heap.size + 1, j, none⟩ = false := fun j => frozen_of_row W8 _ j _ _ (unhide I8).br
  have hl3 := (unhide I8).lt
  go_wp2
  obtain ⟨s1, s2⟩ := Ex.set8 (unhide I8).br (.slice oa0 M.types.length oc0) (.slice oa1 M.funcs.length oc1) (.slice oa2 M.tables.length oc2) (.slice oa3 M.mems.length oc3) (.slice oa4 M.globs.length oc4) (.slice oa5 M.exps.length oc5) (.slice oa6 M.elems.length oc6) (.slice oa7 M.datas.length oc7)
  have hB2 := Ex.bel8 (B := w.heap.size + 1) (unhide I8).b (by omega) (.slice oa0 M.types.length oc0) (.slice oa1 M.funcs.length oc1) (.slice oa2 M.tables.length oc2) (.slice oa3 M.mems.length oc3) (.slice oa4 M.globs.length oc4) (.slice oa5 M.exps.length oc5) (.slice oa6 M.elems.length oc6) (.slice oa7 M.datas.length oc7)
  have hsz : ((((((((W8.setCell ⟨w.heap.size + 1, 0, none⟩ (.slice oa0 M.types.length oc0)).setCell ⟨w.heap.size + 1, 1, none⟩ (.slice oa1 M.funcs.length oc1)).setCell ⟨w.heap.size + 1, 2, none⟩ (.slice oa2 M.tables.length oc2)).setCell ⟨w.heap.size + 1, 3, none⟩ (.slice oa3 M.mems.length oc3)).setCell ⟨w.heap.size + 1, 4, none⟩ (.slice oa4 M.globs.length oc4)).setCell ⟨w.heap.size + 1, 5, none⟩ (.slice oa5 M.exps.length oc5)).setCell ⟨w.heap.size + 1, 6, none⟩ (.slice oa6 M.elems.length oc6)).setCell ⟨w.heap.size + 1, 7, none⟩ (.slice oa7 M.datas.length oc7)).heap.size = W8.heap.size := by simp
  have hmv : Mv W8 ((((((((W8.setCell ⟨w.heap.size + 1, 0, none⟩ (.slice oa0 M.types.length oc0)).setCell ⟨w.heap.size + 1, 1, none⟩ (.slice oa1 M.funcs.length oc1)).setCell ⟨w.heap.size + 1, 2, none⟩ (.slice oa2 M.tables.length oc2)).setCell ⟨w.heap.size + 1, 3, none⟩ (.slice oa3 M.mems.length oc3)).setCell ⟨w.heap.size + 1, 4, none⟩ (.slice oa4 M.globs.length oc4)).setCell ⟨w.heap.size + 1, 5, none⟩ (.slice oa5 M.exps.length oc5)).setCell ⟨w.heap.size + 1, 6, none⟩ (.slice oa6 M.elems.length oc6)).setCell ⟨w.heap.size + 1, 7, none⟩ (.slice oa7 M.datas.length oc7)) G8 (fun i => G8 i ∧ Ex.gor g w.heap.size i) := fun i hi hgi => by
    have h := (unhide I8).G1 i hgi
    refine ⟨⟨hgi, ?_⟩, s2 i (by omega)⟩
    rcases h.2.1 with h1 | h1
    · exact .inl ((unhide I8).G2 i hgi h1)
    · exact .inr (by omega)
  have hmh : Mv W8 ((((((((W8.setCell ⟨w.heap.size + 1, 0, none⟩ (.slice oa0 M.types.length oc0)).setCell ⟨w.heap.size + 1, 1, none⟩ (.slice oa1 M.funcs.length oc1)).setCell ⟨w.heap.size + 1, 2, none⟩ (.slice oa2 M.tables.length oc2)).setCell ⟨w.heap.size + 1, 3, none⟩ (.slice oa3 M.mems.length oc3)).setCell ⟨w.heap.size + 1, 4, none⟩ (.slice oa4 M.globs.length oc4)).setCell ⟨w.heap.size + 1, 5, none⟩ (.slice oa5 M.exps.length oc5)).setCell ⟨w.heap.size + 1, 6, none⟩ (.slice oa6 M.elems.length oc6)).setCell ⟨w.heap.size + 1, 7, none⟩ (.slice oa7 M.datas.length oc7)) H8 (fun i => H8 i ∧ w.heap.size + 3 ≤ i) := fun i hi hgi => by
    have h := (unhide I8).H1 i hgi
    exact ⟨⟨hgi, h.2.1⟩, s2 i (by omega)⟩
  generalize ((((((((W8.setCell ⟨w.heap.size + 1, 0, none⟩ (.slice oa0 M.types.length oc0)).setCell ⟨w.heap.size + 1, 1, none⟩ (.slice oa1 M.funcs.length oc1)).setCell ⟨w.heap.size + 1, 2, none⟩ (.slice oa2 M.tables.length oc2)).setCell ⟨w.heap.size + 1, 3, none⟩ (.slice oa3 M.mems.length oc3)).setCell ⟨w.heap.size + 1, 4, none⟩ (.slice oa4 M.globs.length oc4)).setCell ⟨w.heap.size + 1, 5, none⟩ (.slice oa5 M.exps.length oc5)).setCell ⟨w.heap.size + 1, 6, none⟩ (.slice oa6 M.elems.length oc6)).setCell ⟨w.heap.size + 1, 7, none⟩ (.slice oa7 M.datas.length oc7)) = WX at *
  obtain ⟨r0, r1, r2, r3, r4, r5, r6, r7⟩ := Ex.cel8 s1
  have q := unhide K8
  have hO : ModO (w.heap.size + 3) W8 G8 H8 M (.slice oa0 M.types.length oc0) (.slice oa1 M.funcs.length oc1) (.slice oa2 M.tables.length oc2) (.slice oa3 M.mems.length oc3) (.slice oa4 M.globs.length oc4) (.slice oa5 M.exps.length oc5) (.slice oa6 M.elems.length oc6) (.slice oa7 M.datas.length oc7) := ⟨q.1, q.2.1, q.2.2.1, q.2.2.2.1, q.2.2.2.2.1, q.2.2.2.2.2.1, q.2.2.2.2.2.2.1, q.2.2.2.2.2.2.2, (unhide I8).dj, unhide D3⟩
  exact bodyPost_ret (v := .agg #[.slice oa0 M.types.length oc0, .slice oa1 M.funcs.length oc1, .slice oa2 M.tables.length oc2, .slice oa3 M.mems.length oc3, .slice oa4 M.globs.length oc4, .slice oa5 M.exps.length oc5, .slice oa6 M.elems.length oc6, .slice oa7 M.datas.length oc7]) (by simp [results, Tryz.results11, go_sem, r0, r1, r2, r3, r4, r5, r6, r7]) rfl ⟨_, _, _, _, _, _, _, _, rfl, (fun i => G8 i ∧ Ex.gor g w.heap.size i), (fun i => H8 i ∧ w.heap.size + 3 ≤ i), hO.moved hmv hmh (fun k h1 h2 => (unhide I8).dj k h1.1 h2.1), fun k h => h.2, fun k h => h.2, hB2⟩
theorem giveModule_own (M : Mod) (g : Nat → Prop) (v0 v1 v2 v3 v4 v5 v6 v7 : Value) (w : World) (hg : ∀ k, g k → k < w.heap.size) (hM : ModL w g M v0 v1 v2 v3 v4 v5 v6 v7) (hs : SzM M) :
    Calls Tryz.prog 11 #[.agg #[v0, v1, v2, v3, v4, v5, v6, v7]] w fun e w' => ∃ v0' v1' v2' v3' v4' v5' v6' v7', e = .returned (.agg #[v0', v1', v2', v3', v4', v5', v6', v7']) ∧ ModL w' (Ex.gor g w.heap.size) M v0' v1' v2' v3' v4' v5' v6' v7' ∧ OwF (w.heap.size + 3) M.funcs.length v1' w' (Ex.gor g w.heap.size) ∧ Below w.heap.size w w' :=
  (giveModule_all M g v0 v1 v2 v3 v4 v5 v6 v7 w hg hM hs).mono fun e w' ⟨a0, a1, a2, a3, a4, a5, a6, a7, h1, G, H, h2, h3, h4, h5⟩ => ⟨a0, a1, a2, a3, a4, a5, a6, a7, h1, h2.modL h3 (fun k h => .inr (by have := h4 k h; omega)), h2.l1.owF (fun k h => .inr (by have := h4 k h; omega)), h5⟩
theorem giveModule_any (M : Mod) (g : Nat → Prop) (v0 v1 v2 v3 v4 v5 v6 v7 : Value) (w : World) (hg : ∀ k, g k → k < w.heap.size) (hM : ModL w g M v0 v1 v2 v3 v4 v5 v6 v7) (hs : SzM M) :
    Calls Tryz.prog 11 #[.agg #[v0, v1, v2, v3, v4, v5, v6, v7]] w fun e w' => ∃ v0' v1' v2' v3' v4' v5' v6' v7', e = .returned (.agg #[v0', v1', v2', v3', v4', v5', v6', v7']) ∧ ModL w' (Ex.gor g w.heap.size) M v0' v1' v2' v3' v4' v5' v6' v7' ∧ Below w.heap.size w w' :=
  (giveModule_own M g v0 v1 v2 v3 v4 v5 v6 v7 w hg hM hs).mono fun e w' ⟨a0, a1, a2, a3, a4, a5, a6, a7, h1, h2, _, h4⟩ => ⟨a0, a1, a2, a3, a4, a5, a6, a7, h1, h2, h4⟩
end Gm
end Go.Proofs.YtcpknafaocdjdaaGreatDoor
