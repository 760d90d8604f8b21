/- LOut: what follows, part by part: each part tells what it holds. -/
import Derived.Test.YtcpknafaocdjdaaGreatDoorWN
import Derived.Test.YtcpknafaocdjdaaGreatDoorWA
import Derived.Test.YtcpknafaocdjdaaGreatDoorWL
import Derived.Deep.RegionHeld3
import Derived.Deep.MidRow
import Derived.Test.YtcpknafaocdjdaaGreatDoorWD
import Derived.Test.YtcpknafaocdjdaaGreatDoorRows
import Derived.Stop.LaidErr
import Derived.LaidHandle
import Derived.ProofKit
import Derived.OpenShut
import Derived.ShutString
import Derived.ChangeOld
import Derived.ChangeSame
import Derived.ChangeVars
import Derived.JoinedOf
import Derived.RowKit
import Derived.RowKitTokens
import Derived.LaidLaws
import Derived.Stop.Joined
import Derived.Test.YtcpknafaocdjdaaGreatDoorTie
import Derived.Test.YtcpknafaocdjdaaGreatDoorCards
import Derived.WalkKit
import Derived.Below
import Derived.ChangeMaps5
import Derived.Deep.DeepHandedRow

/- ValidOuter: one thing told wrong; how long the lists of a module are that is not big. -/
namespace Go.Proofs.YtcpknafaocdjdaaGreatDoor
open Go.RowKit Go.Shelf
namespace Vw
set_option linter.unusedVariables false
set_option linter.unusedSimpArgs false
open Ex (Ins Lies Lab cnt)
open Gm (Mod Typ Fnc Lim Glo Exo Elm Dat Byts LL ModL TypC FncC WfM SzM)
def con : Ins := ⟨65, 0, 0, 0, 0, [], [], []⟩
/-- one thing told wrong -/
def oum (M : Mod) (k : Nat) : Mod := match k with
  | 0 => { M with exps := M.exps ++ [⟨⟨#[122, 122]⟩, 0, M.funcs.length⟩] }
  | 1 => { M with funcs := M.funcs ++ [⟨M.types.length, [], []⟩] }
  | 2 => { M with tables := M.tables ++ [⟨3, true, 2⟩] }
  | 3 => { M with mems := [⟨0, false, 0⟩, ⟨0, false, 0⟩] }
  | 4 => { M with globs := M.globs ++ [⟨126, false, con⟩] }
  | 5 => { M with elems := M.elems ++ [⟨0, con, [M.funcs.length]⟩] }
  | _ => { M with datas := M.datas ++ [⟨1, con, []⟩] }
theorem thr_self (n : Nat) : thr n (n : Int) = false := by simp [thr]
theorem oum_lims {M : Mod} (h : lims M = true) (k : Nat) : lims (oum M k) = true := by
  unfold lims at h ⊢
  simp only [Bool.and_eq_true] at h ⊢
  match k with
  | 0 | 1 | 4 | 5 => exact h
  | 2 => exact ⟨by simp only [oum, List.all_append, h.1]; rfl, h.2⟩
  | 3 => exact ⟨h.1, rfl⟩
  | k + 6 => exact h
theorem and_f (a : Bool) : (a && false) = false := Bool.and_false a
theorem oum_parts {M : Mod} (k : Nat) : parts (oum M k) = false := by
  unfold parts
  match k with
  | 0 =>
    have h : expOk (oum M 0) = false := by
      have : tgt (oum M 0) 0 (M.funcs.length : Int) = false := by
        simp only [tgt, if_pos rfl]; exact thr_self _
      simp only [expOk]
      have e : (oum M 0).exps = M.exps ++ [⟨⟨#[122, 122]⟩, 0, M.funcs.length⟩] := rfl
      rw [e, List.all_append]
      simp only [List.all_cons, List.all_nil, this, Bool.false_and, Bool.and_false]
    simp only [h, Bool.false_and, Bool.and_false]
  | 1 =>
    have h : (oum M 1).funcs.all (fun f => thr (oum M 1).types.length f.ty) = false := by
      have e : (oum M 1).funcs = M.funcs ++ [⟨M.types.length, [], []⟩] := rfl
      have e2 : (oum M 1).types = M.types := rfl
      rw [e, e2, List.all_append]
      simp only [List.all_cons, List.all_nil, thr_self, Bool.false_and, Bool.and_false]
    simp only [h, Bool.false_and, Bool.and_false]
  | 2 =>
    have h : (oum M 2).tables.all bnd = false := by
      have e : (oum M 2).tables = M.tables ++ [⟨3, true, 2⟩] := rfl
      rw [e, List.all_append]
      have : bnd ⟨3, true, 2⟩ = false := rfl
      simp only [List.all_cons, List.all_nil, this, Bool.false_and, Bool.and_false]
    simp only [h, Bool.false_and, Bool.and_false]
  | 3 =>
    have h : decide ((oum M 3).mems.length ≤ 1) = false := rfl
    simp only [h, Bool.false_and, Bool.and_false]
  | 4 =>
    have h : (oum M 4).globs.all (fun x => cst x.ini.op x.kd) = false := by
      have e : (oum M 4).globs = M.globs ++ [⟨126, false, con⟩] := rfl
      rw [e, List.all_append]
      have : cst 65 126 = false := by kernel_rfl
      simp only [List.all_cons, List.all_nil, con, this, Bool.false_and, Bool.and_false]
    simp only [h, Bool.false_and, Bool.and_false]
  | 5 =>
    have h : (oum M 5).elems.all (fun e => elm (oum M 5) e.tb e.off.op e.fs) = false := by
      have e : (oum M 5).elems = M.elems ++ [⟨0, con, [M.funcs.length]⟩] := rfl
      rw [e, List.all_append]
      have : elm (oum M 5) 0 65 [(M.funcs.length : Int)] = false := by
        have e2 : (oum M 5).funcs = M.funcs := rfl
        simp only [elm, e2, List.all_cons, List.all_nil, thr_self, Bool.false_and, Bool.and_false]
      simp only [List.all_cons, List.all_nil, con, this, Bool.false_and, Bool.and_false]
    simp only [h, Bool.false_and, Bool.and_false]
  | k + 6 =>
    have h : (oum M (k + 6)).datas.all (fun d => dat (oum M (k + 6)) d.tb d.off.op) = false := by
      have e : (oum M (k + 6)).datas = M.datas ++ [⟨1, con, []⟩] := rfl
      rw [e, List.all_append]
      have : dat (oum M (k + 6)) 1 65 = false := by
        have h1 : ((1 : Int) == 0) = false := by decide
        simp only [dat, h1, Bool.false_and]
      simp only [List.all_cons, List.all_nil, con, this, Bool.false_and, Bool.and_false]
    simp only [h, Bool.false_and, Bool.and_false]
/-- so Check says BadData, of no function -/
theorem oum_no {M : Mod} {e : Ending} {k : Nat} (h : lims M = true) (hc : ChP (oum M k) e) : e = .returned (.tuple #[.int .i64 (-1), errV 7]) := by
  obtain ⟨a, r, rfl, h1 | h1 | h1⟩ := hc
  · rw [oum_lims h] at h1; cases h1.1
  · obtain ⟨-, -, rfl, rfl⟩ := h1; rfl
  · rw [oum_parts] at h1; cases h1.2.2.1
/-- a module that is not big has short lists -/
def Short (M : Mod) : Prop := M.types.length ≤ 300 ∧ M.funcs.length ≤ 300 ∧ M.tables.length ≤ 300 ∧ M.mems.length ≤ 300 ∧ M.globs.length ≤ 300 ∧ M.exps.length ≤ 300 ∧ M.elems.length ≤ 300 ∧ M.datas.length ≤ 300
def BgP (M : Mod) (e : Ending) : Prop := ∃ b : Bool, e = .returned (.bool b) ∧ (b = false → Short M)
set_option maxRecDepth 1000000 in
set_option maxHeartbeats 6400000 in
theorem big_len (M : Mod) (g : Nat → Prop) (v0 v1 v2 v3 v4 v5 v6 v7 : Value) (w : World) (hM : ModL w g M v0 v1 v2 v3 v4 v5 v6 v7) (hs : SzM M) :
    Calls Tryz.prog 9 #[.agg #[v0, v1, v2, v3, v4, v5, v6, v7]] w fun e w' => BgP M e ∧ Below w.heap.size w w' := by
  by_cases hS : Short M
  · refine (Gm.big_any M g v0 v1 v2 v3 v4 v5 v6 v7 w hM hs).mono ?_
    rintro e w' ⟨⟨b, rfl⟩, hb⟩
    exact ⟨⟨b, rfl, fun _ => hS⟩, hb⟩
  obtain ⟨h0, h1, h2, h3, h4, h5, h6, h7⟩ := hM
  obtain ⟨sa0, sc0, rfl, -⟩ := h0
  obtain ⟨sa1, sc1, rfl, -⟩ := h1
  obtain ⟨sa2, sc2, rfl, -⟩ := h2
  obtain ⟨sa3, sc3, rfl, -⟩ := h3
  obtain ⟨sa4, sc4, rfl, -⟩ := h4
  obtain ⟨sa5, sc5, rfl, -⟩ := h5
  obtain ⟨sa6, sc6, rfl, -⟩ := h6
  obtain ⟨sa7, sc7, rfl, -⟩ := h7
  clear hs
  by_cases c0 : (M.types.length : Int) > 300
  · go_enter Tryz.func9, Tryz.ntmps9
    go_wp2
    go_ret
    exact ⟨⟨true, rfl, fun h => absurd h (by decide)⟩, (Below.refl w.heap.size w).alloc (Nat.le_refl _) _⟩
  by_cases c1 : (M.funcs.length : Int) > 300
  · go_enter Tryz.func9, Tryz.ntmps9
    go_wp2
    go_ret
    exact ⟨⟨true, rfl, fun h => absurd h (by decide)⟩, (Below.refl w.heap.size w).alloc (Nat.le_refl _) _⟩
  by_cases c2 : (M.tables.length : Int) > 300
  · go_enter Tryz.func9, Tryz.ntmps9
    go_wp2
    go_ret
    exact ⟨⟨true, rfl, fun h => absurd h (by decide)⟩, (Below.refl w.heap.size w).alloc (Nat.le_refl _) _⟩
  by_cases c3 : (M.mems.length : Int) > 300
  · go_enter Tryz.func9, Tryz.ntmps9
    go_wp2
    go_ret
    exact ⟨⟨true, rfl, fun h => absurd h (by decide)⟩, (Below.refl w.heap.size w).alloc (Nat.le_refl _) _⟩
  by_cases c4 : (M.globs.length : Int) > 300
  · go_enter Tryz.func9, Tryz.ntmps9
    go_wp2
    go_ret
    exact ⟨⟨true, rfl, fun h => absurd h (by decide)⟩, (Below.refl w.heap.size w).alloc (Nat.le_refl _) _⟩
  by_cases c5 : (M.exps.length : Int) > 300
  · go_enter Tryz.func9, Tryz.ntmps9
    go_wp2
    go_ret
    exact ⟨⟨true, rfl, fun h => absurd h (by decide)⟩, (Below.refl w.heap.size w).alloc (Nat.le_refl _) _⟩
  by_cases c6 : (M.elems.length : Int) > 300
  · go_enter Tryz.func9, Tryz.ntmps9
    go_wp2
    go_ret
    exact ⟨⟨true, rfl, fun h => absurd h (by decide)⟩, (Below.refl w.heap.size w).alloc (Nat.le_refl _) _⟩
  by_cases c7 : (M.datas.length : Int) > 300
  · go_enter Tryz.func9, Tryz.ntmps9
    go_wp2
    go_ret
    exact ⟨⟨true, rfl, fun h => absurd h (by decide)⟩, (Below.refl w.heap.size w).alloc (Nat.le_refl _) _⟩
  exact absurd (show Short M from ⟨by omega, by omega, by omega, by omega, by omega, by omega, by omega, by omega⟩) hS
end Vw
end Go.Proofs.YtcpknafaocdjdaaGreatDoor

/- A module whose rows are the call's own: an item more in one of them. By mkou.py. -/
namespace Go.Proofs.YtcpknafaocdjdaaGreatDoor
open Go.RowKit Go.Shelf
namespace Vw
set_option linter.unusedVariables false
set_option linter.unusedSimpArgs false
open Ex (Ins Lies Lab cnt)
open Gm (Mod Typ Fnc Lim Glo Exo Elm Dat Byts LL ModL TypC FncC LimC GloC ExoC ElmC DatC InsC WfM SzM ModO OwL Its Mv)
/-- rows of two types lie in two blocks -/
theorem rows_ne {w : World} {B B' T T' c c' n n' : Nat} {v v' : Value} {xs xs' : List Value} (h : w.ownsRow B T c v n xs) (h' : w.ownsRow B' T' c' v' n' xs') (hT : T ≠ T') (i : Nat) (hi : v.ownBlock = some i) : v'.ownBlock ≠ some i := fun hi' => by
  rcases h.2 with ⟨rfl, _⟩ | ⟨g, cap, cur, rfl, _, e3, _⟩
  · simp [Value.ownBlock] at hi
  rcases h'.2 with ⟨rfl, _⟩ | ⟨g', cap', cur', rfl, _, e3', _⟩
  · simp [Value.ownBlock] at hi'
  have a1 : g = i := by simpa [Value.ownBlock] using hi
  have a2 : g' = i := by simpa [Value.ownBlock] using hi'
  subst a1; subst a2
  rw [e3] at e3'
  injection e3' with e
  injection e with _ e _
  exact hT e
theorem _root_.Go.Proofs.YtcpknafaocdjdaaGreatDoor.Gm.OwL.ll2 {α : Type} {T : TypeId} {It : World → (Nat → Prop) → α → List Value → Prop} {c B : Nat} {wr : World} {G H K : Nat → Prop} {l : List α} {v : Value} (h : OwL T It c B wr G H l v) (hI : ∀ x cs, It wr G x cs → It wr K x cs) (hK : ∀ i, v.ownBlock = some i → K i) : LL It c wr K l v := by
  obtain ⟨⟨xs, ho, hi⟩, hG⟩ := h
  exact LL.made ho (hi.mono hI) hK
/-- what does not lie in the row that grows stays -/
theorem mv_grown {w wa wx : World} {u : Value} (hb : Below w.heap.size w wa) (hgr : wa.grownBy wx u.ownBlock) : Mv w wx (fun i => u.ownBlock ≠ some i) (fun b => b < wx.heap.size ∧ b ≠ w.heap.size) := fun k hk hu => by
  have h1 := hb.size
  have h2 := hgr.size
  exact ⟨⟨by omega, by omega⟩, (hgr.block k (by omega) (fun e => hu e.symm)).trans (hb.block k hk)⟩
theorem pu_5 {B B' : Nat} {w wa wx : World} {G H : Nat → Prop} {M : Mod} {v0 v1 v2 v3 v4 v5 v6 v7 : Value} {x : Exo} {cs xs : List Value} {gg cap : Nat} (h : ModO B w G H M v0 v1 v2 v3 v4 v5 v6 v7) (hit : Its (ExoC w G) 3 M.exps xs) (hb : Below w.heap.size w wa) (hgr : wa.grownBy wx v5.ownBlock)
    (hown : wx.ownsRow B' 73 3 (.slice (some ⟨gg, 0, none⟩) (M.exps.length + 1) cap) (M.exps.length + 1) (xs ++ cs)) (hne : gg ≠ w.heap.size) (hx : ExoC wx (fun b => b < wx.heap.size ∧ b ≠ w.heap.size) x cs) (hc : cs.length = 3) :
    ModL wx (fun b => b < wx.heap.size ∧ b ≠ w.heap.size) { M with exps := M.exps ++ [x] } v0 v1 v2 v3 v4 (.slice (some ⟨gg, 0, none⟩) (M.exps.length + 1) cap) v6 v7 := by
  have hm := mv_grown hb hgr
  have hs : w.heap.size ≤ wx.heap.size := by have := hb.size; have := hgr.size; omega
  have hGK : ∀ i, G i → v5.ownBlock ≠ some i := fun i hi e => h.dj i hi (h.l5.2 i e)
  have mK : Mv w w G (fun i => v5.ownBlock ≠ some i) := fun i _ hi => ⟨hGK i hi, rfl⟩
  refine ⟨(h.l0.ll2 (fun _ _ p => TypC.moved mK p) (rows_ne h.l0.1.choose_spec.1 h.l5.1.choose_spec.1 (by decide))).moved hm hs (fun _ _ p => TypC.moved hm p), (h.l1.ll2 (fun _ _ p => FncC.moved mK p) (rows_ne h.l1.1.choose_spec.1 h.l5.1.choose_spec.1 (by decide))).moved hm hs (fun _ _ p => FncC.moved hm p), (h.l2.ll2 (fun _ _ p => LimC.moved mK p) (rows_ne h.l2.1.choose_spec.1 h.l5.1.choose_spec.1 (by decide))).moved hm hs (fun _ _ p => LimC.moved hm p), (h.l3.ll2 (fun _ _ p => LimC.moved mK p) (rows_ne h.l3.1.choose_spec.1 h.l5.1.choose_spec.1 (by decide))).moved hm hs (fun _ _ p => LimC.moved hm p), (h.l4.ll2 (fun _ _ p => GloC.moved mK p) (rows_ne h.l4.1.choose_spec.1 h.l5.1.choose_spec.1 (by decide))).moved hm hs (fun _ _ p => GloC.moved hm p), ?_, (h.l6.ll2 (fun _ _ p => ElmC.moved mK p) (rows_ne h.l6.1.choose_spec.1 h.l5.1.choose_spec.1 (by decide))).moved hm hs (fun _ _ p => ElmC.moved hm p), (h.l7.ll2 (fun _ _ p => DatC.moved mK p) (rows_ne h.l7.1.choose_spec.1 h.l5.1.choose_spec.1 (by decide))).moved hm hs (fun _ _ p => DatC.moved hm p)⟩
  have mG : Mv w wx G (fun b => b < wx.heap.size ∧ b ≠ w.heap.size) := fun i hi hg => hm i hi (hGK i hg)
  have hl : (M.exps ++ [x]).length = M.exps.length + 1 := by simp
  have hown2 : wx.ownsRow B' 73 3 (.slice (some ⟨gg, 0, none⟩) (M.exps.length + 1) cap) (M.exps ++ [x]).length (xs ++ cs) := by rw [hl]; exact hown
  exact LL.made hown2 ((hit.mono fun _ _ p => ExoC.moved mG p).snoc hx hc) (fun i hi => by
    have e : gg = i := by simpa [Value.ownBlock] using hi
    have := (hown.lt i hi).2
    exact ⟨this, by omega⟩)
theorem pu_1 {B B' : Nat} {w wa wx : World} {G H : Nat → Prop} {M : Mod} {v0 v1 v2 v3 v4 v5 v6 v7 : Value} {x : Fnc} {cs xs : List Value} {gg cap : Nat} (h : ModO B w G H M v0 v1 v2 v3 v4 v5 v6 v7) (hit : Its (FncC w G) 3 M.funcs xs) (hb : Below w.heap.size w wa) (hgr : wa.grownBy wx v1.ownBlock)
    (hown : wx.ownsRow B' 66 3 (.slice (some ⟨gg, 0, none⟩) (M.funcs.length + 1) cap) (M.funcs.length + 1) (xs ++ cs)) (hne : gg ≠ w.heap.size) (hx : FncC wx (fun b => b < wx.heap.size ∧ b ≠ w.heap.size) x cs) (hc : cs.length = 3) :
    ModL wx (fun b => b < wx.heap.size ∧ b ≠ w.heap.size) { M with funcs := M.funcs ++ [x] } v0 (.slice (some ⟨gg, 0, none⟩) (M.funcs.length + 1) cap) v2 v3 v4 v5 v6 v7 := by
  have hm := mv_grown hb hgr
  have hs : w.heap.size ≤ wx.heap.size := by have := hb.size; have := hgr.size; omega
  have hGK : ∀ i, G i → v1.ownBlock ≠ some i := fun i hi e => h.dj i hi (h.l1.2 i e)
  have mK : Mv w w G (fun i => v1.ownBlock ≠ some i) := fun i _ hi => ⟨hGK i hi, rfl⟩
  refine ⟨(h.l0.ll2 (fun _ _ p => TypC.moved mK p) (rows_ne h.l0.1.choose_spec.1 h.l1.1.choose_spec.1 (by decide))).moved hm hs (fun _ _ p => TypC.moved hm p), ?_, (h.l2.ll2 (fun _ _ p => LimC.moved mK p) (rows_ne h.l2.1.choose_spec.1 h.l1.1.choose_spec.1 (by decide))).moved hm hs (fun _ _ p => LimC.moved hm p), (h.l3.ll2 (fun _ _ p => LimC.moved mK p) (rows_ne h.l3.1.choose_spec.1 h.l1.1.choose_spec.1 (by decide))).moved hm hs (fun _ _ p => LimC.moved hm p), (h.l4.ll2 (fun _ _ p => GloC.moved mK p) (rows_ne h.l4.1.choose_spec.1 h.l1.1.choose_spec.1 (by decide))).moved hm hs (fun _ _ p => GloC.moved hm p), (h.l5.ll2 (fun _ _ p => ExoC.moved mK p) (rows_ne h.l5.1.choose_spec.1 h.l1.1.choose_spec.1 (by decide))).moved hm hs (fun _ _ p => ExoC.moved hm p), (h.l6.ll2 (fun _ _ p => ElmC.moved mK p) (rows_ne h.l6.1.choose_spec.1 h.l1.1.choose_spec.1 (by decide))).moved hm hs (fun _ _ p => ElmC.moved hm p), (h.l7.ll2 (fun _ _ p => DatC.moved mK p) (rows_ne h.l7.1.choose_spec.1 h.l1.1.choose_spec.1 (by decide))).moved hm hs (fun _ _ p => DatC.moved hm p)⟩
  have mG : Mv w wx G (fun b => b < wx.heap.size ∧ b ≠ w.heap.size) := fun i hi hg => hm i hi (hGK i hg)
  have hl : (M.funcs ++ [x]).length = M.funcs.length + 1 := by simp
  have hown2 : wx.ownsRow B' 66 3 (.slice (some ⟨gg, 0, none⟩) (M.funcs.length + 1) cap) (M.funcs ++ [x]).length (xs ++ cs) := by rw [hl]; exact hown
  exact LL.made hown2 ((hit.mono fun _ _ p => FncC.moved mG p).snoc hx hc) (fun i hi => by
    have e : gg = i := by simpa [Value.ownBlock] using hi
    have := (hown.lt i hi).2
    exact ⟨this, by omega⟩)
theorem pu_2 {B B' : Nat} {w wa wx : World} {G H : Nat → Prop} {M : Mod} {v0 v1 v2 v3 v4 v5 v6 v7 : Value} {x : Lim} {cs xs : List Value} {gg cap : Nat} (h : ModO B w G H M v0 v1 v2 v3 v4 v5 v6 v7) (hit : Its (LimC w G) 3 M.tables xs) (hb : Below w.heap.size w wa) (hgr : wa.grownBy wx v2.ownBlock)
    (hown : wx.ownsRow B' 75 3 (.slice (some ⟨gg, 0, none⟩) (M.tables.length + 1) cap) (M.tables.length + 1) (xs ++ cs)) (hne : gg ≠ w.heap.size) (hx : LimC wx (fun b => b < wx.heap.size ∧ b ≠ w.heap.size) x cs) (hc : cs.length = 3) :
    ModL wx (fun b => b < wx.heap.size ∧ b ≠ w.heap.size) { M with tables := M.tables ++ [x] } v0 v1 (.slice (some ⟨gg, 0, none⟩) (M.tables.length + 1) cap) v3 v4 v5 v6 v7 := by
  have hm := mv_grown hb hgr
  have hs : w.heap.size ≤ wx.heap.size := by have := hb.size; have := hgr.size; omega
  have hGK : ∀ i, G i → v2.ownBlock ≠ some i := fun i hi e => h.dj i hi (h.l2.2 i e)
  have mK : Mv w w G (fun i => v2.ownBlock ≠ some i) := fun i _ hi => ⟨hGK i hi, rfl⟩
  refine ⟨(h.l0.ll2 (fun _ _ p => TypC.moved mK p) (rows_ne h.l0.1.choose_spec.1 h.l2.1.choose_spec.1 (by decide))).moved hm hs (fun _ _ p => TypC.moved hm p), (h.l1.ll2 (fun _ _ p => FncC.moved mK p) (rows_ne h.l1.1.choose_spec.1 h.l2.1.choose_spec.1 (by decide))).moved hm hs (fun _ _ p => FncC.moved hm p), ?_, (h.l3.ll2 (fun _ _ p => LimC.moved mK p) (fun i hi e => h.d23 i e hi)).moved hm hs (fun _ _ p => LimC.moved hm p), (h.l4.ll2 (fun _ _ p => GloC.moved mK p) (rows_ne h.l4.1.choose_spec.1 h.l2.1.choose_spec.1 (by decide))).moved hm hs (fun _ _ p => GloC.moved hm p), (h.l5.ll2 (fun _ _ p => ExoC.moved mK p) (rows_ne h.l5.1.choose_spec.1 h.l2.1.choose_spec.1 (by decide))).moved hm hs (fun _ _ p => ExoC.moved hm p), (h.l6.ll2 (fun _ _ p => ElmC.moved mK p) (rows_ne h.l6.1.choose_spec.1 h.l2.1.choose_spec.1 (by decide))).moved hm hs (fun _ _ p => ElmC.moved hm p), (h.l7.ll2 (fun _ _ p => DatC.moved mK p) (rows_ne h.l7.1.choose_spec.1 h.l2.1.choose_spec.1 (by decide))).moved hm hs (fun _ _ p => DatC.moved hm p)⟩
  have mG : Mv w wx G (fun b => b < wx.heap.size ∧ b ≠ w.heap.size) := fun i hi hg => hm i hi (hGK i hg)
  have hl : (M.tables ++ [x]).length = M.tables.length + 1 := by simp
  have hown2 : wx.ownsRow B' 75 3 (.slice (some ⟨gg, 0, none⟩) (M.tables.length + 1) cap) (M.tables ++ [x]).length (xs ++ cs) := by rw [hl]; exact hown
  exact LL.made hown2 ((hit.mono fun _ _ p => LimC.moved mG p).snoc hx hc) (fun i hi => by
    have e : gg = i := by simpa [Value.ownBlock] using hi
    have := (hown.lt i hi).2
    exact ⟨this, by omega⟩)
theorem pu_4 {B B' : Nat} {w wa wx : World} {G H : Nat → Prop} {M : Mod} {v0 v1 v2 v3 v4 v5 v6 v7 : Value} {x : Glo} {cs xs : List Value} {gg cap : Nat} (h : ModO B w G H M v0 v1 v2 v3 v4 v5 v6 v7) (hit : Its (GloC w G) 10 M.globs xs) (hb : Below w.heap.size w wa) (hgr : wa.grownBy wx v4.ownBlock)
    (hown : wx.ownsRow B' 77 10 (.slice (some ⟨gg, 0, none⟩) (M.globs.length + 1) cap) (M.globs.length + 1) (xs ++ cs)) (hne : gg ≠ w.heap.size) (hx : GloC wx (fun b => b < wx.heap.size ∧ b ≠ w.heap.size) x cs) (hc : cs.length = 10) :
    ModL wx (fun b => b < wx.heap.size ∧ b ≠ w.heap.size) { M with globs := M.globs ++ [x] } v0 v1 v2 v3 (.slice (some ⟨gg, 0, none⟩) (M.globs.length + 1) cap) v5 v6 v7 := by
  have hm := mv_grown hb hgr
  have hs : w.heap.size ≤ wx.heap.size := by have := hb.size; have := hgr.size; omega
  have hGK : ∀ i, G i → v4.ownBlock ≠ some i := fun i hi e => h.dj i hi (h.l4.2 i e)
  have mK : Mv w w G (fun i => v4.ownBlock ≠ some i) := fun i _ hi => ⟨hGK i hi, rfl⟩
  refine ⟨(h.l0.ll2 (fun _ _ p => TypC.moved mK p) (rows_ne h.l0.1.choose_spec.1 h.l4.1.choose_spec.1 (by decide))).moved hm hs (fun _ _ p => TypC.moved hm p), (h.l1.ll2 (fun _ _ p => FncC.moved mK p) (rows_ne h.l1.1.choose_spec.1 h.l4.1.choose_spec.1 (by decide))).moved hm hs (fun _ _ p => FncC.moved hm p), (h.l2.ll2 (fun _ _ p => LimC.moved mK p) (rows_ne h.l2.1.choose_spec.1 h.l4.1.choose_spec.1 (by decide))).moved hm hs (fun _ _ p => LimC.moved hm p), (h.l3.ll2 (fun _ _ p => LimC.moved mK p) (rows_ne h.l3.1.choose_spec.1 h.l4.1.choose_spec.1 (by decide))).moved hm hs (fun _ _ p => LimC.moved hm p), ?_, (h.l5.ll2 (fun _ _ p => ExoC.moved mK p) (rows_ne h.l5.1.choose_spec.1 h.l4.1.choose_spec.1 (by decide))).moved hm hs (fun _ _ p => ExoC.moved hm p), (h.l6.ll2 (fun _ _ p => ElmC.moved mK p) (rows_ne h.l6.1.choose_spec.1 h.l4.1.choose_spec.1 (by decide))).moved hm hs (fun _ _ p => ElmC.moved hm p), (h.l7.ll2 (fun _ _ p => DatC.moved mK p) (rows_ne h.l7.1.choose_spec.1 h.l4.1.choose_spec.1 (by decide))).moved hm hs (fun _ _ p => DatC.moved hm p)⟩
  have mG : Mv w wx G (fun b => b < wx.heap.size ∧ b ≠ w.heap.size) := fun i hi hg => hm i hi (hGK i hg)
  have hl : (M.globs ++ [x]).length = M.globs.length + 1 := by simp
  have hown2 : wx.ownsRow B' 77 10 (.slice (some ⟨gg, 0, none⟩) (M.globs.length + 1) cap) (M.globs ++ [x]).length (xs ++ cs) := by rw [hl]; exact hown
  exact LL.made hown2 ((hit.mono fun _ _ p => GloC.moved mG p).snoc hx hc) (fun i hi => by
    have e : gg = i := by simpa [Value.ownBlock] using hi
    have := (hown.lt i hi).2
    exact ⟨this, by omega⟩)
theorem pu_6 {B B' : Nat} {w wa wx : World} {G H : Nat → Prop} {M : Mod} {v0 v1 v2 v3 v4 v5 v6 v7 : Value} {x : Elm} {cs xs : List Value} {gg cap : Nat} (h : ModO B w G H M v0 v1 v2 v3 v4 v5 v6 v7) (hit : Its (ElmC w G) 10 M.elems xs) (hb : Below w.heap.size w wa) (hgr : wa.grownBy wx v6.ownBlock)
    (hown : wx.ownsRow B' 79 10 (.slice (some ⟨gg, 0, none⟩) (M.elems.length + 1) cap) (M.elems.length + 1) (xs ++ cs)) (hne : gg ≠ w.heap.size) (hx : ElmC wx (fun b => b < wx.heap.size ∧ b ≠ w.heap.size) x cs) (hc : cs.length = 10) :
    ModL wx (fun b => b < wx.heap.size ∧ b ≠ w.heap.size) { M with elems := M.elems ++ [x] } v0 v1 v2 v3 v4 v5 (.slice (some ⟨gg, 0, none⟩) (M.elems.length + 1) cap) v7 := by
  have hm := mv_grown hb hgr
  have hs : w.heap.size ≤ wx.heap.size := by have := hb.size; have := hgr.size; omega
  have hGK : ∀ i, G i → v6.ownBlock ≠ some i := fun i hi e => h.dj i hi (h.l6.2 i e)
  have mK : Mv w w G (fun i => v6.ownBlock ≠ some i) := fun i _ hi => ⟨hGK i hi, rfl⟩
  refine ⟨(h.l0.ll2 (fun _ _ p => TypC.moved mK p) (rows_ne h.l0.1.choose_spec.1 h.l6.1.choose_spec.1 (by decide))).moved hm hs (fun _ _ p => TypC.moved hm p), (h.l1.ll2 (fun _ _ p => FncC.moved mK p) (rows_ne h.l1.1.choose_spec.1 h.l6.1.choose_spec.1 (by decide))).moved hm hs (fun _ _ p => FncC.moved hm p), (h.l2.ll2 (fun _ _ p => LimC.moved mK p) (rows_ne h.l2.1.choose_spec.1 h.l6.1.choose_spec.1 (by decide))).moved hm hs (fun _ _ p => LimC.moved hm p), (h.l3.ll2 (fun _ _ p => LimC.moved mK p) (rows_ne h.l3.1.choose_spec.1 h.l6.1.choose_spec.1 (by decide))).moved hm hs (fun _ _ p => LimC.moved hm p), (h.l4.ll2 (fun _ _ p => GloC.moved mK p) (rows_ne h.l4.1.choose_spec.1 h.l6.1.choose_spec.1 (by decide))).moved hm hs (fun _ _ p => GloC.moved hm p), (h.l5.ll2 (fun _ _ p => ExoC.moved mK p) (rows_ne h.l5.1.choose_spec.1 h.l6.1.choose_spec.1 (by decide))).moved hm hs (fun _ _ p => ExoC.moved hm p), ?_, (h.l7.ll2 (fun _ _ p => DatC.moved mK p) (rows_ne h.l7.1.choose_spec.1 h.l6.1.choose_spec.1 (by decide))).moved hm hs (fun _ _ p => DatC.moved hm p)⟩
  have mG : Mv w wx G (fun b => b < wx.heap.size ∧ b ≠ w.heap.size) := fun i hi hg => hm i hi (hGK i hg)
  have hl : (M.elems ++ [x]).length = M.elems.length + 1 := by simp
  have hown2 : wx.ownsRow B' 79 10 (.slice (some ⟨gg, 0, none⟩) (M.elems.length + 1) cap) (M.elems ++ [x]).length (xs ++ cs) := by rw [hl]; exact hown
  exact LL.made hown2 ((hit.mono fun _ _ p => ElmC.moved mG p).snoc hx hc) (fun i hi => by
    have e : gg = i := by simpa [Value.ownBlock] using hi
    have := (hown.lt i hi).2
    exact ⟨this, by omega⟩)
theorem pu_7 {B B' : Nat} {w wa wx : World} {G H : Nat → Prop} {M : Mod} {v0 v1 v2 v3 v4 v5 v6 v7 : Value} {x : Dat} {cs xs : List Value} {gg cap : Nat} (h : ModO B w G H M v0 v1 v2 v3 v4 v5 v6 v7) (hit : Its (DatC w G) 10 M.datas xs) (hb : Below w.heap.size w wa) (hgr : wa.grownBy wx v7.ownBlock)
    (hown : wx.ownsRow B' 81 10 (.slice (some ⟨gg, 0, none⟩) (M.datas.length + 1) cap) (M.datas.length + 1) (xs ++ cs)) (hne : gg ≠ w.heap.size) (hx : DatC wx (fun b => b < wx.heap.size ∧ b ≠ w.heap.size) x cs) (hc : cs.length = 10) :
    ModL wx (fun b => b < wx.heap.size ∧ b ≠ w.heap.size) { M with datas := M.datas ++ [x] } v0 v1 v2 v3 v4 v5 v6 (.slice (some ⟨gg, 0, none⟩) (M.datas.length + 1) cap) := by
  have hm := mv_grown hb hgr
  have hs : w.heap.size ≤ wx.heap.size := by have := hb.size; have := hgr.size; omega
  have hGK : ∀ i, G i → v7.ownBlock ≠ some i := fun i hi e => h.dj i hi (h.l7.2 i e)
  have mK : Mv w w G (fun i => v7.ownBlock ≠ some i) := fun i _ hi => ⟨hGK i hi, rfl⟩
  refine ⟨(h.l0.ll2 (fun _ _ p => TypC.moved mK p) (rows_ne h.l0.1.choose_spec.1 h.l7.1.choose_spec.1 (by decide))).moved hm hs (fun _ _ p => TypC.moved hm p), (h.l1.ll2 (fun _ _ p => FncC.moved mK p) (rows_ne h.l1.1.choose_spec.1 h.l7.1.choose_spec.1 (by decide))).moved hm hs (fun _ _ p => FncC.moved hm p), (h.l2.ll2 (fun _ _ p => LimC.moved mK p) (rows_ne h.l2.1.choose_spec.1 h.l7.1.choose_spec.1 (by decide))).moved hm hs (fun _ _ p => LimC.moved hm p), (h.l3.ll2 (fun _ _ p => LimC.moved mK p) (rows_ne h.l3.1.choose_spec.1 h.l7.1.choose_spec.1 (by decide))).moved hm hs (fun _ _ p => LimC.moved hm p), (h.l4.ll2 (fun _ _ p => GloC.moved mK p) (rows_ne h.l4.1.choose_spec.1 h.l7.1.choose_spec.1 (by decide))).moved hm hs (fun _ _ p => GloC.moved hm p), (h.l5.ll2 (fun _ _ p => ExoC.moved mK p) (rows_ne h.l5.1.choose_spec.1 h.l7.1.choose_spec.1 (by decide))).moved hm hs (fun _ _ p => ExoC.moved hm p), (h.l6.ll2 (fun _ _ p => ElmC.moved mK p) (rows_ne h.l6.1.choose_spec.1 h.l7.1.choose_spec.1 (by decide))).moved hm hs (fun _ _ p => ElmC.moved hm p), ?_⟩
  have mG : Mv w wx G (fun b => b < wx.heap.size ∧ b ≠ w.heap.size) := fun i hi hg => hm i hi (hGK i hg)
  have hl : (M.datas ++ [x]).length = M.datas.length + 1 := by simp
  have hown2 : wx.ownsRow B' 81 10 (.slice (some ⟨gg, 0, none⟩) (M.datas.length + 1) cap) (M.datas ++ [x]).length (xs ++ cs) := by rw [hl]; exact hown
  exact LL.made hown2 ((hit.mono fun _ _ p => DatC.moved mG p).snoc hx hc) (fun i hi => by
    have e : gg = i := by simpa [Value.ownBlock] using hi
    have := (hown.lt i hi).2
    exact ⟨this, by omega⟩)
theorem pu_3 {B : Nat} {w wx : World} {G H : Nat → Prop} {M : Mod} {v0 v1 v2 v3 v4 v5 v6 v7 : Value} {bb : Nat} (h : ModO B w G H M v0 v1 v2 v3 v4 v5 v6 v7) (hb : Below w.heap.size w wx) (hbb : w.heap.size < bb) (hr : wx.heap[bb]? = some (.cells #[.int .u32 0, .bool false, .int .u32 0, .int .u32 0, .bool false, .int .u32 0] 75 (0, 0))) :
    ModL wx (fun b => b < wx.heap.size ∧ b ≠ w.heap.size) { M with mems := [⟨0, false, 0⟩, ⟨0, false, 0⟩] } v0 v1 v2 (.slice (some ⟨bb, 0, none⟩) 2 2) v4 v5 v6 v7 := by
  have hs := hb.size
  have hlt := (Array.getElem?_eq_some_iff.1 hr).1
  have mK : Mv w w G (fun i => i < w.heap.size) := fun i hi _ => ⟨hi, rfl⟩
  have hm : Mv w wx (fun i => i < w.heap.size) (fun b => b < wx.heap.size ∧ b ≠ w.heap.size) := fun i hi _ => ⟨⟨by omega, by omega⟩, hb.block i hi⟩
  refine ⟨(h.l0.ll2 (K := fun i => i < w.heap.size) (fun _ _ p => TypC.moved mK p) (fun i hi => (h.l0.1.choose_spec.1.lt i hi).2)).moved hm hs (fun _ _ p => TypC.moved hm p), (h.l1.ll2 (K := fun i => i < w.heap.size) (fun _ _ p => FncC.moved mK p) (fun i hi => (h.l1.1.choose_spec.1.lt i hi).2)).moved hm hs (fun _ _ p => FncC.moved hm p), (h.l2.ll2 (K := fun i => i < w.heap.size) (fun _ _ p => LimC.moved mK p) (fun i hi => (h.l2.1.choose_spec.1.lt i hi).2)).moved hm hs (fun _ _ p => LimC.moved hm p), ?_, (h.l4.ll2 (K := fun i => i < w.heap.size) (fun _ _ p => GloC.moved mK p) (fun i hi => (h.l4.1.choose_spec.1.lt i hi).2)).moved hm hs (fun _ _ p => GloC.moved hm p), (h.l5.ll2 (K := fun i => i < w.heap.size) (fun _ _ p => ExoC.moved mK p) (fun i hi => (h.l5.1.choose_spec.1.lt i hi).2)).moved hm hs (fun _ _ p => ExoC.moved hm p), (h.l6.ll2 (K := fun i => i < w.heap.size) (fun _ _ p => ElmC.moved mK p) (fun i hi => (h.l6.1.choose_spec.1.lt i hi).2)).moved hm hs (fun _ _ p => ElmC.moved hm p), (h.l7.ll2 (K := fun i => i < w.heap.size) (fun _ _ p => DatC.moved mK p) (fun i hi => (h.l7.1.choose_spec.1.lt i hi).2)).moved hm hs (fun _ _ p => DatC.moved hm p)⟩
  refine ⟨some ⟨bb, 0, none⟩, 2, rfl, by simp, by simp, fun _ => ⟨bb, 0, rfl, ⟨hlt, by omega⟩, hlt, fun i hi => ⟨[.int .u32 0, .bool false, .int .u32 0], rfl, ?_, fun j u hu => ?_⟩⟩⟩
  · have hi2 : i < 2 := hi
    match i, hi2 with
    | 0, _ => rfl
    | 1, _ => rfl
  · have hi2 : i < 2 := hi
    rw [cell_of_row wx bb _ _ _ _ hr]
    match i, hi2, j, hu with
    | 0, _, 0, hu => exact hu
    | 0, _, 1, hu => exact hu
    | 0, _, 2, hu => exact hu
    | 1, _, 0, hu => exact hu
    | 1, _, 1, hu => exact hu
    | 1, _, 2, hu => exact hu
end Vw
end Go.Proofs.YtcpknafaocdjdaaGreatDoor

/- ValidOuter: the module that is told wrong may be gone over. -/
namespace Go.Proofs.YtcpknafaocdjdaaGreatDoor
open Go.RowKit Go.Shelf
namespace Vw
set_option linter.unusedVariables false
set_option linter.unusedSimpArgs false
open Ex (Ins Lies Lab cnt)
open Gm (Mod Typ Fnc Lim Glo Exo Elm Dat WfM SzM SzX)
theorem fit_v {M : Mod} (hwf : WfM M) (hs : SzM M) (hx : SzX M) : SzV M :=
  ⟨⟨by have := hs.n0; omega, by have := hs.n1; omega, by have := hs.n4; omega, fun x h => by have := (hs.s0 x h).2; omega, fun x h => by have := (hs.s1 x h).2.1; omega⟩, hs.n3, fun x h => (hs.s0 x h).2, fun x h => (hs.s1 x h).2.1,
    fun x h => ⟨(hwf.2.1 x h).2.2, (hs.s1 x h).2.2.2, by have := hx.cn x h; omega⟩⟩
theorem con_wf : Ex.WfI con := in0_wf 65 0 (by decide) (by decide)
theorem con_sz : Ex.SzI 1048576 con := in0_sz 65 0
theorem snoc_all {α : Type} {P : α → Prop} {l : List α} {x : α} (h : ∀ y ∈ l, P y) (hx : P x) : ∀ y ∈ l ++ [x], P y := fun y hy => by
  rcases List.mem_append.1 hy with h1 | h1
  · exact h y h1
  · rw [List.mem_singleton.1 h1]; exact hx
theorem oum_wf {M : Mod} (hwf : WfM M) (hS : Short M) (k : Nat) : WfM (oum M k) := by
  obtain ⟨h0, h1, h2, h3, h4, h5, h6, h7⟩ := hwf
  have l0 : (M.types.length : Int) ≤ 300 := by have := hS.1; omega
  have l1 : (M.funcs.length : Int) ≤ 300 := by have := hS.2.1; omega
  match k with
  | 0 => exact ⟨h0, h1, h2, h3, h4, snoc_all h5 (by simp only [Gm.Exo.wf]; refine ⟨?_, ?_, ?_⟩ <;> first | omega | (simp [maxLen, ByteArray.size]) | decide), h6, h7⟩
  | 1 => exact ⟨h0, snoc_all h1 ⟨⟨by simp only; omega, by simp only; omega⟩, by simp, Ex.Wf_nil⟩, h2, h3, h4, h5, h6, h7⟩
  | 2 => exact ⟨h0, h1, snoc_all h2 (by simp only [Gm.Lim.wf]; exact ⟨by decide, trivial, by decide⟩), h3, h4, h5, h6, h7⟩
  | 3 =>
    refine ⟨h0, h1, h2, ?_, h4, h5, h6, h7⟩
    intro x hx
    have : x = ⟨0, false, 0⟩ := by simpa [oum] using hx
    rw [this]; simp only [Gm.Lim.wf]; exact ⟨by decide, trivial, by decide⟩
  | 4 => exact ⟨h0, h1, h2, h3, snoc_all h4 (by simp only [Gm.Glo.wf]; exact ⟨by decide, trivial, con_wf⟩), h5, h6, h7⟩
  | 5 => exact ⟨h0, h1, h2, h3, h4, h5, snoc_all h6 (by simp only [Gm.Elm.wf]; refine ⟨by decide, con_wf, ?_⟩; intro z hz; have : z = (M.funcs.length : Int) := by simpa using hz
                                                        omega), h7⟩
  | k + 6 => exact ⟨h0, h1, h2, h3, h4, h5, h6, snoc_all h7 (by simp only [Gm.Dat.wf]; exact ⟨by decide, con_wf, by simp⟩)⟩
theorem oum_sz {M : Mod} (hs : SzM M) (hS : Short M) (k : Nat) : SzM (oum M k) := by
  obtain ⟨l0, l1, l2, l3, l4, l5, l6, l7⟩ := hS
  match k with
  | 0 => exact { hs with n5 := by simp only [oum, List.length_append, List.length_cons, List.length_nil]; omega, s5 := fun _ _ => trivial }
  | 1 => exact { hs with n1 := by simp only [oum, List.length_append, List.length_cons, List.length_nil]; omega, s1 := snoc_all hs.s1 ⟨by simp, by simp, by simp, Ex.Sz_nil _⟩ }
  | 2 => exact { hs with n2 := by simp only [oum, List.length_append, List.length_cons, List.length_nil]; omega, s2 := fun _ _ => trivial }
  | 3 => exact { hs with n3 := by simp [oum], s3 := fun _ _ => trivial }
  | 4 => exact { hs with n4 := by simp only [oum, List.length_append, List.length_cons, List.length_nil]; omega, s4 := snoc_all hs.s4 con_sz }
  | 5 => exact { hs with n6 := by simp only [oum, List.length_append, List.length_cons, List.length_nil]; omega, s6 := snoc_all hs.s6 con_sz }
  | k + 6 => exact { hs with n7 := by simp only [oum, List.length_append, List.length_cons, List.length_nil]; omega, s7 := snoc_all hs.s7 con_sz }
theorem oum_szx {M : Mod} (hx : SzX M) (k : Nat) : SzX (oum M k) := by
  match k with
  | 0 | 2 | 3 | 4 => exact ⟨hx.cn, hx.fs, hx.ds⟩
  | 1 => exact ⟨snoc_all hx.cn (by simp only [Ex.cnt_nil]; omega), hx.fs, hx.ds⟩
  | 5 => exact ⟨hx.cn, snoc_all hx.fs (by simp), hx.ds⟩
  | k + 6 => exact ⟨hx.cn, hx.fs, snoc_all hx.ds (by simp)⟩
theorem kk7 (n : Int) : ∃ kk : Nat, wrap64 ((IntKind.u64.wrap n).tmod 7) = (kk : Int) ∧ kk < 7 := by
  have h0 : 0 ≤ IntKind.u64.wrap n := by simp [IntKind.wrap, IntKind.bits, IntKind.signed]; omega
  have h1 : (IntKind.u64.wrap n).tmod 7 = (IntKind.u64.wrap n) % 7 := Int.tmod_eq_emod_of_nonneg h0
  rw [h1]
  refine ⟨((IntKind.u64.wrap n) % 7).toNat, ?_, by omega⟩
  have h2 : 0 ≤ (IntKind.u64.wrap n) % 7 ∧ (IntKind.u64.wrap n) % 7 < 7 := by omega
  generalize (IntKind.u64.wrap n) % 7 = z at *
  rw [Int.toNat_of_nonneg h2.1]
  unfold wrap64; omega
theorem chp_cases {M : Mod} {e : Ending} (h : ChP M e) : ∃ at_ er : Int, e = .returned (.tuple #[.int .i64 at_, errV er]) ∧ ((er = 0 ∧ lims M = true) ∨ er = 7 ∨ er = 9) := by
  obtain ⟨a, r, rfl, h1 | h1 | ⟨h1, -, -, h2 | h2⟩⟩ := h
  · exact ⟨a, r, rfl, .inr (.inr h1.2.2)⟩
  · exact ⟨a, r, rfl, .inr (.inl h1.2.2.2)⟩
  · exact ⟨a, r, rfl, .inl ⟨h2.1, h1⟩⟩
  · exact ⟨a, r, rfl, .inr (.inl h2.1)⟩
end Vw
end Go.Proofs.YtcpknafaocdjdaaGreatDoor

/- ValidOuter: its walk. By mkow.py. -/
namespace Go.Proofs.YtcpknafaocdjdaaGreatDoor
open Go.RowKit Go.Shelf
namespace Vw
set_option linter.unusedVariables false
set_option linter.unusedSimpArgs false
open Ex (Ins Lies Lab cnt)
open Gm (Mod Typ Fnc Lim Glo Exo Elm Dat Byts ModL WfM LL TypC FncC LimC GloC ExoC ElmC DatC InsC SzM SzX ModO OwL Its Mv)
/-- a module in its box -/
def MBo (W : World) (B : Nat) (T : TypeId) (M : Mod) (v0 v1 v2 v3 v4 v5 v6 v7 : Value) : Prop := W.heap[B]? = some (.cells #[v0, v1, v2, v3, v4, v5, v6, v7] T (0, 0)) ∧ ModL W (fun b => b < W.heap.size) M v0 v1 v2 v3 v4 v5 v6 v7
theorem MBo.below {W W' : World} {B : Nat} {T : TypeId} {M : Mod} {v0 v1 v2 v3 v4 v5 v6 v7 : Value} (h : MBo W B T M v0 v1 v2 v3 v4 v5 v6 v7) (hb : Below W.heap.size W W') : MBo W' B T M v0 v1 v2 v3 v4 v5 v6 v7 :=
  ⟨(hb.block _ (Array.getElem?_eq_some_iff.1 h.1).1).trans h.1, h.2.moved (Gm.Mv.below hb (fun k hk _ => Nat.lt_of_lt_of_le hk hb.size)) hb.size⟩
theorem MBo.lt {W : World} {B : Nat} {T : TypeId} {M : Mod} {v0 v1 v2 v3 v4 v5 v6 v7 : Value} (h : MBo W B T M v0 v1 v2 v3 v4 v5 v6 v7) : B < W.heap.size := (Array.getElem?_eq_some_iff.1 h.1).1
theorem MBo.new {w : World} {T : TypeId} {M : Mod} {v0 v1 v2 v3 v4 v5 v6 v7 : Value} (h : ModL w (fun b => b < w.heap.size) M v0 v1 v2 v3 v4 v5 v6 v7) : MBo (w.alloc (.cells #[v0, v1, v2, v3, v4, v5, v6, v7] T)) w.heap.size T M v0 v1 v2 v3 v4 v5 v6 v7 :=
  ⟨heap_alloc_new _ _, h.moved (Gm.Mv.below (one_al _ _) (fun k hk _ => Nat.lt_of_lt_of_le hk (one_al _ _).size)) (one_al _ _).size⟩
theorem own_base {w : World} {B T c n : Nat} {v : Value} {xs : List Value} (h : w.ownsRow B T c v n xs) : w.ownsRow 0 T c v n xs := by
  refine ⟨h.1, ?_⟩
  rcases h.2 with h | ⟨g, cap, cur, e1, _, e3⟩
  · exact .inl h
  · exact .inr ⟨g, cap, cur, e1, Nat.zero_le _, e3⟩
theorem lies_nil (g : Nat → Prop) (Q : Nat → Nat → Prop) : Lies g 0 Q (.slice none 0 0) := ⟨none, 0, rfl, Nat.le_refl _, fun _ => rfl, fun h => absurd h (by simp)⟩
theorem con_in (w : World) (g : Nat → Prop) : InsC w g con [.int .u8 65, .int .i64 0, .int .u32 0, .int .u32 0, .int .u8 0, .slice none 0 0, .slice none 0 0, .slice none 0 0] := ⟨_, _, _, rfl, Ex.Code_nil _ _, Ex.Code_nil _ _, Ex.Labs_nil _ _⟩
theorem mod_sl {W : World} {g : Nat → Prop} {M : Mod} {v0 v1 v2 v3 v4 v5 v6 v7 : Value} (h : ModL W g M v0 v1 v2 v3 v4 v5 v6 v7) :
    (∃ a c, v0 = .slice a M.types.length c) ∧ (∃ a c, v1 = .slice a M.funcs.length c) ∧ (∃ a c, v2 = .slice a M.tables.length c) ∧ (∃ a c, v3 = .slice a M.mems.length c) ∧ (∃ a c, v4 = .slice a M.globs.length c) ∧ (∃ a c, v5 = .slice a M.exps.length c) ∧ (∃ a c, v6 = .slice a M.elems.length c) ∧ (∃ a c, v7 = .slice a M.datas.length c) :=
  ⟨h.l0.sl, h.l1.sl, h.l2.sl, h.l3.sl, h.l4.sl, h.l5.sl, h.l6.sl, h.l7.sl⟩
set_option maxRecDepth 1000000 in
set_option maxHeartbeats 16000000 in
theorem outer_walk {M : Mod} {x0 x1 x2 x3 x4 x5 x6 x7 : Value} {way : Int} {w : World} (hT : Tb w) (hE : ErrT w) (hM : ModL w (fun _ => True) M x0 x1 x2 x3 x4 x5 x6 x7) (hwf : WfM M) (hs : SzM M ∧ SzX M) :
    Calls Tryz.prog 7 #[.agg #[x0, x1, x2, x3, x4, x5, x6, x7], .int .i64 way] w fun e w' => e = .returned (.bool true) ∧ Below w.heap.size w w' := by
  have hMg : ModL w (fun b => b < w.heap.size) M x0 x1 x2 x3 x4 x5 x6 x7 := hM.moved (fun k hk _ => ⟨hk, rfl⟩) (Nat.le_refl _)
  obtain ⟨⟨ma0, mk0, rfl⟩, ⟨ma1, mk1, rfl⟩, ⟨ma2, mk2, rfl⟩, ⟨ma3, mk3, rfl⟩, ⟨ma4, mk4, rfl⟩, ⟨ma5, mk5, rfl⟩, ⟨ma6, mk6, rfl⟩, ⟨ma7, mk7, rfl⟩⟩ := mod_sl hMg
  have HBig := hide (fun W B T u0 u1 u2 u3 u4 u5 u6 u7 (h : MBo W B T M u0 u1 u2 u3 u4 u5 u6 u7) => big_len M _ u0 u1 u2 u3 u4 u5 u6 u7 W h.2 hs.1)
  have HGm := hide (fun W B T u0 u1 u2 u3 u4 u5 u6 u7 (h : MBo W B T M u0 u1 u2 u3 u4 u5 u6 u7) => Gm.giveModule_any M (fun b => b < W.heap.size) u0 u1 u2 u3 u4 u5 u6 u7 W (fun _ hk => hk) h.2 hs.1)
  have HGa := hide (fun W B T u0 u1 u2 u3 u4 u5 u6 u7 (h : MBo W B T M u0 u1 u2 u3 u4 u5 u6 u7) => Gm.giveModule_all M (fun b => b < W.heap.size) u0 u1 u2 u3 u4 u5 u6 u7 W (fun _ hk => hk) h.2 hs.1)
  have HCh := hide (fun W (hW : Below w.heap.size w W) B T u0 u1 u2 u3 u4 u5 u6 u7 (h : MBo W B T M u0 u1 u2 u3 u4 u5 u6 u7) => check_any h.2 hwf (hT.below hW) (fit_v hwf hs.1 hs.2) hs.1 (fun e he => by have := hs.2.fs e he; omega))
  have HCo := hide (fun (hS : Short M) k W (hW : Below w.heap.size w W) B T u0 u1 u2 u3 u4 u5 u6 u7 (h : MBo W B T (oum M k) u0 u1 u2 u3 u4 u5 u6 u7) => check_any h.2 (oum_wf hwf hS k) (hT.below hW) (fit_v (oum_wf hwf hS k) (oum_sz hs.1 hS k) (oum_szx hs.2 k)) (oum_sz hs.1 hS k) (fun e he => by have := (oum_szx hs.2 k).fs e he; omega))
  have HNu := hide (fun k W (h : Below w.heap.size w W) => num_any k W (hE.below (Nat.le_refl _) h))
  have HSu := hide (fun W (h : Below w.heap.size w W) => sure08 W (hT.below h) (hE.below (Nat.le_refl _) h))
  have HBw := hide (one_al w (.cells #[.slice ma0 M.types.length mk0, .slice ma1 M.funcs.length mk1, .slice ma2 M.tables.length mk2, .slice ma3 M.mems.length mk3, .slice ma4 M.globs.length mk4, .slice ma5 M.exps.length mk5, .slice ma6 M.elems.length mk6, .slice ma7 M.datas.length mk7] 30))
  have MBm := hide (MBo.new (T := 30) hMg)
  clear hM hMg hs hwf hT hE
  go_enter Tryz.func7, Tryz.ntmps7
  go_wp2_with fail
  generalize w.alloc (.cells #[.slice ma0 M.types.length mk0, .slice ma1 M.funcs.length mk1, .slice ma2 M.tables.length mk2, .slice ma3 M.mems.length mk3, .slice ma4 M.globs.length mk4, .slice ma5 M.exps.length mk5, .slice ma6 M.elems.length mk6, .slice ma7 M.datas.length mk7] 30) = w0 at *
  refine (unhide HBig w0 w.heap.size 30 _ _ _ _ _ _ _ _ (unhide MBm)).mono ?_
  rintro e w1 ⟨⟨big, rfl, hsh⟩, hb1⟩
  replace MBm := hide ((unhide MBm).below hb1); replace HBw := hide (Below.on0 (unhide HBw) hb1 (unhide HBw).size)
  clear hb1
  cases big with
  | true =>
    go_wp2_with fail
    refine (unhide HSu w1 (unhide HBw)).mono ?_
    rintro e w3 ⟨rfl, hb3⟩
    have HBw := hide (Below.on0 (unhide HBw) hb3 (unhide HBw).size)
    clear hb3
    go_wp2
    go_ret
    exact ⟨rfl, unhide HBw⟩
  | false =>
  have HSh := hide (hsh rfl)
  clear hsh HBig
  obtain ⟨m0, m1, m2, m3, m4, m5, m6, m7⟩ := mbox (unhide MBm).1
  go_wp2_with fail
  refine (unhide HGm w1 w.heap.size 30 _ _ _ _ _ _ _ _ (unhide MBm)).mono ?_
  rintro e w2 ⟨v0, v1, v2, v3, v4, v5, v6, v7, rfl, hml0, hb2⟩
  have hml : ModL w2 (fun b => b < w2.heap.size) M v0 v1 v2 v3 v4 v5 v6 v7 := hml0.moved (fun k hk _ => ⟨hk, rfl⟩) (Nat.le_refl _)
  obtain ⟨⟨aa0, ak0, rfl⟩, ⟨aa1, ak1, rfl⟩, ⟨aa2, ak2, rfl⟩, ⟨aa3, ak3, rfl⟩, ⟨aa4, ak4, rfl⟩, ⟨aa5, ak5, rfl⟩, ⟨aa6, ak6, rfl⟩, ⟨aa7, ak7, rfl⟩⟩ := mod_sl hml
  clear hml0 m0 m1 m2 m3 m4 m5 m6 m7 HGm
  replace MBm := hide ((unhide MBm).below hb2); replace HBw := hide (Below.on0 (unhide HBw) hb2 (unhide HBw).size)
  clear hb2
  obtain ⟨W3, hW3⟩ : ∃ W, w2.alloc (.cells #[.slice aa0 M.types.length ak0, .slice aa1 M.funcs.length ak1, .slice aa2 M.tables.length ak2, .slice aa3 M.mems.length ak3, .slice aa4 M.globs.length ak4, .slice aa5 M.exps.length ak5, .slice aa6 M.elems.length ak6, .slice aa7 M.datas.length ak7] 41) = W := ⟨_, rfl⟩
  have hn3 : Below w2.heap.size w2 W3 := by rw [← hW3]; exact one_al _ _
  have MBa : Hid (MBo W3 w2.heap.size 41 M (.slice aa0 M.types.length ak0) (.slice aa1 M.funcs.length ak1) (.slice aa2 M.tables.length ak2) (.slice aa3 M.mems.length ak3) (.slice aa4 M.globs.length ak4) (.slice aa5 M.exps.length ak5) (.slice aa6 M.elems.length ak6) (.slice aa7 M.datas.length ak7)) := hide (by rw [← hW3]; exact MBo.new hml)
  replace MBm := hide ((unhide MBm).below hn3); replace HBw := hide (Below.on0 (unhide HBw) hn3 (unhide HBw).size)
  have HW3 := hide hW3
  clear hn3 hW3 hml
  go_upto_region 4 with fail
  rw [unhide HW3]
  clear HW3
  generalize hB3 : w2.heap.size = B3 at *
  clear hB3
  obtain ⟨c0, c1, c2, c3, c4, c5, c6, c7⟩ := mbox (unhide MBa).1
  go_wp2_with fail
  refine (unhide HCh W3 (unhide HBw) B3 41 _ _ _ _ _ _ _ _ (unhide MBa)).mono ?_
  rintro e w4 ⟨hch, hb4⟩
  obtain ⟨at1, er1, rfl, hcs⟩ := chp_cases hch
  clear hch c0 c1 c2 c3 c4 c5 c6 c7 MBa HCh
  replace MBm := hide ((unhide MBm).below hb4); replace HBw := hide (Below.on0 (unhide HBw) hb4 (unhide HBw).size)
  clear hb4
  rcases hcs with ⟨rfl, hli⟩ | hbad
  rotate_left
  · obtain ⟨tt, vv, hif⟩ : ∃ tt vv, errV er1 = .iface tt vv := by rcases hbad with rfl | rfl; exact ⟨_, _, errV_7⟩; exact ⟨_, _, errV_9⟩
    rw [hif]
    go_wp2_with fail
    refine (unhide HSu w4 (unhide HBw)).mono ?_
    rintro e w5 ⟨rfl, hb5⟩
    have HBw := hide (Below.on0 (unhide HBw) hb5 (unhide HBw).size)
    clear hb5
    go_wp2
    go_ret
    exact ⟨rfl, unhide HBw⟩
  rw [errV_0]
  have HLi := hide hli
  clear hli
  obtain ⟨m0, m1, m2, m3, m4, m5, m6, m7⟩ := mbox (unhide MBm).1
  go_wp2_with fail
  refine (unhide HGa w4 w.heap.size 30 _ _ _ _ _ _ _ _ (unhide MBm)).mono ?_
  rintro e w7 ⟨v0, v1, v2, v3, v4, v5, v6, v7, rfl, ⟨G, H, hmo, hG, hH, hb7⟩⟩
  have hGl : ∀ k, G k → k < w7.heap.size ∨ True := fun k _ => .inr trivial
  have hml : ModL w7 (fun b => b < w7.heap.size ∨ True) M v0 v1 v2 v3 v4 v5 v6 v7 := hmo.modL hGl (fun k _ => .inr trivial)
  obtain ⟨⟨ba0, bk0, rfl⟩, ⟨ba1, bk1, rfl⟩, ⟨ba2, bk2, rfl⟩, ⟨ba3, bk3, rfl⟩, ⟨ba4, bk4, rfl⟩, ⟨ba5, bk5, rfl⟩, ⟨ba6, bk6, rfl⟩, ⟨ba7, bk7, rfl⟩⟩ := mod_sl hml
  clear hml hGl m0 m1 m2 m3 m4 m5 m6 m7 HGa MBm hG hH
  have HMo := hide hmo
  have hs4 := (unhide HBw).size
  replace HBw := hide (Below.on0 (unhide HBw) hb7 (unhide HBw).size)
  clear hb7 hmo
  obtain ⟨W8, hW8⟩ : ∃ W, w7.alloc (.cells #[.slice ba0 M.types.length bk0, .slice ba1 M.funcs.length bk1, .slice ba2 M.tables.length bk2, .slice ba3 M.mems.length bk3, .slice ba4 M.globs.length bk4, .slice ba5 M.exps.length bk5, .slice ba6 M.elems.length bk6, .slice ba7 M.datas.length bk7] 41) = W := ⟨_, rfl⟩
  have hn8 : Below w7.heap.size w7 W8 := by rw [← hW8]; exact one_al _ _
  have hr8 : W8.heap[w7.heap.size]? = some (.cells #[.slice ba0 M.types.length bk0, .slice ba1 M.funcs.length bk1, .slice ba2 M.tables.length bk2, .slice ba3 M.mems.length bk3, .slice ba4 M.globs.length bk4, .slice ba5 M.exps.length bk5, .slice ba6 M.elems.length bk6, .slice ba7 M.datas.length bk7] 41 (0, 0)) := by rw [← hW8]; exact heap_alloc_new _ _
  have hz8 : W8.heap.size = w7.heap.size + 1 := by rw [← hW8]; simp
  have HBv := HBw
  have HS4 := hide hs4
  clear hs4
  replace HBw := hide (Below.on0 (unhide HBw) hn8 (unhide HBw).size)
  have HW8 := hide hW8; have HN8 := hide hn8; have HR8 := hide hr8; have HZ8 := hide hz8
  clear hn8 hW8 hr8 hz8
  go_upto_region 8 with fail
  rw [unhide HW8]
  clear HW8
  obtain ⟨c0, c1, c2, c3, c4, c5, c6, c7⟩ := mbox (unhide HR8)
  obtain ⟨kk, hkk, hk7⟩ : ∃ kk : Nat, wrap64 ((IntKind.u64.wrap way).tmod 7) = (kk : Int) ∧ kk < 7 := kk7 way
  have hu32 : IntKind.u32.wrap (M.funcs.length : Int) = (M.funcs.length : Int) := by have := (unhide HSh).2.1; rw [IntKind.wrap_u32]; omega
  have hu32t : IntKind.u32.wrap (M.types.length : Int) = (M.types.length : Int) := by have := (unhide HSh).1; rw [IntKind.wrap_u32]; omega
  have hk : kk = 0 ∨ kk = 1 ∨ kk = 2 ∨ kk = 3 ∨ kk = 4 ∨ kk = 5 ∨ kk = 6 := by omega
  rcases hk with rfl | rfl | rfl | rfl | rfl | rfl | rfl
  · have hkk : wrap64 ((IntKind.u64.wrap way).tmod 7) = 0 := hkk
    obtain ⟨xs, ho, hit⟩ := (unhide HMo).l5.1
    obtain ⟨i0, hi, hz0, hz1, hz2⟩ := info_parts Gm.gmInfo5
    have hlen : M.exps.length ≤ 300 := by have := unhide HSh; unfold Short at this; omega
    have hbl := (unhide HMo).l5.1
    have hHo := hide ho; have HIt := hide hit
    have hown8 : W8.ownsRow 0 73 3 (.slice ba5 M.exps.length bk5) M.exps.length xs := ownsRow_below (own_base ho) (unhide HN8)
    have HO8 := hide hown8
    clear hbl ho hit hown8
    go_upto_region 12 with fail
    go_wp2_with (at_builtin; refine wpList_append_lies _ rfl (.tmp 45) (.tmp 48) 37 rfl 0 73 i0 (.agg #[.string ⟨#[]⟩, .int .u8 0, .int .u32 0]) 3 24 Tryz.underlying37 hi hz0 hz1 hz2 rfl (by decide) (.slice ba5 M.exps.length bk5) M.exps.length xs rfl (ownsRow_below (unhide HO8) (one_al W8 _)) ⟨W8.heap.size, 0, none⟩ 1 1 [.string ⟨#[122, 122]⟩, .int .u8 0, .int .u32 M.funcs.length] rfl rfl ?c1 ?c2 (by omega) ?c3 ?c4 ?c5 (W8.heap.size + 1) ?c6 ?_)
    case c1 => exact Gm.new_cells W8 [.string ⟨#[122, 122]⟩, .int .u8 0, .int .u32 M.funcs.length] _
    case c2 =>
      intro u hu
      simp only [List.mem_cons, List.not_mem_nil, or_false] at hu
      repeat' (first | (rcases hu with rfl | hu) | (subst hu))
      all_goals rfl
    case c3 => unfold maxLen; omega
    case c4 => omega
    case c5 => exact Nat.zero_le _
    case c6 => simp
    intro g9 k9 wx hown9 hgr9 hat9 hlt9
    have hol := (unhide hHo).lt
    have hwa : Below w7.heap.size w7 (W8.alloc (.cells #[.string ⟨#[122, 122]⟩, .int .u8 0, .int .u32 M.funcs.length] 73)) := Below.on (unhide HN8) (one_al W8 _)
    have hzw : w7.heap.size < (W8.alloc (.cells #[.string ⟨#[122, 122]⟩, .int .u8 0, .int .u32 M.funcs.length] 73)).heap.size := by have := unhide HZ8; have := (one_al W8 (.cells #[.string ⟨#[122, 122]⟩, .int .u8 0, .int .u32 M.funcs.length] 73)).size; omega
    have hnb : g9 ≠ w7.heap.size := by
      rcases hat9 with h | h
      · have := (hol _ h).2; omega
      · have := unhide HZ8; omega
    have hob : ∀ i, (Value.slice ba5 M.exps.length bk5).ownBlock = some i → w.heap.size ≤ i ∧ i < w7.heap.size := fun i hi => by have h1 := hol i hi; have h2 := unhide HS4; exact ⟨by omega, h1.2⟩

    have hmod : ModL wx (fun b => b < wx.heap.size ∧ b ≠ w7.heap.size) (oum M 0) (.slice ba0 M.types.length bk0) (.slice ba1 M.funcs.length bk1) (.slice ba2 M.tables.length bk2) (.slice ba3 M.mems.length bk3) (.slice ba4 M.globs.length bk4) (.slice (some ⟨g9, 0, none⟩) (M.exps.length + 1) k9) (.slice ba6 M.elems.length bk6) (.slice ba7 M.datas.length bk7) := pu_5 (x := ⟨⟨#[122, 122]⟩, 0, M.funcs.length⟩) (unhide HMo) (unhide HIt) hwa hgr9 hown9 hnb rfl rfl
    have hbx0 : (W8.alloc (.cells #[.string ⟨#[122, 122]⟩, .int .u8 0, .int .u32 M.funcs.length] 73)).heap[w7.heap.size]? = some (.cells #[.slice ba0 M.types.length bk0, .slice ba1 M.funcs.length bk1, .slice ba2 M.tables.length bk2, .slice ba3 M.mems.length bk3, .slice ba4 M.globs.length bk4, .slice ba5 M.exps.length bk5, .slice ba6 M.elems.length bk6, .slice ba7 M.datas.length bk7] 41 (0, 0)) := ((one_al W8 _).block w7.heap.size (by have := unhide HZ8; omega)).trans (unhide HR8)
    have hbx := (hgr9.block w7.heap.size hzw (fun e => by have := (hob _ e.symm).2; omega)).trans hbx0
    have hbw0 : Below w.heap.size w (W8.alloc (.cells #[.string ⟨#[122, 122]⟩, .int .u8 0, .int .u32 M.funcs.length] 73)) := Below.on0 (unhide HBv) hwa (unhide HBv).size
    have hbw : Below w.heap.size w wx := hbw0.grown hgr9 hbw0.size (fun i hi => (hob i hi).1)
    have hfz : ∀ j, wx.frozen? ⟨w7.heap.size, j, none⟩ = false := fun j => frozen_of_row _ _ j _ _ hbx
    have ck := cell_of_row _ w7.heap.size 5 _ _ _ hbx
    have HMd := hide hmod; have HBx := hide hbx; have HBy := hide hbw
    clear hown9 hgr9 hat9 hol hwa hzw hnb hob hmod hbx0 hbx hbw0 hbw c0 c1 c2 c3 c4 c5 c6 c7 hHo HIt HO8 hi hz0 hz1 hz2
    go_upto_region 23 with fail
    have hb9 : (wx.setCell ⟨w7.heap.size, 5, none⟩ (.slice (some ⟨g9, 0, none⟩) (M.exps.length + 1) k9)).heap[w7.heap.size]? = some (.cells #[.slice ba0 M.types.length bk0, .slice ba1 M.funcs.length bk1, .slice ba2 M.tables.length bk2, .slice ba3 M.mems.length bk3, .slice ba4 M.globs.length bk4, .slice (some ⟨g9, 0, none⟩) (M.exps.length + 1) k9, .slice ba6 M.elems.length bk6, .slice ba7 M.datas.length bk7] 41 (0, 0)) := heap_setCell_same _ _ 5 _ _ _ (unhide HBx)
    have hm9 : MBo (wx.setCell ⟨w7.heap.size, 5, none⟩ (.slice (some ⟨g9, 0, none⟩) (M.exps.length + 1) k9)) w7.heap.size 41 (oum M 0) (.slice ba0 M.types.length bk0) (.slice ba1 M.funcs.length bk1) (.slice ba2 M.tables.length bk2) (.slice ba3 M.mems.length bk3) (.slice ba4 M.globs.length bk4) (.slice (some ⟨g9, 0, none⟩) (M.exps.length + 1) k9) (.slice ba6 M.elems.length bk6) (.slice ba7 M.datas.length bk7) := ⟨hb9, (unhide HMd).moved (fun i hi hg => ⟨Nat.lt_of_lt_of_le hg.1 (by simp), heap_setCell_other _ _ i _ hg.2⟩) (by simp)⟩
    have hbw9 : Below w.heap.size w (wx.setCell ⟨w7.heap.size, 5, none⟩ (.slice (some ⟨g9, 0, none⟩) (M.exps.length + 1) k9)) := (unhide HBy).setCell (by have h1 := (unhide HBv).size; simpa using h1) _
    have MB9 := hide hm9; have HBw9 := hide hbw9
    clear hb9 hm9 hbw9 HBx HMd HBy hfz ck HBw HBv HMo HN8 HR8
    generalize wx.setCell ⟨w7.heap.size, 5, none⟩ (.slice (some ⟨g9, 0, none⟩) (M.exps.length + 1) k9) = W9 at *
    obtain ⟨d0, d1, d2, d3, d4, d5, d6, d7⟩ := mbox (unhide MB9).1
    go_wp2_with fail
    refine (unhide HCo (unhide HSh) 0 W9 (unhide HBw9) w7.heap.size 41 _ _ _ _ _ _ _ _ (unhide MB9)).mono ?_
    rintro e w10 ⟨hch, hb10⟩
    obtain rfl := oum_no (unhide HLi) hch
    replace HBw9 := hide (Below.on0 (unhide HBw9) hb10 (unhide HBw9).size)
    clear hch hb10 d0 d1 d2 d3 d4 d5 d6 d7 MB9
    go_wp2_with fail
    refine (unhide HNu 7 w10 (unhide HBw9)).mono ?_
    rintro e w11 ⟨rfl, hb11⟩
    replace HBw9 := hide (Below.on0 (unhide HBw9) hb11 (unhide HBw9).size)
    clear hb11
    go_wp2_with fail
    refine (unhide HSu w11 (unhide HBw9)).mono ?_
    rintro e w12 ⟨rfl, hb12⟩
    replace HBw9 := hide (Below.on0 (unhide HBw9) hb12 (unhide HBw9).size)
    clear hb12
    go_wp2
    go_ret
    exact ⟨rfl, unhide HBw9⟩
  · have hkk : wrap64 ((IntKind.u64.wrap way).tmod 7) = 1 := hkk
    obtain ⟨xs, ho, hit⟩ := (unhide HMo).l1.1
    obtain ⟨i0, hi, hz0, hz1, hz2⟩ := info_parts Gm.gmInfo1
    have hlen : M.funcs.length ≤ 300 := by have := unhide HSh; unfold Short at this; omega
    have hbl := (unhide HMo).l1.1
    have hHo := hide ho; have HIt := hide hit
    have hown8 : W8.ownsRow 0 66 3 (.slice ba1 M.funcs.length bk1) M.funcs.length xs := ownsRow_below (own_base ho) (unhide HN8)
    have HO8 := hide hown8
    clear hbl ho hit hown8
    go_upto_region 14 with fail
    go_wp2_with (at_builtin; refine wpList_append_lies _ rfl (.tmp 54) (.tmp 60) 34 rfl 0 66 i0 (.agg #[.int .u32 0, .slice none 0 0, .slice none 0 0]) 3 56 Tryz.underlying34 hi hz0 hz1 hz2 rfl (by decide) (.slice ba1 M.funcs.length bk1) M.funcs.length xs rfl (ownsRow_below (unhide HO8) (one_al W8 _)) ⟨W8.heap.size, 0, none⟩ 1 1 [.int .u32 M.types.length, .slice none 0 0, .slice none 0 0] rfl rfl ?c1 ?c2 (by omega) ?c3 ?c4 ?c5 (W8.heap.size + 1) ?c6 ?_)
    case c1 => exact Gm.new_cells W8 [.int .u32 M.types.length, .slice none 0 0, .slice none 0 0] _
    case c2 =>
      intro u hu
      simp only [List.mem_cons, List.not_mem_nil, or_false] at hu
      repeat' (first | (rcases hu with rfl | hu) | (subst hu))
      all_goals rfl
    case c3 => unfold maxLen; omega
    case c4 => omega
    case c5 => exact Nat.zero_le _
    case c6 => simp
    intro g9 k9 wx hown9 hgr9 hat9 hlt9
    have hol := (unhide hHo).lt
    have hwa : Below w7.heap.size w7 (W8.alloc (.cells #[.int .u32 M.types.length, .slice none 0 0, .slice none 0 0] 66)) := Below.on (unhide HN8) (one_al W8 _)
    have hzw : w7.heap.size < (W8.alloc (.cells #[.int .u32 M.types.length, .slice none 0 0, .slice none 0 0] 66)).heap.size := by have := unhide HZ8; have := (one_al W8 (.cells #[.int .u32 M.types.length, .slice none 0 0, .slice none 0 0] 66)).size; omega
    have hnb : g9 ≠ w7.heap.size := by
      rcases hat9 with h | h
      · have := (hol _ h).2; omega
      · have := unhide HZ8; omega
    have hob : ∀ i, (Value.slice ba1 M.funcs.length bk1).ownBlock = some i → w.heap.size ≤ i ∧ i < w7.heap.size := fun i hi => by have h1 := hol i hi; have h2 := unhide HS4; exact ⟨by omega, h1.2⟩

    have hmod : ModL wx (fun b => b < wx.heap.size ∧ b ≠ w7.heap.size) (oum M 1) (.slice ba0 M.types.length bk0) (.slice (some ⟨g9, 0, none⟩) (M.funcs.length + 1) k9) (.slice ba2 M.tables.length bk2) (.slice ba3 M.mems.length bk3) (.slice ba4 M.globs.length bk4) (.slice ba5 M.exps.length bk5) (.slice ba6 M.elems.length bk6) (.slice ba7 M.datas.length bk7) := pu_1 (x := ⟨M.types.length, [], []⟩) (unhide HMo) (unhide HIt) hwa hgr9 hown9 hnb ⟨_, _, rfl, lies_nil _ _, Ex.Code_nil _ _⟩ rfl
    have hbx0 : (W8.alloc (.cells #[.int .u32 M.types.length, .slice none 0 0, .slice none 0 0] 66)).heap[w7.heap.size]? = some (.cells #[.slice ba0 M.types.length bk0, .slice ba1 M.funcs.length bk1, .slice ba2 M.tables.length bk2, .slice ba3 M.mems.length bk3, .slice ba4 M.globs.length bk4, .slice ba5 M.exps.length bk5, .slice ba6 M.elems.length bk6, .slice ba7 M.datas.length bk7] 41 (0, 0)) := ((one_al W8 _).block w7.heap.size (by have := unhide HZ8; omega)).trans (unhide HR8)
    have hbx := (hgr9.block w7.heap.size hzw (fun e => by have := (hob _ e.symm).2; omega)).trans hbx0
    have hbw0 : Below w.heap.size w (W8.alloc (.cells #[.int .u32 M.types.length, .slice none 0 0, .slice none 0 0] 66)) := Below.on0 (unhide HBv) hwa (unhide HBv).size
    have hbw : Below w.heap.size w wx := hbw0.grown hgr9 hbw0.size (fun i hi => (hob i hi).1)
    have hfz : ∀ j, wx.frozen? ⟨w7.heap.size, j, none⟩ = false := fun j => frozen_of_row _ _ j _ _ hbx
    have ck := cell_of_row _ w7.heap.size 1 _ _ _ hbx
    have HMd := hide hmod; have HBx := hide hbx; have HBy := hide hbw
    clear hown9 hgr9 hat9 hol hwa hzw hnb hob hmod hbx0 hbx hbw0 hbw c0 c1 c2 c3 c4 c5 c6 c7 hHo HIt HO8 hi hz0 hz1 hz2
    go_upto_region 23 with fail
    have hb9 : (wx.setCell ⟨w7.heap.size, 1, none⟩ (.slice (some ⟨g9, 0, none⟩) (M.funcs.length + 1) k9)).heap[w7.heap.size]? = some (.cells #[.slice ba0 M.types.length bk0, .slice (some ⟨g9, 0, none⟩) (M.funcs.length + 1) k9, .slice ba2 M.tables.length bk2, .slice ba3 M.mems.length bk3, .slice ba4 M.globs.length bk4, .slice ba5 M.exps.length bk5, .slice ba6 M.elems.length bk6, .slice ba7 M.datas.length bk7] 41 (0, 0)) := heap_setCell_same _ _ 1 _ _ _ (unhide HBx)
    have hm9 : MBo (wx.setCell ⟨w7.heap.size, 1, none⟩ (.slice (some ⟨g9, 0, none⟩) (M.funcs.length + 1) k9)) w7.heap.size 41 (oum M 1) (.slice ba0 M.types.length bk0) (.slice (some ⟨g9, 0, none⟩) (M.funcs.length + 1) k9) (.slice ba2 M.tables.length bk2) (.slice ba3 M.mems.length bk3) (.slice ba4 M.globs.length bk4) (.slice ba5 M.exps.length bk5) (.slice ba6 M.elems.length bk6) (.slice ba7 M.datas.length bk7) := ⟨hb9, (unhide HMd).moved (fun i hi hg => ⟨Nat.lt_of_lt_of_le hg.1 (by simp), heap_setCell_other _ _ i _ hg.2⟩) (by simp)⟩
    have hbw9 : Below w.heap.size w (wx.setCell ⟨w7.heap.size, 1, none⟩ (.slice (some ⟨g9, 0, none⟩) (M.funcs.length + 1) k9)) := (unhide HBy).setCell (by have h1 := (unhide HBv).size; simpa using h1) _
    have MB9 := hide hm9; have HBw9 := hide hbw9
    clear hb9 hm9 hbw9 HBx HMd HBy hfz ck HBw HBv HMo HN8 HR8
    generalize wx.setCell ⟨w7.heap.size, 1, none⟩ (.slice (some ⟨g9, 0, none⟩) (M.funcs.length + 1) k9) = W9 at *
    obtain ⟨d0, d1, d2, d3, d4, d5, d6, d7⟩ := mbox (unhide MB9).1
    go_wp2_with fail
    refine (unhide HCo (unhide HSh) 1 W9 (unhide HBw9) w7.heap.size 41 _ _ _ _ _ _ _ _ (unhide MB9)).mono ?_
    rintro e w10 ⟨hch, hb10⟩
    obtain rfl := oum_no (unhide HLi) hch
    replace HBw9 := hide (Below.on0 (unhide HBw9) hb10 (unhide HBw9).size)
    clear hch hb10 d0 d1 d2 d3 d4 d5 d6 d7 MB9
    go_wp2_with fail
    refine (unhide HNu 7 w10 (unhide HBw9)).mono ?_
    rintro e w11 ⟨rfl, hb11⟩
    replace HBw9 := hide (Below.on0 (unhide HBw9) hb11 (unhide HBw9).size)
    clear hb11
    go_wp2_with fail
    refine (unhide HSu w11 (unhide HBw9)).mono ?_
    rintro e w12 ⟨rfl, hb12⟩
    replace HBw9 := hide (Below.on0 (unhide HBw9) hb12 (unhide HBw9).size)
    clear hb12
    go_wp2
    go_ret
    exact ⟨rfl, unhide HBw9⟩
  · have hkk : wrap64 ((IntKind.u64.wrap way).tmod 7) = 2 := hkk
    obtain ⟨xs, ho, hit⟩ := (unhide HMo).l2.1
    obtain ⟨i0, hi, hz0, hz1, hz2⟩ := info_parts Gm.gmInfo2
    have hlen : M.tables.length ≤ 300 := by have := unhide HSh; unfold Short at this; omega
    have hbl := (unhide HMo).l2.1
    have hHo := hide ho; have HIt := hide hit
    have hown8 : W8.ownsRow 0 75 3 (.slice ba2 M.tables.length bk2) M.tables.length xs := ownsRow_below (own_base ho) (unhide HN8)
    have HO8 := hide hown8
    clear hbl ho hit hown8
    go_upto_region 16 with fail
    go_wp2_with (at_builtin; refine wpList_append_lies _ rfl (.tmp 66) (.tmp 68) 35 rfl 0 75 i0 (.agg #[.int .u32 0, .bool false, .int .u32 0]) 3 12 Tryz.underlying35 hi hz0 hz1 hz2 rfl (by decide) (.slice ba2 M.tables.length bk2) M.tables.length xs rfl (ownsRow_below (unhide HO8) (one_al W8 _)) ⟨W8.heap.size, 0, none⟩ 1 1 [.int .u32 3, .bool true, .int .u32 2] rfl rfl ?c1 ?c2 (by omega) ?c3 ?c4 ?c5 (W8.heap.size + 1) ?c6 ?_)
    case c1 => exact Gm.new_cells W8 [.int .u32 3, .bool true, .int .u32 2] _
    case c2 =>
      intro u hu
      simp only [List.mem_cons, List.not_mem_nil, or_false] at hu
      repeat' (first | (rcases hu with rfl | hu) | (subst hu))
      all_goals rfl
    case c3 => unfold maxLen; omega
    case c4 => omega
    case c5 => exact Nat.zero_le _
    case c6 => simp
    intro g9 k9 wx hown9 hgr9 hat9 hlt9
    have hol := (unhide hHo).lt
    have hwa : Below w7.heap.size w7 (W8.alloc (.cells #[.int .u32 3, .bool true, .int .u32 2] 75)) := Below.on (unhide HN8) (one_al W8 _)
    have hzw : w7.heap.size < (W8.alloc (.cells #[.int .u32 3, .bool true, .int .u32 2] 75)).heap.size := by have := unhide HZ8; have := (one_al W8 (.cells #[.int .u32 3, .bool true, .int .u32 2] 75)).size; omega
    have hnb : g9 ≠ w7.heap.size := by
      rcases hat9 with h | h
      · have := (hol _ h).2; omega
      · have := unhide HZ8; omega
    have hob : ∀ i, (Value.slice ba2 M.tables.length bk2).ownBlock = some i → w.heap.size ≤ i ∧ i < w7.heap.size := fun i hi => by have h1 := hol i hi; have h2 := unhide HS4; exact ⟨by omega, h1.2⟩

    have hmod : ModL wx (fun b => b < wx.heap.size ∧ b ≠ w7.heap.size) (oum M 2) (.slice ba0 M.types.length bk0) (.slice ba1 M.funcs.length bk1) (.slice (some ⟨g9, 0, none⟩) (M.tables.length + 1) k9) (.slice ba3 M.mems.length bk3) (.slice ba4 M.globs.length bk4) (.slice ba5 M.exps.length bk5) (.slice ba6 M.elems.length bk6) (.slice ba7 M.datas.length bk7) := pu_2 (x := ⟨3, true, 2⟩) (unhide HMo) (unhide HIt) hwa hgr9 hown9 hnb rfl rfl
    have hbx0 : (W8.alloc (.cells #[.int .u32 3, .bool true, .int .u32 2] 75)).heap[w7.heap.size]? = some (.cells #[.slice ba0 M.types.length bk0, .slice ba1 M.funcs.length bk1, .slice ba2 M.tables.length bk2, .slice ba3 M.mems.length bk3, .slice ba4 M.globs.length bk4, .slice ba5 M.exps.length bk5, .slice ba6 M.elems.length bk6, .slice ba7 M.datas.length bk7] 41 (0, 0)) := ((one_al W8 _).block w7.heap.size (by have := unhide HZ8; omega)).trans (unhide HR8)
    have hbx := (hgr9.block w7.heap.size hzw (fun e => by have := (hob _ e.symm).2; omega)).trans hbx0
    have hbw0 : Below w.heap.size w (W8.alloc (.cells #[.int .u32 3, .bool true, .int .u32 2] 75)) := Below.on0 (unhide HBv) hwa (unhide HBv).size
    have hbw : Below w.heap.size w wx := hbw0.grown hgr9 hbw0.size (fun i hi => (hob i hi).1)
    have hfz : ∀ j, wx.frozen? ⟨w7.heap.size, j, none⟩ = false := fun j => frozen_of_row _ _ j _ _ hbx
    have ck := cell_of_row _ w7.heap.size 2 _ _ _ hbx
    have HMd := hide hmod; have HBx := hide hbx; have HBy := hide hbw
    clear hown9 hgr9 hat9 hol hwa hzw hnb hob hmod hbx0 hbx hbw0 hbw c0 c1 c2 c3 c4 c5 c6 c7 hHo HIt HO8 hi hz0 hz1 hz2
    go_upto_region 23 with fail
    have hb9 : (wx.setCell ⟨w7.heap.size, 2, none⟩ (.slice (some ⟨g9, 0, none⟩) (M.tables.length + 1) k9)).heap[w7.heap.size]? = some (.cells #[.slice ba0 M.types.length bk0, .slice ba1 M.funcs.length bk1, .slice (some ⟨g9, 0, none⟩) (M.tables.length + 1) k9, .slice ba3 M.mems.length bk3, .slice ba4 M.globs.length bk4, .slice ba5 M.exps.length bk5, .slice ba6 M.elems.length bk6, .slice ba7 M.datas.length bk7] 41 (0, 0)) := heap_setCell_same _ _ 2 _ _ _ (unhide HBx)
    have hm9 : MBo (wx.setCell ⟨w7.heap.size, 2, none⟩ (.slice (some ⟨g9, 0, none⟩) (M.tables.length + 1) k9)) w7.heap.size 41 (oum M 2) (.slice ba0 M.types.length bk0) (.slice ba1 M.funcs.length bk1) (.slice (some ⟨g9, 0, none⟩) (M.tables.length + 1) k9) (.slice ba3 M.mems.length bk3) (.slice ba4 M.globs.length bk4) (.slice ba5 M.exps.length bk5) (.slice ba6 M.elems.length bk6) (.slice ba7 M.datas.length bk7) := ⟨hb9, (unhide HMd).moved (fun i hi hg => ⟨Nat.lt_of_lt_of_le hg.1 (by simp), heap_setCell_other _ _ i _ hg.2⟩) (by simp)⟩
    have hbw9 : Below w.heap.size w (wx.setCell ⟨w7.heap.size, 2, none⟩ (.slice (some ⟨g9, 0, none⟩) (M.tables.length + 1) k9)) := (unhide HBy).setCell (by have h1 := (unhide HBv).size; simpa using h1) _
    have MB9 := hide hm9; have HBw9 := hide hbw9
    clear hb9 hm9 hbw9 HBx HMd HBy hfz ck HBw HBv HMo HN8 HR8
    generalize wx.setCell ⟨w7.heap.size, 2, none⟩ (.slice (some ⟨g9, 0, none⟩) (M.tables.length + 1) k9) = W9 at *
    obtain ⟨d0, d1, d2, d3, d4, d5, d6, d7⟩ := mbox (unhide MB9).1
    go_wp2_with fail
    refine (unhide HCo (unhide HSh) 2 W9 (unhide HBw9) w7.heap.size 41 _ _ _ _ _ _ _ _ (unhide MB9)).mono ?_
    rintro e w10 ⟨hch, hb10⟩
    obtain rfl := oum_no (unhide HLi) hch
    replace HBw9 := hide (Below.on0 (unhide HBw9) hb10 (unhide HBw9).size)
    clear hch hb10 d0 d1 d2 d3 d4 d5 d6 d7 MB9
    go_wp2_with fail
    refine (unhide HNu 7 w10 (unhide HBw9)).mono ?_
    rintro e w11 ⟨rfl, hb11⟩
    replace HBw9 := hide (Below.on0 (unhide HBw9) hb11 (unhide HBw9).size)
    clear hb11
    go_wp2_with fail
    refine (unhide HSu w11 (unhide HBw9)).mono ?_
    rintro e w12 ⟨rfl, hb12⟩
    replace HBw9 := hide (Below.on0 (unhide HBw9) hb12 (unhide HBw9).size)
    clear hb12
    go_wp2
    go_ret
    exact ⟨rfl, unhide HBw9⟩
  · have hkk : wrap64 ((IntKind.u64.wrap way).tmod 7) = 3 := hkk
    go_upto_region 18 with fail
    have hwa : Below w7.heap.size w7 (W8.alloc (.cells #[.int .u32 0, .bool false, .int .u32 0, .int .u32 0, .bool false, .int .u32 0] 75)) := Below.on (unhide HN8) (one_al W8 _)
    have hmod : ModL (W8.alloc (.cells #[.int .u32 0, .bool false, .int .u32 0, .int .u32 0, .bool false, .int .u32 0] 75)) (fun b => b < (W8.alloc (.cells #[.int .u32 0, .bool false, .int .u32 0, .int .u32 0, .bool false, .int .u32 0] 75)).heap.size ∧ b ≠ w7.heap.size) (oum M 3) (.slice ba0 M.types.length bk0) (.slice ba1 M.funcs.length bk1) (.slice ba2 M.tables.length bk2) (.slice (some ⟨W8.heap.size, 0, none⟩) 2 2) (.slice ba4 M.globs.length bk4) (.slice ba5 M.exps.length bk5) (.slice ba6 M.elems.length bk6) (.slice ba7 M.datas.length bk7) := pu_3 (unhide HMo) hwa (by have := unhide HZ8; omega) (heap_alloc_new W8 _)
    have hbx := ((one_al W8 (.cells #[.int .u32 0, .bool false, .int .u32 0, .int .u32 0, .bool false, .int .u32 0] 75)).block w7.heap.size (by have := unhide HZ8; omega)).trans (unhide HR8)
    have hbw : Below w.heap.size w (W8.alloc (.cells #[.int .u32 0, .bool false, .int .u32 0, .int .u32 0, .bool false, .int .u32 0] 75)) := Below.on0 (unhide HBw) (one_al W8 _) (unhide HBw).size
    have HMd := hide hmod; have HBx := hide hbx; have HBy := hide hbw
    have hfz : ∀ j, (W8.alloc (.cells #[.int .u32 0, .bool false, .int .u32 0, .int .u32 0, .bool false, .int .u32 0] 75)).frozen? ⟨w7.heap.size, j, none⟩ = false := fun j => frozen_of_row _ _ j _ _ hbx
    have ck := cell_of_row _ w7.heap.size 3 _ _ _ hbx
    clear hwa hmod hbx hbw c0 c1 c2 c3 c4 c5 c6 c7
    go_upto_region 23 with fail
    have hb9 : ((W8.alloc (.cells #[.int .u32 0, .bool false, .int .u32 0, .int .u32 0, .bool false, .int .u32 0] 75)).setCell ⟨w7.heap.size, 3, none⟩ (.slice (some ⟨W8.heap.size, 0, none⟩) 2 2)).heap[w7.heap.size]? = some (.cells #[.slice ba0 M.types.length bk0, .slice ba1 M.funcs.length bk1, .slice ba2 M.tables.length bk2, .slice (some ⟨W8.heap.size, 0, none⟩) 2 2, .slice ba4 M.globs.length bk4, .slice ba5 M.exps.length bk5, .slice ba6 M.elems.length bk6, .slice ba7 M.datas.length bk7] 41 (0, 0)) := heap_setCell_same _ _ 3 _ _ _ (unhide HBx)
    have hm9 : MBo ((W8.alloc (.cells #[.int .u32 0, .bool false, .int .u32 0, .int .u32 0, .bool false, .int .u32 0] 75)).setCell ⟨w7.heap.size, 3, none⟩ (.slice (some ⟨W8.heap.size, 0, none⟩) 2 2)) w7.heap.size 41 (oum M 3) (.slice ba0 M.types.length bk0) (.slice ba1 M.funcs.length bk1) (.slice ba2 M.tables.length bk2) (.slice (some ⟨W8.heap.size, 0, none⟩) 2 2) (.slice ba4 M.globs.length bk4) (.slice ba5 M.exps.length bk5) (.slice ba6 M.elems.length bk6) (.slice ba7 M.datas.length bk7) := ⟨hb9, (unhide HMd).moved (fun i hi hg => ⟨Nat.lt_of_lt_of_le hg.1 (by simp), heap_setCell_other _ _ i _ hg.2⟩) (by simp)⟩
    have hbw9 : Below w.heap.size w ((W8.alloc (.cells #[.int .u32 0, .bool false, .int .u32 0, .int .u32 0, .bool false, .int .u32 0] 75)).setCell ⟨w7.heap.size, 3, none⟩ (.slice (some ⟨W8.heap.size, 0, none⟩) 2 2)) := (unhide HBy).setCell (by have h1 := (unhide HBv).size; simpa using h1) _
    have MB9 := hide hm9; have HBw9 := hide hbw9
    clear hb9 hm9 hbw9 HBx HMd HBy hfz ck HBw HBv HMo HN8 HR8
    generalize (W8.alloc (.cells #[.int .u32 0, .bool false, .int .u32 0, .int .u32 0, .bool false, .int .u32 0] 75)).setCell ⟨w7.heap.size, 3, none⟩ (.slice (some ⟨W8.heap.size, 0, none⟩) 2 2) = W9 at *
    obtain ⟨d0, d1, d2, d3, d4, d5, d6, d7⟩ := mbox (unhide MB9).1
    go_wp2_with fail
    refine (unhide HCo (unhide HSh) 3 W9 (unhide HBw9) w7.heap.size 41 _ _ _ _ _ _ _ _ (unhide MB9)).mono ?_
    rintro e w10 ⟨hch, hb10⟩
    obtain rfl := oum_no (unhide HLi) hch
    replace HBw9 := hide (Below.on0 (unhide HBw9) hb10 (unhide HBw9).size)
    clear hch hb10 d0 d1 d2 d3 d4 d5 d6 d7 MB9
    go_wp2_with fail
    refine (unhide HNu 7 w10 (unhide HBw9)).mono ?_
    rintro e w11 ⟨rfl, hb11⟩
    replace HBw9 := hide (Below.on0 (unhide HBw9) hb11 (unhide HBw9).size)
    clear hb11
    go_wp2_with fail
    refine (unhide HSu w11 (unhide HBw9)).mono ?_
    rintro e w12 ⟨rfl, hb12⟩
    replace HBw9 := hide (Below.on0 (unhide HBw9) hb12 (unhide HBw9).size)
    clear hb12
    go_wp2
    go_ret
    exact ⟨rfl, unhide HBw9⟩
  · have hkk : wrap64 ((IntKind.u64.wrap way).tmod 7) = 4 := hkk
    obtain ⟨xs, ho, hit⟩ := (unhide HMo).l4.1
    obtain ⟨i0, hi, hz0, hz1, hz2⟩ := info_parts Gm.gmInfo4
    have hlen : M.globs.length ≤ 300 := by have := unhide HSh; unfold Short at this; omega
    have hbl := (unhide HMo).l4.1
    have hHo := hide ho; have HIt := hide hit
    have hown8 : W8.ownsRow 0 77 10 (.slice ba4 M.globs.length bk4) M.globs.length xs := ownsRow_below (own_base ho) (unhide HN8)
    have HO8 := hide hown8
    clear hbl ho hit hown8
    go_upto_region 20 with fail
    go_wp2_with (at_builtin; refine wpList_append_lies _ rfl (.tmp 80) (.tmp 83) 36 rfl 0 77 i0 (.agg #[.int .u8 0, .bool false, .int .u8 0, .int .i64 0, .int .u32 0, .int .u32 0, .int .u8 0, .slice none 0 0, .slice none 0 0, .slice none 0 0]) 10 112 Tryz.underlying36 hi hz0 hz1 hz2 rfl (by decide) (.slice ba4 M.globs.length bk4) M.globs.length xs rfl (ownsRow_below (unhide HO8) (one_al W8 _)) ⟨W8.heap.size, 0, none⟩ 1 1 [.int .u8 126, .bool false, .int .u8 65, .int .i64 0, .int .u32 0, .int .u32 0, .int .u8 0, .slice none 0 0, .slice none 0 0, .slice none 0 0] rfl rfl ?c1 ?c2 (by omega) ?c3 ?c4 ?c5 (W8.heap.size + 1) ?c6 ?_)
    case c1 => exact Gm.new_cells W8 [.int .u8 126, .bool false, .int .u8 65, .int .i64 0, .int .u32 0, .int .u32 0, .int .u8 0, .slice none 0 0, .slice none 0 0, .slice none 0 0] _
    case c2 =>
      intro u hu
      simp only [List.mem_cons, List.not_mem_nil, or_false] at hu
      repeat' (first | (rcases hu with rfl | hu) | (subst hu))
      all_goals rfl
    case c3 => unfold maxLen; omega
    case c4 => omega
    case c5 => exact Nat.zero_le _
    case c6 => simp
    intro g9 k9 wx hown9 hgr9 hat9 hlt9
    have hol := (unhide hHo).lt
    have hwa : Below w7.heap.size w7 (W8.alloc (.cells #[.int .u8 126, .bool false, .int .u8 65, .int .i64 0, .int .u32 0, .int .u32 0, .int .u8 0, .slice none 0 0, .slice none 0 0, .slice none 0 0] 77)) := Below.on (unhide HN8) (one_al W8 _)
    have hzw : w7.heap.size < (W8.alloc (.cells #[.int .u8 126, .bool false, .int .u8 65, .int .i64 0, .int .u32 0, .int .u32 0, .int .u8 0, .slice none 0 0, .slice none 0 0, .slice none 0 0] 77)).heap.size := by have := unhide HZ8; have := (one_al W8 (.cells #[.int .u8 126, .bool false, .int .u8 65, .int .i64 0, .int .u32 0, .int .u32 0, .int .u8 0, .slice none 0 0, .slice none 0 0, .slice none 0 0] 77)).size; omega
    have hnb : g9 ≠ w7.heap.size := by
      rcases hat9 with h | h
      · have := (hol _ h).2; omega
      · have := unhide HZ8; omega
    have hob : ∀ i, (Value.slice ba4 M.globs.length bk4).ownBlock = some i → w.heap.size ≤ i ∧ i < w7.heap.size := fun i hi => by have h1 := hol i hi; have h2 := unhide HS4; exact ⟨by omega, h1.2⟩

    have hmod : ModL wx (fun b => b < wx.heap.size ∧ b ≠ w7.heap.size) (oum M 4) (.slice ba0 M.types.length bk0) (.slice ba1 M.funcs.length bk1) (.slice ba2 M.tables.length bk2) (.slice ba3 M.mems.length bk3) (.slice (some ⟨g9, 0, none⟩) (M.globs.length + 1) k9) (.slice ba5 M.exps.length bk5) (.slice ba6 M.elems.length bk6) (.slice ba7 M.datas.length bk7) := pu_4 (x := ⟨126, false, con⟩) (unhide HMo) (unhide HIt) hwa hgr9 hown9 hnb ⟨_, rfl, con_in _ _⟩ rfl
    have hbx0 : (W8.alloc (.cells #[.int .u8 126, .bool false, .int .u8 65, .int .i64 0, .int .u32 0, .int .u32 0, .int .u8 0, .slice none 0 0, .slice none 0 0, .slice none 0 0] 77)).heap[w7.heap.size]? = some (.cells #[.slice ba0 M.types.length bk0, .slice ba1 M.funcs.length bk1, .slice ba2 M.tables.length bk2, .slice ba3 M.mems.length bk3, .slice ba4 M.globs.length bk4, .slice ba5 M.exps.length bk5, .slice ba6 M.elems.length bk6, .slice ba7 M.datas.length bk7] 41 (0, 0)) := ((one_al W8 _).block w7.heap.size (by have := unhide HZ8; omega)).trans (unhide HR8)
    have hbx := (hgr9.block w7.heap.size hzw (fun e => by have := (hob _ e.symm).2; omega)).trans hbx0
    have hbw0 : Below w.heap.size w (W8.alloc (.cells #[.int .u8 126, .bool false, .int .u8 65, .int .i64 0, .int .u32 0, .int .u32 0, .int .u8 0, .slice none 0 0, .slice none 0 0, .slice none 0 0] 77)) := Below.on0 (unhide HBv) hwa (unhide HBv).size
    have hbw : Below w.heap.size w wx := hbw0.grown hgr9 hbw0.size (fun i hi => (hob i hi).1)
    have hfz : ∀ j, wx.frozen? ⟨w7.heap.size, j, none⟩ = false := fun j => frozen_of_row _ _ j _ _ hbx
    have ck := cell_of_row _ w7.heap.size 4 _ _ _ hbx
    have HMd := hide hmod; have HBx := hide hbx; have HBy := hide hbw
    clear hown9 hgr9 hat9 hol hwa hzw hnb hob hmod hbx0 hbx hbw0 hbw c0 c1 c2 c3 c4 c5 c6 c7 hHo HIt HO8 hi hz0 hz1 hz2
    go_upto_region 23 with fail
    have hb9 : (wx.setCell ⟨w7.heap.size, 4, none⟩ (.slice (some ⟨g9, 0, none⟩) (M.globs.length + 1) k9)).heap[w7.heap.size]? = some (.cells #[.slice ba0 M.types.length bk0, .slice ba1 M.funcs.length bk1, .slice ba2 M.tables.length bk2, .slice ba3 M.mems.length bk3, .slice (some ⟨g9, 0, none⟩) (M.globs.length + 1) k9, .slice ba5 M.exps.length bk5, .slice ba6 M.elems.length bk6, .slice ba7 M.datas.length bk7] 41 (0, 0)) := heap_setCell_same _ _ 4 _ _ _ (unhide HBx)
    have hm9 : MBo (wx.setCell ⟨w7.heap.size, 4, none⟩ (.slice (some ⟨g9, 0, none⟩) (M.globs.length + 1) k9)) w7.heap.size 41 (oum M 4) (.slice ba0 M.types.length bk0) (.slice ba1 M.funcs.length bk1) (.slice ba2 M.tables.length bk2) (.slice ba3 M.mems.length bk3) (.slice (some ⟨g9, 0, none⟩) (M.globs.length + 1) k9) (.slice ba5 M.exps.length bk5) (.slice ba6 M.elems.length bk6) (.slice ba7 M.datas.length bk7) := ⟨hb9, (unhide HMd).moved (fun i hi hg => ⟨Nat.lt_of_lt_of_le hg.1 (by simp), heap_setCell_other _ _ i _ hg.2⟩) (by simp)⟩
    have hbw9 : Below w.heap.size w (wx.setCell ⟨w7.heap.size, 4, none⟩ (.slice (some ⟨g9, 0, none⟩) (M.globs.length + 1) k9)) := (unhide HBy).setCell (by have h1 := (unhide HBv).size; simpa using h1) _
    have MB9 := hide hm9; have HBw9 := hide hbw9
    clear hb9 hm9 hbw9 HBx HMd HBy hfz ck HBw HBv HMo HN8 HR8
    generalize wx.setCell ⟨w7.heap.size, 4, none⟩ (.slice (some ⟨g9, 0, none⟩) (M.globs.length + 1) k9) = W9 at *
    obtain ⟨d0, d1, d2, d3, d4, d5, d6, d7⟩ := mbox (unhide MB9).1
    go_wp2_with fail
    refine (unhide HCo (unhide HSh) 4 W9 (unhide HBw9) w7.heap.size 41 _ _ _ _ _ _ _ _ (unhide MB9)).mono ?_
    rintro e w10 ⟨hch, hb10⟩
    obtain rfl := oum_no (unhide HLi) hch
    replace HBw9 := hide (Below.on0 (unhide HBw9) hb10 (unhide HBw9).size)
    clear hch hb10 d0 d1 d2 d3 d4 d5 d6 d7 MB9
    go_wp2_with fail
    refine (unhide HNu 7 w10 (unhide HBw9)).mono ?_
    rintro e w11 ⟨rfl, hb11⟩
    replace HBw9 := hide (Below.on0 (unhide HBw9) hb11 (unhide HBw9).size)
    clear hb11
    go_wp2_with fail
    refine (unhide HSu w11 (unhide HBw9)).mono ?_
    rintro e w12 ⟨rfl, hb12⟩
    replace HBw9 := hide (Below.on0 (unhide HBw9) hb12 (unhide HBw9).size)
    clear hb12
    go_wp2
    go_ret
    exact ⟨rfl, unhide HBw9⟩
  · have hkk : wrap64 ((IntKind.u64.wrap way).tmod 7) = 5 := hkk
    obtain ⟨xs, ho, hit⟩ := (unhide HMo).l6.1
    obtain ⟨i0, hi, hz0, hz1, hz2⟩ := info_parts Gm.gmInfo6
    have hlen : M.elems.length ≤ 300 := by have := unhide HSh; unfold Short at this; omega
    have hbl := (unhide HMo).l6.1
    have hHo := hide ho; have HIt := hide hit
    have hown8 : W8.ownsRow 0 79 10 (.slice ba6 M.elems.length bk6) M.elems.length xs := ownsRow_below (own_base ho) (unhide HN8)
    have HO8 := hide hown8
    clear hbl ho hit hown8
    go_upto_region 22 with fail
    go_wp2_with (at_builtin; refine wpList_append_lies _ rfl (.tmp 89) (.tmp 94) 38 rfl 0 79 i0 (.agg #[.int .u32 0, .int .u8 0, .int .i64 0, .int .u32 0, .int .u32 0, .int .u8 0, .slice none 0 0, .slice none 0 0, .slice none 0 0, .slice none 0 0]) 10 136 Tryz.underlying38 hi hz0 hz1 hz2 rfl (by decide) (.slice ba6 M.elems.length bk6) M.elems.length xs rfl (ownsRow_below (unhide HO8) (Below.on (one_al W8 _) (one_al _ _))) ⟨(W8.heap.size + 1), 0, none⟩ 1 1 [.int .u32 0, .int .u8 65, .int .i64 0, .int .u32 0, .int .u32 0, .int .u8 0, .slice none 0 0, .slice none 0 0, .slice none 0 0, .slice (some ⟨W8.heap.size, 0, none⟩) 1 1] rfl rfl ?c1 ?c2 (by omega) ?c3 ?c4 ?c5 ((W8.heap.size + 1) + 1) ?c6 ?_)
    case c1 => (intro j u hu; have h := Gm.new_cells (W8.alloc (.cells #[.int .u32 M.funcs.length] 59)) [.int .u32 0, .int .u8 65, .int .i64 0, .int .u32 0, .int .u32 0, .int .u8 0, .slice none 0 0, .slice none 0 0, .slice none 0 0, .slice (some ⟨W8.heap.size, 0, none⟩) 1 1] 79 j u hu; rw [show (W8.alloc (.cells #[.int .u32 M.funcs.length] 59)).heap.size = W8.heap.size + 1 by simp] at h; exact h)
    case c2 =>
      intro u hu
      simp only [List.mem_cons, List.not_mem_nil, or_false] at hu
      repeat' (first | (rcases hu with rfl | hu) | (subst hu))
      all_goals rfl
    case c3 => unfold maxLen; omega
    case c4 => omega
    case c5 => exact Nat.zero_le _
    case c6 => simp
    intro g9 k9 wx hown9 hgr9 hat9 hlt9
    have hol := (unhide hHo).lt
    have hwa : Below w7.heap.size w7 ((W8.alloc (.cells #[.int .u32 M.funcs.length] 59)).alloc (.cells #[.int .u32 0, .int .u8 65, .int .i64 0, .int .u32 0, .int .u32 0, .int .u8 0, .slice none 0 0, .slice none 0 0, .slice none 0 0, .slice (some ⟨W8.heap.size, 0, none⟩) 1 1] 79)) := Below.on (unhide HN8) (Below.on (one_al W8 _) (one_al _ _))
    have hzw : w7.heap.size < ((W8.alloc (.cells #[.int .u32 M.funcs.length] 59)).alloc (.cells #[.int .u32 0, .int .u8 65, .int .i64 0, .int .u32 0, .int .u32 0, .int .u8 0, .slice none 0 0, .slice none 0 0, .slice none 0 0, .slice (some ⟨W8.heap.size, 0, none⟩) 1 1] 79)).heap.size := by have := unhide HZ8; have := (one_al (W8.alloc (.cells #[.int .u32 M.funcs.length] 59)) (.cells #[.int .u32 0, .int .u8 65, .int .i64 0, .int .u32 0, .int .u32 0, .int .u8 0, .slice none 0 0, .slice none 0 0, .slice none 0 0, .slice (some ⟨W8.heap.size, 0, none⟩) 1 1] 79)).size; have := (one_al W8 (.cells #[.int .u32 M.funcs.length] 59)).size; omega
    have hnb : g9 ≠ w7.heap.size := by
      rcases hat9 with h | h
      · have := (hol _ h).2; omega
      · have := unhide HZ8; omega
    have hob : ∀ i, (Value.slice ba6 M.elems.length bk6).ownBlock = some i → w.heap.size ≤ i ∧ i < w7.heap.size := fun i hi => by have h1 := hol i hi; have h2 := unhide HS4; exact ⟨by omega, h1.2⟩
    have hl8 : wx.heap[W8.heap.size]? = some (.cells #[.int .u32 M.funcs.length] 59 (0, 0)) := (hgr9.block W8.heap.size (by simp; omega) (fun e => by have := (hob _ e.symm).2; have := unhide HZ8; omega)).trans ((Below.heap_alloc _ _ _ (by simp)).trans (heap_alloc_new W8 _))
    have hlab : Lies (fun b => b < wx.heap.size ∧ b ≠ w7.heap.size) ([(M.funcs.length : Int)]).length (Lab wx [(M.funcs.length : Int)]) (.slice (some ⟨W8.heap.size, 0, none⟩) 1 1) := ⟨some ⟨W8.heap.size, 0, none⟩, 1, rfl, by simp, by simp, fun _ => ⟨W8.heap.size, 0, rfl, ⟨(Array.getElem?_eq_some_iff.1 hl8).1, by have := unhide HZ8; omega⟩, fun j hj => by
      obtain rfl : j = 0 := by simpa using hj
      rw [cell_of_row wx _ _ _ _ _ hl8]; rfl⟩⟩
    have hmod : ModL wx (fun b => b < wx.heap.size ∧ b ≠ w7.heap.size) (oum M 5) (.slice ba0 M.types.length bk0) (.slice ba1 M.funcs.length bk1) (.slice ba2 M.tables.length bk2) (.slice ba3 M.mems.length bk3) (.slice ba4 M.globs.length bk4) (.slice ba5 M.exps.length bk5) (.slice (some ⟨g9, 0, none⟩) (M.elems.length + 1) k9) (.slice ba7 M.datas.length bk7) := pu_6 (x := ⟨0, con, [(M.funcs.length : Int)]⟩) (unhide HMo) (unhide HIt) hwa hgr9 hown9 hnb ⟨_, _, rfl, con_in _ _, hlab⟩ rfl
    have hbx0 : ((W8.alloc (.cells #[.int .u32 M.funcs.length] 59)).alloc (.cells #[.int .u32 0, .int .u8 65, .int .i64 0, .int .u32 0, .int .u32 0, .int .u8 0, .slice none 0 0, .slice none 0 0, .slice none 0 0, .slice (some ⟨W8.heap.size, 0, none⟩) 1 1] 79)).heap[w7.heap.size]? = some (.cells #[.slice ba0 M.types.length bk0, .slice ba1 M.funcs.length bk1, .slice ba2 M.tables.length bk2, .slice ba3 M.mems.length bk3, .slice ba4 M.globs.length bk4, .slice ba5 M.exps.length bk5, .slice ba6 M.elems.length bk6, .slice ba7 M.datas.length bk7] 41 (0, 0)) := ((Below.on (one_al W8 _) (one_al _ _)).block w7.heap.size (by have := unhide HZ8; omega)).trans (unhide HR8)
    have hbx := (hgr9.block w7.heap.size hzw (fun e => by have := (hob _ e.symm).2; omega)).trans hbx0
    have hbw0 : Below w.heap.size w ((W8.alloc (.cells #[.int .u32 M.funcs.length] 59)).alloc (.cells #[.int .u32 0, .int .u8 65, .int .i64 0, .int .u32 0, .int .u32 0, .int .u8 0, .slice none 0 0, .slice none 0 0, .slice none 0 0, .slice (some ⟨W8.heap.size, 0, none⟩) 1 1] 79)) := Below.on0 (unhide HBv) hwa (unhide HBv).size
    have hbw : Below w.heap.size w wx := hbw0.grown hgr9 hbw0.size (fun i hi => (hob i hi).1)
    have hfz : ∀ j, wx.frozen? ⟨w7.heap.size, j, none⟩ = false := fun j => frozen_of_row _ _ j _ _ hbx
    have ck := cell_of_row _ w7.heap.size 6 _ _ _ hbx
    have HMd := hide hmod; have HBx := hide hbx; have HBy := hide hbw
    clear hown9 hgr9 hat9 hol hwa hzw hnb hob hmod hbx0 hbx hbw0 hbw c0 c1 c2 c3 c4 c5 c6 c7 hHo HIt HO8 hi hz0 hz1 hz2
    go_upto_region 23 with fail
    have hb9 : (wx.setCell ⟨w7.heap.size, 6, none⟩ (.slice (some ⟨g9, 0, none⟩) (M.elems.length + 1) k9)).heap[w7.heap.size]? = some (.cells #[.slice ba0 M.types.length bk0, .slice ba1 M.funcs.length bk1, .slice ba2 M.tables.length bk2, .slice ba3 M.mems.length bk3, .slice ba4 M.globs.length bk4, .slice ba5 M.exps.length bk5, .slice (some ⟨g9, 0, none⟩) (M.elems.length + 1) k9, .slice ba7 M.datas.length bk7] 41 (0, 0)) := heap_setCell_same _ _ 6 _ _ _ (unhide HBx)
    have hm9 : MBo (wx.setCell ⟨w7.heap.size, 6, none⟩ (.slice (some ⟨g9, 0, none⟩) (M.elems.length + 1) k9)) w7.heap.size 41 (oum M 5) (.slice ba0 M.types.length bk0) (.slice ba1 M.funcs.length bk1) (.slice ba2 M.tables.length bk2) (.slice ba3 M.mems.length bk3) (.slice ba4 M.globs.length bk4) (.slice ba5 M.exps.length bk5) (.slice (some ⟨g9, 0, none⟩) (M.elems.length + 1) k9) (.slice ba7 M.datas.length bk7) := ⟨hb9, (unhide HMd).moved (fun i hi hg => ⟨Nat.lt_of_lt_of_le hg.1 (by simp), heap_setCell_other _ _ i _ hg.2⟩) (by simp)⟩
    have hbw9 : Below w.heap.size w (wx.setCell ⟨w7.heap.size, 6, none⟩ (.slice (some ⟨g9, 0, none⟩) (M.elems.length + 1) k9)) := (unhide HBy).setCell (by have h1 := (unhide HBv).size; simpa using h1) _
    have MB9 := hide hm9; have HBw9 := hide hbw9
    clear hb9 hm9 hbw9 HBx HMd HBy hfz ck HBw HBv HMo HN8 HR8
    generalize wx.setCell ⟨w7.heap.size, 6, none⟩ (.slice (some ⟨g9, 0, none⟩) (M.elems.length + 1) k9) = W9 at *
    obtain ⟨d0, d1, d2, d3, d4, d5, d6, d7⟩ := mbox (unhide MB9).1
    go_wp2_with fail
    refine (unhide HCo (unhide HSh) 5 W9 (unhide HBw9) w7.heap.size 41 _ _ _ _ _ _ _ _ (unhide MB9)).mono ?_
    rintro e w10 ⟨hch, hb10⟩
    obtain rfl := oum_no (unhide HLi) hch
    replace HBw9 := hide (Below.on0 (unhide HBw9) hb10 (unhide HBw9).size)
    clear hch hb10 d0 d1 d2 d3 d4 d5 d6 d7 MB9
    go_wp2_with fail
    refine (unhide HNu 7 w10 (unhide HBw9)).mono ?_
    rintro e w11 ⟨rfl, hb11⟩
    replace HBw9 := hide (Below.on0 (unhide HBw9) hb11 (unhide HBw9).size)
    clear hb11
    go_wp2_with fail
    refine (unhide HSu w11 (unhide HBw9)).mono ?_
    rintro e w12 ⟨rfl, hb12⟩
    replace HBw9 := hide (Below.on0 (unhide HBw9) hb12 (unhide HBw9).size)
    clear hb12
    go_wp2
    go_ret
    exact ⟨rfl, unhide HBw9⟩
  · have hkk : wrap64 ((IntKind.u64.wrap way).tmod 7) = 6 := hkk
    obtain ⟨xs, ho, hit⟩ := (unhide HMo).l7.1
    obtain ⟨i0, hi, hz0, hz1, hz2⟩ := info_parts Gm.gmInfo7
    have hlen : M.datas.length ≤ 300 := by have := unhide HSh; unfold Short at this; omega
    have hbl := (unhide HMo).l7.1
    have hHo := hide ho; have HIt := hide hit
    have hown8 : W8.ownsRow 0 81 10 (.slice ba7 M.datas.length bk7) M.datas.length xs := ownsRow_below (own_base ho) (unhide HN8)
    have HO8 := hide hown8
    clear hbl ho hit hown8
    go_upto_region 10 with fail
    go_wp2_with (at_builtin; refine wpList_append_lies _ rfl (.tmp 36) (.tmp 39) 39 rfl 0 81 i0 (.agg #[.int .u32 0, .int .u8 0, .int .i64 0, .int .u32 0, .int .u32 0, .int .u8 0, .slice none 0 0, .slice none 0 0, .slice none 0 0, .slice none 0 0]) 10 136 Tryz.underlying39 hi hz0 hz1 hz2 rfl (by decide) (.slice ba7 M.datas.length bk7) M.datas.length xs rfl (ownsRow_below (unhide HO8) (one_al W8 _)) ⟨W8.heap.size, 0, none⟩ 1 1 [.int .u32 1, .int .u8 65, .int .i64 0, .int .u32 0, .int .u32 0, .int .u8 0, .slice none 0 0, .slice none 0 0, .slice none 0 0, .slice none 0 0] rfl rfl ?c1 ?c2 (by omega) ?c3 ?c4 ?c5 (W8.heap.size + 1) ?c6 ?_)
    case c1 => exact Gm.new_cells W8 [.int .u32 1, .int .u8 65, .int .i64 0, .int .u32 0, .int .u32 0, .int .u8 0, .slice none 0 0, .slice none 0 0, .slice none 0 0, .slice none 0 0] _
    case c2 =>
      intro u hu
      simp only [List.mem_cons, List.not_mem_nil, or_false] at hu
      repeat' (first | (rcases hu with rfl | hu) | (subst hu))
      all_goals rfl
    case c3 => unfold maxLen; omega
    case c4 => omega
    case c5 => exact Nat.zero_le _
    case c6 => simp
    intro g9 k9 wx hown9 hgr9 hat9 hlt9
    have hol := (unhide hHo).lt
    have hwa : Below w7.heap.size w7 (W8.alloc (.cells #[.int .u32 1, .int .u8 65, .int .i64 0, .int .u32 0, .int .u32 0, .int .u8 0, .slice none 0 0, .slice none 0 0, .slice none 0 0, .slice none 0 0] 81)) := Below.on (unhide HN8) (one_al W8 _)
    have hzw : w7.heap.size < (W8.alloc (.cells #[.int .u32 1, .int .u8 65, .int .i64 0, .int .u32 0, .int .u32 0, .int .u8 0, .slice none 0 0, .slice none 0 0, .slice none 0 0, .slice none 0 0] 81)).heap.size := by have := unhide HZ8; have := (one_al W8 (.cells #[.int .u32 1, .int .u8 65, .int .i64 0, .int .u32 0, .int .u32 0, .int .u8 0, .slice none 0 0, .slice none 0 0, .slice none 0 0, .slice none 0 0] 81)).size; omega
    have hnb : g9 ≠ w7.heap.size := by
      rcases hat9 with h | h
      · have := (hol _ h).2; omega
      · have := unhide HZ8; omega
    have hob : ∀ i, (Value.slice ba7 M.datas.length bk7).ownBlock = some i → w.heap.size ≤ i ∧ i < w7.heap.size := fun i hi => by have h1 := hol i hi; have h2 := unhide HS4; exact ⟨by omega, h1.2⟩

    have hmod : ModL wx (fun b => b < wx.heap.size ∧ b ≠ w7.heap.size) (oum M 6) (.slice ba0 M.types.length bk0) (.slice ba1 M.funcs.length bk1) (.slice ba2 M.tables.length bk2) (.slice ba3 M.mems.length bk3) (.slice ba4 M.globs.length bk4) (.slice ba5 M.exps.length bk5) (.slice ba6 M.elems.length bk6) (.slice (some ⟨g9, 0, none⟩) (M.datas.length + 1) k9)  := pu_7 (x := ⟨1, con, []⟩) (unhide HMo) (unhide HIt) hwa hgr9 hown9 hnb ⟨_, _, rfl, con_in _ _, lies_nil _ _⟩ rfl
    have hbx0 : (W8.alloc (.cells #[.int .u32 1, .int .u8 65, .int .i64 0, .int .u32 0, .int .u32 0, .int .u8 0, .slice none 0 0, .slice none 0 0, .slice none 0 0, .slice none 0 0] 81)).heap[w7.heap.size]? = some (.cells #[.slice ba0 M.types.length bk0, .slice ba1 M.funcs.length bk1, .slice ba2 M.tables.length bk2, .slice ba3 M.mems.length bk3, .slice ba4 M.globs.length bk4, .slice ba5 M.exps.length bk5, .slice ba6 M.elems.length bk6, .slice ba7 M.datas.length bk7] 41 (0, 0)) := ((one_al W8 _).block w7.heap.size (by have := unhide HZ8; omega)).trans (unhide HR8)
    have hbx := (hgr9.block w7.heap.size hzw (fun e => by have := (hob _ e.symm).2; omega)).trans hbx0
    have hbw0 : Below w.heap.size w (W8.alloc (.cells #[.int .u32 1, .int .u8 65, .int .i64 0, .int .u32 0, .int .u32 0, .int .u8 0, .slice none 0 0, .slice none 0 0, .slice none 0 0, .slice none 0 0] 81)) := Below.on0 (unhide HBv) hwa (unhide HBv).size
    have hbw : Below w.heap.size w wx := hbw0.grown hgr9 hbw0.size (fun i hi => (hob i hi).1)
    have hfz : ∀ j, wx.frozen? ⟨w7.heap.size, j, none⟩ = false := fun j => frozen_of_row _ _ j _ _ hbx
    have ck := cell_of_row _ w7.heap.size 7 _ _ _ hbx
    have HMd := hide hmod; have HBx := hide hbx; have HBy := hide hbw
    clear hown9 hgr9 hat9 hol hwa hzw hnb hob hmod hbx0 hbx hbw0 hbw c0 c1 c2 c3 c4 c5 c6 c7 hHo HIt HO8 hi hz0 hz1 hz2
    go_upto_region 23 with fail
    have hb9 : (wx.setCell ⟨w7.heap.size, 7, none⟩ (.slice (some ⟨g9, 0, none⟩) (M.datas.length + 1) k9)).heap[w7.heap.size]? = some (.cells #[.slice ba0 M.types.length bk0, .slice ba1 M.funcs.length bk1, .slice ba2 M.tables.length bk2, .slice ba3 M.mems.length bk3, .slice ba4 M.globs.length bk4, .slice ba5 M.exps.length bk5, .slice ba6 M.elems.length bk6, .slice (some ⟨g9, 0, none⟩) (M.datas.length + 1) k9] 41 (0, 0)) := heap_setCell_same _ _ 7 _ _ _ (unhide HBx)
    have hm9 : MBo (wx.setCell ⟨w7.heap.size, 7, none⟩ (.slice (some ⟨g9, 0, none⟩) (M.datas.length + 1) k9)) w7.heap.size 41 (oum M 6) (.slice ba0 M.types.length bk0) (.slice ba1 M.funcs.length bk1) (.slice ba2 M.tables.length bk2) (.slice ba3 M.mems.length bk3) (.slice ba4 M.globs.length bk4) (.slice ba5 M.exps.length bk5) (.slice ba6 M.elems.length bk6) (.slice (some ⟨g9, 0, none⟩) (M.datas.length + 1) k9) := ⟨hb9, (unhide HMd).moved (fun i hi hg => ⟨Nat.lt_of_lt_of_le hg.1 (by simp), heap_setCell_other _ _ i _ hg.2⟩) (by simp)⟩
    have hbw9 : Below w.heap.size w (wx.setCell ⟨w7.heap.size, 7, none⟩ (.slice (some ⟨g9, 0, none⟩) (M.datas.length + 1) k9)) := (unhide HBy).setCell (by have h1 := (unhide HBv).size; simpa using h1) _
    have MB9 := hide hm9; have HBw9 := hide hbw9
    clear hb9 hm9 hbw9 HBx HMd HBy hfz ck HBw HBv HMo HN8 HR8
    generalize wx.setCell ⟨w7.heap.size, 7, none⟩ (.slice (some ⟨g9, 0, none⟩) (M.datas.length + 1) k9) = W9 at *
    obtain ⟨d0, d1, d2, d3, d4, d5, d6, d7⟩ := mbox (unhide MB9).1
    go_wp2_with fail
    refine (unhide HCo (unhide HSh) 6 W9 (unhide HBw9) w7.heap.size 41 _ _ _ _ _ _ _ _ (unhide MB9)).mono ?_
    rintro e w10 ⟨hch, hb10⟩
    obtain rfl := oum_no (unhide HLi) hch
    replace HBw9 := hide (Below.on0 (unhide HBw9) hb10 (unhide HBw9).size)
    clear hch hb10 d0 d1 d2 d3 d4 d5 d6 d7 MB9
    go_wp2_with fail
    refine (unhide HNu 7 w10 (unhide HBw9)).mono ?_
    rintro e w11 ⟨rfl, hb11⟩
    replace HBw9 := hide (Below.on0 (unhide HBw9) hb11 (unhide HBw9).size)
    clear hb11
    go_wp2_with fail
    refine (unhide HSu w11 (unhide HBw9)).mono ?_
    rintro e w12 ⟨rfl, hb12⟩
    replace HBw9 := hide (Below.on0 (unhide HBw9) hb12 (unhide HBw9).size)
    clear hb12
    go_wp2
    go_ret
    exact ⟨rfl, unhide HBw9⟩
end Vw
end Go.Proofs.YtcpknafaocdjdaaGreatDoor

/- From the rows' condition on ops' tables to what the walks ask of them. -/
namespace Go.Proofs.YtcpknafaocdjdaaGreatDoor
open Go.RowKit
set_option linter.unusedVariables false

theorem tc_of_head {P : Program} {W : World} {name : String} {d : DataW Unit} {rest : List (String × DataW Unit)} {g : Nat} {t : TypeId}
    (hg : P.globalNamed name = some g) (hty : (P.globals[g]?).map (·.type) = some t) (h : laidMet P ((name, d) :: rest) W) {vs : List Value}
    (hc : ∀ fuel (xs : List Value) p, DataW.trod (fun _ => ()) P W 0 (fun _ => true) false fuel t xs = some (d, p) → xs = vs) : TC W g vs := by
  obtain ⟨ps, ⟨g', t', cs', fuel, p, q, hg', ht', hvar, hd, _, _⟩, _⟩ := h
  obtain rfl := Option.some.inj (hg.symm.trans hg')
  obtain rfl := Option.some.inj (hty.symm.trans ht')
  have e := hc _ _ _ hd
  simp only [World.var?, hg, Option.bind_some] at hvar
  split at hvar
  · rename_i cs t fr hh
    obtain rfl := Option.some.inj hvar
    subst e
    exact ⟨(Array.getElem?_eq_some_iff.1 hh).1, t, fr, hh⟩
  · cases hvar

theorem flat_one {α : Type} (f : α → Value) : ∀ l : List α, (l.flatMap fun s => [f s]) = l.map f
  | [] => rfl
  | a :: l => by rw [List.flatMap_cons, flat_one f l]; rfl
theorem ts_of_tc {W : World} {g : Nat} {l : List (List UInt8)} (h : TC W g (l.flatMap fun s => [Value.string (str s)])) : TS W g l := by
  obtain ⟨_, t, fr, hr⟩ := h
  intro j s hj
  rw [cell_of_row W g j _ _ _ hr, flat_one]
  simp [hj]

theorem fam_of_trod {W : World} (fuel : Nat) (xs : List Value) (x : Fam) (p : List MemPlace)
    (h : DataW.trod (fun _ => ()) Tryz.prog W 0 (fun _ => true) false fuel 201 xs = some (.agg [.lit (.int .u8 x.f), .lit (.int .u8 x.l), .lit (.int .i64 x.o), .lit (.int .u8 x.x), .lit (.int .u8 x.y), .lit (.int .u8 x.g)], p)) : xs = fmC x := by
  obtain ⟨fs, hfs⟩ : ∃ fs, Tryz.prog.underlying 201 = some (.struct fs) := ⟨_, Tryz.underlying201⟩
  have hty : (Tryz.prog.underlying 201).map (fun d => match d with | .struct fs => fs.toList.map (fun f => (f.type, f.offset)) | _ => []) = some [(5, 0), (5, 1), (3, 2), (60, 3), (60, 4), (60, 5)] := by kernel_rfl
  rw [hfs] at hty
  simp only [Option.map_some, Option.some.injEq] at hty
  obtain ⟨ys, k, rfl, hx, hlen, hyl, hall⟩ := DataW.trod_struct hfs h
  rw [show Tryz.prog.cellsOf 201 = 6 by kernel_rfl] at hlen
  have hm : ys.map (·.1) = [DataW.lit (.int .u8 x.f), .lit (.int .u8 x.l), .lit (.int .i64 x.o), .lit (.int .u8 x.x), .lit (.int .u8 x.y), .lit (.int .u8 x.g)] := by
    have := congrArg Prod.fst hx
    simpa using this.symm
  have key : ∀ (i : Nat) (t : TypeId) (kd : IntKind) (z : Int), (fs.toList.map (fun f => (f.type, f.offset)))[i]? = some (t, i) → Tryz.prog.underlying t = some (.int kd) → Tryz.prog.cellsOf t = 1 → (ys.map (·.1))[i]? = some (DataW.lit (.int kd z)) → xs[i]? = some (.int kd z) := by
    intro i t kd z e1 e2 e3 e4
    simp only [List.getElem?_map, Option.map_eq_some_iff] at e1 e4
    obtain ⟨f, hf, hft⟩ := e1
    obtain ⟨y, hy, hy1⟩ := e4
    have h1 := hall i f (by simpa using hf)
    have ht : f.type = t := congrArg Prod.fst hft
    have ho : f.offset = i := congrArg Prod.snd hft
    rw [ht, ho, e3, hy] at h1
    obtain ⟨y1, y2⟩ := y
    simp only at hy1
    subst hy1
    have := int_of_trod e2 _ _ _ _ h1
    have := congrArg (·[0]?) this
    simpa [List.getElem?_take, List.getElem?_drop] using this
  have u8 : Tryz.prog.underlying 5 = some (.int .u8) := by kernel_rfl
  have ui : Tryz.prog.underlying 3 = some (.int .i64) := by kernel_rfl
  have uk : Tryz.prog.underlying 60 = some (.int .u8) := by kernel_rfl
  have s8 : Tryz.prog.cellsOf 5 = 1 := by kernel_rfl
  have si : Tryz.prog.cellsOf 3 = 1 := by kernel_rfl
  have sk : Tryz.prog.cellsOf 60 = 1 := by kernel_rfl
  rw [hty, hm] at key
  have k0 := key 0 _ _ _ rfl u8 s8 rfl
  have k1 := key 1 _ _ _ rfl u8 s8 rfl
  have k2 := key 2 _ _ _ rfl ui si rfl
  have k3 := key 3 _ _ _ rfl uk sk rfl
  have k4 := key 4 _ _ _ rfl uk sk rfl
  have k5 := key 5 _ _ _ rfl uk sk rfl
  clear key hall hx h hm hty hfs
  match xs, hlen with
  | [a, b, c, d, e, f], _ =>
    simp at k0 k1 k2 k3 k4 k5
    subst k0 k1 k2 k3 k4 k5
    rfl

theorem names_laid {W : World} {rest : List (String × DataW Unit)} (h : laidMet Tryz.prog (("mandrel/ops.names", Rows.laid_mandrel_ops_names) :: rest) W) : TS W 3 nms := by
  have h' : laidMet Tryz.prog (("mandrel/ops.names", .agg (nms.map fun s => .lit (.string s))) :: rest) W := h
  exact ts_of_tc (tc_of_head (t := 249) (by kernel_rfl) (by kernel_rfl) h' fun fuel xs p hp => cells_of_arr (n := 67) (fun s => .lit (.string s)) (fun s => [Value.string (str s)]) (str_of_trod (e := 9) (by kernel_rfl)) (by kernel_rfl) (m := 1) (by kernel_rfl) (by kernel_rfl) hp)
theorem tests_laid {W : World} {rest : List (String × DataW Unit)} (h : laidMet Tryz.prog (("mandrel/ops.testNames", Rows.laid_mandrel_ops_testNames) :: rest) W) : TS W 4 tns := by
  have h' : laidMet Tryz.prog (("mandrel/ops.testNames", .agg (tns.map fun s => .lit (.string s))) :: rest) W := h
  exact ts_of_tc (tc_of_head (t := 250) (by kernel_rfl) (by kernel_rfl) h' fun fuel xs p hp => cells_of_arr (n := 22) (fun s => .lit (.string s)) (fun s => [Value.string (str s)]) (str_of_trod (e := 9) (by kernel_rfl)) (by kernel_rfl) (m := 1) (by kernel_rfl) (by kernel_rfl) hp)
theorem reckons_laid {W : World} {rest : List (String × DataW Unit)} (h : laidMet Tryz.prog (("mandrel/ops.reckonNames", Rows.laid_mandrel_ops_reckonNames) :: rest) W) : TS W 5 rns := by
  have h' : laidMet Tryz.prog (("mandrel/ops.reckonNames", .agg (rns.map fun s => .lit (.string s))) :: rest) W := h
  exact ts_of_tc (tc_of_head (t := 251) (by kernel_rfl) (by kernel_rfl) h' fun fuel xs p hp => cells_of_arr (n := 36) (fun s => .lit (.string s)) (fun s => [Value.string (str s)]) (str_of_trod (e := 9) (by kernel_rfl)) (by kernel_rfl) (m := 1) (by kernel_rfl) (by kernel_rfl) hp)
theorem families_laid {W : World} {rest : List (String × DataW Unit)} (h : laidMet Tryz.prog (("mandrel/ops.families", Rows.laid_mandrel_ops_families) :: rest) W) : TC W 1 fmV := by
  have h' : laidMet Tryz.prog (("mandrel/ops.families", .agg (fms.map fun x => .agg [.lit (.int .u8 x.f), .lit (.int .u8 x.l), .lit (.int .i64 x.o), .lit (.int .u8 x.x), .lit (.int .u8 x.y), .lit (.int .u8 x.g)])) :: rest) W := h
  exact tc_of_head (t := 218) (by kernel_rfl) (by kernel_rfl) h' fun fuel xs p hp => cells_of_arr (n := 32) (e := 201) (m := 6) (fun x : Fam => .agg [.lit (.int .u8 x.f), .lit (.int .u8 x.l), .lit (.int .i64 x.o), .lit (.int .u8 x.x), .lit (.int .u8 x.y), .lit (.int .u8 x.g)]) fmC
    fam_of_trod (by kernel_rfl) (by kernel_rfl) (by kernel_rfl) hp
theorem access_laid {W : World} {rest : List (String × DataW Unit)} (h : laidMet Tryz.prog (("mandrel/ops.accessBytes", Rows.laid_mandrel_ops_accessBytes) :: rest) W) : TC W 2 abV := by
  have h' : laidMet Tryz.prog (("mandrel/ops.accessBytes", .agg (abs'.map fun z => .lit (.int .u8 z))) :: rest) W := h
  exact tc_of_head (t := 245) (by kernel_rfl) (by kernel_rfl) h' fun fuel xs p hp => (cells_of_arr (n := 63) (fun z : Int => .lit (.int .u8 z)) (fun z => [Value.int .u8 z]) (int_of_trod (e := 5) (by kernel_rfl)) (by kernel_rfl) (m := 1) (by kernel_rfl) (by kernel_rfl) hp).trans (flat_one _ _)
end Go.Proofs.YtcpknafaocdjdaaGreatDoor

/- From the rows' condition on errors.errorType (beside other variables) to the variable's cell. After the guide's worked toy of errors.As. -/
namespace Go.Proofs.YtcpknafaocdjdaaGreatDoor
open Go.ChangeShapes Go.WideShapes Go.RowKit

theorem hownKnob : ownKnob Tryz.prog.godebug = none := by kernel_rfl
theorem het : Tryz.prog.globalNamed "errors.errorType" = some 0 := by kernel_rfl
theorem honeRow : ((List.range 281).filter fun t => Tryz.prog.rowNamed t [101, 114, 114, 111, 114]) = [44] := by kernel_rfl
theorem hsize : Tryz.prog.types.size = 281 := by kernel_rfl

theorem handle_of_met {W : World} (h : handlesMet Tryz.prog [("errors.errorType", Rows.laid_errors_errorType)] W) : ErrT W := by
  obtain ⟨name, u, ty, e1, e2, e3, e4, e5⟩ := h _ (List.mem_singleton.2 rfl)
  have en : name = [101, 114, 114, 111, 114] := (Option.some.inj e1).symm
  subst en
  obtain rfl : 182 = u := Option.some.inj (Eq.trans (by kernel_rfl) e2)
  have hm : ty ∈ (List.range 281).filter fun t => Tryz.prog.rowNamed t [101, 114, 114, 111, 114] := List.mem_filter.2 ⟨List.mem_range.2 (by rw [← hsize]; exact e3), e4⟩
  rw [honeRow] at hm
  obtain rfl := List.mem_singleton.1 hm
  have hh : typeHandle Tryz.prog 44 = .pointer (some ⟨6, 44, none⟩) := by kernel_rfl
  rw [hh] at e5
  have := World.var?_cell het e5 0
  unfold ErrT
  simpa using this
end Go.Proofs.YtcpknafaocdjdaaGreatDoor

/- ValidOuter returns true for every module and every way that together hold at most 1048576 values and letters, and leaves them: a module that may run does not any more when one thing of it is told wrong: an export of a function that is not there, a function of a type that is not there, a table whose most is below its least, a second memory, a global of I64 that begins as an I32, elements of a function that is not there, data of a second memory. Of ops' tables and of errors.errorType it takes what the program's text lays (the card ties it). -/
namespace Go.Proofs.YtcpknafaocdjdaaGreatDoor.validOuter
open Go.ChangeShapes Go.WideShapes Go.ChangeAt Go.RowKit
set_option linter.unusedVariables false

theorem own : ownKnob Tryz.prog.godebug = none := by kernel_rfl
theorem laidOut : laidOutB Tryz.prog = true := by kernel_rfl

theorem walk (M0 : Gm.Mod) (x00 x01 x02 x03 x04 x05 x06 x07 : Value) (a1 : Int) (w : World) (hErr : ErrT w) (hTb : Tb w) (h0 : Gm.ModL w (fun _ => True) M0 x00 x01 x02 x03 x04 x05 x06 x07) (f0 : Gm.WfM M0) (b0 : Gm.SzM M0 ∧ Gm.SzX M0) (w1 : (Lit.int .i64 a1).wf = true) :
    Calls Tryz.prog 7 #[.agg #[x00, x01, x02, x03, x04, x05, x06, x07], .int .i64 a1] w fun e w' => e = .returned (.bool true) ∧ Below w.heap.size w w' := by
  exact Vw.outer_walk hTb hErr h0 f0 b0

noncomputable def laidWorld (os : Os) : World := ({ World.holding Tryz.prog os ⟨#[], #[], []⟩ with heap := (((((((World.holding Tryz.prog os ⟨#[], #[], []⟩).heap.modify 0 fun | .cells _ t frozen => .cells #[.iface 182 (.agg #[.pointer (some ⟨6, 44, none⟩)])] t frozen | o => o).modify 3 fun | .cells _ t frozen => .cells #[.string ⟨#[117, 110, 114, 101, 97, 99, 104, 97, 98, 108, 101]⟩, .string ⟨#[110, 111, 112]⟩, .string ⟨#[98, 108, 111, 99, 107]⟩, .string ⟨#[108, 111, 111, 112]⟩, .string ⟨#[105, 102]⟩, .string ⟨#[]⟩, .string ⟨#[]⟩, .string ⟨#[]⟩, .string ⟨#[]⟩, .string ⟨#[]⟩, .string ⟨#[]⟩, .string ⟨#[]⟩, .string ⟨#[98, 114]⟩, .string ⟨#[98, 114, 95, 105, 102]⟩, .string ⟨#[98, 114, 95, 116, 97, 98, 108, 101]⟩, .string ⟨#[114, 101, 116, 117, 114, 110]⟩, .string ⟨#[99, 97, 108, 108]⟩, .string ⟨#[99, 97, 108, 108, 95, 105, 110, 100, 105, 114, 101, 99, 116]⟩, .string ⟨#[]⟩, .string ⟨#[]⟩, .string ⟨#[]⟩, .string ⟨#[]⟩, .string ⟨#[]⟩, .string ⟨#[]⟩, .string ⟨#[]⟩, .string ⟨#[]⟩, .string ⟨#[100, 114, 111, 112]⟩, .string ⟨#[115, 101, 108, 101, 99, 116]⟩, .string ⟨#[]⟩, .string ⟨#[]⟩, .string ⟨#[]⟩, .string ⟨#[]⟩, .string ⟨#[108, 111, 99, 97, 108, 46, 103, 101, 116]⟩, .string ⟨#[108, 111, 99, 97, 108, 46, 115, 101, 116]⟩, .string ⟨#[108, 111, 99, 97, 108, 46, 116, 101, 101]⟩, .string ⟨#[103, 108, 111, 98, 97, 108, 46, 103, 101, 116]⟩, .string ⟨#[103, 108, 111, 98, 97, 108, 46, 115, 101, 116]⟩, .string ⟨#[]⟩, .string ⟨#[]⟩, .string ⟨#[]⟩, .string ⟨#[105, 51, 50, 46, 108, 111, 97, 100]⟩, .string ⟨#[105, 54, 52, 46, 108, 111, 97, 100]⟩, .string ⟨#[]⟩, .string ⟨#[]⟩, .string ⟨#[105, 51, 50, 46, 108, 111, 97, 100, 56, 95, 115]⟩, .string ⟨#[105, 51, 50, 46, 108, 111, 97, 100, 56, 95, 117]⟩, .string ⟨#[105, 51, 50, 46, 108, 111, 97, 100, 49, 54, 95, 115]⟩, .string ⟨#[105, 51, 50, 46, 108, 111, 97, 100, 49, 54, 95, 117]⟩, .string ⟨#[105, 54, 52, 46, 108, 111, 97, 100, 56, 95, 115]⟩, .string ⟨#[105, 54, 52, 46, 108, 111, 97, 100, 56, 95, 117]⟩, .string ⟨#[105, 54, 52, 46, 108, 111, 97, 100, 49, 54, 95, 115]⟩, .string ⟨#[105, 54, 52, 46, 108, 111, 97, 100, 49, 54, 95, 117]⟩, .string ⟨#[105, 54, 52, 46, 108, 111, 97, 100, 51, 50, 95, 115]⟩, .string ⟨#[105, 54, 52, 46, 108, 111, 97, 100, 51, 50, 95, 117]⟩, .string ⟨#[105, 51, 50, 46, 115, 116, 111, 114, 101]⟩, .string ⟨#[105, 54, 52, 46, 115, 116, 111, 114, 101]⟩, .string ⟨#[]⟩, .string ⟨#[]⟩, .string ⟨#[105, 51, 50, 46, 115, 116, 111, 114, 101, 56]⟩, .string ⟨#[105, 51, 50, 46, 115, 116, 111, 114, 101, 49, 54]⟩, .string ⟨#[105, 54, 52, 46, 115, 116, 111, 114, 101, 56]⟩, .string ⟨#[105, 54, 52, 46, 115, 116, 111, 114, 101, 49, 54]⟩, .string ⟨#[105, 54, 52, 46, 115, 116, 111, 114, 101, 51, 50]⟩, .string ⟨#[109, 101, 109, 111, 114, 121, 46, 115, 105, 122, 101]⟩, .string ⟨#[109, 101, 109, 111, 114, 121, 46, 103, 114, 111, 119]⟩, .string ⟨#[105, 51, 50, 46, 99, 111, 110, 115, 116]⟩, .string ⟨#[105, 54, 52, 46, 99, 111, 110, 115, 116]⟩] t frozen | o => o).modify 4 fun | .cells _ t frozen => .cells #[.string ⟨#[105, 51, 50, 46, 101, 113, 122]⟩, .string ⟨#[105, 51, 50, 46, 101, 113]⟩, .string ⟨#[105, 51, 50, 46, 110, 101]⟩, .string ⟨#[105, 51, 50, 46, 108, 116, 95, 115]⟩, .string ⟨#[105, 51, 50, 46, 108, 116, 95, 117]⟩, .string ⟨#[105, 51, 50, 46, 103, 116, 95, 115]⟩, .string ⟨#[105, 51, 50, 46, 103, 116, 95, 117]⟩, .string ⟨#[105, 51, 50, 46, 108, 101, 95, 115]⟩, .string ⟨#[105, 51, 50, 46, 108, 101, 95, 117]⟩, .string ⟨#[105, 51, 50, 46, 103, 101, 95, 115]⟩, .string ⟨#[105, 51, 50, 46, 103, 101, 95, 117]⟩, .string ⟨#[105, 54, 52, 46, 101, 113, 122]⟩, .string ⟨#[105, 54, 52, 46, 101, 113]⟩, .string ⟨#[105, 54, 52, 46, 110, 101]⟩, .string ⟨#[105, 54, 52, 46, 108, 116, 95, 115]⟩, .string ⟨#[105, 54, 52, 46, 108, 116, 95, 117]⟩, .string ⟨#[105, 54, 52, 46, 103, 116, 95, 115]⟩, .string ⟨#[105, 54, 52, 46, 103, 116, 95, 117]⟩, .string ⟨#[105, 54, 52, 46, 108, 101, 95, 115]⟩, .string ⟨#[105, 54, 52, 46, 108, 101, 95, 117]⟩, .string ⟨#[105, 54, 52, 46, 103, 101, 95, 115]⟩, .string ⟨#[105, 54, 52, 46, 103, 101, 95, 117]⟩] t frozen | o => o).modify 5 fun | .cells _ t frozen => .cells #[.string ⟨#[105, 51, 50, 46, 99, 108, 122]⟩, .string ⟨#[105, 51, 50, 46, 99, 116, 122]⟩, .string ⟨#[105, 51, 50, 46, 112, 111, 112, 99, 110, 116]⟩, .string ⟨#[105, 51, 50, 46, 97, 100, 100]⟩, .string ⟨#[105, 51, 50, 46, 115, 117, 98]⟩, .string ⟨#[105, 51, 50, 46, 109, 117, 108]⟩, .string ⟨#[105, 51, 50, 46, 100, 105, 118, 95, 115]⟩, .string ⟨#[105, 51, 50, 46, 100, 105, 118, 95, 117]⟩, .string ⟨#[105, 51, 50, 46, 114, 101, 109, 95, 115]⟩, .string ⟨#[105, 51, 50, 46, 114, 101, 109, 95, 117]⟩, .string ⟨#[105, 51, 50, 46, 97, 110, 100]⟩, .string ⟨#[105, 51, 50, 46, 111, 114]⟩, .string ⟨#[105, 51, 50, 46, 120, 111, 114]⟩, .string ⟨#[105, 51, 50, 46, 115, 104, 108]⟩, .string ⟨#[105, 51, 50, 46, 115, 104, 114, 95, 115]⟩, .string ⟨#[105, 51, 50, 46, 115, 104, 114, 95, 117]⟩, .string ⟨#[105, 51, 50, 46, 114, 111, 116, 108]⟩, .string ⟨#[105, 51, 50, 46, 114, 111, 116, 114]⟩, .string ⟨#[105, 54, 52, 46, 99, 108, 122]⟩, .string ⟨#[105, 54, 52, 46, 99, 116, 122]⟩, .string ⟨#[105, 54, 52, 46, 112, 111, 112, 99, 110, 116]⟩, .string ⟨#[105, 54, 52, 46, 97, 100, 100]⟩, .string ⟨#[105, 54, 52, 46, 115, 117, 98]⟩, .string ⟨#[105, 54, 52, 46, 109, 117, 108]⟩, .string ⟨#[105, 54, 52, 46, 100, 105, 118, 95, 115]⟩, .string ⟨#[105, 54, 52, 46, 100, 105, 118, 95, 117]⟩, .string ⟨#[105, 54, 52, 46, 114, 101, 109, 95, 115]⟩, .string ⟨#[105, 54, 52, 46, 114, 101, 109, 95, 117]⟩, .string ⟨#[105, 54, 52, 46, 97, 110, 100]⟩, .string ⟨#[105, 54, 52, 46, 111, 114]⟩, .string ⟨#[105, 54, 52, 46, 120, 111, 114]⟩, .string ⟨#[105, 54, 52, 46, 115, 104, 108]⟩, .string ⟨#[105, 54, 52, 46, 115, 104, 114, 95, 115]⟩, .string ⟨#[105, 54, 52, 46, 115, 104, 114, 95, 117]⟩, .string ⟨#[105, 54, 52, 46, 114, 111, 116, 108]⟩, .string ⟨#[105, 54, 52, 46, 114, 111, 116, 114]⟩] t frozen | o => o).modify 1 fun | .cells _ t frozen => .cells #[.int .u8 0, .int .u8 1, .int .i64 0, .int .u8 0, .int .u8 0, .int .u8 0, .int .u8 2, .int .u8 3, .int .i64 6, .int .u8 0, .int .u8 0, .int .u8 0, .int .u8 4, .int .u8 4, .int .i64 7, .int .u8 0, .int .u8 0, .int .u8 0, .int .u8 12, .int .u8 13, .int .i64 3, .int .u8 0, .int .u8 0, .int .u8 0, .int .u8 14, .int .u8 14, .int .i64 8, .int .u8 0, .int .u8 0, .int .u8 0, .int .u8 15, .int .u8 15, .int .i64 0, .int .u8 0, .int .u8 0, .int .u8 0, .int .u8 16, .int .u8 16, .int .i64 3, .int .u8 0, .int .u8 0, .int .u8 0, .int .u8 17, .int .u8 17, .int .i64 9, .int .u8 0, .int .u8 0, .int .u8 0, .int .u8 26, .int .u8 27, .int .i64 0, .int .u8 0, .int .u8 0, .int .u8 0, .int .u8 32, .int .u8 36, .int .i64 3, .int .u8 0, .int .u8 0, .int .u8 0, .int .u8 40, .int .u8 40, .int .i64 4, .int .u8 127, .int .u8 0, .int .u8 127, .int .u8 41, .int .u8 41, .int .i64 4, .int .u8 127, .int .u8 0, .int .u8 126, .int .u8 44, .int .u8 47, .int .i64 4, .int .u8 127, .int .u8 0, .int .u8 127, .int .u8 48, .int .u8 53, .int .i64 4, .int .u8 127, .int .u8 0, .int .u8 126, .int .u8 54, .int .u8 54, .int .i64 4, .int .u8 127, .int .u8 127, .int .u8 0, .int .u8 55, .int .u8 55, .int .i64 4, .int .u8 127, .int .u8 126, .int .u8 0, .int .u8 58, .int .u8 59, .int .i64 4, .int .u8 127, .int .u8 127, .int .u8 0, .int .u8 60, .int .u8 62, .int .i64 4, .int .u8 127, .int .u8 126, .int .u8 0, .int .u8 63, .int .u8 63, .int .i64 5, .int .u8 0, .int .u8 0, .int .u8 127, .int .u8 64, .int .u8 64, .int .i64 5, .int .u8 127, .int .u8 0, .int .u8 127, .int .u8 65, .int .u8 65, .int .i64 1, .int .u8 0, .int .u8 0, .int .u8 127, .int .u8 66, .int .u8 66, .int .i64 2, .int .u8 0, .int .u8 0, .int .u8 126, .int .u8 69, .int .u8 69, .int .i64 0, .int .u8 127, .int .u8 0, .int .u8 127, .int .u8 70, .int .u8 79, .int .i64 0, .int .u8 127, .int .u8 127, .int .u8 127, .int .u8 80, .int .u8 80, .int .i64 0, .int .u8 126, .int .u8 0, .int .u8 127, .int .u8 81, .int .u8 90, .int .i64 0, .int .u8 126, .int .u8 126, .int .u8 127, .int .u8 103, .int .u8 105, .int .i64 0, .int .u8 127, .int .u8 0, .int .u8 127, .int .u8 106, .int .u8 120, .int .i64 0, .int .u8 127, .int .u8 127, .int .u8 127, .int .u8 121, .int .u8 123, .int .i64 0, .int .u8 126, .int .u8 0, .int .u8 126, .int .u8 124, .int .u8 138, .int .i64 0, .int .u8 126, .int .u8 126, .int .u8 126, .int .u8 167, .int .u8 167, .int .i64 0, .int .u8 126, .int .u8 0, .int .u8 127, .int .u8 172, .int .u8 173, .int .i64 0, .int .u8 127, .int .u8 0, .int .u8 126] t frozen | o => o).modify 2 fun | .cells _ t frozen => .cells #[.int .u8 0, .int .u8 0, .int .u8 0, .int .u8 0, .int .u8 0, .int .u8 0, .int .u8 0, .int .u8 0, .int .u8 0, .int .u8 0, .int .u8 0, .int .u8 0, .int .u8 0, .int .u8 0, .int .u8 0, .int .u8 0, .int .u8 0, .int .u8 0, .int .u8 0, .int .u8 0, .int .u8 0, .int .u8 0, .int .u8 0, .int .u8 0, .int .u8 0, .int .u8 0, .int .u8 0, .int .u8 0, .int .u8 0, .int .u8 0, .int .u8 0, .int .u8 0, .int .u8 0, .int .u8 0, .int .u8 0, .int .u8 0, .int .u8 0, .int .u8 0, .int .u8 0, .int .u8 0, .int .u8 4, .int .u8 8, .int .u8 0, .int .u8 0, .int .u8 1, .int .u8 1, .int .u8 2, .int .u8 2, .int .u8 1, .int .u8 1, .int .u8 2, .int .u8 2, .int .u8 4, .int .u8 4, .int .u8 4, .int .u8 8, .int .u8 0, .int .u8 0, .int .u8 1, .int .u8 2, .int .u8 1, .int .u8 2, .int .u8 4] t frozen | o => o) } : World)
set_option maxRecDepth 100000 in
theorem laid_met (os : Os) : laidMetH Tryz.prog Rows.validOuterUptoRow.laid ((laidWorld os).forCall (fun _ _ => 0) ⟨#[], #[.agg #[.slice none 0 0, .slice none 0 0, .slice none 0 0, .slice none 0 0, .slice none 0 0, .slice none 0 0, .slice none 0 0, .slice none 0 0], .int .i64 0], []⟩).memory :=
  laidMetH_of_parts (laidMet_of_run' 8 (by kernel_rfl) (by kernel_rfl)) (by kernel_rfl)
set_option maxRecDepth 100000 in
theorem reads (os : Os) {H : Type} (enc : TypeId × Value → H) : ∃ places, DataW.whole enc Tryz.prog ((laidWorld os).forCall (fun _ _ => 0) ⟨#[], #[.agg #[.slice none 0 0, .slice none 0 0, .slice none 0 0, .slice none 0 0, .slice none 0 0, .slice none 0 0, .slice none 0 0, .slice none 0 0], .int .i64 0], []⟩).memory Tryz.f7.params.toList Rows.validOuterSpec.vars false (#[.agg #[.slice none 0 0, .slice none 0 0, .slice none 0 0, .slice none 0 0, .slice none 0 0, .slice none 0 0, .slice none 0 0, .slice none 0 0], .int .i64 0] : Array Value).toList 8 = some ([.agg [.nil, .nil, .nil, .nil, .nil, .nil, .nil, .nil], .lit (.int .i64 0)], [], places) :=
  ⟨[], by kernel_rfl⟩

set_option maxRecDepth 100000 in
theorem contract (H : Type) (enc : TypeId × Value → H) (W : World) (base : Nat) (args : Array Value) (ds gs : List (DataW H)) (before : List MemPlace)
    (hval0 : ∀ (j : Nat) t v, Tryz.f7.params[j]? = some t → args[j]? = some v → Value.okWide Tryz.prog W .any base t v)
    (hW : DataW.Whole enc Tryz.prog Tryz.f7.params.toList Rows.validOuterSpec.vars false W args.toList ds gs before) (hL : laidMetH Tryz.prog Rows.validOuterUptoRow.laid W) (hk0 : Rows.uptoSmall H (ds ++ gs) = true) :
    Calls Tryz.prog 7 args W fun e W' => ∃ v, e = .returned v ∧ Rows.validOuterSpec.post enc Tryz.prog Tryz.f7 false true false false W args v W' := by
  have hLL : laidMet Tryz.prog [("mandrel/ops.names", Rows.laid_mandrel_ops_names), ("mandrel/ops.testNames", Rows.laid_mandrel_ops_testNames), ("mandrel/ops.reckonNames", Rows.laid_mandrel_ops_reckonNames), ("mandrel/ops.families", Rows.laid_mandrel_ops_families), ("mandrel/ops.accessBytes", Rows.laid_mandrel_ops_accessBytes)] W ∧ handlesMet Tryz.prog [("errors.errorType", Rows.laid_errors_errorType)] W := hL
  have hg : ErrT W := handle_of_met hLL.2
  have hgTb : Tb W := ⟨⟨names_laid hLL.1, tests_laid hLL.1.tail, reckons_laid hLL.1.tail.tail⟩, families_laid hLL.1.tail.tail.tail, access_laid hLL.1.tail.tail.tail.tail⟩
  have hval : ∀ (j : Nat) t v, Tryz.f7.params[j]? = some t → args[j]? = some v → Value.okWide Tryz.prog W .any base t v := hval0
  have hk1 := Ex.small_of hk0
  have hW' := hW
  obtain ⟨p, q, hA0, hV, rfl, hfz, hnd⟩ := hW
  have hA : DataW.TrodAll enc Tryz.prog W 0 (fun _ => true) true Tryz.f7.params.toList args.toList ds p := hA0
  rw [Tryz.params7] at hA hval
  obtain ⟨v0, vs0, d0, ds0, p0, q0, hargs, rfl, rfl, h0, r0⟩ := trodAll_cons hA
  obtain ⟨v1, vs1, d1, ds1, p1, q1, rfl, rfl, rfl, h1, r1⟩ := trodAll_cons r0
  obtain ⟨rfl, rfl, rfl⟩ := trodAll_nil r1
  obtain rfl : args = #[v0, v1] := by cases args; simp_all
  obtain ⟨rfl, rfl⟩ := trodVars_none hV
  have hk : Rows.uptoBulkAll [d0, d1] ≤ 1048576 := hk1
  have m0 := h0
  have lt0 : ∀ x ∈ p0, x.block < W.heap.size := by obtain ⟨m, hm⟩ := m0; exact DataW.trod_lt m _ _ _ hm
  obtain ⟨cs0, hcs0, _⟩ := okWide_struct Tryz.underlying30 (hval 0 30 v0 rfl rfl)
  obtain ⟨M0, x00, x01, x02, x03, x04, x05, x06, x07, rfl, h0c, f0, b0'⟩ := Gm.open_modX hcs0 h0
  have b0 := b0' (Nat.le_trans (Ex.bulk_at (ds := _) (i := 0) rfl) hk)
  obtain ⟨a1, rfl, rfl, rfl, w1⟩ := open_int Tryz.underlying3 (hval 1 3 v1 rfl rfl) h1
  clear hA0 hval0
  refine (walk M0 x00 x01 x02 x03 x04 x05 x06 x07 a1 W hg hgTb h0c f0 b0 w1).mono fun e W' ⟨he, bel⟩ => ?_
  subst he
  exact ⟨_, rfl, _, _, _, [], _, [], hW', trodAll_mk1 (shut_bool Tryz.underlying4 _), (trodAll_cons_mk (Below.trod laidOut (by kernel_rfl) (of_decide_eq_true (by kernel_rfl)) m0 bel lt0) (trodAll_cons_mk (shut_int Tryz.underlying3 w1) trodAll_mk0)), rfl, bel.frame _, fun h => by cases h⟩

set_option maxRecDepth 100000 in
theorem lifted (os : Os) (started : os.Started) (H : Type) (enc : TypeId × Value → H) (F : Stop.Interp) :
    ReturnsInHanded {} Tryz.checked os 7 .any ((Rows.OpenSpec.upto Rows.validOuterSpec).preRow enc Tryz.prog Tryz.f7 Rows.validOuterUptoRow.domain false Rows.validOuterUptoRow.laid) (((Rows.OpenSpec.upto Rows.validOuterSpec).at F).post enc Tryz.prog Tryz.f7 false true false false) := by
  obtain ⟨places, hx⟩ := reads os enc
  refine returnsInHanded_of_row (C := Tryz.checked) (s := Rows.OpenSpec.upto Rows.validOuterSpec) own started (by kernel_rfl) Tryz.func7
    (witness_row_at (enc := enc) (C := Tryz.checked) false (laidWorld os) #[.agg #[.slice none 0 0, .slice none 0 0, .slice none 0 0, .slice none 0 0, .slice none 0 0, .slice none 0 0, .slice none 0 0, .slice none 0 0], .int .i64 0] rfl (by kernel_rfl) (by kernel_rfl) (by kernel_rfl)
      (OpenSpec.preRow_of_cond 8 hx (by kernel_rfl) (fun k hk => by cases hk; kernel_rfl) (by kernel_rfl) (laid_met os))) ?_
  intro W base args ds gs before hval hW _ hcond _ hL _ _
  exact contract H enc W base args ds gs before hval hW hL (hcond _ rfl)

theorem proved : Rows.ValidOuterUptoSaid :=
  OpenClaim.holds_of_cond 7 Tryz.f7 rfl rfl rfl rfl rfl rfl rfl ⟨rfl, rfl, rfl, rfl, rfl⟩ rfl rfl rfl rfl rfl (by kernel_rfl) Tryz.func7 (by kernel_rfl)
    (of_decide_eq_true (by kernel_rfl)) (by unfold Func.isWrapper; first | (rw [if_pos (by decide +kernel)]; kernel_rfl) | (rw [if_neg (by decide +kernel)]; exact ⟨rfl, rfl⟩))
    (fun os started H enc _ F => by rw [OpenClaim.pre_eq_preRow]; exact lifted os started H enc F)
end Go.Proofs.YtcpknafaocdjdaaGreatDoor.validOuter

namespace Go.Proofs.YtcpknafaocdjdaaGreatDoor
theorem validOuter_upto_card : Rows.ValidOuterUptoCardSaid :=
  Claim7.holds_tied_plain_at .later [] _ _ _ _ validOuter.proved (fun _ h => by cases h) (by kernel_rfl) (fun _ h => by cases h) validOuterUpto_row_tie rfl ⟨rfl, rfl⟩ (by kernel_rfl) rfl
    (fun f fn hf hfn => by
      obtain rfl : 7 = f := Option.some.inj (Eq.trans (by kernel_rfl) hf)
      obtain rfl : fn = Tryz.f7 := (Option.some.inj (Tryz.func7.symm.trans hfn)).symm
      exact ⟨by kernel_rfl, fun j t ht => by
        rw [Tryz.params7] at ht
        rcases j with _ | _ | j
        · obtain rfl : t = 30 := by simpa using ht.symm
          exact (show Tryz.prog.wantsStandIn 30 = false by kernel_rfl)
        · obtain rfl : t = 3 := by simpa using ht.symm
          exact (show Tryz.prog.wantsStandIn 3 = false by kernel_rfl)
        · simp at ht⟩)
    (by kernel_rfl)
end Go.Proofs.YtcpknafaocdjdaaGreatDoor
