/- WN: what follows, part by part: each part tells what it holds. -/
import Derived.Test.YtcpknafaocdjdaaGreatDoorOn
import Derived.Test.YtcpknafaocdjdaaGreatDoorWI
import Derived.Test.YtcpknafaocdjdaaGreatDoorWC
import Derived.Test.YtcpknafaocdjdaaGreatDoorOpF
import Derived.Test.YtcpknafaocdjdaaGreatDoorWB
import Derived.Maps.OwnOps
import Derived.Maps.OwnSet
import Derived.Deep.Cut
import Derived.StringKeys
import Derived.Test.YtcpknafaocdjdaaGreatDoorWJ
import Derived.Test.YtcpknafaocdjdaaGreatDoorWK

/- valid.item at api.Limits: isThere. -/
namespace Go.Proofs.YtcpknafaocdjdaaGreatDoor
open Go.RowKit
set_option linter.unusedVariables false

set_option maxRecDepth 100000 in
set_option maxHeartbeats 1000000 in
theorem it_L_yes (b o n cp i : Nat) (z0 : Int) (t1 : Bool) (z2 : Int) (w : World) (hb : b < w.heap.size) (hi : (i : Int) < n) (h0 : w.cell? ⟨b, o + i * 3, none⟩ = some (.int .u32 z0)) (h1 : w.cell? ⟨b, o + i * 3 + 1, none⟩ = some (.bool t1)) (h2 : w.cell? ⟨b, o + i * 3 + 2, none⟩ = some (.int .u32 z2)) :
    Calls Tryz.prog 128 #[.slice (some ⟨b, o, none⟩) n cp, .int .i64 i] w fun e w' => e = .returned (.tuple #[.agg #[.int .u32 z0, .bool t1, .int .u32 z2], .bool true]) ∧ Below w.heap.size w w' := by
  have hne : ¬ b = w.heap.size := by omega
  have i0 : ¬ (i : Int) < 0 := by omega
  have i1 : ¬ (n : Int) ≤ i := by omega
  have hB : Below w.heap.size w w := Below.refl _ _
  have HB := hide hB; clear hB
  go_enter Tryz.func128, Tryz.ntmps128
  go_wp2
  refine bodyPost_ret (v := .tuple #[.agg #[.int .u32 z0, .bool t1, .int .u32 z2], .bool true]) (by simp [results, Tryz.results128, go_sem]) rfl ⟨rfl, (Below.refl _ _).alloc (Nat.le_refl _) _⟩

set_option maxRecDepth 100000 in
set_option maxHeartbeats 1000000 in
theorem it_L_no (a : Option Addr) (n cp : Nat) (i : Int) (w : World) (hi : i < 0 ∨ (n : Int) ≤ i) :
    Calls Tryz.prog 128 #[.slice a n cp, .int .i64 i] w fun e w' => e = .returned (.tuple #[.agg #[.int .u32 0, .bool false, .int .u32 0], .bool false]) ∧ Below w.heap.size w w' := by
  have HB := hide (Below.refl w.heap.size w)
  by_cases h0 : i < 0
  · clear hi
    go_enter Tryz.func128, Tryz.ntmps128
    go_wp2
    refine bodyPost_ret (v := .tuple #[.agg #[.int .u32 0, .bool false, .int .u32 0], .bool false]) (by simp [results, Tryz.results128, go_sem]) rfl ⟨rfl, ((Below.refl _ _).alloc (Nat.le_refl _) _).alloc (by simp) _⟩
  · have h1 : (n : Int) ≤ i := by omega
    clear hi
    go_enter Tryz.func128, Tryz.ntmps128
    go_wp2
    refine bodyPost_ret (v := .tuple #[.agg #[.int .u32 0, .bool false, .int .u32 0], .bool false]) (by simp [results, Tryz.results128, go_sem]) rfl ⟨rfl, ((Below.refl _ _).alloc (Nat.le_refl _) _).alloc (by simp) _⟩

set_option maxRecDepth 100000 in
set_option maxHeartbeats 1000000 in
theorem there_L_yes (b o n cp i : Nat) (z0 : Int) (t1 : Bool) (z2 : Int) (w : World) (hb : b < w.heap.size) (hi : (i : Int) < n) (h32 : (i : Int) < 4294967296) (h0 : w.cell? ⟨b, o + i * 3, none⟩ = some (.int .u32 z0)) (h1 : w.cell? ⟨b, o + i * 3 + 1, none⟩ = some (.bool t1)) (h2 : w.cell? ⟨b, o + i * 3 + 2, none⟩ = some (.int .u32 z2)) :
    Calls Tryz.prog 112 #[.slice (some ⟨b, o, none⟩) n cp, .int .u32 i] w fun e w' => e = .returned (.bool true) ∧ Below w.heap.size w w' := by
  have H := hide (it_L_yes b o n cp i z0 t1 z2 w hb hi h0 h1 h2)
  clear hb hi h0 h1 h2
  go_enter Tryz.func112, Tryz.ntmps112
  go_wp2_with fail
  refine (unhide H).mono ?_
  rintro e w1 ⟨rfl, hb1⟩
  have HB := hide hb1; clear hb1
  go_wp2
  go_ret
  exact ⟨rfl, (unhide HB).alloc (unhide HB).size _⟩

set_option maxRecDepth 100000 in
set_option maxHeartbeats 1000000 in
theorem there_L_no (a : Option Addr) (n cp : Nat) (i : Int) (w : World) (hi : (n : Int) ≤ i) (h32 : 0 ≤ i ∧ i < 4294967296) :
    Calls Tryz.prog 112 #[.slice a n cp, .int .u32 i] w fun e w' => e = .returned (.bool false) ∧ Below w.heap.size w w' := by
  have H := hide (it_L_no a n cp i w (.inr hi))
  obtain ⟨p0, p1⟩ := h32
  clear hi
  go_enter Tryz.func112, Tryz.ntmps112
  go_wp2_with fail
  refine (unhide H).mono ?_
  rintro e w1 ⟨rfl, hb1⟩
  have HB := hide hb1; clear hb1
  go_wp2
  go_ret
  exact ⟨rfl, (unhide HB).alloc (unhide HB).size _⟩
end Go.Proofs.YtcpknafaocdjdaaGreatDoor

/- valid: what its closures say of one thing: limits, bounds, consts, whether it is there. -/
namespace Go.Proofs.YtcpknafaocdjdaaGreatDoor
open Go.RowKit Go.Shelf
namespace Vw
set_option linter.unusedVariables false
set_option linter.unusedSimpArgs false
open Ex (Ins Lies Lab)
open Gm (Mod Typ Fnc Lim Glo Exo Elm Dat Byts LL ModL TypC FncC LimC GloC ExoC ElmC DatC InsC WfM)
theorem one_al9 (w : World) (o : Obj) : Below w.heap.size w (w.alloc o) := (Below.refl _ _).alloc (Nat.le_refl _) _
set_option maxHeartbeats 1000000 in
theorem pl1_any (a x : Int) (h : Bool) (w : World) :
    Calls Tryz.prog 34 #[.agg #[.int .u32 a, .bool h, .int .u32 x]] w fun e w' => e = .returned (.bool (decide (a ≤ 256))) ∧ Below w.heap.size w w' := by
  go_enter Tryz.func34, Tryz.ntmps34
  go_wp2
  go_ret
  exact ⟨rfl, one_al9 _ _⟩
set_option maxHeartbeats 1000000 in
theorem pl2_any (a x : Int) (h : Bool) (w : World) :
    Calls Tryz.prog 35 #[.agg #[.int .u32 a, .bool h, .int .u32 x]] w fun e w' => e = .returned (.bool (decide (a ≤ 16))) ∧ Below w.heap.size w w' := by
  go_enter Tryz.func35, Tryz.ntmps35
  go_wp2
  go_ret
  exact ⟨rfl, one_al9 _ _⟩
set_option maxHeartbeats 1000000 in
theorem pbd_any (a x : Int) (h : Bool) (w : World) :
    Calls Tryz.prog 47 #[.agg #[.int .u32 a, .bool h, .int .u32 x]] w fun e w' => e = .returned (.bool (!h || decide (a ≤ x))) ∧ Below w.heap.size w w' := by
  cases h
  all_goals
    go_enter Tryz.func47, Tryz.ntmps47
    go_wp2
    go_ret
    exact ⟨ret_bool (by simp), one_al9 _ _⟩
/-- is an instruction a const of a kind? -/
def cst (op k : Int) : Bool := match fam op with
  | some x => if x.o = 1 then k == 127 else if x.o = 2 then k == 126 else false
  | none => false
set_option maxRecDepth 100000 in
set_option maxHeartbeats 1600000 in
theorem cst_any (op n al of re k : Int) (h0 : 0 ≤ op) (h1 : op ≤ 255) (s1 s2 s3 : Option Addr) (l1 l2 l3 c1 c2 c3 : Nat) (w : World) (hT : TC w 1 fmV) :
    Calls Tryz.prog 49 #[.agg #[.int .u8 op, .int .i64 n, .int .u32 al, .int .u32 of, .int .u8 re, .slice s1 l1 c1, .slice s2 l2 c2, .slice s3 l3 c3], .int .u8 k] w fun e w' => e = .returned (.bool (cst op k)) ∧ Below w.heap.size w w' := by
  obtain ⟨o, rfl⟩ : ∃ o : Nat, op = o := ⟨op.toNat, by omega⟩
  have hb0 := one_al9 w (.cells #[.int .u8 (o : Int), .int .i64 n, .int .u32 al, .int .u32 of, .int .u8 re, .slice s1 l1 c1, .slice s2 l2 c2, .slice s3 l3 c3] 63)
  have hf := form_any o (by omega) _ (hT.below hb0)
  have hd : cst (o : Int) k = (match fam (o : Int) with
    | some x => if x.o = 1 then k == 127 else if x.o = 2 then k == 126 else false
    | none => false) := rfl
  rw [hd]
  clear hd hT
  cases hx : fam (o : Int) with
  | none =>
    rw [hx] at hf
    simp only [formR, errV_1] at hf
    have HF := hide hf; have HB0 := hide hb0
    clear hf hb0 hx
    go_enter Tryz.func49, Tryz.ntmps49
    go_wp2_with fail
    refine (unhide HF).mono ?_
    rintro e w1 ⟨rfl, hb1⟩
    have HB1 := hide (Below.on (unhide HB0) hb1); clear hb1
    go_wp2
    go_ret
    exact ⟨rfl, unhide HB1⟩
  | some x =>
    rw [hx] at hf
    simp only [formR, errV_0] at hf
    have HF := hide hf; have HB0 := hide hb0
    clear hf hb0 hx
    obtain ⟨xo, hxo⟩ : ∃ xo, x.o = xo := ⟨_, rfl⟩
    simp only [hxo] at HF ⊢
    clear hxo
    by_cases e1 : xo = 1
    · subst e1
      go_enter Tryz.func49, Tryz.ntmps49
      go_wp2_with fail
      refine (unhide HF).mono ?_
      rintro e w1 ⟨rfl, hb1⟩
      have HB1 := hide (Below.on (unhide HB0) hb1); clear hb1
      go_wp2
      go_ret
      exact ⟨ret_bool (by simp), unhide HB1⟩
    by_cases e2 : xo = 2
    · subst e2
      go_enter Tryz.func49, Tryz.ntmps49
      go_wp2_with fail
      refine (unhide HF).mono ?_
      rintro e w1 ⟨rfl, hb1⟩
      have HB1 := hide (Below.on (unhide HB0) hb1); clear hb1
      go_wp2
      go_ret
      exact ⟨ret_bool (by simp), unhide HB1⟩
    · have t1 : ((xo : Int) == 1) = false := by simpa using e1
      have t2 : ((xo : Int) == 2) = false := by simpa using e2
      rw [if_neg e1, if_neg e2]
      clear e1 e2
      go_enter Tryz.func49, Tryz.ntmps49
      go_wp2_with fail
      refine (unhide HF).mono ?_
      rintro e w1 ⟨rfl, hb1⟩
      have HB1 := hide (Below.on (unhide HB0) hb1); clear hb1
      go_wp2
      go_ret
      exact ⟨ret_bool (by simp), unhide HB1⟩
/-- is an item of a number there? -/
def thr (n : Nat) (i : Int) : Bool := decide (i < n)
theorem thr_T {w : World} {g : Nat → Prop} {l : List Typ} {v : Value} (h : LL TypC 2 w g l v) {i : Int} (h0 : 0 ≤ i) (h1 : i < 4294967296) :
    Calls Tryz.prog 46 #[v, .int .u32 i] w fun e w' => e = .returned (.bool (thr l.length i)) ∧ Below w.heap.size w w' := by
  by_cases hi : i < (l.length : Int)
  · obtain ⟨j, rfl⟩ : ∃ j : Nat, i = j := ⟨i.toNat, by omega⟩
    obtain ⟨b, o, cp, rfl, -, hb, -, cs, -, ⟨vp, rfl, hp⟩, hcs⟩ := h.at (show j < l.length by omega)
    obtain ⟨pa, pc, rfl, -⟩ := hp
    rw [show thr l.length j = true by simp [thr]; omega]
    exact there_T_yes b o l.length cp j pa _ pc _ w hb hi h1 (hcs 0 _ rfl) (hcs 1 _ rfl)
  · obtain ⟨a, c, rfl⟩ := h.sl
    rw [show thr l.length i = false by simp [thr]; omega]
    exact there_T_no a l.length c i w (by omega) ⟨h0, h1⟩
theorem thr_F {w : World} {g : Nat → Prop} {l : List Fnc} {v : Value} (h : LL FncC 3 w g l v) {i : Int} (h0 : 0 ≤ i) (h1 : i < 4294967296) :
    Calls Tryz.prog 90 #[v, .int .u32 i] w fun e w' => e = .returned (.bool (thr l.length i)) ∧ Below w.heap.size w w' := by
  by_cases hi : i < (l.length : Int)
  · obtain ⟨j, rfl⟩ : ∃ j : Nat, i = j := ⟨i.toNat, by omega⟩
    obtain ⟨b, o, cp, rfl, -, hb, -, cs, -, ⟨vp, vq, rfl, hp, hq⟩, hcs⟩ := h.at (show j < l.length by omega)
    obtain ⟨pa, pc, rfl, -⟩ := hp
    obtain ⟨qa, qc, rfl, -⟩ := hq
    rw [show thr l.length j = true by simp [thr]; omega]
    exact there_F_yes b o l.length cp j _ pa _ pc qa _ qc w hb hi h1 (hcs 0 _ rfl) (hcs 1 _ rfl) (hcs 2 _ rfl)
  · obtain ⟨a, c, rfl⟩ := h.sl
    rw [show thr l.length i = false by simp [thr]; omega]
    exact there_F_no a l.length c i w (by omega) ⟨h0, h1⟩
theorem thr_L {w : World} {g : Nat → Prop} {l : List Lim} {v : Value} (h : LL LimC 3 w g l v) {i : Int} (h0 : 0 ≤ i) (h1 : i < 4294967296) :
    Calls Tryz.prog 112 #[v, .int .u32 i] w fun e w' => e = .returned (.bool (thr l.length i)) ∧ Below w.heap.size w w' := by
  by_cases hi : i < (l.length : Int)
  · obtain ⟨j, rfl⟩ : ∃ j : Nat, i = j := ⟨i.toNat, by omega⟩
    obtain ⟨b, o, cp, rfl, -, hb, -, cs, -, he, hcs⟩ := h.at (show j < l.length by omega)
    have he : cs = _ := he
    subst he
    rw [show thr l.length j = true by simp [thr]; omega]
    exact there_L_yes b o l.length cp j _ _ _ w hb hi h1 (hcs 0 _ rfl) (hcs 1 _ rfl) (hcs 2 _ rfl)
  · obtain ⟨a, c, rfl⟩ := h.sl
    rw [show thr l.length i = false by simp [thr]; omega]
    exact there_L_no a l.length c i w (by omega) ⟨h0, h1⟩
theorem ins_sl {w : World} {g : Nat → Prop} {i : Ins} {cs : List Value} (h : InsC w g i cs) : ∃ s1 c1 s2 c2 s3 c3, cs = [.int .u8 i.op, .int .i64 i.n, .int .u32 i.al, .int .u32 i.of, .int .u8 i.re, .slice s1 i.body.length c1, .slice s2 i.els.length c2, .slice s3 i.ls.length c3] := by
  obtain ⟨vb, ve, vl, rfl, ⟨s1, c1, rfl, -⟩, ⟨s2, c2, rfl, -⟩, ⟨s3, c3, rfl, -⟩⟩ := h
  exact ⟨s1, c1, s2, c2, s3, c3, rfl⟩
theorem thr_G {w : World} {g : Nat → Prop} {l : List Glo} {v : Value} (h : LL GloC 10 w g l v) {i : Int} (h0 : 0 ≤ i) (h1 : i < 4294967296) :
    Calls Tryz.prog 113 #[v, .int .u32 i] w fun e w' => e = .returned (.bool (thr l.length i)) ∧ Below w.heap.size w w' := by
  by_cases hi : i < (l.length : Int)
  · obtain ⟨j, rfl⟩ : ∃ j : Nat, i = j := ⟨i.toNat, by omega⟩
    obtain ⟨b, o, cp, rfl, -, hb, -, cs, -, ⟨ds, rfl, hI⟩, hcs⟩ := h.at (show j < l.length by omega)
    obtain ⟨s1, c1, s2, c2, s3, c3, rfl⟩ := ins_sl hI
    rw [show thr l.length j = true by simp [thr]; omega]
    exact there_G_yes b o l.length cp j _ _ _ _ _ _ _ s1 _ c1 s2 _ c2 s3 _ c3 w hb hi h1 (hcs 0 _ rfl) (hcs 1 _ rfl) (hcs 2 _ rfl) (hcs 3 _ rfl) (hcs 4 _ rfl) (hcs 5 _ rfl) (hcs 6 _ rfl) (hcs 7 _ rfl) (hcs 8 _ rfl) (hcs 9 _ rfl)
  · obtain ⟨a, c, rfl⟩ := h.sl
    rw [show thr l.length i = false by simp [thr]; omega]
    exact there_G_no a l.length c i w (by omega) ⟨h0, h1⟩
end Vw
end Go.Proofs.YtcpknafaocdjdaaGreatDoor

/- valid: hasTarget, elemMayBe, dataMayBe. By mkpb.py. -/
namespace Go.Proofs.YtcpknafaocdjdaaGreatDoor
open Go.RowKit Go.Shelf
namespace Vw
set_option linter.unusedVariables false
set_option linter.unusedSimpArgs false
open Ex (Ins Lies Lab)
open Gm (Mod Typ Fnc Lim Glo Exo Elm Dat Byts LL ModL TypC FncC LimC GloC ExoC ElmC DatC InsC WfM)
theorem ModL.up {w U : World} {g : Nat → Prop} {M : Mod} {v0 v1 v2 v3 v4 v5 v6 v7 : Value} (h : ModL w g M v0 v1 v2 v3 v4 v5 v6 v7) (hU : Below w.heap.size w U) : ModL U g M v0 v1 v2 v3 v4 v5 v6 v7 := h.moved (g' := g) (Gm.Mv.below hU (fun k _ q => q)) hU.size
theorem box2m {w : World} {c1 c2 : Array Value} {t t2 : TypeId} : ∃ W0, ((w.alloc (.cells c1 t)).alloc (.cells c2 t2)) = W0 ∧ W0.heap[w.heap.size]? = some (.cells c1 t (0, 0)) ∧ W0.heap[w.heap.size + 1]? = some (.cells c2 t2 (0, 0)) ∧ w.heap.size + 1 < W0.heap.size ∧ Below w.heap.size w W0 := by
  have e2 : (w.alloc (.cells c1 t)).heap.size = w.heap.size + 1 := by simp
  have hn := heap_alloc_new (w.alloc (.cells c1 t)) (.cells c2 t2)
  rw [e2] at hn
  exact ⟨_, rfl, (Below.heap_alloc _ _ _ (by simp)).trans (heap_alloc_new w (.cells c1 t)), hn, by simp, ((Below.refl _ _).alloc (Nat.le_refl _) _).alloc (by simp) _⟩
theorem mbox3 {w : World} {x0 x1 x2 : Value} {B : Nat} {t : TypeId} (h : w.heap[B]? = some (.cells #[x0, x1, x2] t (0, 0))) :
    w.cell? ⟨B, 0, none⟩ = some x0 ∧ w.cell? ⟨B, 1, none⟩ = some x1 ∧ w.cell? ⟨B, 2, none⟩ = some x2 := by
  refine ⟨?_, ?_, ?_⟩ <;> (rw [cell_of_row w B _ _ _ _ h]; rfl)
theorem mbox10 {w : World} {x0 x1 x2 x3 x4 x5 x6 x7 x8 x9 : Value} {B : Nat} {t : TypeId} (h : w.heap[B]? = some (.cells #[x0, x1, x2, x3, x4, x5, x6, x7, x8, x9] t (0, 0))) :
    w.cell? ⟨B, 0, none⟩ = some x0 ∧ w.cell? ⟨B, 1, none⟩ = some x1 ∧ w.cell? ⟨B, 2, none⟩ = some x2 ∧ w.cell? ⟨B, 3, none⟩ = some x3 ∧ w.cell? ⟨B, 4, none⟩ = some x4 ∧ w.cell? ⟨B, 5, none⟩ = some x5 ∧ w.cell? ⟨B, 6, none⟩ = some x6 ∧ w.cell? ⟨B, 7, none⟩ = some x7 ∧ w.cell? ⟨B, 8, none⟩ = some x8 ∧ w.cell? ⟨B, 9, none⟩ = some x9 := by
  refine ⟨?_, ?_, ?_, ?_, ?_, ?_, ?_, ?_, ?_, ?_⟩ <;> (rw [cell_of_row w B _ _ _ _ h]; rfl)
/-- is what is exported there? -/
def tgt (M : Mod) (wh ix : Int) : Bool := if wh = 0 then thr M.funcs.length ix else if wh = 1 then thr M.tables.length ix else if wh = 2 then thr M.mems.length ix else if wh = 3 then thr M.globs.length ix else false
set_option maxRecDepth 100000 in
set_option maxHeartbeats 3200000 in
theorem tgt_any {M : Mod} {g : Nat → Prop} {v0 v1 v2 v3 v4 v5 v6 v7 : Value} {w : World} (hM : ModL w g M v0 v1 v2 v3 v4 v5 v6 v7) (nm : ByteArray) (wh ix : Int) (h0 : 0 ≤ ix) (h1 : ix ≤ 4294967295) :
    Calls Tryz.prog 85 #[.agg #[v0, v1, v2, v3, v4, v5, v6, v7], .agg #[.string nm, .int .u8 wh, .int .u32 ix]] w fun e w' => e = .returned (.bool (tgt M wh ix)) ∧ Below w.heap.size w w' := by
  have hF := fun U (hU : Below w.heap.size w U) => thr_F (hM.l1.moved (g' := g) (Gm.Mv.below hU (fun k _ q => q)) hU.size (fun _ _ q => FncC.moved (Gm.Mv.below hU (fun k _ q => q)) q)) h0 (show ix < 4294967296 by omega)
  have hL2 := fun U (hU : Below w.heap.size w U) => thr_L (hM.l2.moved (g' := g) (Gm.Mv.below hU (fun k _ q => q)) hU.size (fun _ _ q => q)) h0 (show ix < 4294967296 by omega)
  have hL3 := fun U (hU : Below w.heap.size w U) => thr_L (hM.l3.moved (g' := g) (Gm.Mv.below hU (fun k _ q => q)) hU.size (fun _ _ q => q)) h0 (show ix < 4294967296 by omega)
  have hG := fun U (hU : Below w.heap.size w U) => thr_G (hM.l4.moved (g' := g) (Gm.Mv.below hU (fun k _ q => q)) hU.size (fun _ _ q => GloC.moved (Gm.Mv.below hU (fun k _ q => q)) q)) h0 (show ix < 4294967296 by omega)
  have hd : tgt M wh ix = if wh = 0 then thr M.funcs.length ix else if wh = 1 then thr M.tables.length ix else if wh = 2 then thr M.mems.length ix else if wh = 3 then thr M.globs.length ix else false := rfl
  rw [hd]
  clear hd
  obtain ⟨a0, k0, rfl⟩ := hM.l0.sl
  obtain ⟨a1, k1, rfl⟩ := hM.l1.sl
  obtain ⟨a2, k2, rfl⟩ := hM.l2.sl
  obtain ⟨a3, k3, rfl⟩ := hM.l3.sl
  obtain ⟨a4, k4, rfl⟩ := hM.l4.sl
  obtain ⟨a5, k5, rfl⟩ := hM.l5.sl
  obtain ⟨a6, k6, rfl⟩ := hM.l6.sl
  obtain ⟨a7, k7, rfl⟩ := hM.l7.sl
  clear hM h0 h1
  generalize M.types.length = n0 at *; generalize M.funcs.length = n1 at *; generalize M.tables.length = n2 at *; generalize M.mems.length = n3 at *; generalize M.globs.length = n4 at *; generalize M.exps.length = n5 at *; generalize M.elems.length = n6 at *; generalize M.datas.length = n7 at *
  obtain ⟨W0, hW0, b1, b2, b3, b4⟩ := box2m (w := w) (c1 := #[.slice a0 n0 k0, .slice a1 n1 k1, .slice a2 n2 k2, .slice a3 n3 k3, .slice a4 n4 k4, .slice a5 n5 k5, .slice a6 n6 k6, .slice a7 n7 k7]) (c2 := #[.string nm, .int .u8 wh, .int .u32 ix]) (t := 41) (t2 := 73)
  obtain ⟨p0, p1, p2, p3, p4, p5, p6, p7⟩ := mbox b1
  obtain ⟨q0, q1, q2⟩ := mbox3 b2
  have lW : w.heap.size < W0.heap.size := by omega
  have HF := hide (hF W0 b4); have H2 := hide (hL2 W0 b4); have H3 := hide (hL3 W0 b4); have HG := hide (hG W0 b4); have HW := hide hW0; have HB := hide b4
  clear hF hL2 hL3 hG hW0 b1 b2 b4
  by_cases e0 : wh = 0
  · subst e0
    try rw [if_neg (by decide)]
    try rw [if_neg (by decide)]
    try rw [if_neg (by decide)]
    rw [if_pos rfl]
    go_enter Tryz.func85, Tryz.ntmps85
    go_upto_region 1 with fail
    rw [unhide HW]
    go_wp2_with (go_at_call 90; refine (unhide HF).mono ?_; rintro e w4 ⟨rfl, hb4⟩; have HB4 := hide (Below.on0 (unhide HB) hb4 (unhide HB).size); clear hb4)
    try go_wp2
    go_ret
    exact ⟨ret_bool (by simp), unhide HB4⟩
  by_cases e1 : wh = 1
  · subst e1
    try rw [if_neg (by decide)]
    try rw [if_neg (by decide)]
    try rw [if_neg (by decide)]
    rw [if_pos rfl]
    go_enter Tryz.func85, Tryz.ntmps85
    go_upto_region 1 with fail
    rw [unhide HW]
    go_wp2_with (go_at_call 112; refine (unhide H2).mono ?_; rintro e w4 ⟨rfl, hb4⟩; have HB4 := hide (Below.on0 (unhide HB) hb4 (unhide HB).size); clear hb4)
    try go_wp2
    go_ret
    exact ⟨ret_bool (by simp), unhide HB4⟩
  by_cases e2 : wh = 2
  · subst e2
    try rw [if_neg (by decide)]
    try rw [if_neg (by decide)]
    try rw [if_neg (by decide)]
    rw [if_pos rfl]
    go_enter Tryz.func85, Tryz.ntmps85
    go_upto_region 1 with fail
    rw [unhide HW]
    go_wp2_with (go_at_call 112; refine (unhide H3).mono ?_; rintro e w4 ⟨rfl, hb4⟩; have HB4 := hide (Below.on0 (unhide HB) hb4 (unhide HB).size); clear hb4)
    try go_wp2
    go_ret
    exact ⟨ret_bool (by simp), unhide HB4⟩
  by_cases e3 : wh = 3
  · subst e3
    try rw [if_neg (by decide)]
    try rw [if_neg (by decide)]
    try rw [if_neg (by decide)]
    rw [if_pos rfl]
    go_enter Tryz.func85, Tryz.ntmps85
    go_upto_region 1 with fail
    rw [unhide HW]
    go_wp2_with (go_at_call 113; refine (unhide HG).mono ?_; rintro e w4 ⟨rfl, hb4⟩; have HB4 := hide (Below.on0 (unhide HB) hb4 (unhide HB).size); clear hb4)
    try go_wp2
    go_ret
    exact ⟨ret_bool (by simp), unhide HB4⟩
  · have t0 : (wh == 0) = false := by simpa using e0
    have t1 : (wh == 1) = false := by simpa using e1
    have t2 : (wh == 2) = false := by simpa using e2
    have t3 : (wh == 3) = false := by simpa using e3
    rw [if_neg e0, if_neg e1, if_neg e2, if_neg e3]
    clear e0 e1 e2 e3
    go_enter Tryz.func85, Tryz.ntmps85
    go_upto_region 1 with fail
    rw [unhide HW]
    go_wp2
    go_ret
    exact ⟨rfl, unhide HB⟩
def dat (M : Mod) (tb op : Int) : Bool := (tb == 0 && decide (0 < M.mems.length)) && cst op 127
set_option maxRecDepth 100000 in
set_option maxHeartbeats 3200000 in
theorem dat_any {M : Mod} {g : Nat → Prop} {v0 v1 v2 v3 v4 v5 v6 v7 : Value} {w : World} (hM : ModL w g M v0 v1 v2 v3 v4 v5 v6 v7) (hT : TC w 1 fmV) (tb op nn al of re : Int) (h0 : 0 ≤ op) (h1 : op ≤ 255) (s1 s2 s3 s4 : Option Addr) (l1 l2 l3 l4 c1 c2 c3 c4 : Nat) :
    Calls Tryz.prog 56 #[.agg #[v0, v1, v2, v3, v4, v5, v6, v7], .agg #[.int .u32 tb, .int .u8 op, .int .i64 nn, .int .u32 al, .int .u32 of, .int .u8 re, .slice s1 l1 c1, .slice s2 l2 c2, .slice s3 l3 c3, .slice s4 l4 c4]] w fun e w' => e = .returned (.bool (dat M tb op)) ∧ Below w.heap.size w w' := by
  have hd : dat M tb op = ((tb == 0 && decide (0 < M.mems.length)) && cst op 127) := rfl
  rw [hd]
  clear hd
  obtain ⟨a0, k0, rfl⟩ := hM.l0.sl
  obtain ⟨a1, k1, rfl⟩ := hM.l1.sl
  obtain ⟨a2, k2, rfl⟩ := hM.l2.sl
  obtain ⟨a3, k3, rfl⟩ := hM.l3.sl
  obtain ⟨a4, k4, rfl⟩ := hM.l4.sl
  obtain ⟨a5, k5, rfl⟩ := hM.l5.sl
  obtain ⟨a6, k6, rfl⟩ := hM.l6.sl
  obtain ⟨a7, k7, rfl⟩ := hM.l7.sl
  have hc := fun U (hU : Below w.heap.size w U) => cst_any op nn al of re 127 h0 h1 s1 s2 s3 l1 l2 l3 c1 c2 c3 U (hT.below hU)
  clear hM hT
  generalize cst op 127 = r at *
  generalize M.types.length = n0 at *; generalize M.funcs.length = n1 at *; generalize M.tables.length = n2 at *; generalize M.mems.length = n3 at *; generalize M.globs.length = n4 at *; generalize M.exps.length = n5 at *; generalize M.elems.length = n6 at *; generalize M.datas.length = n7 at *
  obtain ⟨W0, hW0, b1, b2, b3, b4⟩ := box2m (w := w) (c1 := #[.slice a0 n0 k0, .slice a1 n1 k1, .slice a2 n2 k2, .slice a3 n3 k3, .slice a4 n4 k4, .slice a5 n5 k5, .slice a6 n6 k6, .slice a7 n7 k7]) (c2 := #[.int .u32 tb, .int .u8 op, .int .i64 nn, .int .u32 al, .int .u32 of, .int .u8 re, .slice s1 l1 c1, .slice s2 l2 c2, .slice s3 l3 c3, .slice s4 l4 c4]) (t := 41) (t2 := 81)
  obtain ⟨p0, p1, p2, p3, p4, p5, p6, p7⟩ := mbox b1
  obtain ⟨q0, q1, q2, q3, q4, q5, q6, q7, q8, q9⟩ := mbox10 b2
  have lW : w.heap.size < W0.heap.size := by omega
  have HC := hide (hc W0 b4); have HW := hide hW0; have HB := hide b4
  clear hc hW0 b1 b2 b4 h0 h1
  by_cases e0 : tb = 0
  · subst e0
    by_cases e1 : 0 < n3
    · have t1 : (n3 : Int) > 0 := by omega
      have t2 : decide ((0 : Int) < (n3 : Int)) = true := by simp; omega
      go_enter Tryz.func56, Tryz.ntmps56
      go_upto_region 1 with fail
      rw [unhide HW]
      go_wp2_with (go_at_call 49; refine (unhide HC).mono ?_; rintro e w4 ⟨rfl, hb4⟩; have HB4 := hide (Below.on0 (unhide HB) hb4 (unhide HB).size); clear hb4)
      try go_wp2
      go_ret
      exact ⟨ret_bool (by simp [e1]), unhide HB4⟩
    · obtain rfl : n3 = 0 := by omega
      clear e1
      go_enter Tryz.func56, Tryz.ntmps56
      go_upto_region 1 with fail
      rw [unhide HW]
      go_wp2
      go_ret
      exact ⟨ret_bool (by simp), unhide HB⟩
  · have t0 : (tb == 0) = false := by simpa using e0
    clear e0
    go_enter Tryz.func56, Tryz.ntmps56
    go_upto_region 1 with fail
    rw [unhide HW]
    go_wp2
    go_ret
    exact ⟨ret_bool (by simp [t0]), unhide HB⟩
set_option maxRecDepth 100000 in
set_option maxHeartbeats 1600000 in
theorem elc_any {n1 : Nat} {a0 a1 a2 a3 a4 a5 a6 a7 : Option Addr} {n0 n2 n3 n4 n5 n6 n7 k0 k1 k2 k3 k4 k5 k6 k7 : Nat} (Bx : Nat) (x : Int) (W : World) (hr : W.heap[Bx]? = some (.cells #[.slice a0 n0 k0, .slice a1 n1 k1, .slice a2 n2 k2, .slice a3 n3 k3, .slice a4 n4 k4, .slice a5 n5 k5, .slice a6 n6 k6, .slice a7 n7 k7] 41 (0, 0)))
    (hth : ∀ U, Below W.heap.size W U → Calls Tryz.prog 90 #[.slice a1 n1 k1, .int .u32 x] U fun e w' => e = .returned (.bool (thr n1 x)) ∧ Below U.heap.size U w') :
    Calls Tryz.prog 89 (#[.int .u32 x] ++ #[.pointer (some ⟨Bx, 0, none⟩)]) W fun e w' => e = .returned (.bool (thr n1 x)) ∧ Below W.heap.size W w' := by
  obtain ⟨p0, p1, p2, p3, p4, p5, p6, p7⟩ := mbox hr
  have hlt := (Array.getElem?_eq_some_iff.1 hr).1
  have HT := hide (hth W (Below.refl _ _))
  clear hth hr
  go_enter Tryz.func89, Tryz.ntmps89
  go_wp2_with fail
  refine (unhide HT).mono ?_
  rintro e w1 ⟨rfl, hb1⟩
  have HB := hide hb1
  clear hb1
  go_wp2
  go_ret
  exact ⟨rfl, unhide HB⟩
def elm (M : Mod) (tb op : Int) (fs : List Int) : Bool := ((tb == 0 && decide (0 < M.tables.length)) && cst op 127) && fs.all (thr M.funcs.length)
set_option maxRecDepth 100000 in
set_option maxHeartbeats 3200000 in
theorem elm_any {M : Mod} {g : Nat → Prop} {v0 v1 v2 v3 v4 v5 v6 v7 : Value} {w : World} (hM : ModL w g M v0 v1 v2 v3 v4 v5 v6 v7) (hT : TC w 1 fmV) (tb op nn al of re : Int) (fs : List Int) (h0 : 0 ≤ op) (h1 : op ≤ 255) (s1 s2 s3 s4 : Option Addr) (l1 l2 l3 c1 c2 c3 c4 : Nat) (hfs : Lies g fs.length (Lab w fs) (.slice s4 fs.length c4)) (hz : ∀ z ∈ fs, 0 ≤ z ∧ z < 4294967296) (hn : fs.length < 1099511627776) :
    Calls Tryz.prog 53 #[.agg #[v0, v1, v2, v3, v4, v5, v6, v7], .agg #[.int .u32 tb, .int .u8 op, .int .i64 nn, .int .u32 al, .int .u32 of, .int .u8 re, .slice s1 l1 c1, .slice s2 l2 c2, .slice s3 l3 c3, .slice s4 fs.length c4]] w fun e w' => e = .returned (.bool (elm M tb op fs)) ∧ Below w.heap.size w w' := by
  have hd : elm M tb op fs = (((tb == 0 && decide (0 < M.tables.length)) && cst op 127) && fs.all (thr M.funcs.length)) := rfl
  rw [hd]
  clear hd
  have hth := fun x (hx : x ∈ fs) U (hU : Below w.heap.size w U) => thr_F (hM.l1.moved (g' := g) (Gm.Mv.below hU (fun k _ q => q)) hU.size (fun _ _ q => FncC.moved (Gm.Mv.below hU (fun k _ q => q)) q)) (hz x hx).1 (hz x hx).2
  obtain ⟨a0, k0, rfl⟩ := hM.l0.sl
  obtain ⟨a1, k1, rfl⟩ := hM.l1.sl
  obtain ⟨a2, k2, rfl⟩ := hM.l2.sl
  obtain ⟨a3, k3, rfl⟩ := hM.l3.sl
  obtain ⟨a4, k4, rfl⟩ := hM.l4.sl
  obtain ⟨a5, k5, rfl⟩ := hM.l5.sl
  obtain ⟨a6, k6, rfl⟩ := hM.l6.sl
  obtain ⟨a7, k7, rfl⟩ := hM.l7.sl
  have hc := fun U (hU : Below w.heap.size w U) => cst_any op nn al of re 127 h0 h1 s1 s2 s3 l1 l2 l3 c1 c2 c3 U (hT.below hU)
  clear hM hT
  obtain ⟨r, hr⟩ : ∃ r, cst op 127 = r := ⟨_, rfl⟩
  rw [hr] at hc ⊢
  clear hr
  generalize M.types.length = n0 at *; generalize M.funcs.length = n1 at *; generalize M.tables.length = n2 at *; generalize M.mems.length = n3 at *; generalize M.globs.length = n4 at *; generalize M.exps.length = n5 at *; generalize M.elems.length = n6 at *; generalize M.datas.length = n7 at *
  obtain ⟨W0, hW0, b1, b2, b3, b4⟩ := box2m (w := w) (c1 := #[.slice a0 n0 k0, .slice a1 n1 k1, .slice a2 n2 k2, .slice a3 n3 k3, .slice a4 n4 k4, .slice a5 n5 k5, .slice a6 n6 k6, .slice a7 n7 k7]) (c2 := #[.int .u32 tb, .int .u8 op, .int .i64 nn, .int .u32 al, .int .u32 of, .int .u8 re, .slice s1 l1 c1, .slice s2 l2 c2, .slice s3 l3 c3, .slice s4 fs.length c4]) (t := 41) (t2 := 79)
  have hall := fun U (hU : Below W0.heap.size W0 U) => allL_U (g := g) (l := fs) (v := .slice s4 fs.length c4) (w := U) (Ex.Labs.move (fun k hk _ hgk => ⟨hgk, (Below.on0 b4 hU b4.size).block k hk⟩) hfs) hn 89 #[.pointer (some ⟨w.heap.size, 0, none⟩)] (enters_of Tryz.func89 (by kernel_rfl) rfl) (thr n1) (fun x hx V hV => elc_any w.heap.size x V ((hV.block _ (Nat.lt_of_lt_of_le (by omega) hU.size)).trans ((hU.block _ (by omega)).trans b1)) (fun X hX => hth x hx X (Below.on0 (Below.on0 (Below.on0 b4 hU b4.size) hV (Below.on0 b4 hU b4.size).size) hX (Below.on0 (Below.on0 b4 hU b4.size) hV (Below.on0 b4 hU b4.size).size).size)))
  obtain ⟨p0, p1, p2, p3, p4, p5, p6, p7⟩ := mbox b1
  obtain ⟨q0, q1, q2, q3, q4, q5, q6, q7, q8, q9⟩ := mbox10 b2
  have lW : w.heap.size < W0.heap.size := by omega
  have HC := hide (hc W0 b4); have HW := hide hW0; have HB := hide b4; have HA := hide hall; have HP := hide p1; have HQ := hide q9
  obtain ⟨fa, hfa⟩ : ∃ fa, fs.all (thr n1) = fa := ⟨_, rfl⟩
  rw [hfa] at HA ⊢
  clear hfa hall hfs hz hn
  generalize fs.length = fl at *
  clear hc hth hW0 b1 b2 b4 h0 h1
  by_cases e0 : tb = 0
  · subst e0
    by_cases e1 : 0 < n2
    · have t1 : (n2 : Int) > 0 := by omega
      have t2 : decide ((0 : Int) < (n2 : Int)) = true := by simp; omega
      cases r with
      | false =>
        go_enter Tryz.func53, Tryz.ntmps53
        go_upto_region 1 with fail
        rw [unhide HW]
        go_wp2_with (go_at_call 49; refine (unhide HC).mono ?_; rintro e w4 ⟨rfl, hb4⟩; have HB4 := hide (Below.on0 (unhide HB) hb4 (unhide HB).size); clear hb4)
        try go_wp2
        go_ret
        exact ⟨ret_bool (by simp), unhide HB4⟩
      | true =>
        go_enter Tryz.func53, Tryz.ntmps53
        go_upto_region 1 with fail
        rw [unhide HW]
        go_wp2_with (first
          | (go_at_call 49; refine (unhide HC).mono ?_; rintro e w4 ⟨rfl, hb4⟩; have HB4 := hide (Below.on0 (unhide HB) hb4 (unhide HB).size); have HH4 := hide hb4; have u9 := (hb4.cell (p := ⟨w.heap.size + 1, 9, none⟩) b3).trans (unhide HQ); clear hb4 p0 p1 p2 p3 p4 p5 p6 p7 q0 q1 q2 q3 q4 q5 q6 q7 q8 q9)
          | (go_at_call 88; refine (unhide HA _ (unhide HH4)).mono ?_; rintro e w5 ⟨rfl, hb5⟩; have HB5 := hide (Below.on0 (unhide HB4) hb5 (unhide HB4).size); clear hb5)
          | fail)
        try go_wp2
        go_ret
        exact ⟨ret_bool (by simp [e1]), unhide HB5⟩
    · obtain rfl : n2 = 0 := by omega
      clear e1
      go_enter Tryz.func53, Tryz.ntmps53
      go_upto_region 1 with fail
      rw [unhide HW]
      go_wp2
      go_ret
      exact ⟨ret_bool (by simp), unhide HB⟩
  · have t0 : (tb == 0) = false := by simpa using e0
    clear e0
    go_enter Tryz.func53, Tryz.ntmps53
    go_upto_region 1 with fail
    rw [unhide HW]
    go_wp2
    go_ret
    exact ⟨ret_bool (by simp [t0]), unhide HB⟩
end Vw
end Go.Proofs.YtcpknafaocdjdaaGreatDoor

/- valid.exportsMayBe. -/
namespace Go.Proofs.YtcpknafaocdjdaaGreatDoor
open Go.RowKit Go.Shelf Go.Maps
namespace Vw
set_option linter.unusedVariables false
set_option linter.unusedSimpArgs false
open Ex (Ins Lies Lab)
open Gm (Mod Typ Fnc Lim Glo Exo Elm Dat Byts LL ModL TypC FncC LimC GloC ExoC ElmC DatC InsC WfM)
def nmL (e : Exo) : List UInt8 := e.nm.data.toList
def names (M : Mod) : List (List UInt8) := M.exps.map nmL
def expOk (M : Mod) : Bool := M.exps.all (fun e => tgt M e.wh e.ix) && decide (names M).Nodup
theorem keyS (S : ByteArray) (h : S.size ≤ maxLen) : keyOf Tryz.prog 9 (.string S) = some (.string S.data.toList) := WideMaps.keyOf_string_mk Tryz.underlying9 h
theorem lawS9 : Keyed Tryz.prog 9 := string_keyed Tryz.underlying9
theorem zeroI9 (w : World) : (zeroValue 3).run Tryz.prog w = .ok (.int .i64 0) w := by kernel_rfl
theorem lit_inj {a c : Int} (h : (DataW.lit (.int .i64 a) : DataW Unit) = .lit (.int .i64 c)) : c = a := by
  injection h with h
  injection h with h1 h2
  exact h2.symm
theorem own_below {H : Type} {P : Program} {k : TypeId} {R : Value → Option (DataW H × List MemPlace)} {w w' : World} {b n : Nat} {D : DataW H} (h : w.ownsMap P k R b n D) (hb : Below w.heap.size w w') : w'.ownsMap P k R b n D := by
  have hlt := h.lt
  obtain ⟨es, c, h1, h2⟩ := h
  exact ⟨es, c, (hb.block b hlt).trans h1, h2⟩
/-- what the map says behind some names -/
def Cnt (D : DataW Unit) (l : List (List UInt8)) : Prop := ∀ s : List UInt8, D.atKey (.string s) (.lit (.int .i64 0)) = .lit (.int .i64 (if s ∈ l then 1 else 0))
theorem Cnt.nil : Cnt (.map []) [] := fun s => rfl
theorem Cnt.snoc {D : DataW Unit} {l : List (List UInt8)} (h : Cnt D l) (hm : IsMap D) (x : List UInt8) : Cnt (D.put (.string x) (.lit (.int .i64 1))) (l ++ [x]) := by
  intro s
  by_cases e : s = x
  · subst e
    rw [atKey_put_same hm (show WideAt.IsKeyLit (.string s) from trivial)]; simp
  · rw [atKey_put_other (by simp; exact e)]
    rw [h s]
    simp [e]
theorem not_nodup {l : List (List UInt8)} {j : Nat} {x : List UInt8} (hj : l[j]? = some x) (h : x ∈ l.take j) : decide l.Nodup = false := by
  refine decide_eq_false fun hn => ?_
  obtain ⟨i, hi, he⟩ := List.getElem_of_mem h
  obtain ⟨hjl, hje⟩ := List.getElem?_eq_some_iff.1 hj
  have hij : i < j := by have := hi; simp at this; omega
  rw [List.getElem_take] at he
  have := (List.nodup_iff_pairwise_ne.1 hn)
  exact (List.pairwise_iff_getElem.1 this i j (by omega) hjl hij) (by rw [he, hje])

set_option maxRecDepth 100000 in
set_option maxHeartbeats 6400000 in
theorem exp_any {M : Mod} {g : Nat → Prop} {v0 v1 v2 v3 v4 v5 v6 v7 : Value} {w : World} (hM : ModL w g M v0 v1 v2 v3 v4 v5 v6 v7) (hwf : WfM M) (hg : ∀ k, g k → k < w.heap.size) (hn : M.exps.length < 1099511627776) :
    Calls Tryz.prog 50 #[.agg #[v0, v1, v2, v3, v4, v5, v6, v7]] w fun e w' => e = .returned (.bool (expOk M)) ∧ Below w.heap.size w w' := by
  have hmm := @run_makeMap Tryz.prog
  have htg := fun (e : Exo) (he : e ∈ M.exps) U (hU : Below w.heap.size w U) => tgt_any (ModL.up hM hU) e.nm e.wh e.ix (hwf.2.2.2.2.2.1 e he).2.2.1 (hwf.2.2.2.2.2.1 e he).2.2.2
  have hex := hM.l5
  have hsz := fun (e : Exo) (he : e ∈ M.exps) => (hwf.2.2.2.2.2.1 e he).1
  have hno : ∀ (j : Nat) (x : Exo), M.exps[j]? = some x → tgt M x.wh x.ix = false → expOk M = false := fun j x hj ht => by
    unfold expOk
    rw [show M.exps.all (fun e => tgt M e.wh e.ix) = false from by rw [List.all_eq_false]; exact ⟨x, List.mem_of_getElem? hj, by simp [ht]⟩]; rfl
  have hno2 : ∀ (j : Nat) (x : Exo), M.exps[j]? = some x → nmL x ∈ (names M).take j → expOk M = false := fun j x hj ht => by
    unfold expOk
    rw [not_nodup (l := names M) (j := j) (x := nmL x) (by unfold names; rw [List.getElem?_map, hj]; rfl) ht, Bool.and_false]
  have hyes : (∀ i (x : Exo), M.exps[i]? = some x → tgt M x.wh x.ix = true) → (names M).Nodup → expOk M = true := fun h1 h2 => by
    unfold expOk
    rw [decide_eq_true h2, Bool.and_true, List.all_eq_true]
    intro x hx
    obtain ⟨i, hi, rfl⟩ := List.getElem_of_mem hx
    exact h1 i _ (List.getElem?_eq_getElem hi)
  have hnl : (names M).length = M.exps.length := by simp [names]
  have hnt : ∀ (j : Nat) (x : Exo), M.exps[j]? = some x → (names M).take (j + 1) = (names M).take j ++ [nmL x] := fun j x hj => by
    have h1 : (names M)[j]? = some (nmL x) := by unfold names; rw [List.getElem?_map, hj]; rfl
    obtain ⟨h2, h3⟩ := List.getElem?_eq_some_iff.1 h1
    rw [List.take_succ_eq_append_getElem h2, h3]
  obtain ⟨a0, k0, rfl⟩ := hM.l0.sl; obtain ⟨a1, k1, rfl⟩ := hM.l1.sl; obtain ⟨a2, k2, rfl⟩ := hM.l2.sl; obtain ⟨a3, k3, rfl⟩ := hM.l3.sl; obtain ⟨a4, k4, rfl⟩ := hM.l4.sl; obtain ⟨a5, k5, rfl⟩ := hM.l5.sl; obtain ⟨a6, k6, rfl⟩ := hM.l6.sl; obtain ⟨a7, k7, rfl⟩ := hM.l7.sl
  have HTg := hide htg; have HEx := hide hex; have HNo := hide hno; have HNo2 := hide hno2; have HYes := hide hyes; have HNt := hide hnt; have HNn := hide hn; have HG := hide hg; have HSz := hide hsz
  clear hsz htg hex hno hno2 hyes hnt hn hM hwf hg
  have HNl := hide hnl; clear hnl
  generalize expOk M = R at *
  generalize M.types.length = n0 at *; generalize M.funcs.length = n1 at *; generalize M.tables.length = n2 at *; generalize M.mems.length = n3 at *; generalize M.globs.length = n4 at *; generalize hn5 : M.exps.length = n5 at *; generalize M.elems.length = n6 at *; generalize M.datas.length = n7 at *
  have HN5 := hide hn5; clear hn5
  obtain ⟨W0, hW0⟩ : ∃ W0, w.alloc (.cells #[.slice a0 n0 k0, .slice a1 n1 k1, .slice a2 n2 k2, .slice a3 n3 k3, .slice a4 n4 k4, .slice a5 n5 k5, .slice a6 n6 k6, .slice a7 n7 k7] 41) = W0 := ⟨_, rfl⟩
  have r0 : W0.heap[w.heap.size]? = some (.cells #[.slice a0 n0 k0, .slice a1 n1 k1, .slice a2 n2 k2, .slice a3 n3 k3, .slice a4 n4 k4, .slice a5 n5 k5, .slice a6 n6 k6, .slice a7 n7 k7] 41 (0, 0)) := by rw [← hW0]; exact heap_alloc_new _ _
  have z0 : W0.heap.size = w.heap.size + 1 := by rw [← hW0]; simp
  have b0 : Below w.heap.size w W0 := by rw [← hW0]; exact one_al9 _ _
  obtain ⟨WA, hWA⟩ : ∃ WA, W0.alloc (.map #[] 0) = WA := ⟨_, rfl⟩
  have bA : Below w.heap.size w WA := by rw [← hWA]; exact b0.alloc b0.size _
  have rA : WA.heap[w.heap.size]? = some (.cells #[.slice a0 n0 k0, .slice a1 n1 k1, .slice a2 n2 k2, .slice a3 n3 k3, .slice a4 n4 k4, .slice a5 n5 k5, .slice a6 n6 k6, .slice a7 n7 k7] 41 (0, 0)) := by rw [← hWA, Below.heap_alloc _ _ _ (by omega)]; exact r0
  have oA : WA.ownsMap Tryz.prog 9 (plainElem (H := Unit) Tryz.prog 3) (w.heap.size + 1) 0 (.map []) := by
    rw [← hWA, ← z0]
    exact World.ownsMap_made (H := Unit) W0 Tryz.prog 9 (plainElem (H := Unit) Tryz.prog 3)
  obtain ⟨p0, p1, p2, p3, p4, p5, p6, p7⟩ := mbox rA
  have HW0 := hide hW0; have HWA := hide hWA; have HBA := hide bA; have HRA := hide rA; have HOA := hide oA; have HZ0 := hide z0
  clear hW0 hWA b0 bA r0 rA oA z0
  go_enter Tryz.func50, Tryz.ntmps50
  go_upto_region 1 with fail
  rw [unhide HW0]
  go_upto_region 2 with (simp only [hmm])
  rw [unhide HWA]
  rw [unhide HZ0]
  go_wp2_with fail
  clear p0 p1 p2 p3 p4 p6 p7 p5 HW0 HWA HZ0
  go_loopw [10] (fun c wr => ∃ (j : Nat) (D : DataW Unit), c = .int .i64 j ∧ (j : Int) ≤ n5 ∧ wr.ownsMap Tryz.prog 9 (plainElem (H := Unit) Tryz.prog 3) (w.heap.size + 1) j D ∧ Cnt D ((names M).take j) ∧ ((names M).take j).Nodup ∧ (∀ i (x : Exo), i < j → M.exps[i]? = some x → tgt M x.wh x.ix = true) ∧ Below w.heap.size w wr ∧ wr.heap[w.heap.size]? = some (.cells #[.slice a0 n0 k0, .slice a1 n1 k1, .slice a2 n2 k2, .slice a3 n3 k3, .slice a4 n4 k4, .slice a5 n5 k5, .slice a6 n6 k6, .slice a7 n7 k7] 41 (0, 0))) (fun c _ => ((n5 : Int) - intOf c).toNat)
  case atStart => exact ⟨0, _, rfl, by omega, unhide HOA, by rw [List.take_zero]; exact Cnt.nil, by rw [List.take_zero]; exact List.nodup_nil, fun i x h => absurd h (by omega), unhide HBA, unhide HRA⟩
  case round =>
    obtain ⟨j, D, rfl, hj, hown, hcnt, hnd, hall, hbel, hrow⟩ := hrel
    have HOw := hide hown; have HCn := hide hcnt; have HNd := hide hnd; have HAl := hide hall; have HBe := hide hbel; have HRo := hide hrow
    clear hown hcnt hnd hall hbel hrow HOA HBA HRA
    by_cases hlt : (j : Int) < n5
    · have hjl : j < M.exps.length := by rw [unhide HN5]; omega
      obtain ⟨b, o, cp, hv, -, hbw, hgb, cs, -, heq, hcs⟩ := (unhide HEx).at hjl
      simp only [Value.slice.injEq] at hv
      obtain ⟨rfl, -, rfl⟩ := hv
      obtain ⟨x, hx⟩ : ∃ x, M.exps[j] = x := ⟨_, rfl⟩
      have hxj : M.exps[j]? = some x := by rw [List.getElem?_eq_getElem hjl, hx]
      have he : cs = _ := heq
      subst he
      clear heq
      rw [hx] at hcs
      have cc := fun i u hu => ((unhide HBe).cell (p := ⟨b, o + j * 3 + i, none⟩) hbw).trans (hcs i u hu)
      have e0 := cc 0 _ rfl; have e1 := cc 1 _ rfl; have e2 := cc 2 _ rfl
      simp only [Nat.add_zero] at e0
      have hbr : b < wr.heap.size := Nat.lt_of_lt_of_le hbw (unhide HBe).size
      have hxm : x ∈ M.exps := List.mem_of_getElem? hxj
      have HX := hide hxj; have HXm := hide hxm
      clear hcs cc hj hjl hx hxj hxm
      have hkey := keyS x.nm (unhide HSz x (unhide HXm))
      have HTx := hide (unhide HTg x (unhide HXm))
      have HNo1 := hide (unhide HNo j x (unhide HX)); have HNo3 := hide (unhide HNo2 j x (unhide HX)); have HNt1 := hide (unhide HNt j x (unhide HX))
      have hnm : nmL x = x.nm.data.toList := rfl
      rw [hnm] at HNo3 HNt1
      clear hnm
      have HC0 := hide (unhide HCn x.nm.data.toList)
      obtain ⟨nm, wh, ix⟩ := x
      simp only at *
      go_upto_region 5 with fail
      obtain ⟨W1, hW1⟩ : ∃ W1, wr.alloc (.cells #[.string nm, .int .u8 wh, .int .u32 ix] 73) = W1 := ⟨_, rfl⟩
      have r1 : W1.heap[wr.heap.size]? = some (.cells #[.string nm, .int .u8 wh, .int .u32 ix] 73 (0, 0)) := by rw [← hW1]; exact heap_alloc_new _ _
      have b1 : Below wr.heap.size wr W1 := by rw [← hW1]; exact one_al9 _ _
      have hlm := (unhide HOw).lt
      have lwr : w.heap.size < wr.heap.size := by omega
      have r2 : W1.heap[w.heap.size]? = _ := (b1.block _ lwr).trans (unhide HRo)
      have z1 : W1.heap.size = wr.heap.size + 1 := by rw [← hW1]; simp
      have o1 := own_below (unhide HOw) b1
      rw [hW1]
      obtain ⟨q0, q1, q2⟩ := mbox3 r1
      have HW1 := hide hW1; have HR1 := hide r1; have HR2 := hide r2; have Hb1 := hide b1; have HO1 := hide o1; have HZ1 := hide z1; have HIm := hide (unhide HOw).isMap
      clear hW1 r1 r2 b1 o1 z1 e0 e1 e2
      generalize hNR : wr.heap.size = NR at *
      have HNR := hide hNR; clear hNR
      have hj63 : Hid (j < maxLen) := hide (by have := unhide HNn; unfold maxLen; omega)
      by_cases hin : nm.data.toList ∈ (names M).take j
      · have hc0 : D.atKey (.string nm.data.toList) (.lit (.int .i64 0)) = .lit (.int .i64 1) := by have := unhide HC0; rw [if_pos hin] at this; exact this
        have HRes := hide (unhide HNo3 hin)
        have HC1 := hide hc0
        clear hin hc0
        go_wp2_with (first
          | (at_lookup; refine wpList_lookup_own_int _ rfl _ _ 162 rfl 9 3 .i64 lawS9 Tryz.underlying162 Tryz.underlying3 (zeroI9 _) (w.heap.size + 1) j _ rfl (unhide HO1) _ _ rfl hkey ?_; intro c hat hwc; obtain rfl := lit_inj ((unhide HC1).symm.trans hat); clear hat hwc)
          | (at_mapUpdate; refine wpList_mapUpdate_own _ rfl _ _ _ 162 rfl 9 3 lawS9 Tryz.underlying162 _ (w.heap.size + 1) j _ rfl (unhide HO1) (unhide hj63) _ _ _ rfl rfl hkey _ [] (plainElem_int Tryz.underlying3 (by decide)) ?_; intro w1 hown1 hgrow1; have HO2 := hide hown1; have q0 := (World.cell?_of_block (a := ⟨NR, 0, none⟩) (hgrow1.block NR (by have := unhide HZ1; omega) (by simp; omega))).trans q0; have HB2 := hide (((unhide HBe).trans ((unhide Hb1).mono (by have := unhide HNR; omega))).grown hgrow1 (by have := unhide HZ1; omega) (fun q hq => by cases hq; omega)); clear hgrow1 hown1 q1 q2)
          | (at_lookup; refine wpList_lookup_own_int _ rfl _ _ 162 rfl 9 3 .i64 lawS9 Tryz.underlying162 Tryz.underlying3 (zeroI9 _) (w.heap.size + 1) (j + 1) _ rfl (unhide HO2) _ _ rfl hkey ?_; intro c hat hwc; obtain rfl := lit_inj ((atKey_put_same (unhide HIm) (show WideAt.IsKeyLit (.string nm.data.toList) from trivial) _ _).symm.trans hat); clear hat hwc)
          | fail)
        try go_wp2
        go_ret
        exact ⟨ret_bool (unhide HRes).symm, unhide HB2⟩
      · have hc0 : D.atKey (.string nm.data.toList) (.lit (.int .i64 0)) = .lit (.int .i64 0) := by have := unhide HC0; rw [if_neg hin] at this; exact this
        have HIn := hide hin
        have HC1 := hide hc0
        clear hin hc0
        go_wp2_with (first
          | (at_lookup; refine wpList_lookup_own_int _ rfl _ _ 162 rfl 9 3 .i64 lawS9 Tryz.underlying162 Tryz.underlying3 (zeroI9 _) (w.heap.size + 1) j _ rfl (unhide HO1) _ _ rfl hkey ?_; intro c hat hwc; obtain rfl := lit_inj ((unhide HC1).symm.trans hat); clear hat hwc)
          | (at_mapUpdate; refine wpList_mapUpdate_own _ rfl _ _ _ 162 rfl 9 3 lawS9 Tryz.underlying162 _ (w.heap.size + 1) j _ rfl (unhide HO1) (unhide hj63) _ _ _ rfl rfl hkey _ [] (plainElem_int Tryz.underlying3 (by decide)) ?_; intro w1 hown1 hgrow1; have HO2 := hide hown1; have hr1' := (hgrow1.block NR (by have := unhide HZ1; omega) (by simp; omega)).trans (unhide HR1); have hr2' := (hgrow1.block w.heap.size (by have := unhide HZ1; omega) (by simp)).trans (unhide HR2); have HR3 := hide hr1'; have HR4 := hide hr2'; obtain ⟨s0, s1, s2⟩ := mbox3 hr1'; obtain ⟨p0, p1, p2, p3, p4, p5, p6, p7⟩ := mbox hr2'; have HB2 := hide (((unhide HBe).trans ((unhide Hb1).mono (by have := unhide HNR; omega))).grown hgrow1 (by have := unhide HZ1; omega) (fun q hq => by cases hq; omega)); clear hgrow1 hown1 q0 q1 q2 hr1' hr2')
          | (at_lookup; refine wpList_lookup_own_int _ rfl _ _ 162 rfl 9 3 .i64 lawS9 Tryz.underlying162 Tryz.underlying3 (zeroI9 _) (w.heap.size + 1) (j + 1) _ rfl (unhide HO2) _ _ rfl hkey ?_; intro c hat hwc; obtain rfl := lit_inj ((atKey_put_same (unhide HIm) (show WideAt.IsKeyLit (.string nm.data.toList) from trivial) _ _).symm.trans hat); clear hat hwc)
          | fail)
        refine (unhide HTx w1 (unhide HB2)).mono ?_
        rintro e w2 ⟨rfl, hb2⟩
        have HB3 := hide (Below.on0 (unhide HB2) hb2 (unhide HB2).size)
        have HO3 := hide (own_below (unhide HO2) hb2)
        have HR5 := hide ((hb2.block _ (Array.getElem?_eq_some_iff.1 (unhide HR4)).1).trans (unhide HR4))
        clear hb2 p0 p1 p2 p3 p4 p5 p6 p7 s0 s1 s2
        cases ht : tgt M wh ix with
        | false =>
          have HRes := hide (unhide HNo1 ht)
          clear ht
          go_wp2
          go_ret
          exact ⟨ret_bool (unhide HRes).symm, unhide HB3⟩
        | true =>
          have HT1 := hide ht
          clear ht
          have hnb : (n5 : Int) < 1099511627776 := by have := unhide HNn; omega
          have hjb : (j : Int) < 1099511627776 := by omega
          go_wp2
          go_roundw
          case rel => exact ⟨j + 1, _, by go_num, by omega, unhide HO3, by rw [unhide HNt1]; exact (unhide HCn).snoc (unhide HIm) _, by rw [unhide HNt1]; exact List.nodup_append.2 ⟨unhide HNd, by simp, fun a ha b hb => by simp at hb; subst hb; intro e; subst e; exact unhide HIn ha⟩, fun i z hi hz => by
            by_cases e : i = j
            · subst e
              obtain rfl := Option.some.inj ((unhide HX).symm.trans hz)
              exact unhide HT1
            · exact unhide HAl i z (by omega) hz, unhide HB3, unhide HR5⟩
          case measure => simp [intOf]; omega
    · obtain rfl : j = n5 := by omega
      have HRes := hide (unhide HYes (fun i x hx => unhide HAl i x (by have := (List.getElem?_eq_some_iff.1 hx).1; rw [unhide HN5] at this; exact this) hx) (by have := unhide HNd; rw [List.take_of_length_le (by rw [unhide HNl]; exact Nat.le_refl _)] at this; exact this))
      clear hj hlt
      go_wp2
      go_ret
      exact ⟨ret_bool (unhide HRes).symm, unhide HBe⟩
end Vw
end Go.Proofs.YtcpknafaocdjdaaGreatDoor

/- valid: inLimits, partsMayBe. By mkpd.py. -/
namespace Go.Proofs.YtcpknafaocdjdaaGreatDoor
open Go.RowKit Go.Shelf
namespace Vw
set_option linter.unusedVariables false
set_option linter.unusedSimpArgs false
open Ex (Ins Lies Lab)
open Gm (Mod Typ Fnc Lim Glo Exo Elm Dat Byts LL ModL TypC FncC LimC GloC ExoC ElmC DatC InsC WfM SzM)
def lims (M : Mod) : Bool := M.tables.all (fun l => decide (l.mn ≤ 256)) && M.mems.all (fun l => decide (l.mn ≤ 16))
def bnd (l : Lim) : Bool := !l.has || decide (l.mn ≤ l.mx)
def parts (M : Mod) : Bool := (((((((decide (M.tables.length ≤ 1) && decide (M.mems.length ≤ 1)) && M.funcs.all (fun f => thr M.types.length f.ty)) && M.tables.all bnd) && M.mems.all bnd) && M.globs.all (fun x => cst x.ini.op x.kd)) && expOk M) && M.elems.all (fun e => elm M e.tb e.off.op e.fs)) && M.datas.all (fun d => dat M d.tb d.off.op)
set_option maxRecDepth 100000 in
set_option maxHeartbeats 3200000 in
theorem lims_any {M : Mod} {g : Nat → Prop} {v0 v1 v2 v3 v4 v5 v6 v7 : Value} {w : World} (hM : ModL w g M v0 v1 v2 v3 v4 v5 v6 v7) (hs2 : M.tables.length < 1099511627776) (hs3 : M.mems.length < 1099511627776) :
    Calls Tryz.prog 23 #[.agg #[v0, v1, v2, v3, v4, v5, v6, v7]] w fun e w' => e = .returned (.bool (lims M)) ∧ Below w.heap.size w w' := by
  have hA := fun U (hU : Below w.heap.size w U) => allL_L (hM.l2.moved (g' := g) (Gm.Mv.below hU (fun k _ q => q)) hU.size (fun _ _ q => LimC.moved (Gm.Mv.below hU (fun k _ q => q)) q)) hs2 34 #[] (enters_of Tryz.func34 (by kernel_rfl) rfl) (fun l : Lim => decide (l.mn ≤ 256)) (fun x hx c0 c1 c2 hI W hW => by
    have he : [c0, c1, c2] = _ := hI
    simp only [List.cons.injEq, and_true] at he
    obtain ⟨rfl, rfl, rfl⟩ := he
    exact pl1_any x.mn x.mx x.has W)
  have hB := fun U (hU : Below w.heap.size w U) => allL_L (hM.l3.moved (g' := g) (Gm.Mv.below hU (fun k _ q => q)) hU.size (fun _ _ q => LimC.moved (Gm.Mv.below hU (fun k _ q => q)) q)) hs3 35 #[] (enters_of Tryz.func35 (by kernel_rfl) rfl) (fun l : Lim => decide (l.mn ≤ 16)) (fun x hx c0 c1 c2 hI W hW => by
    have he : [c0, c1, c2] = _ := hI
    simp only [List.cons.injEq, and_true] at he
    obtain ⟨rfl, rfl, rfl⟩ := he
    exact pl2_any x.mn x.mx x.has W)
  have hd : lims M = (M.tables.all (fun l => decide (l.mn ≤ 256)) && M.mems.all (fun l => decide (l.mn ≤ 16))) := rfl
  rw [hd]
  clear hd
  obtain ⟨a0, k0, rfl⟩ := hM.l0.sl
  obtain ⟨a1, k1, rfl⟩ := hM.l1.sl
  obtain ⟨a2, k2, rfl⟩ := hM.l2.sl
  obtain ⟨a3, k3, rfl⟩ := hM.l3.sl
  obtain ⟨a4, k4, rfl⟩ := hM.l4.sl
  obtain ⟨a5, k5, rfl⟩ := hM.l5.sl
  obtain ⟨a6, k6, rfl⟩ := hM.l6.sl
  obtain ⟨a7, k7, rfl⟩ := hM.l7.sl
  clear hM hs2 hs3
  generalize M.tables.all (fun l => decide (l.mn ≤ 256)) = r1 at *
  generalize M.mems.all (fun l => decide (l.mn ≤ 16)) = r2 at *
  generalize M.types.length = n0 at *; generalize M.funcs.length = n1 at *; generalize M.tables.length = n2 at *; generalize M.mems.length = n3 at *; generalize M.globs.length = n4 at *; generalize M.exps.length = n5 at *; generalize M.elems.length = n6 at *; generalize M.datas.length = n7 at *
  have hB0 := one_al9 w (.cells #[.slice a0 n0 k0, .slice a1 n1 k1, .slice a2 n2 k2, .slice a3 n3 k3, .slice a4 n4 k4, .slice a5 n5 k5, .slice a6 n6 k6, .slice a7 n7 k7] 41)
  have hr0 := heap_alloc_new w (.cells #[.slice a0 n0 k0, .slice a1 n1 k1, .slice a2 n2 k2, .slice a3 n3 k3, .slice a4 n4 k4, .slice a5 n5 k5, .slice a6 n6 k6, .slice a7 n7 k7] 41)
  have HB0 := hide hB0; have HR0 := hide hr0; have HA := hide hA; have HB := hide hB
  clear hB0 hr0 hA hB
  go_enter Tryz.func23, Tryz.ntmps23
  go_wp2_with fail
  generalize w.alloc (.cells #[.slice a0 n0 k0, .slice a1 n1 k1, .slice a2 n2 k2, .slice a3 n3 k3, .slice a4 n4 k4, .slice a5 n5 k5, .slice a6 n6 k6, .slice a7 n7 k7] 41) = w0 at *
  refine (unhide HA w0 (unhide HB0)).mono ?_
  rintro e w1 ⟨rfl, hb1⟩
  have hr1 := (hb1.block _ (Array.getElem?_eq_some_iff.1 (unhide HR0)).1).trans (unhide HR0)
  have HB1 := hide (Below.on0 (unhide HB0) hb1 (unhide HB0).size)
  obtain ⟨p0, p1, p2, p3, p4, p5, p6, p7⟩ := mbox hr1
  have hlt1 := (Array.getElem?_eq_some_iff.1 hr1).1
  clear hb1 hr1
  cases r1 with
  | false =>
    go_wp2
    go_ret
    exact ⟨rfl, unhide HB1⟩
  | true =>
    go_wp2_with fail
    refine (unhide HB w1 (unhide HB1)).mono ?_
    rintro e w2 ⟨rfl, hb2⟩
    have HB2 := hide (Below.on0 (unhide HB1) hb2 (unhide HB1).size)
    clear hb2 p0 p1 p2 p3 p4 p5 p6 p7
    go_wp2
    go_ret
    exact ⟨ret_bool (by simp), unhide HB2⟩
set_option maxRecDepth 100000 in
set_option maxHeartbeats 1600000 in
theorem pc1_any {a0 a1 a2 a3 a4 a5 a6 a7 : Option Addr} {n0 n1 n2 n3 n4 n5 n6 n7 k0 k1 k2 k3 k4 k5 k6 k7 : Nat} (Bx : Nat) (x : Int) (la ba : Option Addr) (ll lc bl bc : Nat) (W : World) (hr : W.heap[Bx]? = some (.cells #[.slice a0 n0 k0, .slice a1 n1 k1, .slice a2 n2 k2, .slice a3 n3 k3, .slice a4 n4 k4, .slice a5 n5 k5, .slice a6 n6 k6, .slice a7 n7 k7] 41 (0, 0)))
    (hth : ∀ U, Below W.heap.size W U → Calls Tryz.prog 46 #[.slice a0 n0 k0, .int .u32 x] U fun e w' => e = .returned (.bool (thr n0 x)) ∧ Below U.heap.size U w') :
    Calls Tryz.prog 45 (#[.agg #[.int .u32 x, .slice la ll lc, .slice ba bl bc]] ++ #[.pointer (some ⟨Bx, 0, none⟩)]) W fun e w' => e = .returned (.bool (thr n0 x)) ∧ Below W.heap.size W w' := by
  have hA := one_al9 W (.cells #[.int .u32 x, .slice la ll lc, .slice ba bl bc] 66)
  obtain ⟨p0, p1, p2, p3, p4, p5, p6, p7⟩ := mbox hr
  have hlt := (Array.getElem?_eq_some_iff.1 hr).1
  have hne : ¬ Bx = W.heap.size := by omega
  have HT := hide (hth _ hA); have HA := hide hA
  clear hth hr hA
  go_enter Tryz.func45, Tryz.ntmps45
  go_wp2_with fail
  refine (unhide HT).mono ?_
  rintro e w1 ⟨rfl, hb1⟩
  have HB := hide (Below.on0 (unhide HA) hb1 (unhide HA).size)
  clear hb1
  go_wp2
  go_ret
  exact ⟨rfl, unhide HB⟩
set_option maxRecDepth 100000 in
set_option maxHeartbeats 1600000 in
theorem pc2_any (kd op nn al of re : Int) (mu : Bool) (h0 : 0 ≤ op) (h1 : op ≤ 255) (s1 s2 s3 : Option Addr) (l1 l2 l3 c1 c2 c3 : Nat) (W : World) (hT : TC W 1 fmV) :
    Calls Tryz.prog 48 (#[.agg #[.int .u8 kd, .bool mu, .int .u8 op, .int .i64 nn, .int .u32 al, .int .u32 of, .int .u8 re, .slice s1 l1 c1, .slice s2 l2 c2, .slice s3 l3 c3]] ++ #[]) W fun e w' => e = .returned (.bool (cst op kd)) ∧ Below W.heap.size W w' := by
  have hA := one_al9 W (.cells #[.int .u8 kd, .bool mu, .int .u8 op, .int .i64 nn, .int .u32 al, .int .u32 of, .int .u8 re, .slice s1 l1 c1, .slice s2 l2 c2, .slice s3 l3 c3] 77)
  have HC := hide (cst_any op nn al of re kd h0 h1 s1 s2 s3 l1 l2 l3 c1 c2 c3 _ (hT.below hA)); have HA := hide hA
  generalize cst op kd = r at *
  clear hT hA h0 h1
  go_enter Tryz.func48, Tryz.ntmps48
  go_wp2_with fail
  refine (unhide HC).mono ?_
  rintro e w1 ⟨rfl, hb1⟩
  have HB := hide (Below.on0 (unhide HA) hb1 (unhide HA).size)
  clear hb1
  go_wp2
  go_ret
  exact ⟨rfl, unhide HB⟩
set_option maxRecDepth 100000 in
set_option maxHeartbeats 1600000 in
theorem pc3_any {a0 a1 a2 a3 a4 a5 a6 a7 : Option Addr} {n0 n1 n2 n3 n4 n5 n6 n7 k0 k1 k2 k3 k4 k5 k6 k7 : Nat} (Bx : Nat) (r : Bool) (tb op nn al of re : Int) (s1 s2 s3 s4 : Option Addr) (l1 l2 l3 l4 c1 c2 c3 c4 : Nat) (W : World) (hr : W.heap[Bx]? = some (.cells #[.slice a0 n0 k0, .slice a1 n1 k1, .slice a2 n2 k2, .slice a3 n3 k3, .slice a4 n4 k4, .slice a5 n5 k5, .slice a6 n6 k6, .slice a7 n7 k7] 41 (0, 0)))
    (hth : ∀ U, Below W.heap.size W U → Calls Tryz.prog 53 #[.agg #[.slice a0 n0 k0, .slice a1 n1 k1, .slice a2 n2 k2, .slice a3 n3 k3, .slice a4 n4 k4, .slice a5 n5 k5, .slice a6 n6 k6, .slice a7 n7 k7], .agg #[.int .u32 tb, .int .u8 op, .int .i64 nn, .int .u32 al, .int .u32 of, .int .u8 re, .slice s1 l1 c1, .slice s2 l2 c2, .slice s3 l3 c3, .slice s4 l4 c4]] U fun e w' => e = .returned (.bool r) ∧ Below U.heap.size U w') :
    Calls Tryz.prog 52 (#[.agg #[.int .u32 tb, .int .u8 op, .int .i64 nn, .int .u32 al, .int .u32 of, .int .u8 re, .slice s1 l1 c1, .slice s2 l2 c2, .slice s3 l3 c3, .slice s4 l4 c4]] ++ #[.pointer (some ⟨Bx, 0, none⟩)]) W fun e w' => e = .returned (.bool r) ∧ Below W.heap.size W w' := by
  have hA := one_al9 W (.cells #[.int .u32 tb, .int .u8 op, .int .i64 nn, .int .u32 al, .int .u32 of, .int .u8 re, .slice s1 l1 c1, .slice s2 l2 c2, .slice s3 l3 c3, .slice s4 l4 c4] 79)
  obtain ⟨p0, p1, p2, p3, p4, p5, p6, p7⟩ := mbox hr
  have hlt := (Array.getElem?_eq_some_iff.1 hr).1
  have hne : ¬ Bx = W.heap.size := by omega
  have HT := hide (hth _ hA); have HA := hide hA
  clear hth hr hA
  go_enter Tryz.func52, Tryz.ntmps52
  go_wp2_with fail
  refine (unhide HT).mono ?_
  rintro e w1 ⟨rfl, hb1⟩
  have HB := hide (Below.on0 (unhide HA) hb1 (unhide HA).size)
  clear hb1
  go_wp2
  go_ret
  exact ⟨rfl, unhide HB⟩
set_option maxRecDepth 100000 in
set_option maxHeartbeats 1600000 in
theorem pc4_any {a0 a1 a2 a3 a4 a5 a6 a7 : Option Addr} {n0 n1 n2 n3 n4 n5 n6 n7 k0 k1 k2 k3 k4 k5 k6 k7 : Nat} (Bx : Nat) (r : Bool) (tb op nn al of re : Int) (s1 s2 s3 s4 : Option Addr) (l1 l2 l3 l4 c1 c2 c3 c4 : Nat) (W : World) (hr : W.heap[Bx]? = some (.cells #[.slice a0 n0 k0, .slice a1 n1 k1, .slice a2 n2 k2, .slice a3 n3 k3, .slice a4 n4 k4, .slice a5 n5 k5, .slice a6 n6 k6, .slice a7 n7 k7] 41 (0, 0)))
    (hth : ∀ U, Below W.heap.size W U → Calls Tryz.prog 56 #[.agg #[.slice a0 n0 k0, .slice a1 n1 k1, .slice a2 n2 k2, .slice a3 n3 k3, .slice a4 n4 k4, .slice a5 n5 k5, .slice a6 n6 k6, .slice a7 n7 k7], .agg #[.int .u32 tb, .int .u8 op, .int .i64 nn, .int .u32 al, .int .u32 of, .int .u8 re, .slice s1 l1 c1, .slice s2 l2 c2, .slice s3 l3 c3, .slice s4 l4 c4]] U fun e w' => e = .returned (.bool r) ∧ Below U.heap.size U w') :
    Calls Tryz.prog 55 (#[.agg #[.int .u32 tb, .int .u8 op, .int .i64 nn, .int .u32 al, .int .u32 of, .int .u8 re, .slice s1 l1 c1, .slice s2 l2 c2, .slice s3 l3 c3, .slice s4 l4 c4]] ++ #[.pointer (some ⟨Bx, 0, none⟩)]) W fun e w' => e = .returned (.bool r) ∧ Below W.heap.size W w' := by
  have hA := one_al9 W (.cells #[.int .u32 tb, .int .u8 op, .int .i64 nn, .int .u32 al, .int .u32 of, .int .u8 re, .slice s1 l1 c1, .slice s2 l2 c2, .slice s3 l3 c3, .slice s4 l4 c4] 81)
  obtain ⟨p0, p1, p2, p3, p4, p5, p6, p7⟩ := mbox hr
  have hlt := (Array.getElem?_eq_some_iff.1 hr).1
  have hne : ¬ Bx = W.heap.size := by omega
  have HT := hide (hth _ hA); have HA := hide hA
  clear hth hr hA
  go_enter Tryz.func55, Tryz.ntmps55
  go_wp2_with fail
  refine (unhide HT).mono ?_
  rintro e w1 ⟨rfl, hb1⟩
  have HB := hide (Below.on0 (unhide HA) hb1 (unhide HA).size)
  clear hb1
  go_wp2
  go_ret
  exact ⟨rfl, unhide HB⟩
set_option maxRecDepth 100000 in
set_option maxHeartbeats 6400000 in
theorem parts_any {M : Mod} {g : Nat → Prop} {v0 v1 v2 v3 v4 v5 v6 v7 : Value} {w : World} (hM : ModL w g M v0 v1 v2 v3 v4 v5 v6 v7) (hwf : WfM M) (hs : SzM M) (hg : ∀ k, g k → k < w.heap.size) (hT : TC w 1 fmV) (hfl : ∀ e ∈ M.elems, e.fs.length < 1099511627776) :
    Calls Tryz.prog 25 #[.agg #[v0, v1, v2, v3, v4, v5, v6, v7]] w fun e w' => e = .returned (.bool (parts M)) ∧ Below w.heap.size w w' := by
  have hup := fun U (hU : Below w.heap.size w U) => ModL.up hM hU
  have hn1 := hs.n1; have hn2 := hs.n2; have hn3 := hs.n3; have hn4 := hs.n4; have hn5 := hs.n5; have hn6 := hs.n6; have hn7 := hs.n7
  have hd : parts M = ((((((((decide (M.tables.length ≤ 1) && decide (M.mems.length ≤ 1)) && M.funcs.all (fun f => thr M.types.length f.ty)) && M.tables.all bnd) && M.mems.all bnd) && M.globs.all (fun x => cst x.ini.op x.kd)) && expOk M) && M.elems.all (fun e => elm M e.tb e.off.op e.fs)) && M.datas.all (fun d => dat M d.tb d.off.op)) := rfl
  rw [hd]
  clear hd
  obtain ⟨a0, k0, rfl⟩ := hM.l0.sl
  obtain ⟨a1, k1, rfl⟩ := hM.l1.sl
  obtain ⟨a2, k2, rfl⟩ := hM.l2.sl
  obtain ⟨a3, k3, rfl⟩ := hM.l3.sl
  obtain ⟨a4, k4, rfl⟩ := hM.l4.sl
  obtain ⟨a5, k5, rfl⟩ := hM.l5.sl
  obtain ⟨a6, k6, rfl⟩ := hM.l6.sl
  obtain ⟨a7, k7, rfl⟩ := hM.l7.sl
  have hb0 := one_al9 w (.cells #[.slice a0 M.types.length k0, .slice a1 M.funcs.length k1, .slice a2 M.tables.length k2, .slice a3 M.mems.length k3, .slice a4 M.globs.length k4, .slice a5 M.exps.length k5, .slice a6 M.elems.length k6, .slice a7 M.datas.length k7] 41)
  have hr0 := heap_alloc_new w (.cells #[.slice a0 M.types.length k0, .slice a1 M.funcs.length k1, .slice a2 M.tables.length k2, .slice a3 M.mems.length k3, .slice a4 M.globs.length k4, .slice a5 M.exps.length k5, .slice a6 M.elems.length k6, .slice a7 M.datas.length k7] 41)
  obtain ⟨w0, hw0⟩ : ∃ w0, w.alloc (.cells #[.slice a0 M.types.length k0, .slice a1 M.funcs.length k1, .slice a2 M.tables.length k2, .slice a3 M.mems.length k3, .slice a4 M.globs.length k4, .slice a5 M.exps.length k5, .slice a6 M.elems.length k6, .slice a7 M.datas.length k7] 41) = w0 := ⟨_, rfl⟩
  rw [hw0] at hb0 hr0
  have hl0 := (Array.getElem?_eq_some_iff.1 hr0).1
  have hAF := fun U (hU : Below w0.heap.size w0 U) => allL_F (hup U (Below.on0 hb0 hU hb0.size)).l1 (by omega) 45 #[.pointer (some ⟨w.heap.size, 0, none⟩)] (enters_of Tryz.func45 (by kernel_rfl) rfl) (fun f : Fnc => thr M.types.length f.ty) (fun x hx c0 c1 c2 hI W hW => by
    obtain ⟨v, v', e, ⟨la, lc, rfl, -⟩, ⟨ba, bc, rfl, -⟩⟩ := hI
    simp only [List.cons.injEq, and_true] at e
    obtain ⟨rfl, rfl, rfl⟩ := e
    exact pc1_any w.heap.size x.ty _ _ _ _ _ _ W ((hW.block _ (Nat.lt_of_lt_of_le hl0 hU.size)).trans ((hU.block _ hl0).trans hr0)) (fun V hV => thr_T (hup V (Below.on0 (Below.on0 (Below.on0 hb0 hU hb0.size) hW (Below.on0 hb0 hU hb0.size).size) hV (Below.on0 (Below.on0 hb0 hU hb0.size) hW (Below.on0 hb0 hU hb0.size).size).size)).l0 (hwf.2.1 x hx).1.1 (by have := (hwf.2.1 x hx).1.2; omega)))
  have hbn := fun (l : List Lim) v U (h : LL LimC 3 U g l v) (hl : l.length < 1099511627776) => allL_L h hl 47 #[] (enters_of Tryz.func47 (by kernel_rfl) rfl) bnd (fun x hx c0 c1 c2 hI W hW => by
    have he : [c0, c1, c2] = _ := hI
    simp only [List.cons.injEq, and_true] at he
    obtain ⟨rfl, rfl, rfl⟩ := he
    exact pbd_any x.mn x.mx x.has W)
  have hAT := fun U (hU : Below w0.heap.size w0 U) => hbn _ _ U (hup U (Below.on0 hb0 hU hb0.size)).l2 (by omega)
  have hAM := fun U (hU : Below w0.heap.size w0 U) => hbn _ _ U (hup U (Below.on0 hb0 hU hb0.size)).l3 (by omega)
  have hAG := fun U (hU : Below w0.heap.size w0 U) => allL_G (hup U (Below.on0 hb0 hU hb0.size)).l4 (by omega) 48 #[] (enters_of Tryz.func48 (by kernel_rfl) rfl) (fun x : Glo => cst x.ini.op x.kd) (fun x hx d0 d1 d2 d3 d4 d5 d6 d7 d8 d9 hI W hW => by
    obtain ⟨ds, e, hi⟩ := hI
    obtain ⟨s1, c1, s2, c2, s3, c3, rfl⟩ := ins_sl hi
    simp only [List.cons.injEq, and_true] at e
    obtain ⟨rfl, rfl, rfl, rfl, rfl, rfl, rfl, rfl, rfl, rfl⟩ := e
    have hf := ((hwf.2.2.2.2.1 x hx).2.2).1
    unfold Ex.fit at hf
    exact pc2_any _ _ _ _ _ _ _ hf.1.1 (by have := hf.1.2; omega) _ _ _ _ _ _ _ _ _ W (hT.below (Below.on0 (Below.on0 hb0 hU hb0.size) hW (Below.on0 hb0 hU hb0.size).size)))
  have hEX := fun U (hU : Below w0.heap.size w0 U) => exp_any (hup U (Below.on0 hb0 hU hb0.size)) hwf (fun k hk => Nat.lt_of_lt_of_le (hg k hk) (Below.on0 hb0 hU hb0.size).size) (by omega)
  have hAE := fun U (hU : Below w0.heap.size w0 U) => allL_E (hup U (Below.on0 hb0 hU hb0.size)).l6 (by omega) 52 #[.pointer (some ⟨w.heap.size, 0, none⟩)] (enters_of Tryz.func52 (by kernel_rfl) rfl) (fun e : Elm => elm M e.tb e.off.op e.fs) (fun x hx d0 d1 d2 d3 d4 d5 d6 d7 d8 d9 hI W hW => by
    obtain ⟨ds, v, e, hi, hfs⟩ := hI
    obtain ⟨s1, c1, s2, c2, s3, c3, rfl⟩ := ins_sl hi
    have hfs2 := hfs
    obtain ⟨s4, c4, rfl, -⟩ := hfs
    simp only [List.cons_append, List.nil_append, List.cons.injEq, and_true] at e
    obtain ⟨rfl, rfl, rfl, rfl, rfl, rfl, rfl, rfl, rfl, rfl⟩ := e
    have hf := ((hwf.2.2.2.2.2.2.1 x hx).2.1).1
    unfold Ex.fit at hf
    exact pc3_any w.heap.size _ _ _ _ _ _ _ _ _ _ _ _ _ _ _ _ _ _ _ W ((hW.block _ (Nat.lt_of_lt_of_le hl0 hU.size)).trans ((hU.block _ hl0).trans hr0)) (fun V hV => elm_any (hup V (Below.on0 (Below.on0 (Below.on0 hb0 hU hb0.size) hW (Below.on0 hb0 hU hb0.size).size) hV (Below.on0 (Below.on0 hb0 hU hb0.size) hW (Below.on0 hb0 hU hb0.size).size).size)) (hT.below (Below.on0 (Below.on0 (Below.on0 hb0 hU hb0.size) hW (Below.on0 hb0 hU hb0.size).size) hV (Below.on0 (Below.on0 hb0 hU hb0.size) hW (Below.on0 hb0 hU hb0.size).size).size)) _ _ _ _ _ _ x.fs hf.1.1 (by have := hf.1.2; omega) _ _ _ _ _ _ _ _ _ _ _ (Ex.Labs.move (fun k hk _ hgk => ⟨hgk, ((hW.trans (hV.mono hW.size)).block k hk)⟩) hfs2) (hwf.2.2.2.2.2.2.1 x hx).2.2 (hfl x hx)))
  have hAD := fun U (hU : Below w0.heap.size w0 U) => allL_D (hup U (Below.on0 hb0 hU hb0.size)).l7 (by omega) 55 #[.pointer (some ⟨w.heap.size, 0, none⟩)] (enters_of Tryz.func55 (by kernel_rfl) rfl) (fun d : Dat => dat M d.tb d.off.op) (fun x hx d0 d1 d2 d3 d4 d5 d6 d7 d8 d9 hI W hW => by
    obtain ⟨ds, v, e, hi, hfs⟩ := hI
    obtain ⟨s1, c1, s2, c2, s3, c3, rfl⟩ := ins_sl hi
    obtain ⟨s4, c4, rfl, -⟩ := hfs
    simp only [List.cons_append, List.nil_append, List.cons.injEq, and_true] at e
    obtain ⟨rfl, rfl, rfl, rfl, rfl, rfl, rfl, rfl, rfl, rfl⟩ := e
    have hf := ((hwf.2.2.2.2.2.2.2 x hx).2.1).1
    unfold Ex.fit at hf
    exact pc4_any w.heap.size _ _ _ _ _ _ _ _ _ _ _ _ _ _ _ _ _ _ _ W ((hW.block _ (Nat.lt_of_lt_of_le hl0 hU.size)).trans ((hU.block _ hl0).trans hr0)) (fun V hV => dat_any (hup V (Below.on0 (Below.on0 (Below.on0 hb0 hU hb0.size) hW (Below.on0 hb0 hU hb0.size).size) hV (Below.on0 (Below.on0 hb0 hU hb0.size) hW (Below.on0 hb0 hU hb0.size).size).size)) (hT.below (Below.on0 (Below.on0 (Below.on0 hb0 hU hb0.size) hW (Below.on0 hb0 hU hb0.size).size) hV (Below.on0 (Below.on0 hb0 hU hb0.size) hW (Below.on0 hb0 hU hb0.size).size).size)) _ _ _ _ _ _ hf.1.1 (by have := hf.1.2; omega) _ _ _ _ _ _ _ _ _ _ _ _))
  have HW0 := hide hw0; have HB0 := hide hb0; have HR0 := hide hr0; have HAF := hide hAF; have HAT := hide hAT; have HAM := hide hAM; have HAG := hide hAG; have HEX := hide hEX; have HAE := hide hAE; have HAD := hide hAD
  clear hup hn1 hn2 hn3 hn4 hn5 hn6 hn7 hw0 hb0 hr0 hl0 hAF hbn hAT hAM hAG hEX hAE hAD hM hwf hs hg hT hfl
  generalize M.funcs.all (fun f => thr M.types.length f.ty) = r1 at *
  generalize M.tables.all bnd = r2 at *
  generalize M.mems.all bnd = r3 at *
  generalize M.globs.all (fun x => cst x.ini.op x.kd) = r4 at *
  generalize expOk M = r5 at *
  generalize M.elems.all (fun e => elm M e.tb e.off.op e.fs) = r6 at *
  generalize M.datas.all (fun d => dat M d.tb d.off.op) = r7 at *
  generalize M.types.length = n0 at *; generalize M.funcs.length = n1 at *; generalize M.tables.length = n2 at *; generalize M.mems.length = n3 at *; generalize M.globs.length = n4 at *; generalize M.exps.length = n5 at *; generalize M.elems.length = n6 at *; generalize M.datas.length = n7 at *
  obtain ⟨p0, p1, p2, p3, p4, p5, p6, p7⟩ := mbox (unhide HR0)
  have l0 := (Array.getElem?_eq_some_iff.1 (unhide HR0)).1
  by_cases h2 : ¬ n2 ≤ 1
  · have t2 : decide ((n2 : Int) ≤ 1) = false := by simp; omega
    go_enter Tryz.func25, Tryz.ntmps25
    go_upto_region 1 with fail
    rw [unhide HW0]
    go_wp2
    go_ret
    exact ⟨ret_bool (by simp [h2]), unhide HB0⟩
  have h2 := Decidable.not_not.1 h2
  have t2 : (n2 : Int) ≤ 1 := by omega
  by_cases h3 : ¬ n3 ≤ 1
  · have t3 : decide ((n3 : Int) ≤ 1) = false := by simp; omega
    go_enter Tryz.func25, Tryz.ntmps25
    go_upto_region 1 with fail
    rw [unhide HW0]
    go_wp2
    go_ret
    exact ⟨ret_bool (by simp [h3]), unhide HB0⟩
  have h3 := Decidable.not_not.1 h3
  have t3 : (n3 : Int) ≤ 1 := by omega
  rw [decide_eq_true h2, decide_eq_true h3]
  clear h2 h3
  go_enter Tryz.func25, Tryz.ntmps25
  go_upto_region 1 with fail
  rw [unhide HW0]
  have HBr := hide (Below.refl w0.heap.size w0)
  go_wp2_with fail
  refine (unhide HAF w0 (unhide HBr)).mono ?_
  rintro e w1 ⟨rfl, hb1⟩
  have HBr := hide ((unhide HBr).trans (hb1.mono (unhide HBr).size))
  have hr1 := ((unhide HBr).block _ (Array.getElem?_eq_some_iff.1 (unhide HR0)).1).trans (unhide HR0)
  clear hb1 p0 p1 p2 p3 p4 p5 p6 p7
  obtain ⟨p0, p1, p2, p3, p4, p5, p6, p7⟩ := mbox hr1
  have l1 := (Array.getElem?_eq_some_iff.1 hr1).1
  clear hr1 l0
  cases r1 with
  | false =>
    go_wp2
    go_ret
    exact ⟨ret_bool (by simp), Below.on0 (unhide HB0) (unhide HBr) (unhide HB0).size⟩
  | true =>
  go_wp2_with fail
  refine (unhide HAT w1 (unhide HBr)).mono ?_
  rintro e w2 ⟨rfl, hb2⟩
  have HBr := hide ((unhide HBr).trans (hb2.mono (unhide HBr).size))
  have hr2 := ((unhide HBr).block _ (Array.getElem?_eq_some_iff.1 (unhide HR0)).1).trans (unhide HR0)
  clear hb2 p0 p1 p2 p3 p4 p5 p6 p7
  obtain ⟨p0, p1, p2, p3, p4, p5, p6, p7⟩ := mbox hr2
  have l2 := (Array.getElem?_eq_some_iff.1 hr2).1
  clear hr2 l1
  cases r2 with
  | false =>
    go_wp2
    go_ret
    exact ⟨ret_bool (by simp), Below.on0 (unhide HB0) (unhide HBr) (unhide HB0).size⟩
  | true =>
  go_wp2_with fail
  refine (unhide HAM w2 (unhide HBr)).mono ?_
  rintro e w3 ⟨rfl, hb3⟩
  have HBr := hide ((unhide HBr).trans (hb3.mono (unhide HBr).size))
  have hr3 := ((unhide HBr).block _ (Array.getElem?_eq_some_iff.1 (unhide HR0)).1).trans (unhide HR0)
  clear hb3 p0 p1 p2 p3 p4 p5 p6 p7
  obtain ⟨p0, p1, p2, p3, p4, p5, p6, p7⟩ := mbox hr3
  have l3 := (Array.getElem?_eq_some_iff.1 hr3).1
  clear hr3 l2
  cases r3 with
  | false =>
    go_wp2
    go_ret
    exact ⟨ret_bool (by simp), Below.on0 (unhide HB0) (unhide HBr) (unhide HB0).size⟩
  | true =>
  go_wp2_with fail
  refine (unhide HAG w3 (unhide HBr)).mono ?_
  rintro e w4 ⟨rfl, hb4⟩
  have HBr := hide ((unhide HBr).trans (hb4.mono (unhide HBr).size))
  have hr4 := ((unhide HBr).block _ (Array.getElem?_eq_some_iff.1 (unhide HR0)).1).trans (unhide HR0)
  clear hb4 p0 p1 p2 p3 p4 p5 p6 p7
  obtain ⟨p0, p1, p2, p3, p4, p5, p6, p7⟩ := mbox hr4
  have l4 := (Array.getElem?_eq_some_iff.1 hr4).1
  clear hr4 l3
  cases r4 with
  | false =>
    go_wp2
    go_ret
    exact ⟨ret_bool (by simp), Below.on0 (unhide HB0) (unhide HBr) (unhide HB0).size⟩
  | true =>
  go_wp2_with fail
  refine (unhide HEX w4 (unhide HBr)).mono ?_
  rintro e w5 ⟨rfl, hb5⟩
  have HBr := hide ((unhide HBr).trans (hb5.mono (unhide HBr).size))
  have hr5 := ((unhide HBr).block _ (Array.getElem?_eq_some_iff.1 (unhide HR0)).1).trans (unhide HR0)
  clear hb5 p0 p1 p2 p3 p4 p5 p6 p7
  obtain ⟨p0, p1, p2, p3, p4, p5, p6, p7⟩ := mbox hr5
  have l5 := (Array.getElem?_eq_some_iff.1 hr5).1
  clear hr5 l4
  cases r5 with
  | false =>
    go_wp2
    go_ret
    exact ⟨ret_bool (by simp), Below.on0 (unhide HB0) (unhide HBr) (unhide HB0).size⟩
  | true =>
  go_wp2_with fail
  refine (unhide HAE w5 (unhide HBr)).mono ?_
  rintro e w6 ⟨rfl, hb6⟩
  have HBr := hide ((unhide HBr).trans (hb6.mono (unhide HBr).size))
  have hr6 := ((unhide HBr).block _ (Array.getElem?_eq_some_iff.1 (unhide HR0)).1).trans (unhide HR0)
  clear hb6 p0 p1 p2 p3 p4 p5 p6 p7
  obtain ⟨p0, p1, p2, p3, p4, p5, p6, p7⟩ := mbox hr6
  have l6 := (Array.getElem?_eq_some_iff.1 hr6).1
  clear hr6 l5
  cases r6 with
  | false =>
    go_wp2
    go_ret
    exact ⟨ret_bool (by simp), Below.on0 (unhide HB0) (unhide HBr) (unhide HB0).size⟩
  | true =>
  go_wp2_with fail
  refine (unhide HAD w6 (unhide HBr)).mono ?_
  rintro e w7 ⟨rfl, hb7⟩
  have HBr := hide ((unhide HBr).trans (hb7.mono (unhide HBr).size))
  have hr7 := ((unhide HBr).block _ (Array.getElem?_eq_some_iff.1 (unhide HR0)).1).trans (unhide HR0)
  clear hb7 p0 p1 p2 p3 p4 p5 p6 p7
  obtain ⟨p0, p1, p2, p3, p4, p5, p6, p7⟩ := mbox hr7
  have l7 := (Array.getElem?_eq_some_iff.1 hr7).1
  clear hr7 l6
  go_wp2
  go_ret
  exact ⟨ret_bool (by simp), Below.on0 (unhide HB0) (unhide HBr) (unhide HB0).size⟩
end Vw
end Go.Proofs.YtcpknafaocdjdaaGreatDoor

/- valid.Check, whole. By mkpe.py. -/
namespace Go.Proofs.YtcpknafaocdjdaaGreatDoor
open Go.RowKit Go.Shelf
namespace Vw
set_option linter.unusedVariables false
set_option linter.unusedSimpArgs false
open Ex (Ins Lies Lab cnt)
open Gm (Mod Typ Fnc Lim Glo Exo Elm Dat Byts LL ModL TypC FncC WfM SzM)
theorem errV_9 : errV 9 = .iface 102 (.int .i64 9) := by simp [errV]
/-- what Check answers -/
def ChP (M : Mod) (e : Ending) : Prop := ∃ at_ er : Int, e = .returned (.tuple #[.int .i64 at_, errV er]) ∧
  ((lims M = false ∧ at_ = -1 ∧ er = 9) ∨ (lims M = true ∧ (kinds M && parts M) = false ∧ at_ = -1 ∧ er = 7) ∨
   (lims M = true ∧ kinds M = true ∧ parts M = true ∧ ((er = 0 ∧ at_ = -1 ∧ ∀ j, j < M.funcs.length → (over M j).isSome = true) ∨ (er = 7 ∧ ∃ k : Nat, k < M.funcs.length ∧ at_ = k ∧ over M k = none ∧ ∀ j, j < k → (over M j).isSome = true))))
theorem parts_ty {M : Mod} (h : parts M = true) {k : Nat} (hk : k < M.funcs.length) (hw : 0 ≤ (M.funcs[k]).ty) : ∃ t, M.types[(M.funcs[k]).ty.toNat]? = some t := by
  unfold parts at h
  simp only [Bool.and_eq_true] at h
  have h1 := List.all_eq_true.1 h.1.1.1.1.1.1.2 _ (List.getElem_mem hk)
  unfold thr at h1
  have h2 := of_decide_eq_true h1
  exact ⟨_, List.getElem?_eq_getElem (by omega)⟩

set_option maxRecDepth 100000 in
set_option maxHeartbeats 6400000 in
theorem check_any {w : World} {M : Mod} {v0 v1 v2 v3 v4 v5 v6 v7 : Value} (h : ModL w (fun b => b < w.heap.size) M v0 v1 v2 v3 v4 v5 v6 v7) (hwf : WfM M) (hT : Tb w) (hz : SzV M) (hs : SzM M) (hfl : ∀ e ∈ M.elems, e.fs.length < 1099511627776) :
    Calls Tryz.prog 12 #[.agg #[v0, v1, v2, v3, v4, v5, v6, v7]] w fun e w' => ChP M e ∧ Below w.heap.size w w' := by
  have hmv := fun U (hU : Below w.heap.size w U) => h.moved (g' := fun b => b < U.heap.size) (Gm.Mv.below hU (fun k hk _ => Nat.lt_of_lt_of_le hk hU.size)) hU.size
  have hli := fun U (hU : Below w.heap.size w U) => lims_any (hmv U hU) (by have := hs.n2; omega) (by have := hs.n3; omega)
  have hki := fun U (hU : Below w.heap.size w U) => kindsRight_any (hmv U hU) hz.l
  have hpa := fun U (hU : Below w.heap.size w U) => parts_any (hmv U hU) hwf hs (fun k hk => hk) (hT.2.1.below hU) hfl
  have hgo := fun (hp : parts M = true) (k : Nat) (hkl : k < M.funcs.length) U (hU : Below w.heap.size w U) => (let ⟨t, ht⟩ := parts_ty hp hkl (hwf.2.1 _ (List.getElem_mem hkl)).1.1; goOver_any ciOk (hmv U hU) hwf (hT.below hU) hz hkl ht)
  have hfn := hs.n1
  obtain ⟨a0, k0, rfl⟩ := h.l0.sl
  obtain ⟨a1, k1, rfl⟩ := h.l1.sl
  obtain ⟨a2, k2, rfl⟩ := h.l2.sl
  obtain ⟨a3, k3, rfl⟩ := h.l3.sl
  obtain ⟨a4, k4, rfl⟩ := h.l4.sl
  obtain ⟨a5, k5, rfl⟩ := h.l5.sl
  obtain ⟨a6, k6, rfl⟩ := h.l6.sl
  obtain ⟨a7, k7, rfl⟩ := h.l7.sl
  have HLi := hide hli; have HKi := hide hki; have HPa := hide hpa; have HGo := hide hgo
  clear hli hki hpa hgo hmv h hwf hT hz hs hfl
  have HLd := hide (show lims M = lims M from rfl)
  clear HLd
  obtain ⟨rl, hrl⟩ : ∃ rl, lims M = rl := ⟨_, rfl⟩
  obtain ⟨rk, hrk⟩ : ∃ rk, kinds M = rk := ⟨_, rfl⟩
  obtain ⟨rp, hrp⟩ : ∃ rp, parts M = rp := ⟨_, rfl⟩
  rw [hrl] at HLi; rw [hrk] at HKi; rw [hrp] at HPa HGo
  have HRl := hide hrl; have HRk := hide hrk; have HRp := hide hrp
  clear hrl hrk hrp
  generalize M.types.length = n0 at *; generalize M.tables.length = n2 at *; generalize M.mems.length = n3 at *; generalize M.globs.length = n4 at *; generalize M.exps.length = n5 at *; generalize M.elems.length = n6 at *; generalize M.datas.length = n7 at *
  generalize hn1 : M.funcs.length = n1 at *
  have HN := hide hn1; clear hn1
  have hB0 := one_al9 w (.cells #[.slice a0 n0 k0, .slice a1 n1 k1, .slice a2 n2 k2, .slice a3 n3 k3, .slice a4 n4 k4, .slice a5 n5 k5, .slice a6 n6 k6, .slice a7 n7 k7] 41)
  have hr0 := heap_alloc_new w (.cells #[.slice a0 n0 k0, .slice a1 n1 k1, .slice a2 n2 k2, .slice a3 n3 k3, .slice a4 n4 k4, .slice a5 n5 k5, .slice a6 n6 k6, .slice a7 n7 k7] 41)
  have HB0 := hide hB0; have HR0 := hide hr0
  clear hB0 hr0
  go_enter Tryz.func12, Tryz.ntmps12
  go_wp2_with fail
  generalize w.alloc (.cells #[.slice a0 n0 k0, .slice a1 n1 k1, .slice a2 n2 k2, .slice a3 n3 k3, .slice a4 n4 k4, .slice a5 n5 k5, .slice a6 n6 k6, .slice a7 n7 k7] 41) = w0 at *
  refine (unhide HLi _ (unhide HB0)).mono ?_
  rintro e w1 ⟨rfl, hb1⟩
  have hr1 := (hb1.block _ (Array.getElem?_eq_some_iff.1 (unhide HR0)).1).trans (unhide HR0)
  have hlt1 := (Array.getElem?_eq_some_iff.1 hr1).1
  obtain ⟨p0, p1, p2, p3, p4, p5, p6, p7⟩ := mbox hr1
  have HB1 := hide (Below.on0 (unhide HB0) hb1 (unhide HB0).size); have HR1 := hide hr1
  clear hb1 hr1
  cases rl with
  | false =>
    go_wp2
    go_ret2
    exact ⟨⟨-1, 9, by rw [errV_9]; rfl, Or.inl ⟨unhide HRl, rfl, rfl⟩⟩, unhide HB1⟩
  | true =>
  go_wp2_with fail
  refine (unhide HKi _ (unhide HB1)).mono ?_
  rintro e w2 ⟨rfl, hb2⟩
  have hr2 := (hb2.block _ hlt1).trans (unhide HR1)
  have hlt2 := (Array.getElem?_eq_some_iff.1 hr2).1
  clear p0 p1 p2 p3 p4 p5 p6 p7 hlt1
  obtain ⟨p0, p1, p2, p3, p4, p5, p6, p7⟩ := mbox hr2
  have HB2 := hide (Below.on0 (unhide HB1) hb2 (unhide HB1).size); have HR2 := hide hr2
  clear hb2 hr2
  cases rk with
  | false =>
    go_wp2
    go_ret2
    exact ⟨⟨-1, 7, by rw [errV_7]; rfl, Or.inr (Or.inl ⟨unhide HRl, by rw [unhide HRk]; rfl, rfl, rfl⟩)⟩, unhide HB2⟩
  | true =>
  go_wp2_with fail
  refine (unhide HPa _ (unhide HB2)).mono ?_
  rintro e w3 ⟨rfl, hb3⟩
  have hr3 := (hb3.block _ hlt2).trans (unhide HR2)
  have hlt3 := (Array.getElem?_eq_some_iff.1 hr3).1
  clear p0 p1 p2 p3 p4 p5 p6 p7 hlt2
  obtain ⟨p0, p1, p2, p3, p4, p5, p6, p7⟩ := mbox hr3
  have HB3 := hide (Below.on0 (unhide HB2) hb3 (unhide HB2).size); have HR3 := hide hr3
  clear hb3 hr3
  cases rp with
  | false =>
    go_wp2
    go_ret2
    exact ⟨⟨-1, 7, by rw [errV_7]; rfl, Or.inr (Or.inl ⟨unhide HRl, by rw [unhide HRp, Bool.and_false], rfl, rfl⟩)⟩, unhide HB3⟩
  | true =>
  go_wp2_with fail
  go_loopw [23] (fun v wr => ∃ k : Nat, k ≤ n1 ∧ v = .int .i64 k ∧ (∀ j, j < k → (over M j).isSome = true) ∧ Below w3.heap.size w3 wr) (fun v _ => ((n1 : Int) - intOf v).toNat)
  case atStart => exact ⟨0, Nat.zero_le _, rfl, fun j hj => absurd hj (by omega), Below.refl _ _⟩
  case round =>
    obtain ⟨k, hkn, rfl, hall, hbr⟩ := hrel
    have hbw : Below w.heap.size w wr := (unhide HB3).trans (hbr.mono (unhide HB3).size)
    have hrr := (hbr.block _ hlt3).trans (unhide HR3)
    have hltr := (Array.getElem?_eq_some_iff.1 hrr).1
    clear p0 p1 p2 p3 p4 p5 p6 p7
    obtain ⟨p0, p1, p2, p3, p4, p5, p6, p7⟩ := mbox hrr
    have HAl := hide hall; have HBr := hide hbr; have HBw := hide hbw
    clear hall hbr hbw hrr
    by_cases hlt : k < n1
    · have hcall := unhide HGo (by first | trivial | rfl) k (by first | exact hlt | (rw [unhide HN]; exact hlt)) wr (unhide HBw)
      have hlti : (k : Int) < n1 := by omega
      have HCall := hide hcall; have HLt := hide hlt
      clear hcall hkn hlt
      go_wp2_with fail
      refine (unhide HCall).mono ?_
      rintro e w5 ⟨⟨u, rfl, -⟩, hb5⟩
      have HB5 := hide ((unhide HBw).trans (hb5.mono (unhide HBw).size)); have HB5r := hide ((unhide HBr).trans (hb5.mono (unhide HBr).size))
      clear hb5 HCall
      cases ho : over M k with
      | none =>
        have HO := hide ho
        clear ho
        go_wp2
        go_ret2
        exact ⟨⟨(k : Int), 7, by rw [errV_7]; rfl, Or.inr (Or.inr ⟨unhide HRl, unhide HRk, unhide HRp, Or.inr ⟨rfl, k, by first | exact unhide HLt | (rw [unhide HN]; exact unhide HLt), rfl, unhide HO, unhide HAl⟩⟩)⟩, unhide HB5⟩
      | some q =>
        have HO := hide ho
        clear ho
        go_wp2
        go_roundw
        case rel => exact ⟨k + 1, unhide HLt, by go_num, fun j hj => by
          rcases Nat.lt_or_ge j k with h | h
          · exact unhide HAl j h
          · obtain rfl : j = k := by omega
            rw [unhide HO]; rfl, unhide HB5r⟩
        case measure => have := unhide HLt; simp [intOf]; omega
    · obtain rfl : n1 = k := by omega
      have hlti : ¬ ((n1 : Int) < n1) := by omega
      clear hkn hlt
      go_wp2
      go_ret2
      exact ⟨⟨-1, 0, by rw [errV_0]; rfl, Or.inr (Or.inr ⟨unhide HRl, unhide HRk, unhide HRp, Or.inl ⟨rfl, rfl, by first | exact unhide HAl | (rw [unhide HN]; exact unhide HAl)⟩⟩)⟩, unhide HBw⟩
end Vw
end Go.Proofs.YtcpknafaocdjdaaGreatDoor
