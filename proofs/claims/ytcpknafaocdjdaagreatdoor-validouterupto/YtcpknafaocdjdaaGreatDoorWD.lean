/- WD: what follows, part by part: each part tells what it holds. -/
import Derived.RangeFuncNested
import Derived.RangeFuncBound
import Derived.RangeFuncCalls
import Derived.RangeFuncLeaves
import Derived.RangeFuncBox
import Derived.RangeFuncWrites
import Derived.Shelf.Abstract
import Derived.OwnWalkIn
import Derived.TacticsInMore
import Derived.LoopNIn
import Derived.LoopIn
import Derived.Test.YtcpknafaocdjdaaGreatDoorWB
import Derived.Test.YtcpknafaocdjdaaGreatDoorWC
import Derived.Deep.DeepCutAuto
import Derived.Laws.AppendOwnNone
import Derived.Lib.AppendZeros

/- valid: slices.Backward over kinds; apply. -/
namespace Go.Proofs.YtcpknafaocdjdaaGreatDoor
open Go.RowKit Go.Shelf
namespace Vw
set_option linter.unusedVariables false
set_option linter.unusedSimpArgs false
open Ex (Ins Lies)
open Gm (Mod Typ Byts)
attribute [local go_sem] Oper.semAt_some

def kb (zs : List Int) (s k : Nat) : List (Nat × Int) := (List.range k).map fun j => (s - 1 - j, zs.getD (s - 1 - j) 0)
theorem kb_succ (zs : List Int) (s k : Nat) : kb zs s (k + 1) = kb zs s k ++ [(s - 1 - k, zs.getD (s - 1 - k) 0)] := by simp [kb, List.range_succ]
theorem kb_len (zs : List Int) (s k : Nat) : (kb zs s k).length = k := by simp [kb]
theorem kb_rev (zs : List Int) (k : Nat) (hk : k ≤ zs.length) : (kb zs zs.length k).map (·.2) = zs.reverse.take k := by
  apply List.ext_getElem
  · simp [kb]; omega
  · intro i h1 h2
    simp [kb] at h1 h2 ⊢
    rw [List.getElem?_eq_getElem (by omega)]; simp
theorem tks_app (a b : List Int) : ∀ s, tks (a ++ b) s = (tks a s).bind (tks b) := by
  induction a with
  | nil => intro s; rfl
  | cons k r ih =>
    intro s
    show (tk s k).bind (tks (r ++ b)) = ((tk s k).bind (tks r)).bind (tks b)
    cases tk s k with
    | none => rfl
    | some s1 => exact ih s1
theorem tks_snoc (a : List Int) (k : Int) (s : St) : tks (a ++ [k]) s = (tks a s).bind fun s => tk s k := by
  rw [tks_app]; cases tks a s with
  | none => rfl
  | some s1 => show (tk s1 k).bind (tks []) = tk s1 k; cases tk s1 k <;> rfl
theorem tks_none {a b : List Int} {s : St} (h : tks a s = none) : tks (a ++ b) s = none := by rw [tks_app, h]; rfl

/-- what the rounds keep: all that was there, but the walk's box -/
def Kq (N n₀ : Nat) (A B : World) : Prop := Below N A B ∧ (∀ k, k < n₀ → k ≠ N → B.heap[k]? = A.heap[k]?) ∧ ∀ c t, A.heap[N]? = some (.cells c t (0, 0)) → ∃ c', B.heap[N]? = some (.cells c' t (0, 0)) ∧ c'.size = c.size
theorem Kq_t {N n₀ : Nat} {A B C : World} (h : Kq N n₀ A B) (k : Kq N n₀ B C) : Kq N n₀ A C := ⟨h.1.trans k.1, fun j hj hn => (k.2.1 j hj hn).trans (h.2.1 j hj hn), fun c t e => let ⟨c1, e1, s1⟩ := h.2.2 c t e; let ⟨c2, e2, s2⟩ := k.2.2 c1 t e1; ⟨c2, e2, s2.trans s1⟩⟩
theorem Kq_r (N n₀ : Nat) (A : World) : Kq N n₀ A A := ⟨Below.refl _ _, fun _ _ _ => rfl, fun c t h => ⟨c, h, rfl⟩⟩
theorem Kq_g {N n₀ : Nat} {A W W' : World} {row : Option Nat} (h : Kq N n₀ A W) (hN : N < n₀) (hs : n₀ ≤ W.heap.size) (hg : W.grownBy W' row) (hr : ∀ r, row = some r → n₀ ≤ r) : Kq N n₀ A W' :=
  ⟨h.1.grown hg (Nat.le_trans (Nat.le_of_lt hN) hs) (fun k e => Nat.le_trans (Nat.le_of_lt hN) (hr k e)), fun k hk hn => (hg.block k (by omega) (fun e => by have := hr k e.symm; omega)).trans (h.2.1 k hk hn), fun c t e => let ⟨c1, e1, s1⟩ := h.2.2 c t e; ⟨c1, (hg.block N (by omega) (fun e => by have := hr N e.symm; omega)).trans e1, s1⟩⟩
theorem Kq_b {N n₀ : Nat} (hN : N < n₀) (W : World) (l : Nat) (o o' : Obj) (hl : n₀ ≤ l) (h : W.heap[l]? = some o) : Kq N n₀ W (W.putObj l o') :=
  Kq_g (Kq_r N n₀ W) hN (by have := (Array.getElem?_eq_some_iff.1 h).1; omega) (grownBy_putObj' W l o') (fun r e => by cases e; exact hl)
theorem Fb.kq {N n₀ : Nat} {A B : World} (h : Fb N A B) (hs : n₀ ≤ A.heap.size) : Kq N n₀ A B := ⟨h.lo, fun k hk hn => h.hi k (by omega) hn, h.sz⟩
/-- the walk speaks of cells alone -/
theorem Wk.kept {w w' : World} {N : Nat} {m : M8} {vl va vt : Value} {lo : List Int} {s : St} (h : Wk w N m vl lo va vt s) {row : Option Nat} (hg : w.grownBy w' row) (hr : ∀ r, row = some r → ∃ o : Obj, w.heap[r]? = some o ∧ o.isCells = false) : Wk w' N m vl lo va vt s := by
  have keep : ∀ k cs t fr, w.heap[k]? = some (Obj.cells cs t fr) → w'.heap[k]? = w.heap[k]? := fun k cs t fr hk =>
    hg.block k (Array.getElem?_eq_some_iff.1 hk).1 (fun e => by obtain ⟨o, ho, hc⟩ := hr k e.symm; rw [hk] at ho; cases ho; cases hc)
  have own : ∀ {v : Value} {n : Nat} {xs : List Value}, w.ownsRow N 60 1 v n xs → w'.ownsRow N 60 1 v n xs := fun {v n xs} ho => own_keep ho fun k hk => by
    rcases ho.2 with ⟨rfl, _⟩ | ⟨g, cap, cur, rfl, _, e3, _⟩
    · cases hk
    · cases hk; exact keep _ _ _ _ e3
  refine ⟨(keep N _ _ _ h.box).trans h.box, own h.la, own h.st, h.ap, ?_, h.hb⟩
  exact Ex.Lies.move h.lo fun hl b o hgd hp => ⟨⟨Nat.lt_of_lt_of_le hgd.1 hg.size, hgd.2⟩, fun j hj => cell_kept (hp j hj) hg hr⟩
theorem Fb.others {N : Nat} {A B : World} (h : Fb N A B) {cs : Array Value} {t : TypeId} {fr : Nat × Nat} (hN : A.heap[N]? = some (Obj.cells cs t fr)) : KeepsOthers A B :=
  ⟨h.lo.size, fun k o hk ho => (h.hi k (Array.getElem?_eq_some_iff.1 hk).1 (fun e => by subst e; rw [hN] at hk; cases hk; cases ho)).trans hk⟩
theorem Fw.others {N : Nat} {A B : World} (h : Fw N A B) {cs : Array Value} {t : TypeId} {fr : Nat × Nat} (hN : A.heap[N]? = some (Obj.cells cs t fr)) : KeepsOthers A B :=
  ⟨h.lo.size, fun k o hk ho => (h.hi k (Array.getElem?_eq_some_iff.1 hk).1 (fun e => by subst e; rw [hN] at hk; cases hk; cases ho) (fun c f e => by rw [e] at hk; cases hk; cases ho)).trans hk⟩

set_option maxRecDepth 100000 in
set_option maxHeartbeats 2000000 in
theorem back1_some (F : Fence) (n : Nat) (h7 : F.fn 143) (hro : F.round = none) (hn : 1 ≤ n) (l Bs N n₀ b f cap : Nat) (zs : List Int) (hs : zs.length ≤ 1048577) (hb : b < n₀ ∧ b ≠ N) (hBn : Bs < n₀ ∧ Bs ≠ N) (J Jx : List (Nat × Int) → World → Prop)
    (hY : ∀ pre x W, J pre W → pre.length < zs.length → YieldAt F (n - 1) Tryz.prog l #[.int .i64 (x.1 : Int), .int .u8 x.2] W fun e W' =>
      (e = .returned (.bool true) ∧ J (pre ++ [x]) W' ∧ Kq N n₀ W W') ∨ (e = .returned (.bool false) ∧ Jx (pre ++ [x]) W'))
    (W : World) (hBs : W.cell? ⟨Bs, 0, none⟩ = some (.slice (some ⟨b, f, none⟩) zs.length cap)) (hc : ∀ j, j < zs.length → W.cell? ⟨b, f + j, none⟩ = some (.int .u8 (zs.getD j 0))) (h0 : J [] W) :
    CallsIn F n Tryz.prog 143 #[.func (.yield l) #[] #[], .pointer (some ⟨Bs, 0, none⟩)] W fun e W' => (∃ v, e = .returned v) ∧
      ((∃ ys, ys = kb zs zs.length zs.length ∧ J ys W') ∨ (∃ pre, (∃ k, k ≤ zs.length ∧ pre = kb zs zs.length k) ∧ Jx pre W')) := by
  obtain ⟨s, hsl⟩ : ∃ s, s = zs.length := ⟨_, rfl⟩
  rw [← hsl] at hs hY hBs hc ⊢
  have hs' : (s : Int) ≤ 1048577 := by omega
  clear hsl
  refine callsIn_of_wp Tryz.func143 rfl h7 ?_ hro
  simp only [Tryz.ntmps143, List.size_toArray, List.length_cons, List.length_nil, Nat.reduceAdd, Nat.reduceSub, Array.replicate_succ, Array.replicate_zero, List.push_toArray, List.append_toArray, List.nil_append, List.cons_append]
  gi_wp2
  gi_loopw [3] (fun i wr => ∃ k : Nat, k ≤ s ∧ i = .int .i64 ((s : Int) - 1 - k) ∧ J (kb zs s k) wr ∧ Kq N n₀ W wr)
    (fun i _ => (intOf i + 1).toNat)
  case atStart => exact ⟨0, Nat.zero_le _, by simp, h0, Kq_r _ _ _⟩
  case round =>
    obtain ⟨k, hk, rfl, hJs, hnx⟩ := hrel
    by_cases hlt : k < s
    · obtain ⟨i, hi⟩ : ∃ i : Nat, i = s - 1 - k := ⟨_, rfl⟩
      have ei : (s : Int) - 1 - k = (i : Int) := by omega
      obtain ⟨hb1, hb2⟩ := hb
      have hcx : wr.cell? ⟨b, f + i, none⟩ = some (.int .u8 (zs.getD i 0)) := (World.cell?_of_block (a := ⟨b, f + i, none⟩) (hnx.2.1 b hb1 hb2)).trans (hc i (by omega))
      have hBx : wr.cell? ⟨Bs, 0, none⟩ = some (.slice (some ⟨b, f, none⟩) s cap) := (World.cell?_of_block (a := ⟨Bs, 0, none⟩) (hnx.2.1 Bs hBn.1 hBn.2)).trans hBs
      obtain ⟨z, hz⟩ : ∃ z, zs.getD i 0 = z := ⟨_, rfl⟩
      rw [hz] at hcx
      obtain ⟨fn, tmps, assign, body, hy, hR⟩ := hY _ (i, z) wr hJs (by rw [kb_len]; exact hlt)
      dsimp only at hy
      have his : i < s := by omega
      have HI := hide hi; have HZz := hide hz
      clear hz
      rw [ei]
      have hk2 : (i : Int) - 1 = (s : Int) - 1 - ((k + 1 : Nat) : Int) := by omega
      have HK := hide hk2
      have HE := hide ei
      clear hi hk2 ei
      gi_wp2
      refine hR.mono ?_
      rintro e W3 (⟨rfl, hJ3, hk3⟩ | ⟨rfl, hJx3⟩)
      · gi_wp2
        go_roundw
        case rel => exact ⟨k + 1, by omega, by rw [← unhide HK], by rw [kb_succ, ← unhide HI, unhide HZz]; exact hJ3, Kq_t hnx hk3⟩
        case measure => simp [intOf]
      · gi_wp2
        refine bodyPost_ret (results_none rfl _ _ _) rfl ?_
        exact ⟨⟨_, rfl⟩, .inr ⟨_, ⟨k + 1, by omega, by rw [kb_succ, ← unhide HI, unhide HZz]⟩, hJx3⟩⟩
    · obtain rfl : k = s := by omega
      have ei : (k : Int) - 1 - k = -1 := by omega
      rw [ei]
      gi_wp2
      go_end0
      exact ⟨⟨_, rfl⟩, .inl ⟨_, rfl, hJs⟩⟩

set_option maxRecDepth 100000 in
set_option maxHeartbeats 2000000 in
theorem back1_nil (F : Fence) (n : Nat) (h7 : F.fn 143) (hro : F.round = none) (l Bs cap : Nat) (ad : Option Addr) (J : World → Prop)
    (W : World) (hBs : W.cell? ⟨Bs, 0, none⟩ = some (.slice ad 0 cap)) (h0 : J W) :
    CallsIn F n Tryz.prog 143 #[.func (.yield l) #[] #[], .pointer (some ⟨Bs, 0, none⟩)] W fun e W' => (∃ v, e = .returned v) ∧ J W' := by
  refine callsIn_of_wp Tryz.func143 rfl h7 ?_ hro
  simp only [Tryz.ntmps143, List.size_toArray, List.length_cons, List.length_nil, Nat.reduceAdd, Nat.reduceSub, Array.replicate_succ, Array.replicate_zero, List.push_toArray, List.append_toArray, List.nil_append, List.cons_append]
  gi_wp2
  gi_loopw [3] (fun i wr => i = .int .i64 (-1) ∧ wr = W) (fun _ _ => 0)
  case atStart => exact ⟨rfl, rfl⟩
  case round =>
    obtain ⟨rfl, rfl⟩ := hrel
    gi_wp2
    go_end0
    exact ⟨⟨_, rfl⟩, h0⟩
theorem back1_in (F : Fence) (n : Nat) (h7 : F.fn 143) (hro : F.round = none) (hn : 1 ≤ n) (l Bs N n₀ cap : Nat) (zs : List Int) (hs : zs.length ≤ 1048577) (ad : Option Addr) (hBn : Bs < n₀ ∧ Bs ≠ N) (J Jx : List (Nat × Int) → World → Prop)
    (hY : ∀ pre x W, J pre W → pre.length < zs.length → YieldAt F (n - 1) Tryz.prog l #[.int .i64 (x.1 : Int), .int .u8 x.2] W fun e W' =>
      (e = .returned (.bool true) ∧ J (pre ++ [x]) W' ∧ Kq N n₀ W W') ∨ (e = .returned (.bool false) ∧ Jx (pre ++ [x]) W'))
    (W : World) (hL : Lies (fun b => b < n₀ ∧ b ≠ N) zs.length (Byts W zs) (.slice ad zs.length cap)) (hBs : W.cell? ⟨Bs, 0, none⟩ = some (.slice ad zs.length cap)) (h0 : J [] W) :
    CallsIn F n Tryz.prog 143 #[.func (.yield l) #[] #[], .pointer (some ⟨Bs, 0, none⟩)] W fun e W' => (∃ v, e = .returned v) ∧
      ((∃ ys, ys = kb zs zs.length zs.length ∧ J ys W') ∨ (∃ pre, (∃ k, k ≤ zs.length ∧ pre = kb zs zs.length k) ∧ Jx pre W')) := by
  by_cases hz : zs.length = 0
  · have hz' := List.eq_nil_of_length_eq_zero hz
    subst hz'
    exact (back1_nil F n h7 hro l Bs cap ad (J []) W hBs h0).mono fun e W' h => ⟨h.1, .inl ⟨_, rfl, h.2⟩⟩
  · obtain ⟨a', c', e, _, _, hr⟩ := hL
    cases e
    obtain ⟨b, f, rfl, hg, hp⟩ := hr (by omega)
    exact back1_some F n h7 hro hn l Bs N n₀ b f cap zs hs hg hBn J Jx hY W hBs hp h0

set_option maxHeartbeats 1000000 in
theorem back_in (F : Fence) (n : Nat) (h5 : F.fn 138) (hro : F.round = none) (a : Option Addr) (len cap : Nat) (w : World) :
    CallsIn F n Tryz.prog 138 #[.slice a len cap] w fun e w' => e = .returned (.func (.func 143) #[] #[.pointer (some ⟨w.heap.size, 0, none⟩)]) ∧ w' = w.alloc (.cells #[.slice a len cap] 64) := by
  refine callsIn_of_wp Tryz.func138 rfl h5 ?_ hro
  simp only [Tryz.ntmps138, List.size_toArray, List.length_cons, List.length_nil, Nat.reduceAdd, Nat.reduceSub, Array.replicate_succ, Array.replicate_zero, List.push_toArray, List.append_toArray, List.nil_append, List.cons_append]
  gi_wp2
  go_ret
  exact ⟨rfl, rfl⟩
end Vw
end Go.Proofs.YtcpknafaocdjdaaGreatDoor

/- valid: commonLabel, localSign. -/
namespace Go.Proofs.YtcpknafaocdjdaaGreatDoor
open Go.RowKit Go.Shelf
namespace Vw
set_option linter.unusedVariables false
set_option linter.unusedSimpArgs false
open Ex (Ins Lies Lab)
open Gm (Mod Typ Byts)
theorem Below.on0 {B : Nat} {w W W' : World} (h : Below B w W) (h2 : Below W.heap.size W W') (hB : B ≤ W.heap.size) : Below B w W' := h.trans (h2.mono hB)
theorem Lies.at0 {g : Nat → Prop} {n : Nat} {p : Nat → Nat → Prop} {a : Option Addr} {c : Nat} (h : Lies g n p (.slice a n c)) (hn : 0 < n) : ∃ b o, a = some ⟨b, o, none⟩ ∧ g b ∧ p b o := by
  obtain ⟨a', c', e, _, _, hr⟩ := h
  simp only [Value.slice.injEq] at e
  obtain ⟨rfl, -, rfl⟩ := e
  obtain ⟨b, o, rfl, h1, h2⟩ := hr hn
  exact ⟨b, o, rfl, h1, h2⟩
def CmP (o : Option Int) (e : Ending) : Prop := ∃ x, e = .returned (.tuple #[.int .u8 x, .bool o.isSome]) ∧ ∀ k, o = some k → x = k
theorem comm_nil (la : List Int) : comm la [] = none := by unfold comm; rw [if_pos rfl]
theorem comm_last {la ls : List Int} {j : Nat} (hj : ls.length = j + 1) : comm la ls = (lbl la (ls.getD j 0)).bind fun k => if ls.all (fun n => decide (lbl la n = some k)) then some k else none := by
  unfold comm
  rw [if_neg (by intro e; rw [e] at hj; simp at hj), getLastD_at _ j hj]
theorem all_range (ls : List Int) (p : Int → Bool) : (List.range ls.length).all (fun i => p (ls.getD i 0)) = ls.all p := by
  rw [Bool.eq_iff_iff]
  simp only [List.all_eq_true, List.mem_range]
  constructor
  · intro h x hx
    obtain ⟨i, hi, rfl⟩ := List.getElem_of_mem hx
    have := h i hi
    simpa [List.getD, hi] using this
  · intro h i hi
    have := h ls[i] (List.getElem_mem hi)
    simpa [List.getD, hi] using this
set_option maxRecDepth 100000 in
set_option maxHeartbeats 1600000 in
theorem comm_any {w : World} {N : Nat} {m : M8} {vl va vt : Value} {lo : List Int} {s : St} (h : Wk w N m vl lo va vt s) (hl : s.la.length ≤ 1099511627776) {g : Nat → Prop} {ls : List Int} {a : Option Addr} {c : Nat} (hL : Lies g ls.length (Lab w ls) (.slice a ls.length c)) (hz : ∀ z ∈ ls, 0 ≤ z ∧ z < 4294967296) (hn : ls.length ≤ 1048577) :
    Calls Tryz.prog 134 #[.pointer (some ⟨N, 0, none⟩), .slice a ls.length c] w fun e w' => CmP (comm s.la ls) e ∧ Below w.heap.size w w' := by
  have hlt := h.lt
  obtain ⟨W0, hW0⟩ : ∃ W0, w.alloc (.cells #[.pointer (some ⟨N, 0, none⟩)] 169) = W0 := ⟨_, rfl⟩
  have hB0 : Below w.heap.size w W0 := by rw [← hW0]; exact one_al _ _
  have hr0 : W0.heap[w.heap.size]? = some (.cells #[.pointer (some ⟨N, 0, none⟩)] 169 (0, 0)) := by rw [← hW0]; exact heap_alloc_new _ _
  have c0 : W0.cell? ⟨w.heap.size, 0, none⟩ = some (.pointer (some ⟨N, 0, none⟩)) := by rw [cell_of_row W0 _ 0 _ _ _ hr0]; rfl
  have hl0 : w.heap.size < W0.heap.size := (Array.getElem?_eq_some_iff.1 hr0).1
  have HW := hide hW0; have HB0 := hide hB0
  by_cases he : ls.length = 0
  · have he' := List.eq_nil_of_length_eq_zero he
    subst he'
    rw [comm_nil]
    have hno := fun W => it_U_no a 0 c (-1) W (.inl (by omega))
    have HNo := hide hno
    clear h hL hz hn hno hW0 hB0 hr0 he c0
    go_enter Tryz.func134, Tryz.ntmps134
    go_wp2_with fail
    rw [unhide HW]
    refine (unhide HNo _).mono ?_
    rintro e w1 ⟨rfl, hb1⟩
    have HB1 := hide (Below.on0 (unhide HB0) hb1 (unhide HB0).size)
    clear hb1 HNo HW
    go_wp2
    go_ret2
    exact ⟨⟨_, rfl, fun k hk => by cases hk⟩, unhide HB1⟩
  · obtain ⟨j, hj⟩ : ∃ j, ls.length = j + 1 := ⟨ls.length - 1, by omega⟩
    obtain ⟨b, o, ha, _, hLab⟩ := Lies.at0 hL (by omega)
    subst ha
    have hbl : b < w.heap.size := World.block_lt_of_cell? w _ (hLab 0 (by omega))
    have hjz : 0 ≤ ls.getD j 0 ∧ ls.getD j 0 < 4294967296 := by
      have := hz ls[j] (List.getElem_mem (by omega))
      simpa [List.getD, show j < ls.length by omega] using this
    have hit : ∀ W, Below w.heap.size w W → _ := fun W hW => it_U_yes b o (j + 1) c j (ls.getD j 0) W (Nat.lt_of_lt_of_le hbl hW.size) (by omega) ((hW.cell (p := ⟨b, o + j, none⟩) hbl).trans (hLab j (by omega)))
    have hlab : ∀ W, Below w.heap.size w W → _ := fun W hW => label_any (h.below hW) hl (ls.getD j 0) (by omega) (by omega)
    unfold kv at hlab
    have hall : ∀ (W : World) (Q : Nat) (k : Int), Below w.heap.size w W → W.cell? ⟨w.heap.size, 0, none⟩ = some (.pointer (some ⟨N, 0, none⟩)) → W.cell? ⟨Q, 0, none⟩ = some (.int .u8 k) → _ := fun W Q k hW hP hQ =>
      all_U b o ls.length c 140 #[.pointer (some ⟨w.heap.size, 0, none⟩), .pointer (some ⟨Q, 0, none⟩)] (enters_of Tryz.func140 (by kernel_rfl) rfl) (fun i _ => .int .u32 (ls.getD i 0)) (fun i => decide (lbl s.la (ls.getD i 0) = some k)) W (by omega) (Nat.lt_of_lt_of_le hbl hW.size)
        (fun i hi j' hj' => by
          obtain rfl : j' = 0 := by omega
          exact (hW.cell (p := ⟨b, o + i + 0, none⟩) hbl).trans (hLab i hi))
        (fun i hi W' hW' => commc_any (h.below (Below.on0 hW hW' hW.size)) hl ((hW'.cell (p := ⟨w.heap.size, 0, none⟩) (World.block_lt_of_cell? W _ hP)).trans hP) ((hW'.cell (p := ⟨Q, 0, none⟩) (World.block_lt_of_cell? W _ hQ)).trans hQ) (ls.getD i 0) (by
          have := hz ls[i] (List.getElem_mem hi)
          simpa [List.getD, hi] using this))
    have hcm := comm_last (la := s.la) hj
    rw [hj] at hall ⊢
    have hz0 := hjz.1
    have hz1 := hjz.2
    have HIt := hide hit; have HLab := hide hlab; have HAll := hide hall; have HCm := hide hcm; have HJ := hide hj
    have hj2 : (j : Int) ≤ 1048577 := by omega
    clear h hL hz hn hW0 hB0 hr0 he hLab hjz hit hlab hall hcm hbl hl hj
    generalize hgz : ls.getD j 0 = z at *
    clear hgz
    cases hlb : lbl s.la z with
    | none =>
      have hc : comm s.la ls = none := by rw [unhide HCm, hlb]; rfl
      rw [hc]
      rw [hlb] at HLab
      clear hlb hc HCm HAll
      go_enter Tryz.func134, Tryz.ntmps134
      go_wp2_with fail
      rw [unhide HW]
      refine (unhide HIt _ (unhide HB0)).mono ?_
      rintro e w1 ⟨rfl, hb1⟩
      have HB1 := hide (Below.on0 (unhide HB0) hb1 (unhide HB0).size)
      have p0 := (hb1.cell (p := ⟨w.heap.size, 0, none⟩) hl0).trans c0
      clear hb1 HIt HW c0
      go_wp2_with fail
      refine (unhide HLab _ (unhide HB1)).mono ?_
      rintro e w2 ⟨rfl, kk, hk2⟩
      have hb2 : Below w1.heap.size w1 w2 := by rw [hk2]; exact drewn_b w1 kk
      have HB2 := hide (Below.on0 (unhide HB1) hb2 (unhide HB1).size)
      clear HLab p0 hb2 hk2
      go_wp2_with fail
      go_quiet (fail)
      go_wp2
      go_ret2
      exact ⟨⟨_, rfl, fun k hk => by cases hk⟩, Below.on0 ((unhide HB2).alloc (unhide HB2).size _) (drewn_b _ _) ((unhide HB2).alloc (unhide HB2).size _).size⟩
    | some k =>
      have hc : comm s.la ls = if ls.all (fun n => decide (lbl s.la n = some k)) then some k else none := by rw [unhide HCm, hlb]; rfl
      rw [hlb] at HLab
      have hR : ∃ r : Bool, ls.all (fun n => decide (lbl s.la n = some k)) = r := ⟨_, rfl⟩
      obtain ⟨r, hr⟩ := hR
      have hcr : comm s.la ls = if r then some k else none := by rw [hc, hr]
      have hrr : (List.range (j + 1)).all (fun i => decide (lbl s.la (ls.getD i 0) = some k)) = r := by
        rw [← hr, ← all_range ls (fun n => decide (lbl s.la n = some k)), unhide HJ]
      have hcm2 : (comm s.la ls).isSome = r := by rw [hcr]; cases r <;> rfl
      have hcm3 : ∀ x, comm s.la ls = some x → k = x := by rw [hcr]; cases r <;> simp
      have HM2 := hide hcm2; have HM3 := hide hcm3; have HRR := hide hrr
      clear hlb hc HCm hr hcr hcm2 hcm3 hrr
      go_enter Tryz.func134, Tryz.ntmps134
      go_wp2_with fail
      rw [unhide HW]
      refine (unhide HIt _ (unhide HB0)).mono ?_
      rintro e w1 ⟨rfl, hb1⟩
      have HB1 := hide (Below.on0 (unhide HB0) hb1 (unhide HB0).size)
      have p0 := (hb1.cell (p := ⟨w.heap.size, 0, none⟩) hl0).trans c0
      have hl1 : w.heap.size < w1.heap.size := by have := hb1.size; omega
      clear hb1 HIt HW c0
      go_wp2_with fail
      refine (unhide HLab _ (unhide HB1)).mono ?_
      rintro e w2 ⟨rfl, kk, hk2⟩
      have hb2 : Below w1.heap.size w1 w2 := by rw [hk2]; exact drewn_b w1 kk
      have HB2 := hide (Below.on0 (unhide HB1) hb2 (unhide HB1).size)
      have p2 := (hb2.cell (p := ⟨w.heap.size, 0, none⟩) hl1).trans p0
      have hl2 : w.heap.size < w2.heap.size := by have := hb2.size; omega
      clear HLab p0 hb2 hk2
      obtain ⟨W3, hW3⟩ : ∃ W3, w2.alloc (.cells #[.int .u8 k] 60) = W3 := ⟨_, rfl⟩
      have hb3 : Below w2.heap.size w2 W3 := by rw [← hW3]; exact one_al _ _
      have hr3 : W3.heap[w2.heap.size]? = some (.cells #[.int .u8 k] 60 (0, 0)) := by rw [← hW3]; exact heap_alloc_new _ _
      have q3 : W3.cell? ⟨w2.heap.size, 0, none⟩ = some (.int .u8 k) := by rw [cell_of_row W3 _ 0 _ _ _ hr3]; rfl
      have p3 := (hb3.cell (p := ⟨w.heap.size, 0, none⟩) hl2).trans p2
      have HB3 := hide (Below.on0 (unhide HB2) hb3 (unhide HB2).size)
      have HW3 := hide hW3
      have hl3 : w2.heap.size < W3.heap.size := (Array.getElem?_eq_some_iff.1 hr3).1
      have hA3 : ∀ W, Below W3.heap.size W3 W → _ := fun W hW => unhide HAll W w2.heap.size k (Below.on0 (unhide HB3) hW (unhide HB3).size) ((hW.cell (p := ⟨w.heap.size, 0, none⟩) (World.block_lt_of_cell? W3 _ p3)).trans p3) ((hW.cell (p := ⟨w2.heap.size, 0, none⟩) hl3).trans q3)
      rw [unhide HRR] at hA3
      have HA3 := hide hA3
      clear hb3 hr3 hW3 p2 p3 hA3 HAll
      go_upto_region 5 with fail
      rw [unhide HW3]
      clear HW3
      go_region_held3 (fun w' => w'.cell? ⟨w2.heap.size, 0, none⟩ = some (.int .u8 k))
        (first | go_keep | exact q3 | exact (hk4 _ _ hl3).trans q3 | fail)
        (first
          | (go_at_call 88; refine (unhide HA3 _ (drew_b W3)).mono ?_; rintro e w4 ⟨rfl, hb4⟩; have HB4 := hide (Below.on0 (unhide HB3) (Below.on0 (drew_b W3) hb4 (drew_b W3).size) (unhide HB3).size); have hk4 : ∀ b o, b < W3.heap.size → w4.cell? ⟨b, o, none⟩ = W3.cell? ⟨b, o, none⟩ := (fun b o hlt => (Below.on0 (drew_b W3) hb4 (drew_b W3).size).cell (p := ⟨b, o, none⟩) hlt); clear hb4)
          | fail)
      clear hk4
      go_wp2
      go_ret2
      exact ⟨⟨_, by rw [unhide HM2]; rfl, unhide HM3⟩, unhide HB4⟩
end Vw
end Go.Proofs.YtcpknafaocdjdaaGreatDoor

/- What is asked of ops' tables here. -/
namespace Go.Proofs.YtcpknafaocdjdaaGreatDoor
open Go.RowKit
set_option linter.unusedVariables false

/-- what the tables hold -/
def Tb (w : World) : Prop := Nms w ∧ TC w 1 fmV ∧ TC w 2 abV
theorem Tb.below {w w' : World} (h : Tb w) (hb : Below w.heap.size w w') : Tb w' := ⟨h.1.below hb, h.2.1.below hb, h.2.2.below hb⟩
theorem Below.drewn (w : World) (k : Nat) : Below w.heap.size w (w.drewN k) := ⟨rfl, rfl, rfl, Nat.le_refl _, fun _ _ => rfl⟩

end Go.Proofs.YtcpknafaocdjdaaGreatDoor

/- The reference's Pick. -/
namespace Go.Proofs.YtcpknafaocdjdaaGreatDoor
open Go.RowKit
namespace Gm
set_option linter.unusedVariables false
set_option linter.unusedSimpArgs false
open Ex (Lies)
def rpickV : Option (Int × Int) → Value
  | none => .tuple #[.int .i64 0, .int .i64 0, .bool false]
  | some x => .tuple #[.int .i64 x.1, .int .i64 x.2, .bool true]
theorem start2m {w : World} {ms ss : Array Value} {t t2 : TypeId} : ∃ W0, ((w.alloc (.cells ms t)).alloc (.cells ss t2)) = W0 ∧ W0.heap[w.heap.size]? = some (.cells ms t (0, 0)) ∧ W0.heap[w.heap.size + 1]? = some (.cells ss t2 (0, 0)) ∧ w.heap.size + 1 < W0.heap.size ∧ Below w.heap.size w W0 := by
  have e2 : (w.alloc (.cells ms t)).heap.size = w.heap.size + 1 := by simp
  have hn := heap_alloc_new (w.alloc (.cells ms t)) (.cells ss t2)
  rw [e2] at hn
  exact ⟨_, rfl, (Below.heap_alloc _ _ _ (by simp)).trans (heap_alloc_new w (.cells ms t)), hn, by simp, ((Below.refl _ _).alloc (Nat.le_refl _) _).alloc (by simp) _⟩

theorem ad_below9 (w : World) (o : Obj) : Below w.heap.size w (w.alloc o).drew := Below.on ((Below.refl _ _).alloc (Nat.le_refl _) o) (drew_below9 _)
theorem ad_at9 {w w4 : World} {x0 x1 : Value} {t : TypeId} (h : Below (w.alloc (.cells #[x0, x1] t)).drew.heap.size (w.alloc (.cells #[x0, x1] t)).drew w4) : w4.heap[w.heap.size]? = some (.cells #[x0, x1] t (0, 0)) :=
  (h.block w.heap.size (by show w.heap.size < (w.alloc (.cells #[x0, x1] t)).heap.size; simp)).trans (heap_alloc_new w (.cells #[x0, x1] t))

end Gm
end Go.Proofs.YtcpknafaocdjdaaGreatDoor

/- valid: localSign; math/bits.Len; alignMayBe. -/
namespace Go.Proofs.YtcpknafaocdjdaaGreatDoor
open Go.RowKit Go.Shelf
namespace Vw
set_option linter.unusedVariables false
set_option linter.unusedSimpArgs false
open Ex (Ins Lies Lab)
open Gm (Mod Typ Byts)
/-- a type's value: its kinds lie beside the walk's box -/
def TP (N : Nat) (w : World) (t : Typ) (v : Value) : Prop := ∃ pa pc, v = .agg #[.slice pa t.ps.length pc, .int .u8 t.re] ∧ Lies (fun b => b ≠ N) t.ps.length (Byts w t.ps) (.slice pa t.ps.length pc)
theorem TP.nil (N : Nat) (w : World) (k : Int) : TP N w ⟨[], k⟩ (.agg #[.slice none 0 0, .int .u8 k]) := ⟨none, 0, rfl, none, 0, rfl, Nat.le_refl _, fun _ => rfl, fun h => absurd h (by simp)⟩
theorem TP.one {N : Nat} {w : World} {g : Nat} {k : Int} {t : TypeId} (hg : w.heap[g]? = some (.cells #[.int .u8 k] t (0, 0))) (hn : g ≠ N) (r : Int) : TP N w ⟨[k], r⟩ (.agg #[.slice (some ⟨g, 0, none⟩) 1 1, .int .u8 r]) :=
  ⟨_, 1, rfl, _, 1, rfl, Nat.le_refl _, nofun, fun _ => ⟨g, 0, rfl, hn, fun j hj => by
    obtain rfl : j = 0 := by simp at hj; exact hj
    rw [cell_of_row w g _ _ _ _ hg]; rfl⟩⟩
theorem TP.two {N : Nat} {w : World} {g : Nat} {k l : Int} {t : TypeId} (hg : w.heap[g]? = some (.cells #[.int .u8 k, .int .u8 l] t (0, 0))) (hn : g ≠ N) (r : Int) : TP N w ⟨[k, l], r⟩ (.agg #[.slice (some ⟨g, 0, none⟩) 2 2, .int .u8 r]) :=
  ⟨_, 2, rfl, _, 2, rfl, Nat.le_refl _, nofun, fun _ => ⟨g, 0, rfl, hn, fun j hj => by
    rcases (show j = 0 ∨ j = 1 by simp at hj; omega) with rfl | rfl <;> (rw [cell_of_row w g _ _ _ _ hg]; rfl)⟩⟩
theorem TP.below {N : Nat} {w w' : World} {t : Typ} {v : Value} (h : TP N w t v) (hb : Below w.heap.size w w') : TP N w' t v := by
  obtain ⟨pa, pc, e, hl⟩ := h
  exact ⟨pa, pc, e, Ex.Lies.move hl fun hl b o hg hp => ⟨hg, fun j hj => (hb.cell (p := ⟨b, o + j, none⟩) (World.block_lt_of_cell? w _ (hp j hj))).trans (hp j hj)⟩⟩

def lsig (op k : Int) : Typ := if op = 32 then ⟨[], k⟩ else if op = 33 then ⟨[k], 0⟩ else ⟨[k], k⟩
set_option maxRecDepth 100000 in
set_option maxHeartbeats 1600000 in
theorem local_any {w : World} (op k : Int) (ho : op = 32 ∨ op = 33 ∨ op = 34) :
    Calls Tryz.prog 136 #[.int .u8 op, .int .u8 k] w fun e w' => (∃ v, e = .returned v ∧ ∀ N, N < w.heap.size → TP N w' (lsig op k) v) ∧ Below w.heap.size w w' := by
  rcases ho with rfl | rfl | rfl
  · have hs : lsig 32 k = ⟨[], k⟩ := rfl
    rw [hs]
    clear hs
    go_enter Tryz.func136, Tryz.ntmps136
    go_wp2
    refine bodyPost_ret (v := .agg #[.slice none 0 0, .int .u8 k]) (by simp [results, Tryz.results136, go_sem]) rfl ⟨⟨_, rfl, fun N hN => TP.nil _ _ _⟩, one_al _ _⟩
  · have hs : lsig 33 k = ⟨[k], 0⟩ := rfl
    rw [hs]
    clear hs
    obtain ⟨W0, hW0, b1, b2, b3, b4⟩ := Gm.start2m (w := w) (ms := #[.slice none 0 0, .int .u8 0]) (ss := #[.int .u8 k]) (t := 96) (t2 := 60)
    have htk := fun W => takes_any (some ⟨w.heap.size + 1, 0, none⟩) 1 1 W
    have HT := hide htk; have HW := hide hW0; have HB := hide b4; have H1 := hide b1; have H2 := hide b2
    clear htk hW0 b1 b2 b4
    go_enter Tryz.func136, Tryz.ntmps136
    go_wp2_with fail
    rw [unhide HW]
    refine (unhide HT _).mono ?_
    rintro e w1 ⟨rfl, hb1⟩
    have hr1 := (hb1.block w.heap.size (by omega)).trans (unhide H1)
    have hr2 := (hb1.block (w.heap.size + 1) b3).trans (unhide H2)
    obtain ⟨z0, z1⟩ := Gm.cel2 hr1
    have fz : ∀ j, w1.frozen? ⟨w.heap.size, j, none⟩ = false := fun j => frozen_of_row w1 _ j _ _ hr1
    obtain ⟨q0, q1, q2⟩ := Gm.fin2 hr1 (Below.on0 (unhide HB) hb1 (unhide HB).size) (Nat.le_refl _) (.slice (some ⟨w.heap.size + 1, 0, none⟩) 1 1) (.int .u8 0)
    have HQ := hide q2; have HR2 := hide hr2
    clear hb1 hr1 hr2 q2 HT HW
    go_wp2
    refine bodyPost_ret (v := .agg #[.slice (some ⟨w.heap.size + 1, 0, none⟩) 1 1, .int .u8 0]) (by simp [results, Tryz.results136, go_sem, q0, q1]) rfl ⟨⟨_, rfl, fun N hN => TP.one (g := w.heap.size + 1) (t := 60) ?_ (by omega) _⟩, unhide HQ⟩
    rw [heap_setCell_other _ ⟨w.heap.size, 1, none⟩ _ _ (by simp), heap_setCell_other _ ⟨w.heap.size, 0, none⟩ _ _ (by simp)]
    exact unhide HR2
  · have hs : lsig 34 k = ⟨[k], k⟩ := rfl
    rw [hs]
    clear hs
    go_enter Tryz.func136, Tryz.ntmps136
    go_wp2
    refine bodyPost_ret (v := .agg #[.slice (some ⟨w.heap.size + 1, 0, none⟩) 1 1, .int .u8 k]) (by simp [results, Tryz.results136, go_sem]) rfl ⟨⟨_, rfl, fun N hN => TP.one (g := w.heap.size + 1) (t := 60) ?_ (by omega) _⟩, (one_al w _).alloc (by simp) _⟩
    have := heap_alloc_new (w.alloc (.cells #[.slice (some ⟨w.heap.size + 1, 0, none⟩) 1 1, .int .u8 k] 96)) (.cells #[.int .u8 k] 60)
    rw [World.size_alloc] at this
    exact this

set_option maxRecDepth 100000 in
set_option maxHeartbeats 1600000 in
theorem len64_any (n : Int) (h : n = 1 ∨ n = 2 ∨ n = 4 ∨ n = 8) (w : World) :
    Calls Tryz.prog 150 #[.int .u64 n] w fun e w' => e = .returned (.int .i64 (len2 n)) ∧ w' = w := by
  rcases h with rfl | rfl | rfl | rfl <;>
  · go_enter Tryz.func150, Tryz.ntmps150
    go_wp2
    go_ret
    exact ⟨by kernel_rfl, rfl⟩
theorem len_any (n : Int) (h : n = 1 ∨ n = 2 ∨ n = 4 ∨ n = 8) (w : World) :
    Calls Tryz.prog 146 #[.int .u64 n] w fun e w' => e = .returned (.int .i64 (len2 n)) ∧ w' = w := by
  have HL := hide (fun W => len64_any n h W)
  clear h
  go_enter Tryz.func146, Tryz.ntmps146
  go_wp2_with (go_at_call 150; refine (unhide HL _).mono ?_; rintro e w' ⟨rfl, rfl⟩)
  go_ret
  exact ⟨rfl, rfl⟩
end Vw
end Go.Proofs.YtcpknafaocdjdaaGreatDoor

/- valid: alignMayBe, plainSign. -/
namespace Go.Proofs.YtcpknafaocdjdaaGreatDoor
open Go.RowKit Go.Shelf
namespace Vw
set_option linter.unusedVariables false
set_option linter.unusedSimpArgs false
open Ex (Ins Lies Lab)
open Gm (Mod Typ Byts)
theorem ab_in (n : Nat) : ab n = 0 ∨ ab n = 1 ∨ ab n = 2 ∨ ab n = 4 ∨ ab n = 8 := by
  have : ∀ z ∈ abs', z = 0 ∨ z = 1 ∨ z = 2 ∨ z = 4 ∨ z = 8 := by decide
  by_cases h : n < abs'.length
  · exact this _ (by unfold ab; simp [List.getD, h])
  · left; unfold ab; simp [List.getD, List.getElem?_eq_none (Nat.le_of_not_lt h)]
theorem ab_lt {n : Nat} (h : ab n ≠ 0) : n < 63 := by
  by_cases hn : n < abs'.length
  · have : abs'.length = 63 := by decide
    omega
  · exact absurd (by unfold ab; simp [List.getD, List.getElem?_eq_none (Nat.le_of_not_lt hn)]) h
def alOk (op : Nat) (al : Int) : Bool := decide (ab op ≠ 0 ∧ al < len2 (ab op))
set_option maxRecDepth 100000 in
set_option maxHeartbeats 1600000 in
theorem align_any (op : Nat) (hop : op < 256) (n al of re : Int) (vb ve vl : Value) (hal : 0 ≤ al ∧ al ≤ 4294967295) (w : World) (hT : Tb w) :
    Calls Tryz.prog 142 #[.agg #[.int .u8 op, .int .i64 n, .int .u32 al, .int .u32 of, .int .u8 re, vb, ve, vl]] w fun e w' => e = .returned (.bool (alOk op al)) ∧ Below w.heap.size w w' := by
  obtain ⟨W0, hW0⟩ : ∃ W0, w.alloc (.cells #[.int .u8 op, .int .i64 n, .int .u32 al, .int .u32 of, .int .u8 re, vb, ve, vl] 63) = W0 := ⟨_, rfl⟩
  have hB0 : Below w.heap.size w W0 := by rw [← hW0]; exact one_al _ _
  have hr0 : W0.heap[w.heap.size]? = some (.cells #[.int .u8 op, .int .i64 n, .int .u32 al, .int .u32 of, .int .u8 re, vb, ve, vl] 63 (0, 0)) := by rw [← hW0]; exact heap_alloc_new _ _
  have hT0 := hT.below hB0
  obtain ⟨c0, c1, c2, c3, c4, c5, c6, c7⟩ := Ex.cel8 hr0
  have hl0 : w.heap.size < W0.heap.size := (Array.getElem?_eq_some_iff.1 hr0).1
  have HW := hide hW0; have HB := hide hB0
  have ha0 := hal.1
  have ha1 := hal.2
  clear hW0 hB0 hr0 c1 c3 c4 c5 c6 c7 hal
  by_cases h0 : ab op = 0
  · have hres : alOk op al = false := by unfold alOk; simp [h0]
    rw [hres]
    have hb := bytes_no op hop W0 hT0.2.2 h0
    simp only [errV_1] at hb
    have HBy := hide hb
    clear hb hres h0 hT0 hT
    go_enter Tryz.func142, Tryz.ntmps142
    go_wp2_with fail
    rw [unhide HW]
    refine (unhide HBy).mono ?_
    rintro e w1 ⟨rfl, rfl⟩
    clear HBy HW
    go_wp2_with fail
    go_quiet (fail)
    go_wp2
    go_ret
    exact ⟨rfl, Below.on0 (unhide HB) (drewn_b _ _) (unhide HB).size⟩
  · have hb := bytes_yes op (ab_lt h0) W0 hT0.2.2 hT0.1 h0
    have h4 : ab op = 1 ∨ ab op = 2 ∨ ab op = 4 ∨ ab op = 8 := (ab_in op).resolve_left h0
    have hlen := fun W => len_any (ab op) h4 W
    have hres : alOk op al = decide (al < len2 (ab op)) := by unfold alOk; simp [h0]
    rw [hres]
    simp only [errV_0] at hb
    have hb0 : 0 ≤ ab op := by omega
    have hb1 : ab op ≤ 8 := by omega
    have HBy := hide hb; have HLn := hide hlen
    clear hb hres h0 hT0 hT hlen h4
    generalize ab op = z at *
    generalize sfx (nm op) = sx at *
    go_enter Tryz.func142, Tryz.ntmps142
    go_wp2_with fail
    rw [unhide HW]
    refine (unhide HBy).mono ?_
    rintro e w1 ⟨rfl, kk, hk⟩
    have hb1' : Below W0.heap.size W0 w1 := by rw [hk]; exact drewn_b _ _
    have c2' := (hb1'.cell (p := ⟨w.heap.size, 2, none⟩) hl0).trans c2
    have HB1 := hide (Below.on0 (unhide HB) hb1' (unhide HB).size)
    clear HBy HW hk hb1' c0 c2
    go_wp2_with fail
    go_quiet ((go_at_call 146; exact Calls.quiet_of_same (unhide HLn _)))
    go_wp2
    go_ret
    exact ⟨rfl, Below.on0 (unhide HB1) (drewn_b _ _) (unhide HB1).size⟩
end Vw
end Go.Proofs.YtcpknafaocdjdaaGreatDoor

/- valid: plainSign. -/
namespace Go.Proofs.YtcpknafaocdjdaaGreatDoor
open Go.RowKit Go.Shelf
namespace Vw
set_option linter.unusedVariables false
set_option linter.unusedSimpArgs false
open Ex (Ins Lies Lab)
open Gm (Mod Typ Byts)
/-- what comes of a sign -/
def SgP (N : Nat) (o : Option Typ) (e : Ending) (w' : World) : Prop := ∃ pa pl pc re, e = .returned (.tuple #[.agg #[.slice pa pl pc, .int .u8 re], .bool o.isSome]) ∧ ∀ t, o = some t → TP N w' t (.agg #[.slice pa pl pc, .int .u8 re])
theorem SgP.no {N : Nat} {pa : Option Addr} {pl pc : Nat} {re : Int} {w : World} : SgP N none (.returned (.tuple #[.agg #[.slice pa pl pc, .int .u8 re], .bool false])) w := ⟨pa, pl, pc, re, rfl, nofun⟩
theorem SgP.yes {N : Nat} {pa : Option Addr} {pl pc : Nat} {re : Int} {w : World} {t : Typ} (h : TP N w t (.agg #[.slice pa pl pc, .int .u8 re])) : SgP N (some t) (.returned (.tuple #[.agg #[.slice pa pl pc, .int .u8 re], .bool true])) w := ⟨pa, pl, pc, re, rfl, fun t' e => by cases e; exact h⟩
/-- the same, beside every block that was there -/
def SgA (K : Nat) (o : Option Typ) (e : Ending) (w' : World) : Prop := ∃ pa pl pc re, e = .returned (.tuple #[.agg #[.slice pa pl pc, .int .u8 re], .bool o.isSome]) ∧ ∀ t, o = some t → ∀ N, N < K → TP N w' t (.agg #[.slice pa pl pc, .int .u8 re])
theorem SgA.no {K : Nat} {pa : Option Addr} {pl pc : Nat} {re : Int} {w : World} : SgA K none (.returned (.tuple #[.agg #[.slice pa pl pc, .int .u8 re], .bool false])) w := ⟨pa, pl, pc, re, rfl, nofun⟩
theorem SgA.yes {K : Nat} {pa : Option Addr} {pl pc : Nat} {re : Int} {w : World} {t : Typ} (h : ∀ N, N < K → TP N w t (.agg #[.slice pa pl pc, .int .u8 re])) : SgA K (some t) (.returned (.tuple #[.agg #[.slice pa pl pc, .int .u8 re], .bool true])) w := ⟨pa, pl, pc, re, rfl, fun t' e => by cases e; exact h⟩
/-- the kinds of an own row, as a type -/
theorem TP.own {N : Nat} {w : World} {B : Nat} {pa : Option Addr} {pl pc : Nat} {l : List Int} {r : Int} (h : w.ownsRow B 60 1 (.slice pa pl pc) pl (kr l)) (hB : N < B) : pl = l.length ∧ TP N w ⟨l, r⟩ (.agg #[.slice pa pl pc, .int .u8 r]) := by
  obtain ⟨e, hl⟩ := own_lies h
  subst e
  exact ⟨rfl, pa, pc, rfl, Ex.Lies.move hl fun _ b o hg hp => ⟨by omega, hp⟩⟩
theorem TP.set2 {N : Nat} {w : World} {t : Typ} {v : Value} (h : TP N w t v) {B : Nat} {x0 x1 : Value} {ty : TypeId} (hr : w.heap[B]? = some (.cells #[x0, x1] ty (0, 0))) (hx : ∀ z, x0 ≠ .int .u8 z) (y0 y1 : Value) (hp : t.ps ≠ [] → ∀ pa pc, v = .agg #[.slice (some pa) t.ps.length pc, .int .u8 t.re] → pa.block ≠ B) : TP N ((w.setCell ⟨B, 0, none⟩ y0).setCell ⟨B, 1, none⟩ y1) t v := by
  obtain ⟨pa, pc, e, hl⟩ := h
  refine ⟨pa, pc, e, ?_⟩
  have hps := hp
  by_cases h0 : t.ps = []
  · obtain ⟨a', c', e', h1, h2, _⟩ := hl
    exact ⟨a', c', e', h1, h2, fun hl => absurd hl (by rw [h0]; simp)⟩
  · obtain ⟨b, o, rfl, hg, hpp⟩ := Lies.at0 hl (by rcases hq : t.ps with _ | ⟨x, xs⟩; exact absurd hq h0; simp)
    have hb : b ≠ B := hps h0 _ _ e
    obtain ⟨a', c', e', h1, h2, h3⟩ := hl
    cases e'
    refine ⟨_, _, rfl, h1, h2, fun _ => ⟨b, o, rfl, hg, fun j hj => ?_⟩⟩
    rw [World.cell?_of_block (a := ⟨b, o + j, none⟩) ((heap_setCell_other _ ⟨B, 1, none⟩ b _ hb).trans (heap_setCell_other _ ⟨B, 0, none⟩ b _ hb))]
    exact hpp j hj
theorem famT_in {op : Nat} {x : Fam} (h : fam op = some x) : x ∈ fms := List.mem_of_find?_eq_some h

set_option maxRecDepth 100000 in
set_option maxHeartbeats 3200000 in
theorem plain_no {w : World} (p : Option Addr) (op : Nat) (hop : op < 256) (n al of re : Int) (vb ve vl : Value) (hT : Tb w) (h : fam op = none ∨ ((op : Int) ≤ 36)) :
    Calls Tryz.prog 137 #[.pointer p, .agg #[.int .u8 op, .int .i64 n, .int .u32 al, .int .u32 of, .int .u8 re, vb, ve, vl]] w fun e w' => SgA w.heap.size none e w' ∧ Below w.heap.size w w' := by
  obtain ⟨W0, hW0, b1, b2, b3, b4⟩ := Gm.start2m (w := w) (ms := #[.int .u8 op, .int .i64 n, .int .u32 al, .int .u32 of, .int .u8 re, vb, ve, vl]) (ss := #[.slice none 0 0, .int .u8 0]) (t := 63) (t2 := 96)
  have hT0 := hT.below b4
  have hS : Calls Tryz.prog 141 #[.int .u8 op] W0 fun e w' => e = .returned (.tuple #[.agg #[.slice none 0 0, .int .u8 0], errV 1]) ∧ Below W0.heap.size W0 w' := by
    cases hf : fam op with
    | none => exact sign_none op hop W0 hT0.2.1 hf
    | some x => exact sign_low op hop W0 hT0.2.1 x hf (h.resolve_left (by rw [hf]; simp))
  simp only [errV_1] at hS
  obtain ⟨c0, c1, c2, c3, c4, c5, c6, c7⟩ := Ex.cel8 b1
  have HS := hide hS; have HW := hide hW0; have HB := hide b4; have HR := hide b2
  clear hS hW0 b1 b2 b4 c1 c2 c3 c4 c5 c6 c7 hT hT0 h
  go_enter Tryz.func137, Tryz.ntmps137
  go_wp2_with fail
  rw [unhide HW]
  refine (unhide HS).mono ?_
  rintro e w1 ⟨rfl, hb1⟩
  have hr1 := (hb1.block (w.heap.size + 1) b3).trans (unhide HR)
  have hl1 : w.heap.size + 1 < w1.heap.size := (Array.getElem?_eq_some_iff.1 hr1).1
  obtain ⟨W2, hW2⟩ : ∃ W2, w1.alloc (.cells #[.slice none 0 0, .int .u8 0] 96) = W2 := ⟨_, rfl⟩
  have hb2 : Below w1.heap.size w1 W2 := by rw [← hW2]; exact one_al _ _
  have hr2 := (hb2.block (w.heap.size + 1) hl1).trans hr1
  have hB2 := Below.on0 (Below.on0 (unhide HB) hb1 (unhide HB).size) hb2 (Below.on0 (unhide HB) hb1 (unhide HB).size).size
  obtain ⟨z0, z1⟩ := Gm.cel2 hr2
  have fz : ∀ j, W2.frozen? ⟨w.heap.size + 1, j, none⟩ = false := fun j => frozen_of_row W2 _ j _ _ hr2
  obtain ⟨q0, q1, q2⟩ := Gm.fin2 hr2 hB2 (by omega) (.slice none 0 0) (.int .u8 0)
  have HQ := hide q2; have HW2 := hide hW2
  clear hb1 hb2 hr1 hr2 hB2 q2 HS HW HB HR hW2 c0
  go_upto_region 2 with fail
  rw [unhide HW2]
  clear HW2
  go_wp2
  refine bodyPost_ret (v := .tuple #[.agg #[.slice none 0 0, .int .u8 0], .bool false]) (by simp [results, Tryz.results137, go_sem, q0, q1]) rfl ⟨SgA.no, unhide HQ⟩

def plainX (x : Fam) (op nmem : Nat) (n al : Int) : Bool := if x.o = 1 then decide (-2147483648 ≤ n ∧ n ≤ 2147483647) else if x.o = 4 then decide (0 < nmem) && alOk op al else if x.o = 5 then decide (0 < nmem) else true
def plainO (x : Fam) (op nmem : Nat) (n al : Int) : Option Typ := if plainX x op nmem n al then some ⟨pk x.x x.y 2, x.g⟩ else none
theorem SgA.of {K : Nat} {x : Fam} {op nmem : Nat} {n al : Int} {pa : Option Addr} {pl pc : Nat} {w : World} {b : Bool} (hb : plainX x op nmem n al = b) (h : ∀ N, N < K → TP N w ⟨pk x.x x.y 2, x.g⟩ (.agg #[.slice pa pl pc, .int .u8 x.g])) :
    SgA K (plainO x op nmem n al) (.returned (.tuple #[.agg #[.slice pa pl pc, .int .u8 x.g], .bool b])) w := by
  unfold plainO; rw [hb]
  cases b
  · exact SgA.no
  · exact SgA.yes h
theorem cel_d {w : World} {a : Addr} : w.drew.cell? a = w.cell? a := rfl
theorem fms_o : ∀ x ∈ fms, x.o = 0 ∨ x.o = 1 ∨ x.o = 2 ∨ x.o = 3 ∨ x.o = 4 ∨ x.o = 5 ∨ x.o = 6 ∨ x.o = 7 ∨ x.o = 8 ∨ x.o = 9 := by decide

set_option maxRecDepth 100000 in
set_option maxHeartbeats 3200000 in
theorem plain_yes {w : World} {N : Nat} (op : Nat) (hop : op < 256) (n al of re : Int) (vb ve vl : Value) (hal : 0 ≤ al ∧ al ≤ 4294967295) (hT : Tb w) {x : Fam} (hf : fam op = some x) (h36 : ¬ (op : Int) ≤ 36) (hN : N < w.heap.size) {a3 : Option Addr} {n3 c3 : Nat} (hm : w.cell? ⟨N, 3, none⟩ = some (.slice a3 n3 c3)) (hn3 : n3 ≤ 1048576) :
    Calls Tryz.prog 137 #[.pointer (some ⟨N, 0, none⟩), .agg #[.int .u8 op, .int .i64 n, .int .u32 al, .int .u32 of, .int .u8 re, vb, ve, vl]] w fun e w' => SgA w.heap.size (plainO x op n3 n al) e w' ∧ Below w.heap.size w w' := by
  obtain ⟨W0, hW0, b1, b2, b3, b4⟩ := Gm.start2m (w := w) (ms := #[.int .u8 op, .int .i64 n, .int .u32 al, .int .u32 of, .int .u8 re, vb, ve, vl]) (ss := #[.slice none 0 0, .int .u8 0]) (t := 63) (t2 := 96)
  have hT0 := hT.below b4
  have hS := sign_yes op hop W0 hT0.2.1 x hf h36
  have hF : ∀ W, Below w.heap.size w W → _ := fun W hW => form_any op hop W (hT.below hW).2.1
  have hfr : formR (fam op) = .tuple #[.int .i64 x.o, .nilIface] := by rw [hf]; show Value.tuple #[.int .i64 x.o, errV 0] = _; rw [errV_0]
  have hAl : ∀ W, Below w.heap.size w W → _ := fun W hW => align_any op hop n al of re vb ve vl hal W (hT.below hW)
  have hmW : ∀ W, Below w.heap.size w W → W.cell? ⟨N, 3, none⟩ = some (.slice a3 n3 c3) := fun W hW => (hW.cell (p := ⟨N, 3, none⟩) hN).trans hm
  simp only [hfr] at hF
  simp only [errV_0] at hS
  obtain ⟨c0, c1, c2, c3, c4, c5, c6, c7⟩ := Ex.cel8 b1
  have ho := fms_o x (famT_in hf)
  have HS := hide hS; have HW := hide hW0; have HB := hide b4; have HR := hide b2; have HI := hide b1; have HF := hide hF; have HAl := hide hAl; have HM := hide hmW; have HO := hide ho
  clear hS hW0 b1 b2 b4 c1 c2 c3 c4 c5 c6 c7 hT hT0 hF hfr hAl hmW hm ho hf h36
  go_enter Tryz.func137, Tryz.ntmps137
  go_wp2_with fail
  rw [unhide HW]
  refine (unhide HS).mono ?_
  rintro e w1 ⟨v, rfl, hown, hb1⟩
  obtain ⟨pa, pc, rfl, -⟩ := slice_of hown
  have hr1 := (hb1.block (w.heap.size + 1) b3).trans (unhide HR)
  have hi1 := (hb1.block w.heap.size (by omega)).trans (unhide HI)
  have hl1 : w.heap.size + 1 < w1.heap.size := (Array.getElem?_eq_some_iff.1 hr1).1
  have hB1 := Below.on0 (unhide HB) hb1 (unhide HB).size
  obtain ⟨L, hL⟩ : ∃ L, L = (pk x.x x.y 2).length := ⟨_, rfl⟩
  obtain ⟨W2, hW2⟩ : ∃ W2, w1.alloc (.cells #[.slice pa L pc, .int .u8 x.g] 96) = W2 := ⟨_, rfl⟩
  have hb2 : Below w1.heap.size w1 W2 := by rw [← hW2]; exact one_al _ _
  have ht2 : W2.heap[w1.heap.size]? = some (.cells #[.slice pa L pc, .int .u8 x.g] 96 (0, 0)) := by rw [← hW2]; exact heap_alloc_new _ _
  have hl2 : w1.heap.size < W2.heap.size := (Array.getElem?_eq_some_iff.1 ht2).1
  have hown2 := own_keep hown fun k hk => (hb2.block k (hown.lt k hk).2)
  have hB2 := Below.on0 hB1 hb2 hB1.size
  have d0 := (Ex.cel8 ((hb2.block _ (by omega)).trans hi1)).1
  rw [← hL] at hown hown2 ⊢
  have HOwn := hide hown2; have HR2 := hide ((hb2.block _ hl1).trans hr1); have HI2 := hide ((hb2.block _ (by omega)).trans hi1); have HT2 := hide ht2; have HB2 := hide hB2; have HW2 := hide hW2; have HLe := hide hL
  clear hown hown2 hb1 hr1 hi1 hb2 ht2 hB1 hB2 hW2 HS HW HB HR HI c0 hL
  go_upto_region 4 with fail
  rw [unhide HW2]
  go_wp2_with fail
  refine (unhide HF _ (unhide HB2)).mono ?_
  rintro e w3 ⟨rfl, hb3⟩
  have hB3 := Below.on0 (unhide HB2) hb3 (unhide HB2).size
  have hr3 := (hb3.block _ (by omega)).trans (unhide HR2)
  have hi3 := (hb3.block _ (by omega)).trans (unhide HI2)
  have ht3 := (hb3.block _ hl2).trans (unhide HT2)
  have hm3 := unhide HM _ hB3
  have hown3 := own_keep (unhide HOwn) fun k hk => (hb3.block k ((unhide HOwn).lt k hk).2)
  have hl3 : w1.heap.size < w3.heap.size := (Array.getElem?_eq_some_iff.1 ht3).1
  have hTP : ∀ N, N < w.heap.size → TP N w3 ⟨pk x.x x.y 2, x.g⟩ (.agg #[.slice pa L pc, .int .u8 x.g]) := fun N hN => (TP.own (N := N) (r := x.g) (l := pk x.x x.y 2) hown3 (by omega)).2
  obtain ⟨X, hX⟩ : ∃ X, (w3.setCell ⟨w.heap.size + 1, 0, none⟩ (.slice pa L pc)).setCell ⟨w.heap.size + 1, 1, none⟩ (.int .u8 x.g) = X := ⟨_, rfl⟩
  have hTX : ∀ N, N < w.heap.size → TP N X ⟨pk x.x x.y 2, x.g⟩ (.agg #[.slice pa L pc, .int .u8 x.g]) := by
    intro N hN
    rw [← hX]
    refine (hTP N hN).set2 hr3 (fun z h => by cases h) _ _ (fun _ pa' pc' e => ?_)
    simp at e
    obtain ⟨⟨rfl, -, -⟩, -⟩ := e
    have := hown3.lt pa'.block rfl
    omega
  have hne : ∀ pa' : Addr, pa = some pa' → pa'.block ≠ w.heap.size + 1 := fun pa' e => by
    subst e
    have := hown3.lt pa'.block rfl
    omega
  have HTP := hide hTP; have HNe := hide hne
  clear hne
  obtain ⟨q0, q1, q2⟩ := Gm.fin2 hr3 hB3 (by omega) (.slice pa L pc) (.int .u8 x.g)
  rw [hX] at q0 q1 q2
  have hfin : ∀ b, plainX x op n3 n al = b → SgA w.heap.size (plainO x op n3 n al) (.returned (.tuple #[.agg #[.slice pa L pc, .int .u8 x.g], .bool b])) X ∧ Below w.heap.size w X := fun b hb => ⟨SgA.of hb hTX, q2⟩
  obtain ⟨i0, i1, i2, i3, i4, i5, i6, i7⟩ := Ex.cel8 hi3
  obtain ⟨t0, t1⟩ := Gm.cel2 ht3
  obtain ⟨z0, z1⟩ := Gm.cel2 hr3
  have fz : ∀ j, w3.frozen? ⟨w.heap.size + 1, j, none⟩ = false := fun j => frozen_of_row w3 _ j _ _ hr3
  have n1 : ¬ w1.heap.size = w.heap.size + 1 := by omega
  have n2 : ¬ w.heap.size + 1 = w1.heap.size := by omega
  have n3' : ¬ w.heap.size = w.heap.size + 1 := by omega
  have n4 : ¬ N = w.heap.size + 1 := by omega
  have n5 : ¬ w.heap.size + 1 = N := by omega
  have hn3' : (n3 : Int) ≤ 1048576 := by omega
  have HX := hide hX; have HFin := hide hfin; have HAl := hide (fun W (hW : Below w3.heap.size w3 W) => unhide HAl W (Below.on0 hB3 hW hB3.size))
  have HB3 := hide hB3; have HR3 := hide hr3
  clear hb3 HW2 HB2 HR2 HI2 HT2 HM HOwn HF d0 hTP hTX hfin hX q2 hown3 hr3 hi3 ht3 hB3 hn3
  have q0d : X.drew.cell? ⟨w.heap.size + 1, 0, none⟩ = some (.slice pa L pc) := q0
  have q1d : X.drew.cell? ⟨w.heap.size + 1, 1, none⟩ = some (.int .u8 x.g) := q1
  have HQ := hide (And.intro q0 q1); have HQd := hide (And.intro q0d q1d)
  clear q0 q1 q0d q1d
  by_cases o1 : x.o = 1
  · have hpx : plainX x op n3 n al = decide (-2147483648 ≤ n ∧ n ≤ 2147483647) := by unfold plainX; rw [if_pos o1]
    have HPX := hide hpx
    rw [o1]
    clear hpx o1
    obtain ⟨b, hb⟩ : ∃ b, decide (-2147483648 ≤ n ∧ n ≤ 2147483647) = b := ⟨_, rfl⟩
    have HFb := hide (unhide HFin b ((unhide HPX).trans hb))
    by_cases h1 : -2147483648 ≤ n
    · by_cases h2 : n ≤ 2147483647
      · obtain rfl : b = true := by rw [← hb]; exact decide_eq_true ⟨h1, h2⟩
        clear hb
        go_wp2_with fail
        go_region
        go_wp2
        obtain ⟨q0d, q1d⟩ := unhide HQd
        rw [unhide HX]
        refine bodyPost_ret (v := .tuple #[.agg #[.slice pa L pc, .int .u8 x.g], .bool true]) (by simp [results, Tryz.results137, go_sem, q0d, q1d]) rfl ⟨(unhide HFb).1, Below.on0 (unhide HFb).2 (drew_b X) (unhide HFb).2.size⟩
      · obtain rfl : b = false := by rw [← hb]; exact decide_eq_false fun h => h2 h.2
        have h2' : decide (n ≤ 2147483647) = false := decide_eq_false h2
        clear hb h2
        go_wp2_with fail
        go_region
        go_wp2
        obtain ⟨q0d, q1d⟩ := unhide HQd
        rw [unhide HX]
        refine bodyPost_ret (v := .tuple #[.agg #[.slice pa L pc, .int .u8 x.g], .bool false]) (by simp [results, Tryz.results137, go_sem, q0d, q1d]) rfl ⟨(unhide HFb).1, Below.on0 (unhide HFb).2 (drew_b X) (unhide HFb).2.size⟩
    · obtain rfl : b = false := by rw [← hb]; exact decide_eq_false fun h => h1 h.1
      have h1' : decide (-2147483648 ≤ n) = false := decide_eq_false h1
      clear hb h1
      go_wp2_with fail
      go_region
      go_wp2
      obtain ⟨q0d, q1d⟩ := unhide HQd
      rw [unhide HX]
      refine bodyPost_ret (v := .tuple #[.agg #[.slice pa L pc, .int .u8 x.g], .bool false]) (by simp [results, Tryz.results137, go_sem, q0d, q1d]) rfl ⟨(unhide HFb).1, Below.on0 (unhide HFb).2 (drew_b X) (unhide HFb).2.size⟩
  · have o1' : (x.o == 1) = false := by simpa using o1
    by_cases o4 : x.o = 4
    · have hpx : plainX x op n3 n al = (decide (0 < n3) && alOk op al) := by unfold plainX; rw [if_neg o1, if_pos o4]
      have HPX := hide hpx
      rw [o4]
      clear hpx o1 o4 o1'
      by_cases hz : n3 = 0
      · subst hz
        have HFb := hide (unhide HFin false (by rw [unhide HPX]; simp))
        go_wp2_with fail
        go_region
        go_wp2
        obtain ⟨q0d, q1d⟩ := unhide HQd
        rw [unhide HX]
        refine bodyPost_ret (v := .tuple #[.agg #[.slice pa L pc, .int .u8 x.g], .bool false]) (by simp [results, Tryz.results137, go_sem, q0d, q1d]) rfl ⟨(unhide HFb).1, Below.on0 (unhide HFb).2 (drew_b X) (unhide HFb).2.size⟩
      · have hz' : (n3 : Int) > 0 := by omega
        have hzd : decide (0 < n3) = true := decide_eq_true (by omega)
        obtain ⟨b, hb⟩ : ∃ b, alOk op al = b := ⟨_, rfl⟩
        have HPb : Hid (plainX x op n3 n al = b) := hide (by rw [unhide HPX, hzd, hb]; rfl)
        rw [hb] at HAl
        clear hz hb
        have lN : N < w3.heap.size := by omega
        have lW : w.heap.size < w3.heap.size := by omega
        have lR : w.heap.size + 1 < w3.heap.size := by omega
        go_wp2_with fail
        go_region_held3 (fun w' => w'.cell? ⟨w1.heap.size, 0, none⟩ = some (.slice pa L pc) ∧ w'.cell? ⟨w1.heap.size, 1, none⟩ = some (.int .u8 x.g) ∧ w'.cell? ⟨N, 3, none⟩ = some (.slice a3 n3 c3) ∧ w'.cell? ⟨w.heap.size, 0, none⟩ = some (.int .u8 op) ∧ w'.cell? ⟨w.heap.size, 1, none⟩ = some (.int .i64 n) ∧ w'.cell? ⟨w.heap.size, 2, none⟩ = some (.int .u32 al) ∧ w'.cell? ⟨w.heap.size, 3, none⟩ = some (.int .u32 of) ∧ w'.cell? ⟨w.heap.size, 4, none⟩ = some (.int .u8 re) ∧ w'.cell? ⟨w.heap.size, 5, none⟩ = some (vb) ∧ w'.cell? ⟨w.heap.size, 6, none⟩ = some (ve) ∧ w'.cell? ⟨w.heap.size, 7, none⟩ = some (vl))
          (first | go_keep | exact ⟨t0, t1, hm3, i0, i1, i2, i3, i4, i5, i6, i7⟩ | exact ⟨(hk4 _ _ hl3).trans t0, (hk4 _ _ hl3).trans t1, (hk4 _ _ lN).trans hm3, (hk4 _ _ lW).trans i0, (hk4 _ _ lW).trans i1, (hk4 _ _ lW).trans i2, (hk4 _ _ lW).trans i3, (hk4 _ _ lW).trans i4, (hk4 _ _ lW).trans i5, (hk4 _ _ lW).trans i6, (hk4 _ _ lW).trans i7⟩ | exact ⟨(hs4 _ _ _ _ hl3 n1).trans t0, (hs4 _ _ _ _ hl3 n1).trans t1, (hs4 _ _ _ _ lN n4).trans hm3, (hs4 _ _ _ _ lW n3').trans i0, (hs4 _ _ _ _ lW n3').trans i1, (hs4 _ _ _ _ lW n3').trans i2, (hs4 _ _ _ _ lW n3').trans i3, (hs4 _ _ _ _ lW n3').trans i4, (hs4 _ _ _ _ lW n3').trans i5, (hs4 _ _ _ _ lW n3').trans i6, (hs4 _ _ _ _ lW n3').trans i7⟩ | fail)
          (first
            | (go_at_call 142; refine (unhide HAl _ (drew_b w3)).mono ?_; rintro e w4 ⟨rfl, hb4⟩; have HB4 := hide (Below.on0 (drew_b w3) hb4 (drew_b w3).size); have hk4 : ∀ b o, b < w3.heap.size → w4.cell? ⟨b, o, none⟩ = w3.cell? ⟨b, o, none⟩ := (fun b o hlt => (unhide HB4).cell (p := ⟨b, o, none⟩) hlt); have z04 : w4.cell? ⟨w.heap.size + 1, 0, none⟩ = some (.slice none 0 0) := (hk4 _ _ lR).trans z0; have z14 : w4.cell? ⟨w.heap.size + 1, 1, none⟩ = some (.int .u8 0) := (hk4 _ _ lR).trans z1; have fz4 : ∀ j, w4.frozen? ⟨w.heap.size + 1, j, none⟩ = false := (fun j => frozen_of_row w4 _ j _ _ (((unhide HB4).block _ lR).trans (unhide HR3))); have hs4 : ∀ b o y0 y1, b < w3.heap.size → ¬ b = w.heap.size + 1 → ((w4.setCell ⟨w.heap.size + 1, 0, none⟩ y0).setCell ⟨w.heap.size + 1, 1, none⟩ y1).cell? ⟨b, o, none⟩ = w3.cell? ⟨b, o, none⟩ := (fun b o y0 y1 hlt hne => (World.cell?_of_block (a := ⟨b, o, none⟩) ((heap_setCell_other _ ⟨w.heap.size + 1, 1, none⟩ b _ hne).trans (heap_setCell_other _ ⟨w.heap.size + 1, 0, none⟩ b _ hne))).trans (hk4 b o hlt)); clear hb4)
            | fail)
        clear hk4 hs4
        go_wp2
        have hr4 := ((unhide HB4).block _ lR).trans (unhide HR3)
        have hT4 := fun N hN => ((unhide HTP N hN).below (unhide HB4)).set2 hr4 (fun z h => by cases h) (.slice pa L pc) (.int .u8 x.g) (fun _ pa' pc' e => by
          simp at e
          exact unhide HNe pa' e.1)
        obtain ⟨q0, q1, q2⟩ := Gm.fin2 hr4 (Below.on0 (unhide HB3) (unhide HB4) (unhide HB3).size) (by omega) (.slice pa L pc) (.int .u8 x.g)
        refine bodyPost_ret (v := .tuple #[.agg #[.slice pa L pc, .int .u8 x.g], .bool b]) (by simp [results, Tryz.results137, go_sem, q0, q1]) rfl ⟨SgA.of (unhide HPb) hT4, q2⟩
    · have o4' : (x.o == 4) = false := by simpa using o4
      by_cases o5 : x.o = 5
      · have hpx : plainX x op n3 n al = decide (0 < n3) := by unfold plainX; rw [if_neg o1, if_neg o4, if_pos o5]
        have HPX := hide hpx
        rw [o5]
        clear hpx o1 o4 o5 o1' o4'
        obtain ⟨b, hb⟩ : ∃ b, decide (0 < n3) = b := ⟨_, rfl⟩
        have HFb := hide (unhide HFin b ((unhide HPX).trans hb))
        have hb' : decide ((n3 : Int) > 0) = b := by rw [← hb]; simp
        go_wp2_with fail
        go_region
        go_wp2
        obtain ⟨q0d, q1d⟩ := unhide HQd
        rw [unhide HX]
        refine bodyPost_ret (v := .tuple #[.agg #[.slice pa L pc, .int .u8 x.g], .bool b]) (by simp [results, Tryz.results137, go_sem, q0d, q1d]) rfl ⟨(unhide HFb).1, Below.on0 (unhide HFb).2 (drew_b X) (unhide HFb).2.size⟩
      · have o5' : (x.o == 5) = false := by simpa using o5
        have hpx : plainX x op n3 n al = true := by unfold plainX; rw [if_neg o1, if_neg o4, if_neg o5]
        have HFb := hide (unhide HFin true hpx)
        clear hpx o1 o4 o5
        go_wp2
        obtain ⟨q0d, q1d⟩ := unhide HQ
        rw [unhide HX]
        refine bodyPost_ret (v := .tuple #[.agg #[.slice pa L pc, .int .u8 x.g], .bool true]) (by simp [results, Tryz.results137, go_sem, q0d, q1d]) rfl ⟨(unhide HFb).1, (unhide HFb).2⟩
end Vw
end Go.Proofs.YtcpknafaocdjdaaGreatDoor

/- slices.Grow and slices.Concat of kinds. -/
namespace Go.Proofs.YtcpknafaocdjdaaGreatDoor
open Go.RowKit Go.Shelf
namespace Vw
set_option linter.unusedVariables false
set_option linter.unusedSimpArgs false
open Ex (Ins Lies Lab)
open Gm (Mod Typ Byts)
/-- append(own, kinds...) -/
theorem wpList_append_kr {ops : Array Oper} {rest : List Oper} {o : Oper} {a : Act} {Q : Exit → Act → World → Prop} (w : World) (hgd : o.guard = none) (s x : Operand)
    (ho : o.op = .call { callee := .builtin .append, args := #[s, x], argTypes := #[64, 64] })
    (B : Nat) (v : Value) (n : Nat) (xs : List Int) (hs : a.eval s = v) (hown : w.ownsRow B 60 1 v n (kr xs))
    (ao : Option Addr) (c : Nat) (zs : List Int) (g : Nat → Prop) (hx : a.eval x = .slice ao zs.length c) (hrow : Lies g zs.length (Byts w zs) (.slice ao zs.length c)) (hb : n + zs.length ≤ 10000000) (hB : B ≤ w.heap.size)
    (h : ∀ v' w', w'.ownsRow B 60 1 v' (n + zs.length) (kr (xs ++ zs)) → Below B w w' → wpList Tryz.prog ops Q rest (a.put o.dst v') w') : wpList Tryz.prog ops Q (o :: rest) a w := by
  obtain ⟨i0, hi, hz0, hz1, hz2⟩ := info_parts infoK
  by_cases h0 : zs.length = 0
  · have hzs := List.eq_nil_of_length_eq_zero h0
    subst hzs
    obtain ⟨a', c', e, hc', hn', _⟩ := hrow
    cases e
    cases ao with
    | none =>
      have hc0 := hn' rfl
      subst hc0
      refine wpList_append_own_none hgd s x 64 ho B 60 i0 1 Tryz.underlying64 hi v n (kr xs) hs hown hx ?_
      exact h v w (by simpa using hown) (Below.refl _ _)
    | some ad =>
      refine wpList_append_own w hgd s x 64 ho B 60 i0 (.int .u8 0) 1 1 Tryz.underlying64 hi hz0 hz1 hz2 rfl (by decide) v n (kr xs) hs hown ad 0 c [] hx rfl (by simp) (by simp) (by unfold maxLen; omega) (by omega) hB ?_
      intro v' w' hown' hgrow _
      exact h v' w' (by simpa using hown') ((Below.refl B w).grown hgrow hB (fun k hk => (hown.lt k hk).1))
  · obtain ⟨b, off, rfl, _, hp⟩ := Lies.at0 hrow (by omega)
    refine wpList_append_own w hgd s x 64 ho B 60 i0 (.int .u8 0) 1 1 Tryz.underlying64 hi hz0 hz1 hz2 rfl (by decide) v n (kr xs) hs hown ⟨b, off, none⟩ zs.length c (kr zs) hx (by rw [kr_len]; omega) ?_ (ints_oneCell _ _) (by unfold maxLen; omega) (by omega) hB ?_
    · intro j u hj
      unfold kr at hj
      rw [List.getElem?_map, Option.map_eq_some_iff] at hj
      obtain ⟨z, hz, rfl⟩ := hj
      have hj2 : j < zs.length := (List.getElem?_eq_some_iff.1 hz).1
      rw [addr_add, hp j hj2]; simp [List.getD, hz]
    · intro v' w' hown' hgrow _
      exact h v' w' (by rw [kr_app]; exact hown') ((Below.refl B w).grown hgrow hB (fun k hk => (hown.lt k hk).1))

set_option maxRecDepth 100000 in
set_option maxHeartbeats 1600000 in
theorem growK_any (n : Nat) (hn : n ≤ 4194304) (w : World) :
    Calls Tryz.prog 93 #[.slice none 0 0, .int .i64 n] w fun e w' => (∃ v, e = .returned v ∧ w'.ownsRow w.heap.size 60 1 v 0 (kr [])) ∧ Below w.heap.size w w' := by
  by_cases h0 : n = 0
  · subst h0
    go_enter Tryz.func93, Tryz.ntmps93
    go_wp2
    go_ret
    exact ⟨⟨_, rfl, World.ownsRow_nil _ _ _ _⟩, Below.refl _ _⟩
  · obtain ⟨i0, hi, hz0, hz1, hz2⟩ := info_parts infoK
    have hr := Lib.run_append_nil_zeros (P := Tryz.prog) w 64 3 64 60 i0 (.int .u8 0) .i64 .i64 Tryz.underlying64 Tryz.underlying3 hi hz0 n (by omega) (by rw [hz1]; omega) (by omega) (by rw [hz2]; omega)
    have hge := grownCap_ge w n 0 60
    have hcm := grownCap_le_maxLen w n 0 60 (by unfold maxLen; omega)
    have h1 : (n : Int) > 0 := by omega
    have h2 : (n : Int) ≤ 4194304 := by omega
    have HR := hide hr; have HG := hide hge; have HC := hide hcm
    clear hr hge hcm h0 hn
    obtain ⟨gc, hgc⟩ : ∃ gc, grownCap w n 0 60 = gc := ⟨_, rfl⟩
    rw [hgc] at HR HG HC
    clear hgc
    go_enter Tryz.func93, Tryz.ntmps93
    go_wp2_with (at_builtin; refine Lib.wpList_append_run _ rfl (.tmp 20) (.tmp 21) 64 3 rfl _ _ rfl rfl _ _ (unhide HR) ?_)
    have hgg : (n : Int) ≤ gc := by have := unhide HG; omega
    go_wp2
    go_ret
    have hsz : (Builtin.zeroCells (Value.int IntKind.u8 0).cells n ++ Builtin.zeroCells (Value.int IntKind.u8 0).cells (gc - n)).size = gc * 1 := by
      have := unhide HG
      simp [Builtin.zeroCells, Value.cells]; omega
    exact ⟨⟨_, rfl, World.ownsRow_made w.drew _ gc (Nat.le_refl _) (unhide HC) hsz⟩, (drew_b w).alloc (Nat.le_refl _) _⟩

set_option maxRecDepth 100000 in
set_option maxHeartbeats 1600000 in
theorem concat_any {w : World} {B : Nat} {a1 a2 : Option Addr} {c1 c2 : Nat} {z1 z2 : List Int} {g : Nat → Prop} (k0 : w.cell? ⟨B, 0, none⟩ = some (.slice a1 z1.length c1)) (k1 : w.cell? ⟨B, 1, none⟩ = some (.slice a2 z2.length c2))
    (h1 : Lies g z1.length (Byts w z1) (.slice a1 z1.length c1)) (h2 : Lies g z2.length (Byts w z2) (.slice a2 z2.length c2)) (l1 : z1.length ≤ 1048577) (l2 : z2.length ≤ 1048577) :
    Calls Tryz.prog 57 #[.slice (some ⟨B, 0, none⟩) 2 2] w fun e w' => (∃ v, e = .returned v ∧ w'.ownsRow w.heap.size 60 1 v (z1 ++ z2).length (kr (z1 ++ z2))) ∧ Below w.heap.size w w' := by
  have hB : B < w.heap.size := World.block_lt_of_cell? w _ k0
  have hg := growK_any (z1.length + z2.length) (by omega) w
  have mv : ∀ (W : World) (z : List Int) (a : Option Addr) (c : Nat), Below w.heap.size w W → Lies g z.length (Byts w z) (.slice a z.length c) → Lies (fun _ => True) z.length (Byts W z) (.slice a z.length c) := fun W z a c hW hL =>
    Ex.Lies.move hL fun hl b o hgd hp => ⟨trivial, fun j hj => (hW.cell (p := ⟨b, o + j, none⟩) (World.block_lt_of_cell? w _ (hp j hj))).trans (hp j hj)⟩
  have H1 := hide h1; have H2 := hide h2; have HMv := hide mv; have HG := hide hg
  have m1 : (z1.length : Int) ≤ 1048577 := by omega
  have m2 : (z2.length : Int) ≤ 1048577 := by omega
  have L1 := hide l1; have L2 := hide l2
  clear h1 h2 mv hg l1 l2
  go_enter Tryz.func57, Tryz.ntmps57
  go_wp2
  refine wp_loop_rounds 3 ?_
  rw [rounds_succ]
  go_wp2
  rw [rounds_succ]
  go_wp2
  rw [rounds_succ]
  go_wp2_with fail
  refine (unhide HG).mono ?_
  rintro e w1 ⟨⟨v, rfl, hown⟩, hb1⟩
  have k0' := (hb1.cell (p := ⟨B, 0, none⟩) hB).trans k0
  have HB1 := hide hb1; have HO1 := hide hown
  clear hb1 hown HG k0
  go_wp2
  refine wp_loop_rounds 3 ?_
  rw [rounds_succ]
  go_wp2_with (at_builtin; refine wpList_append_kr _ rfl (.tmp 31) (.tmp 32) rfl w.heap.size v 0 [] rfl (unhide HO1) a1 c1 z1 (fun _ => True) rfl (unhide HMv _ _ _ _ (unhide HB1) (unhide H1)) ?b1 (unhide HB1).size ?n1)
  case b1 => have := unhide L1; omega
  intro v2 w2 hown2 hb2
  have hb2' := (unhide HB1).trans hb2
  have k1' := (hb2'.cell (p := ⟨B, 1, none⟩) hB).trans k1
  have HB2 := hide hb2'
  have HO2 : Hid (w2.ownsRow w.heap.size 60 1 v2 z1.length (kr z1)) := hide hown2
  clear hb2 hb2' hown2 HB1 HO1 k0' k1
  go_wp2
  rw [rounds_succ]
  go_wp2_with (at_builtin; refine wpList_append_kr _ rfl (.tmp 31) (.tmp 32) rfl w.heap.size v2 z1.length z1 rfl (unhide HO2) a2 c2 z2 (fun _ => True) rfl (unhide HMv _ _ _ _ (unhide HB2) (unhide H2)) ?b2 (unhide HB2).size ?n2)
  case b2 => have := unhide L1; have := unhide L2; omega
  intro v3 w3 hown3 hb3
  have HB3 := hide ((unhide HB2).trans hb3); have HO3 := hide hown3
  clear hb3 hown3 HB2 HO2 k1'
  go_wp2
  rw [rounds_succ]
  go_wp2
  go_ret
  exact ⟨⟨_, rfl, by rw [List.length_append]; exact unhide HO3⟩, unhide HB3⟩
end Vw
end Go.Proofs.YtcpknafaocdjdaaGreatDoor
