/- WB: what follows, part by part: each part tells what it holds. -/
import Derived.Test.YtcpknafaocdjdaaGreatDoorOpG
import Derived.BigQuiet
import Derived.Lib.Strings
import Derived.Test.YtcpknafaocdjdaaGreatDoorWA
import Derived.Maps.AppendAt
import Derived.Deep.QuietTactic
import Derived.BigRegion
import Derived.Deep.Cut

/- strings.HasSuffix with "_s"; ops.Bytes. -/
namespace Go.Proofs.YtcpknafaocdjdaaGreatDoor
open Go.RowKit
set_option linter.unusedVariables false

/-- does a text end with "_s"? -/
def sfx (l : List UInt8) : Bool := decide (2 ≤ l.length) && (l.drop (l.length - 2) == [95, 115])
theorem str_size (l : List UInt8) : (str l).size = l.length := rfl

theorem str_extract (l : List UInt8) (a b : Nat) : (str l).extract a b = str ((l.drop a).take (b - a)) := by
  have h := Lib.extract_data (str l) a b
  apply Go.WideShapes.bytes_inj
  rw [h]; rfl

set_option maxRecDepth 100000 in
set_option maxHeartbeats 1600000 in
theorem suffix_in (l : List UInt8) (w : World) (hl : l.length < 1000) :
    Calls Tryz.prog 151 #[.string (str l), .string ⟨#[95, 115]⟩] w fun e w' => e = .returned (.bool (sfx l)) ∧ w = w' := by
  have hz := str_size l
  generalize hs : str l = s at *
  have HS := hide hs; clear hs
  by_cases h2 : 2 ≤ l.length
  · have h3 : 2 ≤ s.size := by omega
    have h4 : s.size < 1000 := by omega
    have HZ := hide hz; clear hz hl h2
    go_enter Tryz.func151, Tryz.ntmps151
    go_wp2
    go_ret
    refine ⟨ret_bool ?_, rfl⟩
    rw [← unhide HS, str_extract, str_toList]
    unfold sfx
    have hz := unhide HZ
    rw [← unhide HS, str_size] at *
    rw [List.take_of_length_le (by simp)]
    simp [show 2 ≤ l.length by omega]
  · have h3 : ¬ (2 : Int) ≤ s.size := by omega
    have e : sfx l = false := by unfold sfx; simp [h2]
    rw [e]
    clear hz hl h2
    go_enter Tryz.func151, Tryz.ntmps151
    go_wp2
    go_ret
    exact ⟨rfl, rfl⟩
theorem suffix_any (l : List UInt8) (w : World) (hl : l.length < 1000) :
    Calls Tryz.prog 147 #[.string (str l), .string ⟨#[95, 115]⟩] w fun e w' => e = .returned (.bool (sfx l)) ∧ w = w' := by
  have hc := suffix_in l w hl
  have HC := hide hc; clear hc
  generalize str l = s at *
  go_enter Tryz.func147, Tryz.ntmps147
  go_wp2_with fail
  refine (unhide HC).mono ?_
  rintro e w1 ⟨rfl, rfl⟩
  go_wp2
  go_ret
  exact ⟨rfl, rfl⟩

def abV : List Value := abs'.map (Value.int .u8)
/-- how many bytes a number's access has; 0: it is none -/
def ab (n : Nat) : Int := abs'.getD n 0
theorem ab_bd : ∀ n, 0 ≤ ab n ∧ ab n ≤ 255 := by
  intro n
  have : ∀ z ∈ abs', 0 ≤ z ∧ z ≤ 255 := by decide
  by_cases h : n < abs'.length
  · have e : ab n = abs'[n] := by unfold ab; simp [List.getD, h]
    rw [e]; exact this _ (List.getElem_mem h)
  · have e : ab n = 0 := by unfold ab; simp [List.getD, h]
    omega
theorem ab_at {w : World} (hT : TC w 2 abV) (n : Nat) (hn : n < 63) : w.cell? ⟨2, n, none⟩ = some (.int .u8 (ab n)) := by
  obtain ⟨_, t, fr, hr⟩ := hT
  rw [cell_of_row w _ n _ _ _ hr]
  have hl : n < abs'.length := hn
  simp [abV, ab, List.getD, hl]
set_option maxRecDepth 100000 in
theorem nm_len : ∀ n, n < 256 → (nm n).length < 1000 := by decide

theorem Nms.of_heap {w w' : World} (h : Nms w) (e : w'.heap = w.heap) : Nms w' := by
  have hc : ∀ a, w'.cell? a = w.cell? a := fun a => by unfold World.cell?; rw [e]
  exact ⟨fun j s hj => (hc _).trans (h.1 j s hj), fun j s hj => (hc _).trans (h.2.1 j s hj), fun j s hj => (hc _).trans (h.2.2 j s hj)⟩
theorem drewN_heap (w : World) : ∀ k, (w.drewN k).heap = w.heap := fun k => by
  induction k with
  | zero => rfl
  | succ k ih => exact ih
set_option maxRecDepth 100000 in
set_option maxHeartbeats 1600000 in
theorem bytes_no (n : Nat) (hn : n < 256) (w : World) (hT : TC w 2 abV) (h0 : ab n = 0) :
    Calls Tryz.prog 145 #[.int .u8 n] w fun e w' => e = .returned (.tuple #[.int .i64 0, .bool false, errV 1]) ∧ w = w' := by
  rw [errV_1]
  by_cases h : n < 63
  · have hc := ab_at hT n h
    rw [h0] at hc
    clear hT h0
    go_enter Tryz.func145, Tryz.ntmps145
    go_wp2
    go_ret3
    exact ⟨rfl, rfl⟩
  · clear hT h0
    go_enter Tryz.func145, Tryz.ntmps145
    go_wp2
    go_ret3
    exact ⟨rfl, rfl⟩
set_option maxRecDepth 100000 in
set_option maxHeartbeats 1600000 in
theorem bytes_yes (n : Nat) (hn : n < 63) (w : World) (hT : TC w 2 abV) (hN : Nms w) (h0 : ab n ≠ 0) :
    Calls Tryz.prog 145 #[.int .u8 n] w fun e w' => e = .returned (.tuple #[.int .i64 (ab n), .bool (sfx (nm n)), errV 0]) ∧ ∃ k, w' = w.drewN k := by
  rw [errV_0]
  have hc := ab_at hT n hn
  have hnm := fun wx (h : Nms wx) => (name_any n (by omega) wx h).mono (fun _ _ q => And.intro q.1 q.2.symm)
  have hsf := fun wx => (suffix_any (nm n) wx (nm_len n (by omega))).mono (fun _ _ q => And.intro q.1 q.2.symm)
  generalize nm n = l at *
  have t : (ab n == 0) = false := by simpa using h0
  have hb := ab_bd n
  generalize ab n = a at *
  obtain ⟨b0, b1⟩ := hb
  have HN := hide hnm; have HF := hide hsf; have HW := hide hN
  clear hT h0 hnm hsf hN
  go_enter Tryz.func145, Tryz.ntmps145
  go_wp2_with fail
  go_quiet (first | (go_at_call 148; refine Calls.quiet_of_same (unhide HN _ ?_); exact (unhide HW).of_heap (drewN_heap w _)) | (go_at_call 147; exact Calls.quiet_of_same (unhide HF _)))
  go_wp2
  go_ret3
  exact ⟨rfl, _, rfl⟩
end Go.Proofs.YtcpknafaocdjdaaGreatDoor

/- valid: going over a body, as plain mathematics. -/
namespace Go.Proofs.YtcpknafaocdjdaaGreatDoor
open Go.RowKit
namespace Vw
set_option linter.unusedVariables false
open Ex (Ins)
open Gm (Mod Typ)

/-- what the walk has: labels, stack, how many are beneath, behind, within, the most -/
structure St where
  la : List Int
  st : List Int
  ben : Nat
  beh : Bool
  wit : Bool
  most : Nat

/-- takeAny: the kind, whether, the state -/
def tkA (s : St) : Int × Bool × St :=
  if s.st.length ≤ s.ben then (1, s.beh, s) else (s.st.getLastD 0, true, { s with st := s.st.dropLast })
def tk (s : St) (k : Int) : Option St :=
  if k = 0 then some s else if (tkA s).2.1 = true ∧ ((tkA s).1 = k ∨ (tkA s).1 = 1) then some (tkA s).2.2 else none
def ly (s : St) (k : Int) : St :=
  if k = 0 then s else { s with st := s.st ++ [k], most := if s.beh || s.wit then s.most else max s.most (s.st.length + 1) }
def drp (s : St) : Option St := if (tkA s).2.1 = true then some (tkA s).2.2 else none
def sel2 (b : Int) (s : St) : Option St :=
  if (tkA s).2.1 = true ∧ ((tkA s).1 = b ∨ (tkA s).1 = 1) then some (ly (tkA s).2.2 b) else none
def sel (s : St) : Option St := (tk s 127).bind fun s1 => sel2 (tkA s1).1 (tkA s1).2.2
/-- all of a list, the first one first -/
def tks : List Int → St → Option St
  | [], s => some s
  | k :: r, s => (tk s k).bind (tks r)
def app (t : Typ) (s : St) : Option St := (tks t.ps.reverse s).map fun s => ly s t.re
def lbl (la : List Int) (n : Int) : Option Int := if n < 0 then none else if n < la.length then some (la.getD (la.length - 1 - n.toNat) 0) else none
def comm (la : List Int) (ls : List Int) : Option Int :=
  if ls = [] then none else (lbl la (ls.getLastD 0)).bind fun k => if ls.all (fun n => decide (lbl la n = some k)) then some k else none
def isR (k : Int) : Bool := k == 0 || k == 127 || k == 126
def goes (op : Int) : Bool := op == 0 || op == 12 || op == 14 || op == 15
/-- the bits of a number of bytes -/
def len2 (n : Int) : Int := if n = 1 then 1 else if n = 2 then 2 else if n = 4 then 3 else 4
def plain (M : Mod) (i : Ins) : Option Typ :=
  match fam i.op with
  | none => none
  | some x => if i.op ≤ 36 then none else
    if x.o = 1 then (if -2147483648 ≤ i.n ∧ i.n ≤ 2147483647 then some ⟨pk x.x x.y 2, x.g⟩ else none)
    else if x.o = 4 then (if 0 < M.mems.length ∧ ab i.op.toNat ≠ 0 ∧ i.al < len2 (ab i.op.toNat) then some ⟨pk x.x x.y 2, x.g⟩ else none)
    else if x.o = 5 then (if 0 < M.mems.length then some ⟨pk x.x x.y 2, x.g⟩ else none)
    else some ⟨pk x.x x.y 2, x.g⟩
def at? {α : Type} (l : List α) (n : Int) : Option α := if n < 0 then none else l[n.toNat]?
def sig (M : Mod) (lo la : List Int) (i : Ins) : Option Typ :=
  if i.op = 0 ∨ i.op = 1 then some ⟨[], 0⟩
  else if i.op = 15 then some ⟨[la.getD 0 0], 0⟩
  else if i.op = 12 then (lbl la i.n).map fun k => ⟨[k], 0⟩
  else if i.op = 13 then (lbl la i.n).map fun k => ⟨[k, 127], k⟩
  else if i.op = 14 then (comm la i.ls).map fun k => ⟨[k, 127], 0⟩
  else if i.op = 16 then Gm.ty? M i.n
  else if i.op = 17 then (if 0 < M.tables.length then (at? M.types i.n).map fun t => ⟨t.ps ++ [127], t.re⟩ else none)
  else if i.op = 32 then (at? lo i.n).map fun k => ⟨[], k⟩
  else if i.op = 33 then (at? lo i.n).map fun k => ⟨[k], 0⟩
  else if i.op = 34 then (at? lo i.n).map fun k => ⟨[k], k⟩
  else if i.op = 35 then (at? M.globs i.n).map fun g => ⟨[], g.kd⟩
  else if i.op = 36 then (at? M.globs i.n).bind fun g => if g.mu then some ⟨[g.kd], 0⟩ else none
  else plain M i
/-- an instruction that opens no block -/
def flat (M : Mod) (lo : List Int) (i : Ins) (s : St) : Option St :=
  (sig M lo s.la i).bind fun t => (app t s).map fun s => if goes i.op then { s with beh := true, st := s.st.take s.ben } else s
/-- a list with a label of its own: what stands ahead, what stands behind -/
def opn (s : St) (label : Int) : St := { s with la := s.la ++ [label], ben := s.st.length, beh := false, wit := s.beh || s.wit }
def cls (o : St) (result : Int) (s : St) : Option St :=
  (tk s result).bind fun s => if s.ben < s.st.length then none else some { s with la := s.la.dropLast, ben := o.ben, beh := o.beh, wit := o.wit }
def blk (f : St → Option St) (label result : Int) (s : St) : Option St := (f (opn s label)).bind (cls s result)
/-- instructions, one after another -/
def ins (M : Mod) (lo : List Int) : List Ins → St → Option St
  | [], s => some s
  | ⟨op, n, al, of, re, b, e, ls⟩ :: r, s =>
    (if op = 26 then drp s
     else if op = 27 then sel s
     else if op = 2 then (if isR re then (blk (fun s => ins M lo b s) re re s).map fun s => ly s re else none)
     else if op = 3 then (if isR re then (blk (fun s => ins M lo b s) 0 re s).map fun s => ly s re else none)
     else if op = 4 then (tk s 127).bind fun s => (if isR re then (blk (fun s => ins M lo b s) re re s).bind fun s => (blk (fun s => ins M lo e s) re re s).map fun s => ly s re else none)
     else flat M lo ⟨op, n, al, of, re, b, e, ls⟩ s).bind fun s => ins M lo r s
/-- one instruction -/
def ins1 (M : Mod) (lo : List Int) (i : Ins) (s : St) : Option St :=
  if i.op = 26 then drp s
  else if i.op = 27 then sel s
  else if i.op = 2 then (if isR i.re then (blk (fun s => ins M lo i.body s) i.re i.re s).map fun s => ly s i.re else none)
  else if i.op = 3 then (if isR i.re then (blk (fun s => ins M lo i.body s) 0 i.re s).map fun s => ly s i.re else none)
  else if i.op = 4 then (tk s 127).bind fun s => (if isR i.re then (blk (fun s => ins M lo i.body s) i.re i.re s).bind fun s => (blk (fun s => ins M lo i.els s) i.re i.re s).map fun s => ly s i.re else none)
  else flat M lo i s
theorem ins_nil (M : Mod) (lo : List Int) (s : St) : ins M lo [] s = some s := by rw [ins]
theorem ins_cons (M : Mod) (lo : List Int) (i : Ins) (r : List Ins) (s : St) : ins M lo (i :: r) s = (ins1 M lo i s).bind fun s => ins M lo r s := by
  obtain ⟨op, n, al, of, re, b, e, ls⟩ := i
  rw [ins]; rfl
/-- a body -/
def over (M : Mod) (f : Nat) : Option Nat :=
  match M.funcs[f]? with
  | none => none
  | some fn => match M.types[fn.ty.toNat]? with
    | none => none
    | some t => (blk (fun s => ins M (t.ps ++ fn.ls) fn.body s) t.re t.re ⟨[], [], 0, false, false, 0⟩).map fun s => s.most
end Vw
end Go.Proofs.YtcpknafaocdjdaaGreatDoor

/- valid: the walk's box in memory; what its steps leave. -/
namespace Go.Proofs.YtcpknafaocdjdaaGreatDoor
open Go.RowKit
namespace Vw
set_option linter.unusedVariables false
set_option linter.unusedSimpArgs false
open Ex (Ins Lies)
open Gm (Mod Typ Byts)

structure M8 where
  v0 : Value
  v1 : Value
  v2 : Value
  v3 : Value
  v4 : Value
  v5 : Value
  v6 : Value
  v7 : Value
def kr (l : List Int) : List Value := l.map (Value.int .u8)
/-- the walk's box -/
def Bx (w : World) (N : Nat) (m : M8) (vl va vt : Value) (s : St) : Prop :=
  w.heap[N]? = some (.cells #[m.v0, m.v1, m.v2, m.v3, m.v4, m.v5, m.v6, m.v7, vl, va, vt, .int .i64 (s.ben : Int), .bool s.beh, .bool s.wit, .int .i64 (s.most : Int)] 138 (0, 0))
structure Wk (w : World) (N : Nat) (m : M8) (vl : Value) (lo : List Int) (va vt : Value) (s : St) : Prop where
  box : Bx w N m vl va vt s
  la : w.ownsRow N 60 1 va s.la.length (kr s.la)
  st : w.ownsRow N 60 1 vt s.st.length (kr s.st)
  ap : ∀ k, va.ownBlock = some k → vt.ownBlock = some k → False
  lo : Lies (fun b => b < w.heap.size ∧ b ≠ N ∧ va.ownBlock ≠ some b ∧ vt.ownBlock ≠ some b) lo.length (Byts w lo) vl
  hb : s.ben ≤ s.st.length
def Wx (w : World) (N : Nat) (m : M8) (vl : Value) (lo : List Int) (s : St) : Prop := ∃ va vt, Wk w N m vl lo va vt s
/-- all but the box stays -/
structure Fb (N : Nat) (w w' : World) : Prop where
  lo : Below N w w'
  hi : ∀ k, k < w.heap.size → k ≠ N → w'.heap[k]? = w.heap[k]?
  sz : ∀ c t, w.heap[N]? = some (.cells c t (0, 0)) → ∃ c', w'.heap[N]? = some (.cells c' t (0, 0)) ∧ c'.size = c.size
/-- all but the box and rows of kinds stays -/
structure Fw (N : Nat) (w w' : World) : Prop where
  lo : Below N w w'
  hi : ∀ k, k < w.heap.size → k ≠ N → (∀ c fr, w.heap[k]? ≠ some (.cells c 60 fr)) → w'.heap[k]? = w.heap[k]?
  sz : ∀ c t, w.heap[N]? = some (.cells c t (0, 0)) → ∃ c', w'.heap[N]? = some (.cells c' t (0, 0)) ∧ c'.size = c.size
theorem Fb.fw {N : Nat} {w w' : World} (h : Fb N w w') : Fw N w w' := ⟨h.lo, fun k hk hn _ => h.hi k hk hn, h.sz⟩
theorem Fb.refl (N : Nat) (w : World) : Fb N w w := ⟨Below.refl _ _, fun _ _ _ => rfl, fun c t h => ⟨c, h, rfl⟩⟩
theorem Fb.on {N : Nat} {w w1 w2 : World} (h : Fb N w w1) (h2 : Fb N w1 w2) : Fb N w w2 := ⟨h.lo.trans h2.lo, fun k hk hne => (h2.hi k (Nat.lt_of_lt_of_le hk h.lo.size) hne).trans (h.hi k hk hne), fun c t e => let ⟨c1, e1, s1⟩ := h.sz c t e; let ⟨c2, e2, s2⟩ := h2.sz c1 t e1; ⟨c2, e2, s2.trans s1⟩⟩
theorem Fw.on {N : Nat} {w w1 w2 : World} (h : Fw N w w1) (h2 : Fw N w1 w2) : Fw N w w2 := ⟨h.lo.trans h2.lo, fun k hk hne hu => by
  have e := h.hi k hk hne hu
  exact (h2.hi k (Nat.lt_of_lt_of_le hk h.lo.size) hne (fun c fr => by rw [e]; exact hu c fr)).trans e, fun c t e => let ⟨c1, e1, s1⟩ := h.sz c t e; let ⟨c2, e2, s2⟩ := h2.sz c1 t e1; ⟨c2, e2, s2.trans s1⟩⟩
theorem Fb.of {N : Nat} {w w1 : World} (h : Below w.heap.size w w1) (hN : N ≤ w.heap.size) : Fb N w w1 := ⟨h.mono hN, fun k hk _ => h.block k hk, fun c t e => ⟨c, (h.block N (Array.getElem?_eq_some_iff.1 e).1).trans e, rfl⟩⟩
theorem Fw.of {N : Nat} {w w1 : World} (h : Below w.heap.size w w1) (hN : N ≤ w.heap.size) : Fw N w w1 := (Fb.of h hN).fw
theorem Fb.set {N : Nat} {w : World} (j : Nat) (v : Value) : Fb N w (w.setCell ⟨N, j, none⟩ v) :=
  ⟨(Below.refl _ _).setCell (p := ⟨N, j, none⟩) (Nat.le_refl _) _, fun k hk hne => heap_setCell_other w ⟨N, j, none⟩ k v hne, fun c t e => ⟨_, heap_setCell_same w N j _ _ v e, by simp⟩⟩
theorem Bx.lt {w : World} {N : Nat} {m : M8} {vl va vt : Value} {s : St} (h : Bx w N m vl va vt s) : N < w.heap.size := (Array.getElem?_eq_some_iff.1 h).1
theorem Wk.lt {w : World} {N : Nat} {m : M8} {vl va vt : Value} {lo : List Int} {s : St} (h : Wk w N m vl lo va vt s) : N < w.heap.size := h.box.lt
theorem Bx.cells {w : World} {N : Nat} {m : M8} {vl va vt : Value} {s : St} (h : Bx w N m vl va vt s) :
    w.cell? ⟨N, 8, none⟩ = some vl ∧ w.cell? ⟨N, 9, none⟩ = some va ∧ w.cell? ⟨N, 10, none⟩ = some vt ∧ w.cell? ⟨N, 11, none⟩ = some (.int .i64 (s.ben : Int)) ∧ w.cell? ⟨N, 12, none⟩ = some (.bool s.beh) ∧ w.cell? ⟨N, 13, none⟩ = some (.bool s.wit) ∧ w.cell? ⟨N, 14, none⟩ = some (.int .i64 (s.most : Int)) := by
  unfold Bx at h
  refine ⟨?_, ?_, ?_, ?_, ?_, ?_, ?_⟩ <;> (rw [cell_of_row w N _ _ _ _ h]; rfl)
theorem Bx.fr {w : World} {N : Nat} {m : M8} {vl va vt : Value} {s : St} (h : Bx w N m vl va vt s) (j : Nat) : w.frozen? ⟨N, j, none⟩ = false := frozen_of_row w _ j _ _ h
theorem Bx.mods {w : World} {N : Nat} {m : M8} {vl va vt : Value} {s : St} (h : Bx w N m vl va vt s) :
    w.cell? ⟨N, 0, none⟩ = some m.v0 ∧ w.cell? ⟨N, 1, none⟩ = some m.v1 ∧ w.cell? ⟨N, 2, none⟩ = some m.v2 ∧ w.cell? ⟨N, 3, none⟩ = some m.v3 ∧ w.cell? ⟨N, 4, none⟩ = some m.v4 ∧ w.cell? ⟨N, 5, none⟩ = some m.v5 ∧ w.cell? ⟨N, 6, none⟩ = some m.v6 ∧ w.cell? ⟨N, 7, none⟩ = some m.v7 := by
  unfold Bx at h
  refine ⟨?_, ?_, ?_, ?_, ?_, ?_, ?_, ?_⟩ <;> (rw [cell_of_row w N _ _ _ _ h]; rfl)

theorem own_keep {w w' : World} {B e size n : Nat} {v : Value} {xs : List Value} (h : w.ownsRow B e size v n xs) (hk : ∀ k, v.ownBlock = some k → w'.heap[k]? = w.heap[k]?) : w'.ownsRow B e size v n xs := by
  refine ⟨h.1, ?_⟩
  rcases h.2 with hn | ⟨g, cap, cur, e1, e2, e3, e4⟩
  · exact .inl hn
  · exact .inr ⟨g, cap, cur, e1, e2, (hk g (by rw [e1]; rfl)).trans e3, e4⟩
theorem own_ne {w : World} {N : Nat} {m : M8} {vl va vt : Value} {s : St} (hx : Bx w N m vl va vt s) {v : Value} {n : Nat} {xs : List Value} (h : w.ownsRow N 60 1 v n xs) : ∀ k, v.ownBlock = some k → k ≠ N ∧ k < w.heap.size := by
  intro k hk
  refine ⟨?_, (h.lt k hk).2⟩
  rintro rfl
  rcases h.2 with ⟨rfl, _⟩ | ⟨g, cap, cur, rfl, _, e3, _⟩
  · cases hk
  · cases hk; have := hx.symm.trans e3; simp at this
theorem own_cut {w : World} {B e n : Nat} {a : Option Addr} {c : Nat} {xs : List Value} (h : w.ownsRow B e 1 (.slice a n c) n xs) {k : Nat} (hk : k ≤ n) : w.ownsRow B e 1 (.slice a k c) k (xs.take k) := by
  have hl := h.1
  refine ⟨by simp; omega, ?_⟩
  rcases h.2 with ⟨e1, e2⟩ | ⟨g, cap, cur, e1, e2, e3, e4, e5, e6, e7⟩
  · cases e1; exact .inl ⟨by rw [show k = 0 by omega], by omega⟩
  · cases e1
    refine .inr ⟨g, c, cur, rfl, e2, e3, by omega, e5, e6, ?_⟩
    rw [← e7, List.take_take, Nat.min_eq_left (by omega), Nat.mul_one]
theorem kr_take (l : List Int) (k : Nat) : (kr l).take k = kr (l.take k) := by unfold kr; rw [List.map_take]
theorem kr_len (l : List Int) : (kr l).length = l.length := by unfold kr; simp
theorem kr_app (l r : List Int) : kr (l ++ r) = kr l ++ kr r := by unfold kr; simp

/-- the box alone written: state, and both rows in the blocks where they were -/
theorem Wk.rebox {w w' : World} {N : Nat} {m : M8} {vl va vt : Value} {lo : List Int} {s : St} (h : Wk w N m vl lo va vt s) (hf : Fb N w w') {va' vt' : Value} {s' : St} (hbx : Bx w' N m vl va' vt' s')
    (hla : w.ownsRow N 60 1 va' s'.la.length (kr s'.la)) (hst : w.ownsRow N 60 1 vt' s'.st.length (kr s'.st)) (ea : va'.ownBlock = va.ownBlock) (et : vt'.ownBlock = vt.ownBlock) (hb : s'.ben ≤ s'.st.length) : Wk w' N m vl lo va' vt' s' := by
  refine ⟨hbx, own_keep hla fun k hk => ?_, own_keep hst fun k hk => ?_, fun k h1 h2 => h.ap k (ea ▸ h1) (et ▸ h2), ?_, hb⟩
  · have := own_ne h.box hla k hk; exact hf.hi k this.2 this.1
  · have := own_ne h.box hst k hk; exact hf.hi k this.2 this.1
  · rw [ea, et]
    exact Ex.Lies.move h.lo fun hl b o hg hp => ⟨⟨Nat.lt_of_lt_of_le hg.1 hf.lo.size, hg.2⟩, fun j hj => (World.cell?_of_block (a := ⟨b, o + j, none⟩) (hf.hi b hg.1 hg.2.1)).trans (hp j hj)⟩
/-- what is only read, or made besides, leaves the walk -/
theorem Wk.below {w w' : World} {N : Nat} {m : M8} {vl va vt : Value} {lo : List Int} {s : St} (h : Wk w N m vl lo va vt s) (hb : Below w.heap.size w w') : Wk w' N m vl lo va vt s :=
  h.rebox (Fb.of hb (Nat.le_of_lt h.lt)) ((hb.block N h.lt).trans h.box) h.la h.st rfl rfl h.hb
theorem slice_of {w : World} {B e size n : Nat} {v : Value} {xs : List Value} (h : w.ownsRow B e size v n xs) : ∃ a c, v = .slice a n c ∧ n ≤ c := by
  rcases h.2 with ⟨rfl, rfl⟩ | ⟨g, cap, cur, rfl, _, _, h4, _⟩
  · exact ⟨_, _, rfl, Nat.le_refl _⟩
  · exact ⟨_, _, rfl, h4⟩
/-- the stack cut -/
theorem Wk.cut {w : World} {N : Nat} {m : M8} {vl va : Value} {a : Option Addr} {c n : Nat} {lo : List Int} {s : St} (h : Wk w N m vl lo va (.slice a n c) s) (k : Nat) (hk : k ≤ s.st.length) (hb : s.ben ≤ k) :
    Wk (w.setCell ⟨N, 10, none⟩ (.slice a k c)) N m vl lo va (.slice a k c) { s with st := s.st.take k } := by
  have hst := h.st
  have hn : n = s.st.length := by obtain ⟨a', c', e, _⟩ := slice_of hst; cases e; rfl
  subst hn
  have hc := own_cut hst hk
  rw [kr_take] at hc
  have hl : (s.st.take k).length = k := by simp; omega
  refine h.rebox (Fb.set 10 _) ?_ h.la ?_ rfl ?_ (by rw [hl]; exact hb)
  · exact (heap_setCell_same w N 10 _ _ _ h.box).trans rfl
  · show w.ownsRow N _ 1 _ (s.st.take k).length (kr (s.st.take k)); rw [hl]; exact hc
  · cases a <;> rfl
/-- the labels cut -/
theorem Wk.cutL {w : World} {N : Nat} {m : M8} {vl vt : Value} {a : Option Addr} {c n : Nat} {lo : List Int} {s : St} (h : Wk w N m vl lo (.slice a n c) vt s) (k : Nat) (hk : k ≤ s.la.length) :
    Wk (w.setCell ⟨N, 9, none⟩ (.slice a k c)) N m vl lo (.slice a k c) vt { s with la := s.la.take k } := by
  have hst := h.la
  have hn : n = s.la.length := by obtain ⟨a', c', e, _⟩ := slice_of hst; cases e; rfl
  subst hn
  have hc := own_cut hst hk
  rw [kr_take] at hc
  have hl : (s.la.take k).length = k := by simp; omega
  refine h.rebox (Fb.set 9 _) ?_ ?_ h.st ?_ rfl h.hb
  · exact (heap_setCell_same w N 9 _ _ _ h.box).trans rfl
  · show w.ownsRow N _ 1 _ (s.la.take k).length (kr (s.la.take k)); rw [hl]; exact hc
  · cases a <;> rfl
/-- one more on the stack: the row grown, then the slice stored -/
theorem Wk.push {w w2 : World} {N : Nat} {m : M8} {vl va vt vt' : Value} {lo : List Int} {s : St} (h : Wk w N m vl lo va vt s) {k : Int}
    (hown : w2.ownsRow N 60 1 vt' (s.st.length + 1) (kr s.st ++ [.int .u8 k])) (hg : w.grownBy w2 vt.ownBlock) (hat : vt'.ownBlock = vt.ownBlock ∨ vt'.ownBlock = some w.heap.size) :
    Bx w2 N m vl va vt s ∧ Wk (w2.setCell ⟨N, 10, none⟩ vt') N m vl lo va vt' { s with st := s.st ++ [k] } ∧ Fw N w (w2.setCell ⟨N, 10, none⟩ vt') := by
  have hlt := h.lt
  have hne := own_ne h.box h.st
  have hN2 : Bx w2 N m vl va vt s := (hg.block N hlt (fun e => (hne N e.symm).1 rfl)).trans h.box
  have hkrow : w2.ownsRow N 60 1 vt' (s.st ++ [k]).length (kr (s.st ++ [k])) := by rw [kr_app, List.length_append]; exact hown
  have hsz : w2.heap.size ≤ (w2.setCell ⟨N, 10, none⟩ vt').heap.size := (Fb.set (N := N) (w := w2) 10 vt').lo.size
  have hne2 := own_ne hN2 hown
  refine ⟨hN2, ⟨(heap_setCell_same w2 N 10 _ _ _ hN2).trans rfl, ?_, own_keep hkrow fun j hj => heap_setCell_other w2 ⟨N, 10, none⟩ j _ (hne2 j hj).1, ?_, ?_, ?_⟩, ?_, ?_, ?_⟩
  · refine own_keep h.la fun j hj => ?_
    have q := own_ne h.box h.la j hj
    rw [heap_setCell_other w2 ⟨N, 10, none⟩ j _ q.1]
    exact hg.block j q.2 fun e => h.ap j hj e.symm
  · intro j h1 h2
    rcases hat with e | e
    · exact h.ap j h1 (e ▸ h2)
    · have := (own_ne h.box h.la j h1).2
      rw [e] at h2; cases h2; omega
  · refine Ex.Lies.move h.lo fun hl b o hgd hp => ?_
    have e1 : w2.heap[b]? = w.heap[b]? := hg.block b hgd.1 (fun e => hgd.2.2.2 e.symm)
    refine ⟨⟨by have := hg.size; omega, hgd.2.1, hgd.2.2.1, ?_⟩, fun j hj => ?_⟩
    · rcases hat with e | e
      · rw [e]; exact hgd.2.2.2
      · rw [e]; intro e2; cases e2; omega
    · rw [World.cell?_of_block (a := ⟨b, o + j, none⟩) ((heap_setCell_other w2 ⟨N, 10, none⟩ b _ hgd.2.1).trans e1)]; exact hp j hj
  · have := h.hb; show s.ben ≤ (s.st ++ [k]).length; simp; omega
  · have hs := (Fb.set (N := N) (w := w2) 10 vt').lo
    exact ⟨hs.os.trans hg.os, hs.tape.trans hg.tape, hs.output.trans hg.output, Nat.le_trans hg.size hs.size, fun j hj => (hs.block j hj).trans (hg.block j (by omega) (fun e => by have := h.st.lt j e.symm; omega))⟩
  · intro j hj hjN hu
    rw [heap_setCell_other w2 ⟨N, 10, none⟩ j _ hjN]
    refine hg.block j hj fun e => ?_
    rcases h.st.2 with ⟨rfl, _⟩ | ⟨g, cap, cur, rfl, _, e3, _⟩
    · cases e
    · cases e; exact hu _ _ e3
  · intro c t e
    exact (Fb.set (N := N) (w := w2) 10 vt').sz c t (hN2.trans (h.box.symm.trans e))
/-- one more label -/
theorem Wk.pushL {w w2 : World} {N : Nat} {m : M8} {vl va vt va' : Value} {lo : List Int} {s : St} (h : Wk w N m vl lo va vt s) {k : Int}
    (hown : w2.ownsRow N 60 1 va' (s.la.length + 1) (kr s.la ++ [.int .u8 k])) (hg : w.grownBy w2 va.ownBlock) (hat : va'.ownBlock = va.ownBlock ∨ va'.ownBlock = some w.heap.size) :
    Bx w2 N m vl va vt s ∧ Wk (w2.setCell ⟨N, 9, none⟩ va') N m vl lo va' vt { s with la := s.la ++ [k] } ∧ Fw N w (w2.setCell ⟨N, 9, none⟩ va') := by
  have hlt := h.lt
  have hne := own_ne h.box h.la
  have hN2 : Bx w2 N m vl va vt s := (hg.block N hlt (fun e => (hne N e.symm).1 rfl)).trans h.box
  have hkrow : w2.ownsRow N 60 1 va' (s.la ++ [k]).length (kr (s.la ++ [k])) := by rw [kr_app, List.length_append]; exact hown
  have hsz : w2.heap.size ≤ (w2.setCell ⟨N, 9, none⟩ va').heap.size := (Fb.set (N := N) (w := w2) 9 va').lo.size
  have hne2 := own_ne hN2 hown
  refine ⟨hN2, ⟨(heap_setCell_same w2 N 9 _ _ _ hN2).trans rfl, own_keep hkrow fun j hj => heap_setCell_other w2 ⟨N, 9, none⟩ j _ (hne2 j hj).1, ?_, ?_, ?_, h.hb⟩, ?_, ?_, ?_⟩
  · refine own_keep h.st fun j hj => ?_
    have q := own_ne h.box h.st j hj
    rw [heap_setCell_other w2 ⟨N, 9, none⟩ j _ q.1]
    exact hg.block j q.2 fun e => h.ap j e.symm hj
  · intro j h1 h2
    rcases hat with e | e
    · exact h.ap j (e ▸ h1) h2
    · have := (own_ne h.box h.st j h2).2
      rw [e] at h1; cases h1; omega
  · refine Ex.Lies.move h.lo fun hl b o hgd hp => ?_
    have e1 : w2.heap[b]? = w.heap[b]? := hg.block b hgd.1 (fun e => hgd.2.2.1 e.symm)
    refine ⟨⟨by have := hg.size; omega, hgd.2.1, ?_, hgd.2.2.2⟩, fun j hj => ?_⟩
    · rcases hat with e | e
      · rw [e]; exact hgd.2.2.1
      · rw [e]; intro e2; cases e2; omega
    · rw [World.cell?_of_block (a := ⟨b, o + j, none⟩) ((heap_setCell_other w2 ⟨N, 9, none⟩ b _ hgd.2.1).trans e1)]; exact hp j hj
  · have hs := (Fb.set (N := N) (w := w2) 9 va').lo
    exact ⟨hs.os.trans hg.os, hs.tape.trans hg.tape, hs.output.trans hg.output, Nat.le_trans hg.size hs.size, fun j hj => (hs.block j hj).trans (hg.block j (by omega) (fun e => by have := h.la.lt j e.symm; omega))⟩
  · intro j hj hjN hu
    rw [heap_setCell_other w2 ⟨N, 9, none⟩ j _ hjN]
    refine hg.block j hj fun e => ?_
    rcases h.la.2 with ⟨rfl, _⟩ | ⟨g, cap, cur, rfl, _, e3, _⟩
    · cases e
    · cases e; exact hu _ _ e3
  · intro c t e
    exact (Fb.set (N := N) (w := w2) 9 va').sz c t (hN2.trans (h.box.symm.trans e))
end Vw
end Go.Proofs.YtcpknafaocdjdaaGreatDoor

/- valid: takeAny, take, lay, selectOne, goesOff, isResult. -/
namespace Go.Proofs.YtcpknafaocdjdaaGreatDoor
open Go.RowKit
namespace Vw
set_option linter.unusedVariables false
set_option linter.unusedSimpArgs false
open Ex (Ins Lies)
open Gm (Mod Typ Byts)
theorem drewn_b (w : World) (k : Nat) : Below w.heap.size w (w.drewN k) := ⟨rfl, rfl, rfl, Nat.le_refl _, fun _ _ => rfl⟩
theorem own_at {w : World} {B e n g cap : Nat} {xs : List Value} (h : w.ownsRow B e 1 (.slice (some ⟨g, 0, none⟩) n cap) n xs) {j : Nat} (hj : j < n) {u : Value} (hu : xs[j]? = some u) : w.cell? ⟨g, j, none⟩ = some u := by
  rcases h.2 with ⟨e1, e2⟩ | ⟨g', cap', cur, e1, e2, e3, e4, e5, e6, e7⟩
  · cases e1
  · cases e1
    rw [cell_of_row w g j _ _ _ e3, ← hu, ← e7, List.getElem?_take, if_pos (by omega), Array.getElem?_toList]
theorem own_some {w : World} {B e n : Nat} {v : Value} {xs : List Value} (h : w.ownsRow B e 1 v n xs) (hn : 0 < n) : ∃ g cap, v = .slice (some ⟨g, 0, none⟩) n cap ∧ n ≤ cap := by
  rcases h.2 with ⟨e1, e2⟩ | ⟨g', cap', cur, e1, e2, e3, e4, e5, e6, e7⟩
  · omega
  · exact ⟨_, _, e1, e4⟩
theorem getLastD_at (l : List Int) (k : Nat) (h : l.length = k + 1) : l.getLastD 0 = l.getD k 0 := by
  rw [List.getLastD_eq_getLast?, List.getLast?_eq_getElem?, h]; simp
theorem dropLast_take (l : List Int) (k : Nat) (h : l.length = k + 1) : l.dropLast = l.take k := by
  rw [List.dropLast_eq_take, h]; rfl

set_option maxRecDepth 100000 in
set_option maxHeartbeats 1600000 in
theorem takeAny_any {w : World} {N : Nat} {m : M8} {vl va vt : Value} {lo : List Int} {s : St} (h : Wk w N m vl lo va vt s) (hl : s.st.length ≤ 1099511627776) :
    Calls Tryz.prog 118 #[.pointer (some ⟨N, 0, none⟩)] w fun e w' => e = .returned (.tuple #[.int .u8 (tkA s).1, .bool (tkA s).2.1]) ∧ (∃ vt', Wk w' N m vl lo va vt' (tkA s).2.2) ∧ Fb N w w' := by
  have hlt := h.lt
  obtain ⟨b8, b9, b10, b11, b12, b13, b14⟩ := h.box.cells
  have fr := h.box.fr
  clear b8 b9 b13 b14
  by_cases hc : s.st.length ≤ s.ben
  · have ht : tkA s = (1, s.beh, s) := by unfold tkA; rw [if_pos hc]
    rw [ht]
    obtain ⟨ta, tc, rfl, -⟩ := slice_of h.st
    have HW := hide h
    have h1 : ((s.st.length : Nat) : Int) - 1 < (s.ben : Int) := by omega
    have h2 : ((s.st.length : Nat) : Int) ≤ 1099511627776 := by omega
    clear h hc hl ht
    generalize s.st.length = n at *
    generalize s.ben = bn at *
    generalize s.beh = bh at *
    go_enter Tryz.func118, Tryz.ntmps118
    go_wp2_with fail
    go_quiet (fail)
    go_wp2
    go_ret2
    exact ⟨rfl, ⟨_, (unhide HW).below (drewn_b _ _)⟩, Fb.of (drewn_b _ _) (Nat.le_of_lt hlt)⟩
  · obtain ⟨k, hk⟩ : ∃ k, s.st.length = k + 1 := ⟨s.st.length - 1, by omega⟩
    have ht : tkA s = (s.st.getD k 0, true, { s with st := s.st.take k }) := by unfold tkA; rw [if_neg hc, getLastD_at _ k hk, dropLast_take _ k hk]
    rw [ht]
    obtain ⟨g, cp, rfl, hcp⟩ := own_some h.st (by omega)
    have hcell : w.cell? ⟨g, k, none⟩ = some (.int .u8 (s.st.getD k 0)) := own_at h.st (by omega) (by unfold kr; rw [List.getElem?_map, List.getElem?_eq_getElem (by omega)]; simp [List.getD, show k < s.st.length by omega])
    have hcut := h.cut k (by omega) (by omega)
    have hgN : ¬ g = N := (own_ne h.box h.st g rfl).1
    have HC := hide hcut
    rw [hk] at b10 hcp
    have e1 : ((k + 1 : Nat) : Int) - 1 = (k : Int) := by omega
    have e2 : decide ((k : Int) < (s.ben : Int)) = false := decide_eq_false (by omega)
    have e2n : decide (k < s.ben) = false := decide_eq_false (by omega)
    have e3 : (k : Int) ≤ 1099511627776 := by omega
    have e4 : (k : Int) + 1 ≤ (cp : Int) := by omega
    clear h hc hl hk ht hcut hcp
    generalize s.ben = bn at *
    generalize s.st.getD k 0 = z at *
    go_enter Tryz.func118, Tryz.ntmps118
    go_wp2
    go_ret2
    exact ⟨rfl, ⟨_, unhide HC⟩, Fb.set 10 _⟩

/-- what comes of a step that takes alone -/
def TkP (N : Nat) (m : M8) (vl : Value) (lo : List Int) (va : Value) (w : World) (o : Option St) (e : Ending) (w' : World) : Prop :=
  e = .returned (.bool o.isSome) ∧ (∀ s', o = some s' → ∃ vt', Wk w' N m vl lo va vt' s') ∧ Fb N w w'
/-- what comes of a step -/
def Res (N : Nat) (m : M8) (vl : Value) (lo : List Int) (w : World) (o : Option St) (e : Ending) (w' : World) : Prop :=
  e = .returned (.bool o.isSome) ∧ (∀ s', o = some s' → Wx w' N m vl lo s') ∧ Fw N w w'
theorem TkP.res {N : Nat} {m : M8} {vl : Value} {lo : List Int} {va : Value} {w : World} {o : Option St} {e : Ending} {w' : World} (h : TkP N m vl lo va w o e w') : Res N m vl lo w o e w' :=
  ⟨h.1, fun s' hs => let ⟨vt', q⟩ := h.2.1 s' hs; ⟨va, vt', q⟩, h.2.2.fw⟩

set_option maxRecDepth 100000 in
set_option maxHeartbeats 1600000 in
theorem take_any {w : World} {N : Nat} {m : M8} {vl va vt : Value} {lo : List Int} {s : St} (h : Wk w N m vl lo va vt s) (hl : s.st.length ≤ 1099511627776) (k : Int) :
    Calls Tryz.prog 95 #[.pointer (some ⟨N, 0, none⟩), .int .u8 k] w fun e w' => TkP N m vl lo va w (tk s k) e w' := by
  have hlt := h.lt
  by_cases h0 : k = 0
  · subst h0
    have ht : tk s 0 = some s := by unfold tk; rw [if_pos rfl]
    rw [ht]
    have HW := hide h
    clear h ht hl
    go_enter Tryz.func95, Tryz.ntmps95
    go_wp2
    go_ret
    exact ⟨rfl, fun s' e => by cases e; exact ⟨_, unhide HW⟩, Fb.refl _ _⟩
  · have hk0 : (k == 0) = false := by simpa using h0
    have ha := takeAny_any h hl
    have htk : tk s k = if (tkA s).2.1 = true ∧ ((tkA s).1 = k ∨ (tkA s).1 = 1) then some (tkA s).2.2 else none := by unfold tk; rw [if_neg h0]
    clear h hl h0
    generalize tkA s = r at *
    obtain ⟨z, b, s'⟩ := r
    have HA := hide ha; clear ha
    cases b with
    | false =>
      have ht : tk s k = none := by rw [htk]; simp
      rw [ht]
      clear htk ht
      go_enter Tryz.func95, Tryz.ntmps95
      go_wp2_with fail
      refine (unhide HA).mono ?_
      rintro e w1 ⟨rfl, hw1, hf1⟩
      have HF := hide hf1; clear hw1 hf1 HA
      go_wp2
      go_ret
      exact ⟨rfl, nofun, unhide HF⟩
    | true =>
      by_cases hz : z = k
      · have ht : tk s k = some s' := by rw [htk]; simp [hz]
        rw [ht]
        subst hz
        clear htk ht
        go_enter Tryz.func95, Tryz.ntmps95
        go_wp2_with fail
        refine (unhide HA).mono ?_
        rintro e w1 ⟨rfl, hw1, hf1⟩
        have HW := hide hw1; have HF := hide hf1; clear hw1 hf1 HA
        go_wp2
        go_ret
        exact ⟨rfl, fun s' e => by cases e; exact unhide HW, unhide HF⟩
      · have hz0 : (z == k) = false := by simpa using hz
        by_cases h1 : z = 1
        · have ht : tk s k = some s' := by rw [htk]; simp [h1]
          rw [ht]
          subst h1
          clear htk ht hz
          go_enter Tryz.func95, Tryz.ntmps95
          go_wp2_with fail
          refine (unhide HA).mono ?_
          rintro e w1 ⟨rfl, hw1, hf1⟩
          have HW := hide hw1; have HF := hide hf1; clear hw1 hf1 HA
          go_wp2
          go_ret
          exact ⟨rfl, fun s' e => by cases e; exact unhide HW, unhide HF⟩
        · have h10 : (z == 1) = false := by simpa using h1
          have ht : tk s k = none := by rw [htk, if_neg fun h => h.2.elim hz h1]
          rw [ht]
          clear htk ht hz h1
          go_enter Tryz.func95, Tryz.ntmps95
          go_wp2_with fail
          refine (unhide HA).mono ?_
          rintro e w1 ⟨rfl, hw1, hf1⟩
          have HF := hide hf1; clear hw1 hf1 HA
          go_wp2
          go_ret
          exact ⟨rfl, nofun, unhide HF⟩

theorem goes_any (op : Int) (w : World) (h0 : 0 ≤ op) :
    Calls Tryz.prog 123 #[.int .u8 op] w fun e w' => e = .returned (.bool (goes op)) ∧ w' = w := by
  unfold goes
  by_cases h1 : op = 0
  · subst h1
    go_enter Tryz.func123, Tryz.ntmps123
    go_wp2
    go_ret
    exact ⟨rfl, rfl⟩
  by_cases h2 : op = 12
  · subst h2
    go_enter Tryz.func123, Tryz.ntmps123
    go_wp2
    go_ret
    exact ⟨rfl, rfl⟩
  by_cases h3 : op = 14
  · subst h3
    go_enter Tryz.func123, Tryz.ntmps123
    go_wp2
    go_ret
    exact ⟨rfl, rfl⟩
  have d1 : (op == 0) = false := by simpa using h1
  have d2 : (op == 12) = false := by simpa using h2
  have d3 : (op == 14) = false := by simpa using h3
  clear h0 h1 h2 h3
  go_enter Tryz.func123, Tryz.ntmps123
  go_wp2
  go_ret
  exact ⟨by simp [d1, d2, d3], rfl⟩
theorem isKind_any (k : Int) (w : World) :
    Calls Tryz.prog 39 #[.int .u8 k] w fun e w' => e = .returned (.bool (k == 127 || k == 126)) ∧ w' = w := by
  by_cases h1 : k = 127
  · subst h1
    go_enter Tryz.func39, Tryz.ntmps39
    go_wp2
    go_ret
    exact ⟨rfl, rfl⟩
  have d1 : (k == 127) = false := by simpa using h1
  clear h1
  go_enter Tryz.func39, Tryz.ntmps39
  go_wp2
  go_ret
  exact ⟨by simp [d1], rfl⟩
theorem isResult_any (k : Int) (w : World) :
    Calls Tryz.prog 40 #[.int .u8 k] w fun e w' => e = .returned (.bool (isR k)) ∧ w' = w := by
  unfold isR
  by_cases h1 : k = 0
  · subst h1
    go_enter Tryz.func40, Tryz.ntmps40
    go_wp2
    go_ret
    exact ⟨rfl, rfl⟩
  have d1 : (k == 0) = false := by simpa using h1
  have hk := fun W => isKind_any k W
  have HK := hide hk
  clear h1 hk
  go_enter Tryz.func40, Tryz.ntmps40
  go_wp2_with (go_at_call 39; refine (unhide HK _).mono ?_; rintro e w' ⟨rfl, rfl⟩)
  go_ret
  exact ⟨by simp [d1], rfl⟩
end Vw
end Go.Proofs.YtcpknafaocdjdaaGreatDoor

/- valid: lay, selectOne. -/
namespace Go.Proofs.YtcpknafaocdjdaaGreatDoor
open Go.RowKit
namespace Vw
set_option linter.unusedVariables false
set_option linter.unusedSimpArgs false
open Ex (Ins Lies)
open Gm (Mod Typ Byts)
theorem drew_b (w : World) : Below w.heap.size w w.drew := ⟨rfl, rfl, rfl, Nat.le_refl _, fun _ _ => rfl⟩
theorem tkA_len (s : St) : (tkA s).2.2.st.length ≤ s.st.length := by
  unfold tkA; split
  · exact Nat.le_refl _
  · simp
theorem tk_len {s s' : St} {k : Int} (h : tk s k = some s') : s'.st.length ≤ s.st.length := by
  unfold tk at h; split at h
  · cases h; exact Nat.le_refl _
  · split at h
    · cases h; exact tkA_len s
    · cases h
theorem one_al (w : World) (o : Obj) : Below w.heap.size w (w.alloc o) := (Below.refl _ _).alloc (Nat.le_refl _) _
/-- a scalar of the box written -/
theorem Wk.most {w : World} {N : Nat} {m : M8} {vl va vt : Value} {lo : List Int} {s : St} (h : Wk w N m vl lo va vt s) (k : Nat) :
    Wk (w.setCell ⟨N, 14, none⟩ (.int .i64 (k : Int))) N m vl lo va vt { s with most := k } :=
  h.rebox (Fb.set 14 _) ((heap_setCell_same w N 14 _ _ _ h.box).trans rfl) h.la h.st rfl rfl h.hb
theorem ly_0 (s : St) : ly s 0 = s := by unfold ly; rw [if_pos rfl]
theorem ly_dead {s : St} {k : Int} (hk : k ≠ 0) (h : s.beh = true ∨ s.wit = true) : ly s k = { s with st := s.st ++ [k] } := by
  unfold ly; rw [if_neg hk]
  have : (s.beh || s.wit) = true := by rcases h with h | h <;> simp [h]
  rw [this]; simp
theorem ly_live {s : St} {k : Int} (hk : k ≠ 0) (h1 : s.beh = false) (h2 : s.wit = false) : ly s k = { s with st := s.st ++ [k], most := max s.most (s.st.length + 1) } := by
  unfold ly; rw [if_neg hk]; simp [h1, h2]
theorem imax (a b : Nat) : max (a : Int) (b : Int) = ((max a b : Nat) : Int) := by omega

set_option maxRecDepth 100000 in
set_option maxHeartbeats 1600000 in
theorem lay_any {w : World} {N : Nat} {m : M8} {vl va vt : Value} {lo : List Int} {s : St} (h : Wk w N m vl lo va vt s) (hl : s.st.length ≤ 1099511627776) (k : Int) :
    Calls Tryz.prog 131 #[.pointer (some ⟨N, 0, none⟩), .int .u8 k] w fun e w' => e = .returned (.tuple #[]) ∧ Wx w' N m vl lo (ly s k) ∧ Fw N w w' := by
  have hlt := h.lt
  by_cases h0 : k = 0
  · subst h0
    rw [ly_0]
    have HW := hide h
    clear h hl
    go_enter Tryz.func131, Tryz.ntmps131
    go_wp2
    refine bodyPost_ret (v := .tuple #[]) (by simp [results, Tryz.results131, go_sem]) rfl ⟨rfl, ⟨_, _, unhide HW⟩, (Fb.refl _ _).fw⟩
  · have hk0 : (k == 0) = false := by simpa using h0
    obtain ⟨i0, hi, hz0, hz1, hz2⟩ := info_parts infoK
    obtain ⟨ta, tc, rfl, htc⟩ := slice_of h.st
    have hA := h.below (one_al w (.cells #[.int .u8 k] 60))
    obtain ⟨b8, b9, b10, b11, b12, b13, b14⟩ := h.box.cells
    clear b8 b9 b11 b12 b13 b14
    have HH := hide h; have HA := hide hA; have HL := hide hl; have HK := hide h0
    obtain ⟨n, hn⟩ : ∃ n, n = s.st.length := ⟨_, rfl⟩
    rw [← hn] at b10
    have HN := hide hn
    clear h hA hl h0 htc hn
    go_enter Tryz.func131, Tryz.ntmps131
    go_wp2_with (at_builtin; refine wpList_append_own_at _ rfl (.tmp 10) (.tmp 12) 64 rfl N 60 i0 (.int .u8 0) 1 1 Tryz.underlying64 hi hz0 hz1 hz2 rfl (by decide) (.slice ta n tc) s.st.length (kr s.st) rfl (by rw [unhide HN]; exact (unhide HA).st) ⟨w.heap.size, 0, none⟩ 1 1 [.int .u8 k] rfl rfl ?c1 ?c2 ?c3 ?c4 ?c5 ?_)
    case c1 => exact cell_one_new _ _ _
    case c2 => intro u hu; simp at hu; subst hu; rfl
    case c3 => have := unhide HL; unfold maxLen; omega
    case c4 => have := unhide HL; omega
    case c5 => simp; omega
    intro v' w2 hown hgrow _ hat
    obtain ⟨g1, g2, g3⟩ := (unhide HA).push hown (by rw [← unhide HN]; exact hgrow) (by rw [← unhide HN, show (w.alloc (.cells #[.int .u8 k] 60)).heap.size = w.heap.size + 1 by simp]; exact hat)
    obtain ⟨ta', tc', rfl, -⟩ := slice_of hown
    obtain ⟨p8, p9, p10, p11, p12, p13, p14⟩ := g1.cells
    have fr := g1.fr
    have G2 := hide g2; have G3 := hide (Fw.on (Fw.of (one_al w (.cells #[.int .u8 k] 60)) (Nat.le_of_lt hlt)) g3)
    clear g1 g2 g3 hown hgrow hat p8 p9 p11 p12 p13 p14 b10 HA HH
    go_upto_region 2 with fail
    generalize hw3 : w2.setCell ⟨N, 10, none⟩ (.slice ta' (s.st.length + 1) tc') = w3 at *
    obtain ⟨q8, q9, q10, q11, q12, q13, q14⟩ := (unhide G2).box.cells
    have fr3 := (unhide G2).box.fr
    clear hw3 p10 fr q8 q9 q11
    have q12' : w3.cell? ⟨N, 12, none⟩ = some (.bool s.beh) := q12
    have q13' : w3.cell? ⟨N, 13, none⟩ = some (.bool s.wit) := q13
    have q14' : w3.cell? ⟨N, 14, none⟩ = some (.int .i64 (s.most : Int)) := q14
    clear q12 q13 q14
    cases hb : s.beh with
    | true =>
      have hy : ly s k = { s with st := s.st ++ [k] } := ly_dead (unhide HK) (.inl hb)
      have HY := hide hy; clear hy
      rw [hb] at q12'
      clear hb
      go_wp2
      go_end0
      exact ⟨rfl, by rw [unhide HY]; exact ⟨_, _, unhide G2⟩, unhide G3⟩
    | false =>
      cases hwt : s.wit with
      | true =>
        have hy : ly s k = { s with st := s.st ++ [k] } := ly_dead (unhide HK) (.inr hwt)
        have HY := hide hy; clear hy
        rw [hb] at q12'; rw [hwt] at q13'
        clear hb hwt
        go_wp2
        go_end0
        exact ⟨rfl, by rw [unhide HY]; exact ⟨_, _, unhide G2⟩, unhide G3⟩
      | false =>
        have hy : ly s k = { s with st := s.st ++ [k], most := max s.most (s.st.length + 1) } := ly_live (unhide HK) hb hwt
        have HY := hide hy; clear hy
        rw [hb] at q12'; rw [hwt] at q13'
        have hm := imax s.most (s.st.length + 1)
        have HM := hide hm
        clear hb hwt hm
        have hlen : ((s.st.length : Nat) : Int) ≤ 1099511627776 := by have := unhide HL; omega
        go_wp2_with fail
        go_region
        go_wp2
        · go_end0
          have hmx : max s.most (s.st.length + 1) = s.st.length + 1 := by omega
          refine ⟨rfl, ?_, Fw.on (unhide G3) ((Fb.set 14 _).on (Fb.of (drew_b _) (Nat.le_of_lt (Nat.lt_of_lt_of_le (unhide G2).lt (Fb.set 14 _).lo.size)))).fw⟩
          rw [unhide HY, hmx]
          exact ⟨_, _, ((unhide G2).most (s.st.length + 1)).below (drew_b _)⟩
        · go_end0
          have hmx : max s.most (s.st.length + 1) = s.most := by omega
          refine ⟨rfl, ?_, Fw.on (unhide G3) ((Fb.set 14 _).on (Fb.of (drew_b _) (Nat.le_of_lt (Nat.lt_of_lt_of_le (unhide G2).lt (Fb.set 14 _).lo.size)))).fw⟩
          rw [unhide HY, hmx]
          exact ⟨_, _, ((unhide G2).most s.most).below (drew_b _)⟩

/-- one label, by its number -/
theorem sel_none {s s1 : St} {b : Int} (h1 : tk s 127 = some s1) (hb : (tkA s1).1 = b) : sel s = sel2 b (tkA s1).2.2 := by unfold sel; rw [h1, ← hb]; rfl
set_option maxRecDepth 100000 in
set_option maxHeartbeats 1600000 in
theorem sel_any {w : World} {N : Nat} {m : M8} {vl va vt : Value} {lo : List Int} {s : St} (h : Wk w N m vl lo va vt s) (hl : s.st.length ≤ 1099511627776) :
    Calls Tryz.prog 119 #[.pointer (some ⟨N, 0, none⟩)] w fun e w' => Res N m vl lo w (sel s) e w' := by
  have hlt := h.lt
  have ht := take_any h hl 127
  have hln : ∀ s1, tk s 127 = some s1 → s1.st.length ≤ 1099511627776 := fun s1 e => Nat.le_trans (tk_len e) hl
  have HT := hide ht; have HLn := hide hln
  clear ht h hln
  cases h1 : tk s 127 with
  | none =>
    have hs : sel s = none := by unfold sel; rw [h1]; rfl
    rw [hs]
    rw [h1] at HT
    clear h1 hs
    go_enter Tryz.func119, Tryz.ntmps119
    go_wp2_with fail
    refine (unhide HT).mono ?_
    rintro e w1 ⟨rfl, -, hf⟩
    have HF := hide hf; clear hf HT
    go_wp2
    go_ret
    exact ⟨rfl, nofun, (unhide HF).fw⟩
  | some s1 =>
    have hl1 := unhide HLn s1 h1
    obtain ⟨b, hb⟩ : ∃ b, (tkA s1).1 = b := ⟨_, rfl⟩
    have hs := sel_none h1 hb
    have hl2 : (tkA s1).2.2.st.length ≤ 1099511627776 := Nat.le_trans (tkA_len s1) hl1
    rw [hs]
    rw [h1] at HT
    obtain ⟨bo, hbo⟩ : ∃ bo, (tkA s1).2.1 = bo := ⟨_, rfl⟩
    have hA1 : ∀ W va1 vt1, Wk W N m vl lo va1 vt1 s1 → _ := fun W va1 vt1 hW => takeAny_any hW hl1
    rw [hb, hbo] at hA1
    have hA2 : ∀ W va1 vt1, Wk W N m vl lo va1 vt1 (tkA s1).2.2 → _ := fun W va1 vt1 hW => takeAny_any hW hl2
    have hl3 : (tkA (tkA s1).2.2).2.2.st.length ≤ 1099511627776 := Nat.le_trans (tkA_len _) hl2
    clear h1 hs hb hbo hl1 hl2
    generalize (tkA s1).2.2 = s2 at *
    obtain ⟨r, hr⟩ : ∃ r, tkA s2 = r := ⟨_, rfl⟩
    rw [hr] at hA2 hl3
    obtain ⟨a, ok, s3⟩ := r
    have hLy : ∀ W va1 vt1, Wk W N m vl lo va1 vt1 s3 → _ := fun W va1 vt1 hW => lay_any hW hl3 b
    have HA1 := hide hA1; have HA2 := hide hA2; have HLy := hide hLy
    clear hA1 hA2 hLy hl3 HLn
    have hsel : sel2 b s2 = if ok = true ∧ (a = b ∨ a = 1) then some (ly s3 b) else none := by unfold sel2; rw [hr]
    clear hr
    have fin : ∀ (P : Option St) , sel2 b s2 = P → _ := fun P h => h
    cases ok with
    | false =>
      have hs : sel2 b s2 = none := by rw [hsel]; simp
      rw [hs]
      clear hs hsel fin
      by_cases ha : a = 1
      · subst ha
        go_enter Tryz.func119, Tryz.ntmps119
        go_wp2_with fail
        refine (unhide HT).mono ?_
        rintro e w1 ⟨rfl, hw1, hf1⟩
        obtain ⟨vt1, hw1⟩ := hw1 s1 rfl
        have HW1 := hide hw1; have HF1 := hide hf1; clear hw1 hf1 HT
        go_wp2_with fail
        refine (unhide HA1 _ _ _ (unhide HW1)).mono ?_
        rintro e w2 ⟨rfl, hw2, hf2⟩
        obtain ⟨vt2, hw2⟩ := hw2
        have HW2 := hide hw2; have HF2 := hide (Fb.on (unhide HF1) hf2); clear hw2 hf2 HA1 HW1 HF1
        go_wp2_with fail
        refine (unhide HA2 _ _ _ (unhide HW2)).mono ?_
        rintro e w3 ⟨rfl, hw3, hf3⟩
        obtain ⟨vt3, hw3⟩ := hw3
        have HF := hide (Fb.on (unhide HF2) hf3); clear hf3 HA2 HW2 HF2
        go_wp2
        go_ret
        exact ⟨rfl, nofun, (unhide HF).fw⟩
      · have ha0 : (a == 1) = false := by simpa using ha
        clear ha
        go_enter Tryz.func119, Tryz.ntmps119
        go_wp2_with fail
        refine (unhide HT).mono ?_
        rintro e w1 ⟨rfl, hw1, hf1⟩
        obtain ⟨vt1, hw1⟩ := hw1 s1 rfl
        have HW1 := hide hw1; have HF1 := hide hf1; clear hw1 hf1 HT
        go_wp2_with fail
        refine (unhide HA1 _ _ _ (unhide HW1)).mono ?_
        rintro e w2 ⟨rfl, hw2, hf2⟩
        obtain ⟨vt2, hw2⟩ := hw2
        have HW2 := hide hw2; have HF2 := hide (Fb.on (unhide HF1) hf2); clear hw2 hf2 HA1 HW1 HF1
        go_wp2_with fail
        refine (unhide HA2 _ _ _ (unhide HW2)).mono ?_
        rintro e w3 ⟨rfl, hw3, hf3⟩
        obtain ⟨vt3, hw3⟩ := hw3
        have HF := hide (Fb.on (unhide HF2) hf3); clear hf3 HA2 HW2 HF2
        go_wp2
        go_ret
        exact ⟨rfl, nofun, (unhide HF).fw⟩
    | true =>
      by_cases ha : a = 1
      · have hs : sel2 b s2 = some (ly s3 b) := by rw [hsel]; simp [ha]
        rw [hs]
        subst ha
        clear hs hsel fin
        go_enter Tryz.func119, Tryz.ntmps119
        go_wp2_with fail
        refine (unhide HT).mono ?_
        rintro e w1 ⟨rfl, hw1, hf1⟩
        obtain ⟨vt1, hw1⟩ := hw1 s1 rfl
        have HW1 := hide hw1; have HF1 := hide hf1; clear hw1 hf1 HT
        go_wp2_with fail
        refine (unhide HA1 _ _ _ (unhide HW1)).mono ?_
        rintro e w2 ⟨rfl, hw2, hf2⟩
        obtain ⟨vt2, hw2⟩ := hw2
        have HW2 := hide hw2; have HF2 := hide (Fb.on (unhide HF1) hf2); clear hw2 hf2 HA1 HW1 HF1
        go_wp2_with fail
        refine (unhide HA2 _ _ _ (unhide HW2)).mono ?_
        rintro e w3 ⟨rfl, hw3, hf3⟩
        obtain ⟨vt3, hw3⟩ := hw3
        have HF := hide (Fb.on (unhide HF2) hf3); clear hf3 HA2 HW2 HF2
        go_wp2_with fail
        refine (unhide HLy _ _ _ hw3).mono ?_
        rintro e w4 ⟨rfl, hx4, hf4⟩
        have HX4 := hide hx4; have HF4 := hide hf4; clear hx4 hf4 HLy hw3
        go_wp2
        go_ret
        exact ⟨rfl, fun s' e => by cases e; exact unhide HX4, Fw.on (unhide HF).fw (unhide HF4)⟩
      · have ha0 : (a == 1) = false := by simpa using ha
        by_cases hab : a = b
        · have hs : sel2 b s2 = some (ly s3 b) := by rw [hsel]; simp [hab]
          rw [hs]
          subst hab
          clear hs hsel fin ha
          go_enter Tryz.func119, Tryz.ntmps119
          go_wp2_with fail
          refine (unhide HT).mono ?_
          rintro e w1 ⟨rfl, hw1, hf1⟩
          obtain ⟨vt1, hw1⟩ := hw1 s1 rfl
          have HW1 := hide hw1; have HF1 := hide hf1; clear hw1 hf1 HT
          go_wp2_with fail
          refine (unhide HA1 _ _ _ (unhide HW1)).mono ?_
          rintro e w2 ⟨rfl, hw2, hf2⟩
          obtain ⟨vt2, hw2⟩ := hw2
          have HW2 := hide hw2; have HF2 := hide (Fb.on (unhide HF1) hf2); clear hw2 hf2 HA1 HW1 HF1
          go_wp2_with fail
          refine (unhide HA2 _ _ _ (unhide HW2)).mono ?_
          rintro e w3 ⟨rfl, hw3, hf3⟩
          obtain ⟨vt3, hw3⟩ := hw3
          have HF := hide (Fb.on (unhide HF2) hf3); clear hf3 HA2 HW2 HF2
          go_wp2_with fail
          refine (unhide HLy _ _ _ hw3).mono ?_
          rintro e w4 ⟨rfl, hx4, hf4⟩
          have HX4 := hide hx4; have HF4 := hide hf4; clear hx4 hf4 HLy hw3
          go_wp2
          go_ret
          exact ⟨rfl, fun s' e => by cases e; exact unhide HX4, Fw.on (unhide HF).fw (unhide HF4)⟩
        · have hs : sel2 b s2 = none := by rw [hsel, if_neg fun h => h.2.elim hab ha]
          have hab0 : (a != b) = true := by simpa using hab
          rw [hs]
          clear hs hsel fin ha hab
          go_enter Tryz.func119, Tryz.ntmps119
          go_wp2_with fail
          refine (unhide HT).mono ?_
          rintro e w1 ⟨rfl, hw1, hf1⟩
          obtain ⟨vt1, hw1⟩ := hw1 s1 rfl
          have HW1 := hide hw1; have HF1 := hide hf1; clear hw1 hf1 HT
          go_wp2_with fail
          refine (unhide HA1 _ _ _ (unhide HW1)).mono ?_
          rintro e w2 ⟨rfl, hw2, hf2⟩
          obtain ⟨vt2, hw2⟩ := hw2
          have HW2 := hide hw2; have HF2 := hide (Fb.on (unhide HF1) hf2); clear hw2 hf2 HA1 HW1 HF1
          go_wp2_with fail
          refine (unhide HA2 _ _ _ (unhide HW2)).mono ?_
          rintro e w3 ⟨rfl, hw3, hf3⟩
          obtain ⟨vt3, hw3⟩ := hw3
          have HF := hide (Fb.on (unhide HF2) hf3); clear hf3 HA2 HW2 HF2
          go_wp2
          go_ret
          exact ⟨rfl, nofun, (unhide HF).fw⟩
end Vw
end Go.Proofs.YtcpknafaocdjdaaGreatDoor

/- The type of a function as the reference gives it. -/
namespace Go.Proofs.YtcpknafaocdjdaaGreatDoor
open Go.RowKit
namespace Gm
set_option linter.unusedVariables false
set_option linter.unusedSimpArgs false
open Ex (Lies)
theorem drewn_below9 (w : World) (k : Nat) : Below w.heap.size w (w.drewN k) := ⟨rfl, rfl, rfl, Nat.le_refl _, fun _ _ => rfl⟩

theorem start2 {w : World} {ms : Array Value} {t t2 : TypeId} {x0 x1 : Value} : ∃ W0, ((w.alloc (.cells ms t)).alloc (.cells #[x0, x1] t2)) = W0 ∧ W0.heap[w.heap.size]? = some (.cells ms t (0, 0)) ∧ W0.heap[w.heap.size + 1]? = some (.cells #[x0, x1] t2 (0, 0)) ∧ w.heap.size + 1 < W0.heap.size ∧ Below w.heap.size w W0 := by
  have e2 : (w.alloc (.cells ms t)).heap.size = w.heap.size + 1 := by simp
  have hn := heap_alloc_new (w.alloc (.cells ms t)) (.cells #[x0, x1] t2)
  rw [e2] at hn
  exact ⟨_, rfl, (Below.heap_alloc _ _ _ (by simp)).trans (heap_alloc_new w (.cells ms t)), hn, by simp, ((Below.refl _ _).alloc (Nat.le_refl _) _).alloc (by simp) _⟩

theorem ty_cases (M : Mod) (f : Int) (hwf : WfM M) : ((f < 0 ∨ (M.funcs.length : Int) ≤ f) ∧ ty? M f = none) ∨ (∃ (j : Nat) (h : j < M.funcs.length), f = j ∧ 0 ≤ (M.funcs[j]).ty ∧ (M.funcs[j]).ty ≤ 4294967295 ∧ (M.types.length : Int) ≤ (M.funcs[j]).ty ∧ ty? M f = none) ∨
    (∃ (j : Nat) (h : j < M.funcs.length) (k : Nat) (hk : k < M.types.length), f = j ∧ (M.funcs[j]).ty = k ∧ k ≤ 4294967295 ∧ ty? M f = some M.types[k]) := by
  by_cases h0 : f < 0
  · exact .inl ⟨.inl h0, ty_neg h0⟩
  by_cases h1 : (M.funcs.length : Int) ≤ f
  · exact .inl ⟨.inr h1, ty_big h1⟩
  obtain ⟨j, rfl⟩ : ∃ j : Nat, f = j := ⟨f.toNat, by omega⟩
  have hj : j < M.funcs.length := by omega
  have hw := (hwf.2.1 _ (List.getElem_mem hj)).1
  by_cases h2 : (M.types.length : Int) ≤ (M.funcs[j]).ty
  · exact .inr (.inl ⟨j, hj, rfl, hw.1, hw.2, h2, by rw [ty_at hj, List.getElem?_eq_none (by omega)]⟩)
  · obtain ⟨k, hk⟩ : ∃ k : Nat, (M.funcs[j]).ty = k := ⟨((M.funcs[j]).ty).toNat, by omega⟩
    have hk2 : k < M.types.length := by omega
    exact .inr (.inr ⟨j, hj, k, hk2, rfl, hk, by omega, by rw [ty_at hj, hk, Int.toNat_natCast, List.getElem?_eq_getElem hk2]⟩)
def TyB (fn : Nat) (ag : Value) (w : World) (g : Nat → Prop) (f : Int) (o : Option Typ) : Prop := match o with
  | some t => TyYes fn ag w g f t
  | none => TyNo fn ag w f
end Gm
end Go.Proofs.YtcpknafaocdjdaaGreatDoor
