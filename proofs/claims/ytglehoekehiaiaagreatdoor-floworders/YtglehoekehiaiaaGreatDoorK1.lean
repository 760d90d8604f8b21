/- K1: what follows, part by part: each part tells what it holds. -/
import Derived.Test.YtglehoekehiaiaaGreatDoorBase
import Derived.Deep.RegionHeld3
import Derived.LaidLaws
import Derived.Lib.LaidTab
import Derived.OpenShut
import Derived.Stop.LaidErr
import Derived.Laws.Rows
import Derived.Deep.RegionWith
namespace Go.Proofs.YtglehoekehiaiaaGreatDoor
open Go.RowKit
set_option linter.unusedVariables false
set_option linter.unusedSimpArgs false
set_option maxRecDepth 100000
set_option maxHeartbeats 32000000
/- Shorter moves for regions that are walked by hand. -/
section
variable {P : Program} {ops : Array Oper} {Q : Exit → Act → World → Prop} {md : Region.Mode} {S : World → Prop}
/-- number i is taken first -/
theorem tk (i : Nat) (v : Value) {oi : Oper} {fuel : Nat} {listed : Array Bool} {a : Act} {w : World} (hi : ops[i]? = some oi) (hy : ∀ w, S w → (execOp a.eval oi).run P w = .ok (.value v) w) (hS : S w)
    (h : wpAnyH P md ops Q S fuel (listed.setIfInBounds i true) (a.put oi.dst v) w)
    (hs : Region.noSelect ops = true := by kernel_rfl) (hf : Region.free md ops listed i = true := by kernel_rfl) (hr : (Region.ready md ops listed).contains i = true := by kernel_rfl) (hw : Region.wanted oi (yielded ops a.tmps) = true := by kernel_rfl)
    (hQ : ∀ c a w, Q (.panic c) (a.put oi.dst v) w → Q (.panic c) a w := by exact fun _ _ _ h => h) : wpAnyH P md ops Q S (fuel + 1) listed a w := wpAnyH_take hi hs hf hr hQ (.inl ⟨hw, hy⟩) hS h
/-- number i isn't wanted -/
theorem sk (i : Nat) {oi : Oper} {fuel : Nat} {listed : Array Bool} {a : Act} {w : World} (hi : ops[i]? = some oi) (hS : S w)
    (h : wpAnyH P md ops Q S fuel (listed.setIfInBounds i true) (a.put oi.dst undef) w)
    (hs : Region.noSelect ops = true := by kernel_rfl) (hf : Region.free md ops listed i = true := by kernel_rfl) (hr : (Region.ready md ops listed).contains i = true := by kernel_rfl) (hw : Region.wanted oi (yielded ops a.tmps) = false := by kernel_rfl)
    (hQ : ∀ c a w, Q (.panic c) (a.put oi.dst undef) w → Q (.panic c) a w := by exact fun _ _ _ h => h) : wpAnyH P md ops Q S (fuel + 1) listed a w := wpAnyH_take hi hs hf hr hQ (.inr ⟨hw, rfl⟩) hS h
end
theorem tq1 {α : Type _} {xs : List α} {i : Nat} (h : i < xs.toArray.size) : xs.toArray[i] = xs[i]'(by simpa using h) := rfl
theorem tq2 {α : Type _} (a : α) (xs : List α) (i : Nat) (h : i + 1 < (a :: xs).length) : (a :: xs)[i + 1] = xs[i]'(by simpa using h) := rfl
theorem tq3 {α : Type _} (a : α) (xs : List α) (h : 0 < (a :: xs).length) : (a :: xs)[0] = a := rfl
theorem tq4 {α : Type _} (l : List α) (i : Nat) (a : α) : l.toArray.setIfInBounds i a = (l.set i a).toArray := List.setIfInBounds_toArray l i a
theorem tq5 {α : Type _} {x : α} {xs : List α} {a : α} : (x :: xs).set 0 a = a :: xs := rfl
theorem tq6 {α : Type _} {x : α} {xs : List α} {i : Nat} {a : α} : (x :: xs).set (i + 1) a = x :: xs.set i a := rfl
/- One call after another: what stands below stays. -/
theorem Below.on {w w1 w2 : World} (h : Below w.heap.size w w1) (h2 : Below w1.heap.size w1 w2) : Below w.heap.size w w2 := h.trans (h2.mono h.size)
/- The tables of ops as lists; from the rows' condition on the package's variables to their cells. -/
/-- a text's bytes as the model's string -/
def str (l : List UInt8) : ByteArray := ⟨⟨l⟩⟩
/-- the names by number; those of tests, of what reckons -/
def nms : List (List UInt8) := [
  [117, 110, 114, 101, 97, 99, 104, 97, 98, 108, 101], [110, 111, 112], [98, 108, 111, 99, 107], [108, 111, 111, 112],
  [105, 102], [], [], [],
  [], [], [], [],
  [98, 114], [98, 114, 95, 105, 102], [98, 114, 95, 116, 97, 98, 108, 101], [114, 101, 116, 117, 114, 110],
  [99, 97, 108, 108], [99, 97, 108, 108, 95, 105, 110, 100, 105, 114, 101, 99, 116], [], [],
  [], [], [], [],
  [], [], [100, 114, 111, 112], [115, 101, 108, 101, 99, 116],
  [], [], [], [],
  [108, 111, 99, 97, 108, 46, 103, 101, 116], [108, 111, 99, 97, 108, 46, 115, 101, 116], [108, 111, 99, 97, 108, 46, 116, 101, 101], [103, 108, 111, 98, 97, 108, 46, 103, 101, 116],
  [103, 108, 111, 98, 97, 108, 46, 115, 101, 116], [], [], [],
  [105, 51, 50, 46, 108, 111, 97, 100], [105, 54, 52, 46, 108, 111, 97, 100], [], [],
  [105, 51, 50, 46, 108, 111, 97, 100, 56, 95, 115], [105, 51, 50, 46, 108, 111, 97, 100, 56, 95, 117], [105, 51, 50, 46, 108, 111, 97, 100, 49, 54, 95, 115], [105, 51, 50, 46, 108, 111, 97, 100, 49, 54, 95, 117],
  [105, 54, 52, 46, 108, 111, 97, 100, 56, 95, 115], [105, 54, 52, 46, 108, 111, 97, 100, 56, 95, 117], [105, 54, 52, 46, 108, 111, 97, 100, 49, 54, 95, 115], [105, 54, 52, 46, 108, 111, 97, 100, 49, 54, 95, 117],
  [105, 54, 52, 46, 108, 111, 97, 100, 51, 50, 95, 115], [105, 54, 52, 46, 108, 111, 97, 100, 51, 50, 95, 117], [105, 51, 50, 46, 115, 116, 111, 114, 101], [105, 54, 52, 46, 115, 116, 111, 114, 101],
  [], [], [105, 51, 50, 46, 115, 116, 111, 114, 101, 56], [105, 51, 50, 46, 115, 116, 111, 114, 101, 49, 54],
  [105, 54, 52, 46, 115, 116, 111, 114, 101, 56], [105, 54, 52, 46, 115, 116, 111, 114, 101, 49, 54], [105, 54, 52, 46, 115, 116, 111, 114, 101, 51, 50], [109, 101, 109, 111, 114, 121, 46, 115, 105, 122, 101],
  [109, 101, 109, 111, 114, 121, 46, 103, 114, 111, 119], [105, 51, 50, 46, 99, 111, 110, 115, 116], [105, 54, 52, 46, 99, 111, 110, 115, 116]]
def tns : List (List UInt8) := [
  [105, 51, 50, 46, 101, 113, 122], [105, 51, 50, 46, 101, 113], [105, 51, 50, 46, 110, 101], [105, 51, 50, 46, 108, 116, 95, 115],
  [105, 51, 50, 46, 108, 116, 95, 117], [105, 51, 50, 46, 103, 116, 95, 115], [105, 51, 50, 46, 103, 116, 95, 117], [105, 51, 50, 46, 108, 101, 95, 115],
  [105, 51, 50, 46, 108, 101, 95, 117], [105, 51, 50, 46, 103, 101, 95, 115], [105, 51, 50, 46, 103, 101, 95, 117], [105, 54, 52, 46, 101, 113, 122],
  [105, 54, 52, 46, 101, 113], [105, 54, 52, 46, 110, 101], [105, 54, 52, 46, 108, 116, 95, 115], [105, 54, 52, 46, 108, 116, 95, 117],
  [105, 54, 52, 46, 103, 116, 95, 115], [105, 54, 52, 46, 103, 116, 95, 117], [105, 54, 52, 46, 108, 101, 95, 115], [105, 54, 52, 46, 108, 101, 95, 117],
  [105, 54, 52, 46, 103, 101, 95, 115], [105, 54, 52, 46, 103, 101, 95, 117]]
def rns : List (List UInt8) := [
  [105, 51, 50, 46, 99, 108, 122], [105, 51, 50, 46, 99, 116, 122], [105, 51, 50, 46, 112, 111, 112, 99, 110, 116], [105, 51, 50, 46, 97, 100, 100],
  [105, 51, 50, 46, 115, 117, 98], [105, 51, 50, 46, 109, 117, 108], [105, 51, 50, 46, 100, 105, 118, 95, 115], [105, 51, 50, 46, 100, 105, 118, 95, 117],
  [105, 51, 50, 46, 114, 101, 109, 95, 115], [105, 51, 50, 46, 114, 101, 109, 95, 117], [105, 51, 50, 46, 97, 110, 100], [105, 51, 50, 46, 111, 114],
  [105, 51, 50, 46, 120, 111, 114], [105, 51, 50, 46, 115, 104, 108], [105, 51, 50, 46, 115, 104, 114, 95, 115], [105, 51, 50, 46, 115, 104, 114, 95, 117],
  [105, 51, 50, 46, 114, 111, 116, 108], [105, 51, 50, 46, 114, 111, 116, 114], [105, 54, 52, 46, 99, 108, 122], [105, 54, 52, 46, 99, 116, 122],
  [105, 54, 52, 46, 112, 111, 112, 99, 110, 116], [105, 54, 52, 46, 97, 100, 100], [105, 54, 52, 46, 115, 117, 98], [105, 54, 52, 46, 109, 117, 108],
  [105, 54, 52, 46, 100, 105, 118, 95, 115], [105, 54, 52, 46, 100, 105, 118, 95, 117], [105, 54, 52, 46, 114, 101, 109, 95, 115], [105, 54, 52, 46, 114, 101, 109, 95, 117],
  [105, 54, 52, 46, 97, 110, 100], [105, 54, 52, 46, 111, 114], [105, 54, 52, 46, 120, 111, 114], [105, 54, 52, 46, 115, 104, 108],
  [105, 54, 52, 46, 115, 104, 114, 95, 115], [105, 54, 52, 46, 115, 104, 114, 95, 117], [105, 54, 52, 46, 114, 111, 116, 108], [105, 54, 52, 46, 114, 111, 116, 114]]
/-- ranges of numbers with points -/
def fls : List (Int × Int) := [
  (42, 43), (56, 57), (67, 68), (91, 102),
  (139, 166), (168, 171), (174, 191)]
/-- first, last, form, what is taken, what is given -/
structure Fam where
  f : Int
  l : Int
  o : Int
  x : Int
  y : Int
  g : Int
def fms : List Fam := [
  ⟨0, 1, 0, 0, 0, 0⟩, ⟨2, 3, 6, 0, 0, 0⟩, ⟨4, 4, 7, 0, 0, 0⟩, ⟨12, 13, 3, 0, 0, 0⟩,
  ⟨14, 14, 8, 0, 0, 0⟩, ⟨15, 15, 0, 0, 0, 0⟩, ⟨16, 16, 3, 0, 0, 0⟩, ⟨17, 17, 9, 0, 0, 0⟩,
  ⟨26, 27, 0, 0, 0, 0⟩, ⟨32, 36, 3, 0, 0, 0⟩, ⟨40, 40, 4, 127, 0, 127⟩, ⟨41, 41, 4, 127, 0, 126⟩,
  ⟨44, 47, 4, 127, 0, 127⟩, ⟨48, 53, 4, 127, 0, 126⟩, ⟨54, 54, 4, 127, 127, 0⟩, ⟨55, 55, 4, 127, 126, 0⟩,
  ⟨58, 59, 4, 127, 127, 0⟩, ⟨60, 62, 4, 127, 126, 0⟩, ⟨63, 63, 5, 0, 0, 127⟩, ⟨64, 64, 5, 127, 0, 127⟩,
  ⟨65, 65, 1, 0, 0, 127⟩, ⟨66, 66, 2, 0, 0, 126⟩, ⟨69, 69, 0, 127, 0, 127⟩, ⟨70, 79, 0, 127, 127, 127⟩,
  ⟨80, 80, 0, 126, 0, 127⟩, ⟨81, 90, 0, 126, 126, 127⟩, ⟨103, 105, 0, 127, 0, 127⟩, ⟨106, 120, 0, 127, 127, 127⟩,
  ⟨121, 123, 0, 126, 0, 126⟩, ⟨124, 138, 0, 126, 126, 126⟩, ⟨167, 167, 0, 126, 0, 127⟩, ⟨172, 173, 0, 127, 0, 126⟩]
/-- an array that reads as a list of things has their cells one behind another -/
theorem cells_of_arr {H α : Type} {enc : TypeId × Value → H} {P : Program} {w : World} {base : Nat} {sp : Nat → Bool} {held : Bool} {t e : TypeId} {n m : Nat} (dat : α → DataW H) (val : α → List Value)
    (he : ∀ (fuel : Nat) (xs : List Value) (a : α) (p : List MemPlace), DataW.trod enc P w base sp held fuel e xs = some (dat a, p) → xs = val a)
    (ht : P.underlying t = some (.array n e)) (hce : P.cellsOf e = m) (hct : P.cellsOf t = n * m) {fuel : Nat} {cs : List Value} {l : List α} {p : List MemPlace}
    (h : DataW.trod enc P w base sp held fuel t cs = some (.agg (l.map dat), p)) : cs = l.flatMap val := by
  obtain ⟨xs, k, rfl, hx, hlen, hxl, hall⟩ := DataW.trod_array ht h
  rw [hce] at hall
  rw [hct] at hlen
  have hmap : l.map dat = xs.map (·.1) := by
    have := congrArg Prod.fst hx
    simpa using this
  have hln : l.length = n := by
    have := congrArg List.length hmap
    simp at this
    omega
  have hsl : ∀ i (a : α), l[i]? = some a → (cs.drop (i * m)).take m = val a := by
    intro i a ha
    have hi : i < n := by
      have := (List.getElem?_eq_some_iff.1 ha).1
      omega
    have h1 := hall i hi
    obtain ⟨y, hy⟩ : ∃ y, xs[i]? = some y := ⟨xs[i], List.getElem?_eq_some_iff.2 ⟨by omega, rfl⟩⟩
    have h2 : (l.map dat)[i]? = some (dat a) := by simp [ha]
    rw [hmap] at h2
    simp [hy] at h2
    rw [hy] at h1
    obtain ⟨y1, y2⟩ := y
    simp only at h2
    subst h2
    exact he _ _ a _ h1
  subst hln
  clear hall hmap hxl hx h ht hct xs
  induction l generalizing cs with
  | nil => simp at hlen; simp [hlen]
  | cons a l ih =>
    have h0 := hsl 0 a rfl
    simp only [Nat.zero_mul, List.drop_zero] at h0
    have hrest := ih (cs := cs.drop m) (fun i b hb => by
      have := hsl (i + 1) b (by simpa using hb)
      rw [List.drop_drop]
      rw [Nat.add_mul, Nat.one_mul] at this
      rw [Nat.add_comm]
      exact this) (by simp only [List.length_cons, Nat.add_mul, Nat.one_mul] at hlen; rw [List.length_drop]; omega)
    rw [List.flatMap_cons, ← hrest, ← h0, List.take_append_drop]
theorem int_of_trod {H : Type} {enc : TypeId × Value → H} {P : Program} {w : World} {base : Nat} {sp : Nat → Bool} {held : Bool} {e : TypeId} {k : IntKind} (ht : P.underlying e = some (.int k)) (fuel : Nat) (xs : List Value) (z : Int) (p : List MemPlace)
    (h : DataW.trod enc P w base sp held fuel e xs = some (.lit (.int k z), p)) : xs = [.int k z] := by
  obtain ⟨n, rfl, hx, _⟩ := DataW.trod_int ht h
  have : z = n := by
    have := congrArg Prod.fst hx
    simpa using this
  subst this
  rfl
/- ops.Name: what it returns, by the tables. -/
/-- a table of texts in its variable -/
def TS (w : World) (g : Nat) (l : List (List UInt8)) : Prop := ∀ j s, l[j]? = some s → w.cell? ⟨g, j, none⟩ = some (.string (str s))
theorem TS.below {w w' : World} {g : Nat} {l : List (List UInt8)} (h : TS w g l) (hb : Below w.heap.size w w') : TS w' g l := fun j s hj => by
  have h1 := h j s hj
  have hlt : g < w.heap.size := block_lt_of_cell h1
  exact (hb.cell (p := ⟨g, j, none⟩) hlt).trans h1
/-- the name of a number; empty where there is none -/
def nm (n : Nat) : List UInt8 :=
  if n < 67 then nms.getD n []
  else if 69 ≤ n ∧ n < 91 then tns.getD (n - 69) []
  else if 103 ≤ n ∧ n < 139 then rns.getD (n - 103) []
  else if n = 167 then [105, 51, 50, 46, 119, 114, 97, 112, 95, 105, 54, 52]
  else if n = 172 then [105, 54, 52, 46, 101, 120, 116, 101, 110, 100, 95, 105, 51, 50, 95, 115]
  else if n = 173 then [105, 54, 52, 46, 101, 120, 116, 101, 110, 100, 95, 105, 51, 50, 95, 117]
  else []
theorem ret_str {a b : ByteArray} (h : a = b) : Ending.returned (.string a) = .returned (.string b) := by rw [h]
/- ops.Op: what it returns. -/
theorem str_toList (a : List UInt8) : (str a).toList = a := by rw [ByteArray.toList_eq]; rfl
theorem str_ie {a : List UInt8} (h : ¬ a = []) : (str a).toList.isEmpty = false := by
  rw [str_toList]; cases a with
  | nil => exact absurd rfl h
  | cons x a => rfl
theorem str_nil : (str []) = ⟨#[]⟩ := rfl
/- ops.Float: what it returns; a whole array read out of a variable. -/
/-- a variable's cells -/
def TC (w : World) (g : Nat) (vs : List Value) : Prop := g < w.heap.size ∧ ∃ t fr, w.heap[g]? = some (.cells vs.toArray t fr)
theorem TC.below {w w' : World} {g : Nat} {vs : List Value} (h : TC w g vs) (hb : Below w.heap.size w w') : TC w' g vs := by
  obtain ⟨h1, t, fr, h2⟩ := h
  exact ⟨Nat.lt_of_lt_of_le h1 hb.size, t, fr, (hb.block g h1).trans h2⟩
def inF (n : Int) (x : Int × Int) : Bool := decide (x.1 ≤ n) && decide (n ≤ x.2)
def flt (n : Int) : Bool := fls.any (inF n)
/- ops.familyOf: what it returns. -/
def fmC (x : Fam) : List Value := [.int .u8 x.f, .int .u8 x.l, .int .i64 x.o, .int .u8 x.x, .int .u8 x.y, .int .u8 x.g]
def fmV : List Value := fms.flatMap fmC
def inX (n : Int) (x : Fam) : Bool := decide (x.f ≤ n) && decide (n ≤ x.l)
def fam (n : Int) : Option Fam := fms.find? (inX n)
def zf : Fam := ⟨0, 0, 0, 0, 0, 0⟩
/-- the j-th of the families, as cells -/
theorem fm_at : ∀ j : Nat, j < 32 → ∃ x, fms[j]? = some x ∧ (∀ wx, (Instr.index 208 (.agg fmV.toArray) (.int .i64 (j : Int))).run Tryz.prog wx = .ok (.agg #[.int .u8 x.f, .int .u8 x.l, .int .i64 x.o, .int .u8 x.x, .int .u8 x.y, .int .u8 x.g]) wx) ∧ 0 ≤ x.f ∧ x.f ≤ 255 ∧ 0 ≤ x.l ∧ x.l ≤ 255 := by
  intro j hj
  match j, hj with
  | 0, _ => exact ⟨_, rfl, fun _ => by kernel_rfl, by decide⟩
  | 1, _ => exact ⟨_, rfl, fun _ => by kernel_rfl, by decide⟩
  | 2, _ => exact ⟨_, rfl, fun _ => by kernel_rfl, by decide⟩
  | 3, _ => exact ⟨_, rfl, fun _ => by kernel_rfl, by decide⟩
  | 4, _ => exact ⟨_, rfl, fun _ => by kernel_rfl, by decide⟩
  | 5, _ => exact ⟨_, rfl, fun _ => by kernel_rfl, by decide⟩
  | 6, _ => exact ⟨_, rfl, fun _ => by kernel_rfl, by decide⟩
  | 7, _ => exact ⟨_, rfl, fun _ => by kernel_rfl, by decide⟩
  | 8, _ => exact ⟨_, rfl, fun _ => by kernel_rfl, by decide⟩
  | 9, _ => exact ⟨_, rfl, fun _ => by kernel_rfl, by decide⟩
  | 10, _ => exact ⟨_, rfl, fun _ => by kernel_rfl, by decide⟩
  | 11, _ => exact ⟨_, rfl, fun _ => by kernel_rfl, by decide⟩
  | 12, _ => exact ⟨_, rfl, fun _ => by kernel_rfl, by decide⟩
  | 13, _ => exact ⟨_, rfl, fun _ => by kernel_rfl, by decide⟩
  | 14, _ => exact ⟨_, rfl, fun _ => by kernel_rfl, by decide⟩
  | 15, _ => exact ⟨_, rfl, fun _ => by kernel_rfl, by decide⟩
  | 16, _ => exact ⟨_, rfl, fun _ => by kernel_rfl, by decide⟩
  | 17, _ => exact ⟨_, rfl, fun _ => by kernel_rfl, by decide⟩
  | 18, _ => exact ⟨_, rfl, fun _ => by kernel_rfl, by decide⟩
  | 19, _ => exact ⟨_, rfl, fun _ => by kernel_rfl, by decide⟩
  | 20, _ => exact ⟨_, rfl, fun _ => by kernel_rfl, by decide⟩
  | 21, _ => exact ⟨_, rfl, fun _ => by kernel_rfl, by decide⟩
  | 22, _ => exact ⟨_, rfl, fun _ => by kernel_rfl, by decide⟩
  | 23, _ => exact ⟨_, rfl, fun _ => by kernel_rfl, by decide⟩
  | 24, _ => exact ⟨_, rfl, fun _ => by kernel_rfl, by decide⟩
  | 25, _ => exact ⟨_, rfl, fun _ => by kernel_rfl, by decide⟩
  | 26, _ => exact ⟨_, rfl, fun _ => by kernel_rfl, by decide⟩
  | 27, _ => exact ⟨_, rfl, fun _ => by kernel_rfl, by decide⟩
  | 28, _ => exact ⟨_, rfl, fun _ => by kernel_rfl, by decide⟩
  | 29, _ => exact ⟨_, rfl, fun _ => by kernel_rfl, by decide⟩
  | 30, _ => exact ⟨_, rfl, fun _ => by kernel_rfl, by decide⟩
  | 31, _ => exact ⟨_, rfl, fun _ => by kernel_rfl, by decide⟩
  | j + 32, h => omega
theorem fam_yes {n : Int} {j : Nat} {x : Fam} (h : fms[j]? = some x) (h2 : inX n x = true) (hno : ∀ i y, i < j → fms[i]? = some y → inX n y = false) : fam n = some x := by
  obtain ⟨hl, rfl⟩ := List.getElem?_eq_some_iff.1 h
  refine List.find?_eq_some_iff_getElem.2 ⟨h2, j, hl, rfl, fun i hi => ?_⟩
  rw [hno i _ hi (List.getElem?_eq_getElem (by omega))]
  rfl
theorem fam_no {n : Int} (h : ∀ i y, i < 32 → fms[i]? = some y → inX n y = false) : fam n = none := by
  refine List.find?_eq_none.2 fun x hx h2 => ?_
  obtain ⟨i, hi⟩ := List.getElem?_of_mem hx
  have hl : i < fms.length := (List.getElem?_eq_some_iff.1 hi).1
  rw [h i x hl hi] at h2
  exact absurd h2 (by decide)
/-- what familyOf hands back -/
def famR (o : Option Fam) : Value := match o with
  | some x => .tuple #[.agg #[.int .u8 x.f, .int .u8 x.l, .int .i64 x.o, .int .u8 x.x, .int .u8 x.y, .int .u8 x.g], errV 0]
  | none => .tuple #[.agg #[.int .u8 0, .int .u8 0, .int .i64 0, .int .u8 0, .int .u8 0, .int .u8 0], errV 1]
/-- six cells written -/
theorem set6 (w : World) (b : Nat) (t : TypeId) (x0 x1 x2 x3 x4 x5 v0 v1 v2 v3 v4 v5 : Value) (h : w.heap[b]? = some (.cells #[x0, x1, x2, x3, x4, x5] t (0, 0))) :
    ((((((w.setCell ⟨b, 0, none⟩ v0).setCell ⟨b, 1, none⟩ v1).setCell ⟨b, 2, none⟩ v2).setCell ⟨b, 3, none⟩ v3).setCell ⟨b, 4, none⟩ v4).setCell ⟨b, 5, none⟩ v5).heap[b]? = some (.cells #[v0, v1, v2, v3, v4, v5] t (0, 0)) := by
  have h0 := heap_setCell_same w b 0 _ _ v0 h
  have h1 := heap_setCell_same _ b 1 _ _ v1 h0
  have h2 := heap_setCell_same _ b 2 _ _ v2 h1
  have h3 := heap_setCell_same _ b 3 _ _ v3 h2
  have h4 := heap_setCell_same _ b 4 _ _ v4 h3
  have h5 := heap_setCell_same _ b 5 _ _ v5 h4
  rw [h5]; rfl
theorem bel6 {B : Nat} {a w : World} (h : Below B a w) (b : Nat) (hb : B ≤ b) (v0 v1 v2 v3 v4 v5 : Value) :
    Below B a ((((((w.setCell ⟨b, 0, none⟩ v0).setCell ⟨b, 1, none⟩ v1).setCell ⟨b, 2, none⟩ v2).setCell ⟨b, 3, none⟩ v3).setCell ⟨b, 4, none⟩ v4).setCell ⟨b, 5, none⟩ v5) :=
  (((((h.setCell (p := ⟨b, 0, none⟩) hb v0).setCell (p := ⟨b, 1, none⟩) hb v1).setCell (p := ⟨b, 2, none⟩) hb v2).setCell (p := ⟨b, 3, none⟩) hb v3).setCell (p := ⟨b, 4, none⟩) hb v4).setCell (p := ⟨b, 5, none⟩) hb v5
theorem family_any (n : Nat) (hn : n < 256) (w : World) (hT : TC w 1 fmV) :
    Calls Tryz.prog 129 #[.int .u8 n] w fun e w' => e = .returned (famR (fam n)) ∧ Below w.heap.size w w' := by
  obtain ⟨hgl, tt, fr, hg0⟩ := hT
  have hla : fmV.toArray.size = 192 := rfl
  have hat := fm_at
  generalize hA : fmV.toArray = vs at *
  have HA := hide hat; clear hA hat
  have hg : (w.alloc (.cells #[.int .u8 0, .int .u8 0, .int .i64 0, .int .u8 0, .int .u8 0, .int .u8 0] 204)).heap[1]? = some (.cells vs tt fr) := by
    exact (((Below.refl w.heap.size w).alloc (Nat.le_refl _) _).block _ hgl).trans hg0
  clear hg0
  go_enter Tryz.func129, Tryz.ntmps129
  go_wp2_with (refine wpList_load_row rfl 208 _ rfl 1 rfl tt _ fr _ hg Tryz.underlying208 rfl (by rw [hla]; kernel_rfl) ?_)
  clear hg hgl
  have h0 : Below w.heap.size w (w.alloc (.cells #[.int .u8 0, .int .u8 0, .int .i64 0, .int .u8 0, .int .u8 0, .int .u8 0] 204)) := (Below.refl _ _).alloc (Nat.le_refl _) _
  have r0 : (w.alloc (.cells #[.int .u8 0, .int .u8 0, .int .i64 0, .int .u8 0, .int .u8 0, .int .u8 0] 204)).heap[w.heap.size]? = some (.cells #[.int .u8 0, .int .u8 0, .int .i64 0, .int .u8 0, .int .u8 0, .int .u8 0] 204 (0, 0)) := by show (w.heap.push _)[w.heap.size]? = _; rw [Array.getElem?_push_size]
  have s0 : (w.alloc (.cells #[.int .u8 0, .int .u8 0, .int .i64 0, .int .u8 0, .int .u8 0, .int .u8 0] 204)).heap.size = w.heap.size + 1 := by show (w.heap.push _).size = _; rw [Array.size_push]
  generalize w.alloc (.cells #[.int .u8 0, .int .u8 0, .int .i64 0, .int .u8 0, .int .u8 0, .int .u8 0] 204) = w1 at *
  have H0 := hide h0; have R0 := hide r0; have S0 := hide s0
  clear h0 r0 s0
  generalize hB : w.heap.size = B at *
  have HB := hide hB; clear hB
  go_loopw [7] (fun c wr => ∃ (j : Nat), c = .int .i64 j ∧ (j : Int) ≤ 32 ∧ (∀ i x, i < j → fms[i]? = some x → inX n x = false) ∧ Below (B + 1) w1 wr) (fun c _ => (32 - intOf c).toNat)
  case atStart => exact ⟨0, rfl, by omega, fun i x hi => absurd hi (by omega), Below.refl _ _⟩
  case round =>
    obtain ⟨j, rfl, hj, hno, hbel⟩ := hrel
    have hB : B < wr.heap.size := by have := hbel.size; have := unhide S0; omega
    have hrow := (hbel.block B (by omega)).trans (unhide R0)
    have cc : ∀ i v, #[Value.int .u8 0, .int .u8 0, .int .i64 0, .int .u8 0, .int .u8 0, .int .u8 0][i]? = some v → wr.cell? ⟨B, i, none⟩ = some v := fun i v h => by rw [cell_of_row wr B i _ _ _ hrow]; exact h
    have c0 := cc 0 _ rfl; have c1 := cc 1 _ rfl; have c2 := cc 2 _ rfl; have c3 := cc 3 _ rfl; have c4 := cc 4 _ rfl; have c5 := cc 5 _ rfl
    have ff : ∀ i, wr.frozen? ⟨B, i, none⟩ = false := fun i => by simp [World.frozen?, hrow]
    clear cc
    have HN := hide hno; have HBe := hide hbel; have HR := hide hrow
    clear hno hbel hrow
    by_cases hlt : (j : Int) < 32
    · obtain ⟨x, hx, he, x0, x1, x2, x3⟩ := unhide HA j (by omega)
      obtain ⟨a, b, o, y, z, g⟩ := x
      simp only at he x0 x1 x2 x3
      have HX := hide hx; clear hx hj
      by_cases t1 : a ≤ (n : Int)
      · by_cases t2 : (n : Int) ≤ b
        · have hy := fam_yes (n := n) (unhide HX) (by simp [inX, t1, t2]) (unhide HN)
          have HY := hide hy; clear hy
          go_wp2
          have hr := set6 wr B _ _ _ _ _ _ _ (.int .u8 a) (.int .u8 b) (.int .i64 o) (.int .u8 y) (.int .u8 z) (.int .u8 g) (unhide HR)
          have hb := bel6 (unhide H0 |>.trans ((unhide HBe).mono (by omega))) B (Nat.le_refl _) (.int .u8 a) (.int .u8 b) (.int .i64 o) (.int .u8 y) (.int .u8 z) (.int .u8 g)
          have hz : B < ((((((wr.setCell ⟨B, 0, none⟩ (.int .u8 a)).setCell ⟨B, 1, none⟩ (.int .u8 b)).setCell ⟨B, 2, none⟩ (.int .i64 o)).setCell ⟨B, 3, none⟩ (.int .u8 y)).setCell ⟨B, 4, none⟩ (.int .u8 z)).setCell ⟨B, 5, none⟩ (.int .u8 g)).heap.size := (Array.getElem?_eq_some_iff.1 hr).1
          rw [unhide HY, famR, errV_0]
          clear c0 c1 c2 c3 c4 c5 ff he HR
          generalize (((((wr.setCell ⟨B, 0, none⟩ (.int .u8 a)).setCell ⟨B, 1, none⟩ (.int .u8 b)).setCell ⟨B, 2, none⟩ (.int .i64 o)).setCell ⟨B, 3, none⟩ (.int .u8 y)).setCell ⟨B, 4, none⟩ (.int .u8 z)).setCell ⟨B, 5, none⟩ (.int .u8 g) = W2 at *
          have c0 := cell_of_row W2 B 0 _ _ _ hr; have c1 := cell_of_row W2 B 1 _ _ _ hr; have c2 := cell_of_row W2 B 2 _ _ _ hr; have c3 := cell_of_row W2 B 3 _ _ _ hr; have c4 := cell_of_row W2 B 4 _ _ _ hr; have c5 := cell_of_row W2 B 5 _ _ _ hr
          simp only [List.getElem?_toArray, List.getElem?_cons_zero, List.getElem?_cons_succ] at c0 c1 c2 c3 c4 c5
          refine bodyPost_ret (v := .tuple #[.agg #[.int .u8 a, .int .u8 b, .int .i64 o, .int .u8 y, .int .u8 z, .int .u8 g], .nilIface]) (by simp [results, Tryz.results129, go_sem, c0, c1, c2, c3, c4, c5, hz]) rfl ⟨rfl, ?_⟩
          rw [unhide HB]
          exact hb.alloc (by omega) _
        · have hno : inX (n : Int) ⟨a, b, o, y, z, g⟩ = false := by simp [inX, t2]
          have HF := hide hno; clear hno
          go_wp2
          go_roundw
          case rel => exact ⟨j + 1, by go_num, by omega, fun i x hi hx => by
            by_cases e : i = j
            · subst e
              obtain rfl := Option.some.inj ((unhide HX).symm.trans hx)
              exact unhide HF
            · exact unhide HN i x (by omega) hx, (unhide HBe).alloc (by omega) _⟩
          case measure => simp [intOf]; omega
      · have hno : inX (n : Int) ⟨a, b, o, y, z, g⟩ = false := by simp [inX, t1]
        have HF := hide hno; clear hno
        go_wp2
        go_roundw
        case rel => exact ⟨j + 1, by go_num, by omega, fun i x hi hx => by
          by_cases e : i = j
          · subst e
            obtain rfl := Option.some.inj ((unhide HX).symm.trans hx)
            exact unhide HF
          · exact unhide HN i x (by omega) hx, (unhide HBe).alloc (by omega) _⟩
        case measure => simp [intOf]; omega
    · obtain rfl : j = 32 := by omega
      clear hj hlt
      go_wp2
      have hr := set6 wr B _ _ _ _ _ _ _ (.int .u8 0) (.int .u8 0) (.int .i64 0) (.int .u8 0) (.int .u8 0) (.int .u8 0) (unhide HR)
      have hb := bel6 (unhide H0 |>.trans ((unhide HBe).mono (by omega))) B (Nat.le_refl _) (.int .u8 0) (.int .u8 0) (.int .i64 0) (.int .u8 0) (.int .u8 0) (.int .u8 0)
      rw [fam_no (unhide HN), famR, errV_1]
      clear c0 c1 c2 c3 c4 c5 ff HR
      generalize (((((wr.setCell ⟨B, 0, none⟩ (.int .u8 0)).setCell ⟨B, 1, none⟩ (.int .u8 0)).setCell ⟨B, 2, none⟩ (.int .i64 0)).setCell ⟨B, 3, none⟩ (.int .u8 0)).setCell ⟨B, 4, none⟩ (.int .u8 0)).setCell ⟨B, 5, none⟩ (.int .u8 0) = W2 at *
      have c0 := cell_of_row W2 B 0 _ _ _ hr; have c1 := cell_of_row W2 B 1 _ _ _ hr; have c2 := cell_of_row W2 B 2 _ _ _ hr; have c3 := cell_of_row W2 B 3 _ _ _ hr; have c4 := cell_of_row W2 B 4 _ _ _ hr; have c5 := cell_of_row W2 B 5 _ _ _ hr
      simp only [List.getElem?_toArray, List.getElem?_cons_zero, List.getElem?_cons_succ] at c0 c1 c2 c3 c4 c5
      refine bodyPost_ret (v := .tuple #[.agg #[.int .u8 0, .int .u8 0, .int .i64 0, .int .u8 0, .int .u8 0, .int .u8 0], .iface 76 (.int .i64 1)]) (by simp [results, Tryz.results129, go_sem, c0, c1, c2, c3, c4, c5]) rfl ⟨rfl, ?_⟩
      rw [unhide HB]
      exact hb
/- ops.Form, family's params. -/
theorem infoK : (Tryz.prog.info? 194).map (fun i => (i.zero, i.size, i.bytes)) = some (some (.int .u8 0), 1, 1) := by kernel_rfl
def formR (o : Option Fam) : Value := match o with
  | some x => .tuple #[.int .i64 x.o, errV 0]
  | none => .tuple #[.int .i64 0, errV 1]
theorem form_any (n : Nat) (hn : n < 256) (w : World) (hT : TC w 1 fmV) :
    Calls Tryz.prog 126 #[.int .u8 n] w fun e w' => e = .returned (formR (fam n)) ∧ Below w.heap.size w w' := by
  have hf := family_any n hn w hT
  cases hx : fam n with
  | none =>
    rw [hx] at hf
    simp only [famR, errV_1] at hf
    simp only [formR, errV_1]
    have HF := hide hf; clear hf hx hT
    go_enter Tryz.func126, Tryz.ntmps126
    go_wp2_with fail
    refine (unhide HF).mono ?_
    rintro e w1 ⟨rfl, hb⟩
    have HB := hide hb; clear hb
    go_wp2
    go_ret2
    exact ⟨rfl, (unhide HB).alloc (unhide HB).size _⟩
  | some x =>
    rw [hx] at hf
    obtain ⟨a, b, o, y, z, g⟩ := x
    simp only [famR, errV_0] at hf
    simp only [formR, errV_0]
    have HF := hide hf; clear hf hx hT
    go_enter Tryz.func126, Tryz.ntmps126
    go_wp2_with fail
    refine (unhide HF).mono ?_
    rintro e w1 ⟨rfl, hb⟩
    have HB := hide hb; clear hb
    go_wp2
    go_ret2
    exact ⟨rfl, (unhide HB).alloc (unhide HB).size _⟩
/-- what is taken: none stands for nothing -/
def pk (x y : Int) (j : Nat) : List Int := ([x, y].take j).filter (fun c => c != 0)
def kRow (x y : Int) (j : Nat) : List Value := (pk x y j).map (Value.int .u8)
theorem pk_1 (x y : Int) : pk x y 1 = pk x y 0 ++ if x != 0 then [x] else [] := by
  unfold pk; simp [List.filter_cons]
theorem pk_2 (x y : Int) : pk x y 2 = pk x y 1 ++ if y != 0 then [y] else [] := by
  unfold pk; simp [List.filter_cons]; split <;> split <;> simp_all
theorem params_any (a b o x y g : Int) (w : World) (hx : 0 ≤ x ∧ x ≤ 255) (hy : 0 ≤ y ∧ y ≤ 255) :
    Calls Tryz.prog 130 #[.agg #[.int .u8 a, .int .u8 b, .int .i64 o, .int .u8 x, .int .u8 y, .int .u8 g]] w fun e w' =>
      ∃ v, e = .returned v ∧ w'.ownsRow w.heap.size 194 1 v (pk x y 2).length (kRow x y 2) ∧ Below w.heap.size w w' := by
  obtain ⟨i0, hi, hz0, hz1, hz2⟩ := info_parts infoK
  have ix0 : ∀ wx, (Instr.index 209 (.agg #[.int .u8 x, .int .u8 y]) (.int .i64 0)).run Tryz.prog wx = .ok (.int .u8 x) wx := fun _ => by kernel_rfl
  have ix1 : ∀ wx, (Instr.index 209 (.agg #[.int .u8 x, .int .u8 y]) (.int .i64 1)).run Tryz.prog wx = .ok (.int .u8 y) wx := fun _ => by kernel_rfl
  have h0 : Below w.heap.size w (w.alloc (.cells #[.int .u8 a, .int .u8 b, .int .i64 o, .int .u8 x, .int .u8 y, .int .u8 g] 204)) := (Below.refl _ _).alloc (Nat.le_refl _) _
  have H0 := hide h0; clear h0
  go_enter Tryz.func130, Tryz.ntmps130
  go_wp2_with fail
  generalize w.alloc (.cells #[.int .u8 a, .int .u8 b, .int .i64 o, .int .u8 x, .int .u8 y, .int .u8 g] 204) = w1 at *
  generalize hB : w.heap.size = B at *
  have HB := hide hB; clear hB
  go_loopw [3, 11] (fun s k wr => ∃ (j : Nat), k = .int .i64 (j : Int) ∧ (j : Int) ≤ 2 ∧ wr.ownsRow B 194 1 s (pk x y j).length (kRow x y j) ∧ Below B w wr ∧ B ≤ wr.heap.size) (fun _ k _ => 2 - (intOf k).toNat)
  case atStart => exact ⟨0, rfl, by omega, World.ownsRow_nil _ _ _ _, unhide H0, by have := (unhide H0).size; have := unhide HB; omega⟩
  case round =>
    obtain ⟨j, rfl, hj, hown, hbel, hlt⟩ := hrel
    have HO := hide hown; have HBe := hide hbel; have HLt := hide hlt
    clear hown hbel hlt
    by_cases hl2 : (j : Int) < 2
    · obtain ⟨c, ix, hpk, hc0, hc1⟩ : ∃ c, (∀ wx, (Instr.index 209 (.agg #[.int .u8 x, .int .u8 y]) (.int .i64 (j : Int))).run Tryz.prog wx = .ok (.int .u8 c) wx) ∧ pk x y (j + 1) = pk x y j ++ (if c != 0 then [c] else []) ∧ 0 ≤ c ∧ c ≤ 255 := by
        rcases (show j = 0 ∨ j = 1 by omega) with rfl | rfl
        · exact ⟨x, ix0, pk_1 x y, hx.1, hx.2⟩
        · exact ⟨y, ix1, pk_2 x y, hy.1, hy.2⟩
      have HP := hide hpk
      have hlen : (pk x y j).length ≤ j := by unfold pk; exact Nat.le_trans (List.length_filter_le _ _) (by rw [List.length_take]; omega)
      have HLen := hide hlen
      clear ix0 ix1 hx hy hj hpk hlen
      by_cases hcz : c = 0
      · subst hcz
        have hp2 : pk x y (j + 1) = pk x y j := by rw [unhide HP]; simp
        have HP2 := hide hp2; clear hp2 HP
        go_wp2
        go_roundw
        case rel => exact ⟨j + 1, by go_num, by omega, by unfold kRow; rw [unhide HP2]; exact unhide HO, unhide HBe, unhide HLt⟩
        case measure => simp [intOf]; omega
      · have t : (c != 0) = true := by simpa using hcz
        have hp2 : pk x y (j + 1) = pk x y j ++ [c] := by rw [unhide HP, if_pos t]
        have HP2 := hide hp2; clear hp2 HP hcz
        go_wp2_with (at_builtin; refine wpList_append_own _ rfl (.tmp 16) (.tmp 18) 193 rfl B 194 i0 (.int .u8 0) 1 1 Tryz.underlying193 hi hz0 hz1 hz2 rfl (by decide) u3 (pk x y j).length (kRow x y j) rfl ((unhide HO).alloc _) ⟨wr.heap.size, 0, none⟩ 1 1 [.int .u8 c] rfl rfl ?c1 ?c2 ?c3 ?c4 ?c5 ?_)
        case c1 => exact cell_one_new _ _ _
        case c2 => first | rfl | (intro u hu; simp at hu; subst hu; rfl)
        case c3 => unfold maxLen; have := unhide HLen; omega
        case c4 => have := unhide HLen; omega
        case c5 => have := unhide HLt; simp; omega
        intro v' w2 hown3 hgrow _
        have h1 : Below B w w2 := ((unhide HBe).alloc (unhide HLt) _).grown hgrow (by have := unhide HLt; have := unhide HB; simp; omega) (fun k hk => ((unhide HO).lt k hk).1)
        have h2 : w2.ownsRow B 194 1 v' (pk x y (j + 1)).length (kRow x y (j + 1)) := by
          unfold kRow; rw [unhide HP2]; simpa [kRow] using hown3
        have H1 := hide h1; have H2 := hide h2
        clear hown3 hgrow h1 h2 HO
        go_wp2
        go_roundw
        case rel => exact ⟨j + 1, by go_num, by omega, unhide H2, unhide H1, by have := (unhide H1).size; have := unhide HB; omega⟩
        case measure => simp [intOf]; omega
    · obtain rfl : j = 2 := by omega
      clear hj hl2
      go_wp2
      go_ret
      exact ⟨_, rfl, by rw [unhide HB]; exact unhide HO, by rw [unhide HB]; exact unhide HBe⟩
/- ops.Sign: what it returns. -/
theorem fms_bd : ∀ x ∈ fms, (0 ≤ x.x ∧ x.x ≤ 255) ∧ (0 ≤ x.y ∧ x.y ≤ 255) ∧ 0 ≤ x.g ∧ x.g ≤ 255 := by decide
/-- two cells written -/
theorem set2 (w : World) (b : Nat) (t : TypeId) (x0 x1 v0 v1 : Value) (h : w.heap[b]? = some (.cells #[x0, x1] t (0, 0))) :
    ((w.setCell ⟨b, 0, none⟩ v0).setCell ⟨b, 1, none⟩ v1).heap[b]? = some (.cells #[v0, v1] t (0, 0)) := by
  have h0 := heap_setCell_same w b 0 _ _ v0 h
  have h1 := heap_setCell_same _ b 1 _ _ v1 h0
  rw [h1]; rfl
theorem bel2 {B : Nat} {a w : World} (h : Below B a w) (b : Nat) (hb : B ≤ b) (v0 v1 : Value) : Below B a ((w.setCell ⟨b, 0, none⟩ v0).setCell ⟨b, 1, none⟩ v1) :=
  (h.setCell (p := ⟨b, 0, none⟩) hb v0).setCell (p := ⟨b, 1, none⟩) hb v1
theorem sign_none (n : Nat) (hn : n < 256) (w : World) (hT : TC w 1 fmV) (hf : fam n = none) :
    Calls Tryz.prog 125 #[.int .u8 n] w fun e w' => e = .returned (.tuple #[.agg #[.slice none 0 0, .int .u8 0], errV 1]) ∧ Below w.heap.size w w' := by
  have h0 : Below w.heap.size w (w.alloc (.cells #[.slice none 0 0, .int .u8 0] 196)) := (Below.refl _ _).alloc (Nat.le_refl _) _
  have hc := family_any n hn _ (hT.below h0)
  rw [hf] at hc
  simp only [famR, errV_1] at hc
  rw [errV_1]
  have HC := hide hc; have H0 := hide h0; clear hc hf hT h0
  go_enter Tryz.func125, Tryz.ntmps125
  go_wp2_with fail
  refine (unhide HC).mono ?_
  rintro e w1 ⟨rfl, hb⟩
  have hz := hb.size
  rw [show (w.alloc (.cells #[.slice none 0 0, .int .u8 0] 196)).heap.size = w.heap.size + 1 by show (w.heap.push _).size = _; rw [Array.size_push]] at hb hz
  have r0 : (w.alloc (.cells #[.slice none 0 0, .int .u8 0] 196)).heap[w.heap.size]? = some (.cells #[.slice none 0 0, .int .u8 0] 196 (0, 0)) := by show (w.heap.push _)[w.heap.size]? = _; rw [Array.getElem?_push_size]
  have hlt : w.heap.size < w1.heap.size := by omega
  clear hz
  have hr := (hb.block w.heap.size (by omega)).trans r0
  have c0 : w1.cell? ⟨w.heap.size, 0, none⟩ = some (.slice none 0 0) := by rw [cell_of_row w1 _ 0 _ _ _ hr]; rfl
  have c1 : w1.cell? ⟨w.heap.size, 1, none⟩ = some (.int .u8 0) := by rw [cell_of_row w1 _ 1 _ _ _ hr]; rfl
  have ff : ∀ i, w1.frozen? ⟨w.heap.size, i, none⟩ = false := fun i => by simp [World.frozen?, hr]
  have HB := hide ((unhide H0).trans (hb.mono (by omega))); have HR := hide hr
  clear hb r0 hr H0
  generalize hB : w.heap.size = B at *
  have HBB := hide hB; clear hB
  go_wp2
  have hr := set2 w1 B _ _ _ (.slice none 0 0) (.int .u8 0) (unhide HR)
  have hb := bel2 (unhide HB) B (Nat.le_refl _) (.slice none 0 0) (.int .u8 0)
  have hz : B < ((w1.setCell ⟨B, 0, none⟩ (.slice none 0 0)).setCell ⟨B, 1, none⟩ (.int .u8 0)).heap.size := (Array.getElem?_eq_some_iff.1 hr).1
  clear c0 c1 ff HR hlt
  generalize (w1.setCell ⟨B, 0, none⟩ (.slice none 0 0)).setCell ⟨B, 1, none⟩ (.int .u8 0) = W2 at *
  have c0 := cell_of_row W2 B 0 _ _ _ hr; have c1 := cell_of_row W2 B 1 _ _ _ hr
  simp only [List.getElem?_toArray, List.getElem?_cons_zero, List.getElem?_cons_succ] at c0 c1
  refine bodyPost_ret (v := .tuple #[.agg #[.slice none 0 0, .int .u8 0], .iface 76 (.int .i64 1)]) (by simp [results, Tryz.results125, go_sem, c0, c1, hz]) rfl ⟨rfl, by rw [unhide HBB]; exact hb.alloc (by omega) _⟩
theorem sign_low (n : Nat) (hn : n < 256) (w : World) (hT : TC w 1 fmV) (x : Fam) (hf : fam n = some x) (h36 : (n : Int) ≤ 36) :
    Calls Tryz.prog 125 #[.int .u8 n] w fun e w' => e = .returned (.tuple #[.agg #[.slice none 0 0, .int .u8 0], errV 1]) ∧ Below w.heap.size w w' := by
  have h0 : Below w.heap.size w (w.alloc (.cells #[.slice none 0 0, .int .u8 0] 196)) := (Below.refl _ _).alloc (Nat.le_refl _) _
  have hc := family_any n hn _ (hT.below h0)
  rw [hf] at hc
  obtain ⟨xa, xb, xo, xx, xy, xg⟩ := x
  simp only [famR, errV_0] at hc
  rw [errV_1]
  have HC := hide hc; have H0 := hide h0; clear hc hf hT h0
  go_enter Tryz.func125, Tryz.ntmps125
  go_wp2_with fail
  refine (unhide HC).mono ?_
  rintro e w1 ⟨rfl, hb⟩
  have hz := hb.size
  rw [show (w.alloc (.cells #[.slice none 0 0, .int .u8 0] 196)).heap.size = w.heap.size + 1 by show (w.heap.push _).size = _; rw [Array.size_push]] at hb hz
  have r0 : (w.alloc (.cells #[.slice none 0 0, .int .u8 0] 196)).heap[w.heap.size]? = some (.cells #[.slice none 0 0, .int .u8 0] 196 (0, 0)) := by show (w.heap.push _)[w.heap.size]? = _; rw [Array.getElem?_push_size]
  have hlt : w.heap.size < w1.heap.size := by omega
  clear hz
  have hr := (hb.block w.heap.size (by omega)).trans r0
  have c0 : w1.cell? ⟨w.heap.size, 0, none⟩ = some (.slice none 0 0) := by rw [cell_of_row w1 _ 0 _ _ _ hr]; rfl
  have c1 : w1.cell? ⟨w.heap.size, 1, none⟩ = some (.int .u8 0) := by rw [cell_of_row w1 _ 1 _ _ _ hr]; rfl
  have ff : ∀ i, w1.frozen? ⟨w.heap.size, i, none⟩ = false := fun i => by simp [World.frozen?, hr]
  have HB := hide ((unhide H0).trans (hb.mono (by omega))); have HR := hide hr
  clear hb r0 hr H0
  generalize hB : w.heap.size = B at *
  have HBB := hide hB; clear hB
  go_wp2
  have hr := set2 w1 B _ _ _ (.slice none 0 0) (.int .u8 0) (unhide HR)
  have hb := bel2 (unhide HB) B (Nat.le_refl _) (.slice none 0 0) (.int .u8 0)
  have hz : B < ((w1.setCell ⟨B, 0, none⟩ (.slice none 0 0)).setCell ⟨B, 1, none⟩ (.int .u8 0)).heap.size := (Array.getElem?_eq_some_iff.1 hr).1
  clear c0 c1 ff HR hlt
  generalize (w1.setCell ⟨B, 0, none⟩ (.slice none 0 0)).setCell ⟨B, 1, none⟩ (.int .u8 0) = W2 at *
  have c0 := cell_of_row W2 B 0 _ _ _ hr; have c1 := cell_of_row W2 B 1 _ _ _ hr
  simp only [List.getElem?_toArray, List.getElem?_cons_zero, List.getElem?_cons_succ] at c0 c1
  refine bodyPost_ret (v := .tuple #[.agg #[.slice none 0 0, .int .u8 0], .iface 76 (.int .i64 1)]) (by simp [results, Tryz.results125, go_sem, c0, c1, hz]) rfl ⟨rfl, by rw [unhide HBB]; exact hb.alloc (by omega) _⟩
/-- behind the call within Sign's last statement -/
theorem sg_facts {B : Nat} {w1 w3 : World} {cs : Array Value} {t u : TypeId} {r : Obj} (hlt : B < w1.heap.size) (hr : w1.heap[B]? = some r)
    (hb : Below (w1.alloc (.cells cs t)).drew.heap.size (w1.alloc (.cells cs t)).drew w3) :
    w3.heap[B]? = some r ∧ w3.heap[w1.heap.size]? = some (.cells cs t (0, 0)) ∧ w1.heap.size < w3.heap.size ∧ Below w1.heap.size w1 w3 := by
  have e : (w1.alloc (.cells cs t)).drew.heap = w1.heap.push (.cells cs t (0, 0)) := rfl
  have hz := hb.size
  have hk := hb.block
  rw [e, Array.size_push] at hz hk
  refine ⟨?_, ?_, by omega, ⟨hb.os, hb.tape, hb.output, by omega, fun k h => ?_⟩⟩
  · rw [hk B (by omega), Array.getElem?_push, if_neg (by omega)]; exact hr
  · rw [hk _ (by omega), Array.getElem?_push_size]
  · rw [hk k (by omega), Array.getElem?_push, if_neg (by omega)]
theorem sg_facts2 {B : Nat} {w1 w3 : World} {x0 x1 x2 x3 x4 x5 y0 y1 : Value} {t u : TypeId} (hlt : B < w1.heap.size) (hr : w1.heap[B]? = some (.cells #[y0, y1] u (0, 0)))
    (hb : Below (w1.alloc (.cells #[x0, x1, x2, x3, x4, x5] t)).drew.heap.size (w1.alloc (.cells #[x0, x1, x2, x3, x4, x5] t)).drew w3) :
    w3.heap[B]? = some (.cells #[y0, y1] u (0, 0)) ∧ w1.heap.size < w3.heap.size ∧ Below w1.heap.size w1 w3 ∧ w3.cell? ⟨B, 0, none⟩ = some y0 ∧ w3.cell? ⟨B, 1, none⟩ = some y1 ∧ (∀ i, w3.frozen? ⟨B, i, none⟩ = false) ∧ w3.cell? ⟨w1.heap.size, 5, none⟩ = some x5 := by
  obtain ⟨q1, q2, q3, q4⟩ := sg_facts (u := u) hlt hr hb
  refine ⟨q1, q3, q4, ?_, ?_, fun i => by simp [World.frozen?, q1], ?_⟩
  · rw [cell_of_row w3 _ 0 _ _ _ q1]; rfl
  · rw [cell_of_row w3 _ 1 _ _ _ q1]; rfl
  · rw [cell_of_row w3 _ 5 _ _ _ q2]; rfl
theorem own_slice {w : World} {base : Nat} {e : TypeId} {size n : Nat} {v : Value} {xs : List Value} (h : w.ownsRow base e size v n xs) : ∃ a cap, v = .slice a n cap := by
  rcases h.2 with ⟨rfl, rfl⟩ | ⟨g, cap, cur, rfl, _⟩
  · exact ⟨none, 0, rfl⟩
  · exact ⟨_, cap, rfl⟩
theorem own_mono {w : World} {base base' : Nat} {e : TypeId} {size : Nat} {v : Value} {n : Nat} {xs : List Value} (h : w.ownsRow base e size v n xs) (hb : base' ≤ base) : w.ownsRow base' e size v n xs := by
  refine ⟨h.1, ?_⟩
  rcases h.2 with h2 | ⟨g, cap, cur, e1, e2, e3⟩
  · exact .inl h2
  · exact .inr ⟨g, cap, cur, e1, Nat.le_trans hb e2, e3⟩
theorem sign_yes (n : Nat) (hn : n < 256) (w : World) (hT : TC w 1 fmV) (x : Fam) (hf : fam n = some x) (h36 : ¬ (n : Int) ≤ 36) :
    Calls Tryz.prog 125 #[.int .u8 n] w fun e w' => ∃ v, e = .returned (.tuple #[.agg #[v, .int .u8 x.g], errV 0]) ∧ w'.ownsRow w.heap.size 194 1 v (pk x.x x.y 2).length (kRow x.x x.y 2) ∧ Below w.heap.size w w' := by
  have h0 : Below w.heap.size w (w.alloc (.cells #[.slice none 0 0, .int .u8 0] 196)) := (Below.refl _ _).alloc (Nat.le_refl _) _
  have hc := family_any n hn _ (hT.below h0)
  rw [hf] at hc
  obtain ⟨bx, by', bg, bg'⟩ := fms_bd x (List.mem_of_find?_eq_some hf)
  obtain ⟨xa, xb, xo, xx, xy, xg⟩ := x
  simp only [famR, errV_0] at hc bx by' bg bg' ⊢
  have HC := hide hc; have H0 := hide h0; have HX := hide bx; have HY := hide by'
  clear hc hf hT h0 bx by'
  go_enter Tryz.func125, Tryz.ntmps125
  go_wp2_with fail
  refine (unhide HC).mono ?_
  rintro e w1 ⟨rfl, hb⟩
  have hz := hb.size
  rw [show (w.alloc (.cells #[.slice none 0 0, .int .u8 0] 196)).heap.size = w.heap.size + 1 by show (w.heap.push _).size = _; rw [Array.size_push]] at hb hz
  have r0 : (w.alloc (.cells #[.slice none 0 0, .int .u8 0] 196)).heap[w.heap.size]? = some (.cells #[.slice none 0 0, .int .u8 0] 196 (0, 0)) := by show (w.heap.push _)[w.heap.size]? = _; rw [Array.getElem?_push_size]
  have hlt : w.heap.size < w1.heap.size := by omega
  clear hz
  have hr := (hb.block w.heap.size (by omega)).trans r0
  have HB := hide ((unhide H0).trans (hb.mono (by omega))); have HR := hide hr
  clear hb r0 hr H0
  generalize hB : w.heap.size = B at *
  have HBB := hide hB; clear hB
  go_wp2_with fail
  go_region_with (go_at_call 130; refine (params_any _ _ _ _ _ _ _ (unhide HX) (unhide HY)).mono ?_; rintro e w3 ⟨v, rfl, ho, hb3⟩; obtain ⟨q1, q3, q4, c0, c1, ff, d5⟩ := sg_facts2 hlt (unhide HR) hb3; obtain ⟨ad, cap, rfl⟩ := own_slice ho; have Q1 := hide q1; have Q4 := hide q4; have HO := hide ho; have HB3 := hide hb3; clear q1 q4 ho hb3)
  all_goals
    go_wp2
    have hr := set2 w3 B _ _ _ (.slice ad (pk xx xy 2).length cap) (.int .u8 xg) (unhide Q1)
    have hb := bel2 ((unhide HB).trans ((unhide Q4).mono (by omega))) B (Nat.le_refl _) (.slice ad (pk xx xy 2).length cap) (.int .u8 xg)
    have ho := own_mono (base' := B) (ownsRow_setCell_below (ownsRow_setCell_below (unhide HO) (a := ⟨B, 0, none⟩) (by show B < (w1.heap.push _).size; rw [Array.size_push]; omega) (.slice ad (pk xx xy 2).length cap)) (a := ⟨B, 1, none⟩) (by show B < (w1.heap.push _).size; rw [Array.size_push]; omega) (.int .u8 xg)) (by show B ≤ (w1.heap.push _).size; rw [Array.size_push]; omega)
    clear c0 c1 ff d5 q3 Q1 Q4 HO HB3 hlt
    generalize (w3.setCell ⟨B, 0, none⟩ (.slice ad (pk xx xy 2).length cap)).setCell ⟨B, 1, none⟩ (.int .u8 xg) = W2 at *
    have c0 := cell_of_row W2 B 0 _ _ _ hr; have c1 := cell_of_row W2 B 1 _ _ _ hr
    simp only [List.getElem?_toArray, List.getElem?_cons_zero, List.getElem?_cons_succ] at c0 c1
    refine bodyPost_ret (v := .tuple #[.agg #[.slice ad (pk xx xy 2).length cap, .int .u8 xg], .nilIface]) (by simp [results, Tryz.results125, go_sem, c0, c1]) rfl ⟨_, rfl, by rw [unhide HBB]; exact ho, by rw [unhide HBB]; exact hb⟩
end Go.Proofs.YtglehoekehiaiaaGreatDoor
