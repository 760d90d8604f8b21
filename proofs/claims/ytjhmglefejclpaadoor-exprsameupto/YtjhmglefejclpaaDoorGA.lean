/- GA: what follows, part by part: each part tells what it holds. -/
import Derived.Test.YtjhmglefejclpaaDoorRows
import Derived.WalkKit
import Derived.WalkSpells
import Derived.WalkLawsBesides
import Derived.LaidLaws
import Derived.Lib.LaidTab
import Derived.OpenShut
import Derived.Stop.LaidErr
import Derived.Laws.Rows
import Derived.LaidHandle
import Derived.Laws.CopyOwn
import Derived.Deep.QuietTactic
import Derived.BigQuiet
import Derived.LaidEql
import Derived.Stop.Asserts
import Derived.RowKitTokens
import Derived.ProofKit
import Derived.ShutString
import Derived.ChangeOld
import Derived.ChangeSame
import Derived.ChangeVars
import Derived.JoinedOf
import Derived.RowKit
import Derived.Stop.Joined

/- What every text of mine begins with: equations hidden from the walk, endings, an error by its number. -/
namespace Go.Proofs.YtjhmglefejclpaaDoor
open Go.RowKit

theorem hide {p : Prop} (h : p) : Hid p := h
theorem unhide {p : Prop} (h : Hid p) : p := h
theorem ret_int {k : IntKind} {a b : Int} (h : a = b) : Ending.returned (.int k a) = .returned (.int k b) := by rw [h]
theorem ret_bool {a b : Bool} (h : a = b) : Ending.returned (.bool a) = .returned (.bool b) := by rw [h]

/-- An error by its number; 0 is none. -/
def errV (k : Int) : Value := if k = 0 then .nilIface else .iface 64 (.int .i64 k)
theorem errV_0 : errV 0 = .nilIface := by simp [errV]
theorem errV_1 : errV 1 = .iface 64 (.int .i64 1) := by simp [errV]
theorem errV_4 : errV 4 = .iface 64 (.int .i64 4) := by simp [errV]
theorem errV_6 : errV 6 = .iface 64 (.int .i64 6) := by simp [errV]
theorem ret2 {k : IntKind} {a b : Int} {u v : Value} (h : a = b) (h2 : u = v) : Ending.returned (.tuple #[.int k a, u]) = .returned (.tuple #[.int k b, v]) := by rw [h, h2]
theorem ret3 {k l : IntKind} {a b c d : Int} {u v : Value} (h : a = b) (h1 : c = d) (h2 : u = v) : Ending.returned (.tuple #[.int k a, .int l c, u]) = .returned (.tuple #[.int k b, .int l d, v]) := by rw [h, h1, h2]
end Go.Proofs.YtjhmglefejclpaaDoor

/- One call after another: what stands below stays. -/
namespace Go.Proofs.YtjhmglefejclpaaDoor
open Go.RowKit
theorem Below.on {w w1 w2 : World} (h : Below w.heap.size w w1) (h2 : Below w1.heap.size w1 w2) : Below w.heap.size w w2 := h.trans (h2.mono h.size)
end Go.Proofs.YtjhmglefejclpaaDoor

/- The tables of ops as lists; from the rows' condition on the package's variables to their cells. -/
namespace Go.Proofs.YtjhmglefejclpaaDoor
open Go.RowKit
set_option linter.unusedVariables false

/-- a text's bytes as the model's string -/
def str (l : List UInt8) : ByteArray := ⟨⟨l⟩⟩
theorem str_inj {a b : List UInt8} (h : str a = str b) : a = b := by
  have := congrArg (fun x : ByteArray => x.data.toList) h
  simpa [str] using this

/-- the names by number; those of tests, of what reckons -/
def nms : List (List UInt8) := [
  [117, 110, 114, 101, 97, 99, 104, 97, 98, 108, 101], [110, 111, 112], [98, 108, 111, 99, 107], [108, 111, 111, 112],
  [105, 102], [], [], [],
  [], [], [], [],
  [98, 114], [98, 114, 95, 105, 102], [98, 114, 95, 116, 97, 98, 108, 101], [114, 101, 116, 117, 114, 110],
  [99, 97, 108, 108], [99, 97, 108, 108, 95, 105, 110, 100, 105, 114, 101, 99, 116], [], [],
  [], [], [], [],
  [], [], [100, 114, 111, 112], [115, 101, 108, 101, 99, 116],
  [], [], [], [],
  [108, 111, 99, 97, 108, 46, 103, 101, 116], [108, 111, 99, 97, 108, 46, 115, 101, 116], [108, 111, 99, 97, 108, 46, 116, 101, 101], [103, 108, 111, 98, 97, 108, 46, 103, 101, 116],
  [103, 108, 111, 98, 97, 108, 46, 115, 101, 116], [], [], [],
  [105, 51, 50, 46, 108, 111, 97, 100], [105, 54, 52, 46, 108, 111, 97, 100], [], [],
  [105, 51, 50, 46, 108, 111, 97, 100, 56, 95, 115], [105, 51, 50, 46, 108, 111, 97, 100, 56, 95, 117], [105, 51, 50, 46, 108, 111, 97, 100, 49, 54, 95, 115], [105, 51, 50, 46, 108, 111, 97, 100, 49, 54, 95, 117],
  [105, 54, 52, 46, 108, 111, 97, 100, 56, 95, 115], [105, 54, 52, 46, 108, 111, 97, 100, 56, 95, 117], [105, 54, 52, 46, 108, 111, 97, 100, 49, 54, 95, 115], [105, 54, 52, 46, 108, 111, 97, 100, 49, 54, 95, 117],
  [105, 54, 52, 46, 108, 111, 97, 100, 51, 50, 95, 115], [105, 54, 52, 46, 108, 111, 97, 100, 51, 50, 95, 117], [105, 51, 50, 46, 115, 116, 111, 114, 101], [105, 54, 52, 46, 115, 116, 111, 114, 101],
  [], [], [105, 51, 50, 46, 115, 116, 111, 114, 101, 56], [105, 51, 50, 46, 115, 116, 111, 114, 101, 49, 54],
  [105, 54, 52, 46, 115, 116, 111, 114, 101, 56], [105, 54, 52, 46, 115, 116, 111, 114, 101, 49, 54], [105, 54, 52, 46, 115, 116, 111, 114, 101, 51, 50], [109, 101, 109, 111, 114, 121, 46, 115, 105, 122, 101],
  [109, 101, 109, 111, 114, 121, 46, 103, 114, 111, 119], [105, 51, 50, 46, 99, 111, 110, 115, 116], [105, 54, 52, 46, 99, 111, 110, 115, 116]]
def tns : List (List UInt8) := [
  [105, 51, 50, 46, 101, 113, 122], [105, 51, 50, 46, 101, 113], [105, 51, 50, 46, 110, 101], [105, 51, 50, 46, 108, 116, 95, 115],
  [105, 51, 50, 46, 108, 116, 95, 117], [105, 51, 50, 46, 103, 116, 95, 115], [105, 51, 50, 46, 103, 116, 95, 117], [105, 51, 50, 46, 108, 101, 95, 115],
  [105, 51, 50, 46, 108, 101, 95, 117], [105, 51, 50, 46, 103, 101, 95, 115], [105, 51, 50, 46, 103, 101, 95, 117], [105, 54, 52, 46, 101, 113, 122],
  [105, 54, 52, 46, 101, 113], [105, 54, 52, 46, 110, 101], [105, 54, 52, 46, 108, 116, 95, 115], [105, 54, 52, 46, 108, 116, 95, 117],
  [105, 54, 52, 46, 103, 116, 95, 115], [105, 54, 52, 46, 103, 116, 95, 117], [105, 54, 52, 46, 108, 101, 95, 115], [105, 54, 52, 46, 108, 101, 95, 117],
  [105, 54, 52, 46, 103, 101, 95, 115], [105, 54, 52, 46, 103, 101, 95, 117]]
def rns : List (List UInt8) := [
  [105, 51, 50, 46, 99, 108, 122], [105, 51, 50, 46, 99, 116, 122], [105, 51, 50, 46, 112, 111, 112, 99, 110, 116], [105, 51, 50, 46, 97, 100, 100],
  [105, 51, 50, 46, 115, 117, 98], [105, 51, 50, 46, 109, 117, 108], [105, 51, 50, 46, 100, 105, 118, 95, 115], [105, 51, 50, 46, 100, 105, 118, 95, 117],
  [105, 51, 50, 46, 114, 101, 109, 95, 115], [105, 51, 50, 46, 114, 101, 109, 95, 117], [105, 51, 50, 46, 97, 110, 100], [105, 51, 50, 46, 111, 114],
  [105, 51, 50, 46, 120, 111, 114], [105, 51, 50, 46, 115, 104, 108], [105, 51, 50, 46, 115, 104, 114, 95, 115], [105, 51, 50, 46, 115, 104, 114, 95, 117],
  [105, 51, 50, 46, 114, 111, 116, 108], [105, 51, 50, 46, 114, 111, 116, 114], [105, 54, 52, 46, 99, 108, 122], [105, 54, 52, 46, 99, 116, 122],
  [105, 54, 52, 46, 112, 111, 112, 99, 110, 116], [105, 54, 52, 46, 97, 100, 100], [105, 54, 52, 46, 115, 117, 98], [105, 54, 52, 46, 109, 117, 108],
  [105, 54, 52, 46, 100, 105, 118, 95, 115], [105, 54, 52, 46, 100, 105, 118, 95, 117], [105, 54, 52, 46, 114, 101, 109, 95, 115], [105, 54, 52, 46, 114, 101, 109, 95, 117],
  [105, 54, 52, 46, 97, 110, 100], [105, 54, 52, 46, 111, 114], [105, 54, 52, 46, 120, 111, 114], [105, 54, 52, 46, 115, 104, 108],
  [105, 54, 52, 46, 115, 104, 114, 95, 115], [105, 54, 52, 46, 115, 104, 114, 95, 117], [105, 54, 52, 46, 114, 111, 116, 108], [105, 54, 52, 46, 114, 111, 116, 114]]
/-- ranges of numbers with points -/
def fls : List (Int × Int) := [
  (42, 43), (56, 57), (67, 68), (91, 102),
  (139, 166), (168, 171), (174, 191)]
/-- first, last, form, what is taken, what is given -/
structure Fam where
  f : Int
  l : Int
  o : Int
  x : Int
  y : Int
  g : Int
def fms : List Fam := [
  ⟨0, 1, 0, 0, 0, 0⟩, ⟨2, 3, 6, 0, 0, 0⟩, ⟨4, 4, 7, 0, 0, 0⟩, ⟨12, 13, 3, 0, 0, 0⟩,
  ⟨14, 14, 8, 0, 0, 0⟩, ⟨15, 15, 0, 0, 0, 0⟩, ⟨16, 16, 3, 0, 0, 0⟩, ⟨17, 17, 9, 0, 0, 0⟩,
  ⟨26, 27, 0, 0, 0, 0⟩, ⟨32, 36, 3, 0, 0, 0⟩, ⟨40, 40, 4, 127, 0, 127⟩, ⟨41, 41, 4, 127, 0, 126⟩,
  ⟨44, 47, 4, 127, 0, 127⟩, ⟨48, 53, 4, 127, 0, 126⟩, ⟨54, 54, 4, 127, 127, 0⟩, ⟨55, 55, 4, 127, 126, 0⟩,
  ⟨58, 59, 4, 127, 127, 0⟩, ⟨60, 62, 4, 127, 126, 0⟩, ⟨63, 63, 5, 0, 0, 127⟩, ⟨64, 64, 5, 127, 0, 127⟩,
  ⟨65, 65, 1, 0, 0, 127⟩, ⟨66, 66, 2, 0, 0, 126⟩, ⟨69, 69, 0, 127, 0, 127⟩, ⟨70, 79, 0, 127, 127, 127⟩,
  ⟨80, 80, 0, 126, 0, 127⟩, ⟨81, 90, 0, 126, 126, 127⟩, ⟨103, 105, 0, 127, 0, 127⟩, ⟨106, 120, 0, 127, 127, 127⟩,
  ⟨121, 123, 0, 126, 0, 126⟩, ⟨124, 138, 0, 126, 126, 126⟩, ⟨167, 167, 0, 126, 0, 127⟩, ⟨172, 173, 0, 127, 0, 126⟩]
def abs' : List Int := [0, 0, 0, 0, 0, 0, 0, 0, 0, 0, 0, 0, 0, 0, 0, 0, 0, 0, 0, 0, 0, 0, 0, 0, 0, 0, 0, 0, 0, 0, 0, 0, 0, 0, 0, 0, 0, 0, 0, 0, 4, 8, 0, 0, 1, 1, 2, 2, 1, 1, 2, 2, 4, 4, 4, 8, 0, 0, 1, 2, 1, 2, 4]

/-- an array that reads as a list of things has their cells one behind another -/
theorem cells_of_arr {H α : Type} {enc : TypeId × Value → H} {P : Program} {w : World} {base : Nat} {sp : Nat → Bool} {held : Bool} {t e : TypeId} {n m : Nat} (dat : α → DataW H) (val : α → List Value)
    (he : ∀ (fuel : Nat) (xs : List Value) (a : α) (p : List MemPlace), DataW.trod enc P w base sp held fuel e xs = some (dat a, p) → xs = val a)
    (ht : P.underlying t = some (.array n e)) (hce : P.cellsOf e = m) (hct : P.cellsOf t = n * m) {fuel : Nat} {cs : List Value} {l : List α} {p : List MemPlace}
    (h : DataW.trod enc P w base sp held fuel t cs = some (.agg (l.map dat), p)) : cs = l.flatMap val := by
  obtain ⟨xs, k, rfl, hx, hlen, hxl, hall⟩ := DataW.trod_array ht h
  rw [hce] at hall
  rw [hct] at hlen
  have hmap : l.map dat = xs.map (·.1) := by
    have := congrArg Prod.fst hx
    simpa using this
  have hln : l.length = n := by
    have := congrArg List.length hmap
    simp at this
    omega
  have hsl : ∀ i (a : α), l[i]? = some a → (cs.drop (i * m)).take m = val a := by
    intro i a ha
    have hi : i < n := by
      have := (List.getElem?_eq_some_iff.1 ha).1
      omega
    have h1 := hall i hi
    obtain ⟨y, hy⟩ : ∃ y, xs[i]? = some y := ⟨xs[i], List.getElem?_eq_some_iff.2 ⟨by omega, rfl⟩⟩
    have h2 : (l.map dat)[i]? = some (dat a) := by simp [ha]
    rw [hmap] at h2
    simp [hy] at h2
    rw [hy] at h1
    obtain ⟨y1, y2⟩ := y
    simp only at h2
    subst h2
    exact he _ _ a _ h1
  subst hln
  clear hall hmap hxl hx h ht hct xs
  induction l generalizing cs with
  | nil => simp at hlen; simp [hlen]
  | cons a l ih =>
    have h0 := hsl 0 a rfl
    simp only [Nat.zero_mul, List.drop_zero] at h0
    have hrest := ih (cs := cs.drop m) (fun i b hb => by
      have := hsl (i + 1) b (by simpa using hb)
      rw [List.drop_drop]
      rw [Nat.add_mul, Nat.one_mul] at this
      rw [Nat.add_comm]
      exact this) (by simp only [List.length_cons, Nat.add_mul, Nat.one_mul] at hlen; rw [List.length_drop]; omega)
    rw [List.flatMap_cons, ← hrest, ← h0, List.take_append_drop]

theorem var_of_head {P : Program} {W : World} {name : String} {d : DataW Unit} {rest : List (String × DataW Unit)} {g : Nat} {t : TypeId}
    (hg : P.globalNamed name = some g) (hty : (P.globals[g]?).map (·.type) = some t) (h : laidMet P ((name, d) :: rest) W) {cs : List Value}
    (hc : ∀ fuel (xs : List Value) p, DataW.trod (fun _ => ()) P W 0 (fun _ => true) false fuel t xs = some (d, p) → xs = cs) : ∀ i, W.cell? ⟨g, i, none⟩ = cs[i]? := by
  obtain ⟨ps, ⟨g', t', cs', fuel, p, q, hg', ht', hvar, hd, _, _⟩, _⟩ := h
  obtain rfl := Option.some.inj (hg.symm.trans hg')
  obtain rfl := Option.some.inj (hty.symm.trans ht')
  intro i
  rw [World.var?_cell hg hvar i, ← hc _ _ _ hd]
  simp

theorem str_of_trod {H : Type} {enc : TypeId × Value → H} {P : Program} {w : World} {base : Nat} {sp : Nat → Bool} {held : Bool} {e : TypeId} (ht : P.underlying e = some .string) (fuel : Nat) (xs : List Value) (a : List UInt8) (p : List MemPlace)
    (h : DataW.trod enc P w base sp held fuel e xs = some (.lit (.string a), p)) : xs = [.string (str a)] := by
  obtain ⟨s, rfl, hx, _⟩ := DataW.trod_string ht h
  have : a = s.data.toList := by
    have := congrArg Prod.fst hx
    simpa using this
  subst this
  rfl
theorem int_of_trod {H : Type} {enc : TypeId × Value → H} {P : Program} {w : World} {base : Nat} {sp : Nat → Bool} {held : Bool} {e : TypeId} {k : IntKind} (ht : P.underlying e = some (.int k)) (fuel : Nat) (xs : List Value) (z : Int) (p : List MemPlace)
    (h : DataW.trod enc P w base sp held fuel e xs = some (.lit (.int k z), p)) : xs = [.int k z] := by
  obtain ⟨n, rfl, hx, _⟩ := DataW.trod_int ht h
  have : z = n := by
    have := congrArg Prod.fst hx
    simpa using this
  subst this
  rfl
end Go.Proofs.YtjhmglefejclpaaDoor

/- ops.Name: what it returns, by the tables. -/
namespace Go.Proofs.YtjhmglefejclpaaDoor
open Go.RowKit
set_option linter.unusedVariables false

/-- a table of texts in its variable -/
def TS (w : World) (g : Nat) (l : List (List UInt8)) : Prop := ∀ j s, l[j]? = some s → w.cell? ⟨g, j, none⟩ = some (.string (str s))
theorem TS.below {w w' : World} {g : Nat} {l : List (List UInt8)} (h : TS w g l) (hb : Below w.heap.size w w') : TS w' g l := fun j s hj => by
  have h1 := h j s hj
  have hlt : g < w.heap.size := block_lt_of_cell h1
  exact (hb.cell (p := ⟨g, j, none⟩) hlt).trans h1
/-- the name of a number; empty where there is none -/
def nm (n : Nat) : List UInt8 :=
  if n < 67 then nms.getD n []
  else if 69 ≤ n ∧ n < 91 then tns.getD (n - 69) []
  else if 103 ≤ n ∧ n < 139 then rns.getD (n - 103) []
  else if n = 167 then [105, 51, 50, 46, 119, 114, 97, 112, 95, 105, 54, 52]
  else if n = 172 then [105, 54, 52, 46, 101, 120, 116, 101, 110, 100, 95, 105, 51, 50, 95, 115]
  else if n = 173 then [105, 54, 52, 46, 101, 120, 116, 101, 110, 100, 95, 105, 51, 50, 95, 117]
  else []

theorem ret_str {a b : ByteArray} (h : a = b) : Ending.returned (.string a) = .returned (.string b) := by rw [h]
end Go.Proofs.YtjhmglefejclpaaDoor

/- ops.Op: what it returns. -/
namespace Go.Proofs.YtjhmglefejclpaaDoor
open Go.RowKit
set_option linter.unusedVariables false

theorem str_toList (a : List UInt8) : (str a).toList = a := by rw [ByteArray.toList_eq]; rfl
theorem str_beq {a b : List UInt8} (h : a = b) : ((str a).toList == (str b).toList) = true := by rw [h]; simp
theorem str_bne {a b : List UInt8} (h : ¬ a = b) : ((str a).toList == (str b).toList) = false := by
  rw [str_toList, str_toList, beq_eq_false_iff_ne]; exact h
theorem str_ie {a : List UInt8} (h : ¬ a = []) : (str a).toList.isEmpty = false := by
  rw [str_toList]; cases a with
  | nil => exact absurd rfl h
  | cons x a => rfl
theorem str_nil : (str []) = ⟨#[]⟩ := rfl
end Go.Proofs.YtjhmglefejclpaaDoor

/- ops.Float: what it returns; a whole array read out of a variable. -/
namespace Go.Proofs.YtjhmglefejclpaaDoor
open Go.RowKit
set_option linter.unusedVariables false

/-- a variable's cells -/
def TC (w : World) (g : Nat) (vs : List Value) : Prop := g < w.heap.size ∧ ∃ t fr, w.heap[g]? = some (.cells vs.toArray t fr)
theorem TC.below {w w' : World} {g : Nat} {vs : List Value} (h : TC w g vs) (hb : Below w.heap.size w w') : TC w' g vs := by
  obtain ⟨h1, t, fr, h2⟩ := h
  exact ⟨Nat.lt_of_lt_of_le h1 hb.size, t, fr, (hb.block g h1).trans h2⟩

def flV : List Value := fls.flatMap fun x => [.int .u8 x.1, .int .u8 x.2]
def inF (n : Int) (x : Int × Int) : Bool := decide (x.1 ≤ n) && decide (n ≤ x.2)
def flt (n : Int) : Bool := fls.any (inF n)

/-- the j-th of the ranges, as cells -/
theorem fl_at : ∀ j : Nat, j < 7 → ∃ x, fls[j]? = some x ∧ (∀ wx, (Instr.index 156 (.agg flV.toArray) (.int .i64 (j : Int))).run Tryd.prog wx = .ok (.agg #[.int .u8 x.1, .int .u8 x.2]) wx) ∧ 0 ≤ x.1 ∧ x.1 ≤ 255 ∧ 0 ≤ x.2 ∧ x.2 ≤ 255 := by
  intro j hj
  match j, hj with
  | 0, _ => exact ⟨_, rfl, fun _ => by kernel_rfl, by decide⟩
  | 1, _ => exact ⟨_, rfl, fun _ => by kernel_rfl, by decide⟩
  | 2, _ => exact ⟨_, rfl, fun _ => by kernel_rfl, by decide⟩
  | 3, _ => exact ⟨_, rfl, fun _ => by kernel_rfl, by decide⟩
  | 4, _ => exact ⟨_, rfl, fun _ => by kernel_rfl, by decide⟩
  | 5, _ => exact ⟨_, rfl, fun _ => by kernel_rfl, by decide⟩
  | 6, _ => exact ⟨_, rfl, fun _ => by kernel_rfl, by decide⟩
  | j + 7, h => omega
theorem flt_yes {n : Int} {j : Nat} {x : Int × Int} (h : fls[j]? = some x) (h2 : inF n x = true) : flt n = true :=
  List.any_eq_true.2 ⟨x, List.mem_of_getElem? h, h2⟩
theorem flt_no {n : Int} (h : ∀ i x, i < 7 → fls[i]? = some x → inF n x = false) : flt n = false := by
  unfold flt
  rw [Bool.eq_false_iff]
  intro hh
  obtain ⟨x, hx, h2⟩ := List.any_eq_true.1 hh
  obtain ⟨i, hi⟩ := List.getElem?_of_mem hx
  have hl : i < fls.length := (List.getElem?_eq_some_iff.1 hi).1
  rw [h i x hl hi] at h2
  exact absurd h2 (by decide)

set_option maxRecDepth 100000 in
set_option maxHeartbeats 1600000 in
theorem float_any (n : Nat) (hn : n < 256) (w : World) (hT : TC w 1 flV) :
    Calls Tryd.prog 64 #[.int .u8 n] w fun e w' => e = .returned (.bool (flt n)) ∧ Below w.heap.size w w' := by
  obtain ⟨_, tt, fr, hg⟩ := hT
  have hla : flV.toArray.size = 14 := rfl
  have hat := fl_at
  generalize hA : flV.toArray = vs at *
  have HA := hide hat; clear hA hat
  go_enter Tryd.func64, Tryd.ntmps64
  go_wp2_with (refine wpList_load_row rfl 156 _ rfl 1 rfl tt _ fr _ hg Tryd.underlying156 rfl (by rw [hla]; kernel_rfl) ?_)
  clear hg
  generalize hB : w.heap.size = B at *
  have HB := hide hB; clear hB
  go_loopw [6] (fun c wr => ∃ (j : Nat), c = .int .i64 j ∧ (j : Int) ≤ 7 ∧ (∀ i x, i < j → fls[i]? = some x → inF n x = false) ∧ Below B w wr) (fun c _ => (7 - intOf c).toNat)
  case atStart => exact ⟨0, rfl, by omega, fun i x hi => absurd hi (by omega), Below.refl _ _⟩
  case round =>
    obtain ⟨j, rfl, hj, hno, hbel⟩ := hrel
    have HN := hide hno; have HBe := hide hbel
    clear hno hbel
    by_cases hlt : (j : Int) < 7
    · obtain ⟨x, hx, he, x0, x1, x2, x3⟩ := unhide HA j (by omega)
      obtain ⟨a, b⟩ := x
      simp only at he x0 x1 x2 x3
      have HX := hide hx; clear hx hj
      by_cases c1 : a ≤ (n : Int)
      · by_cases c2 : (n : Int) ≤ b
        · have hy := flt_yes (n := n) (unhide HX) (by simp [inF, c1, c2])
          have HY := hide hy; clear hy
          go_wp2
          go_ret
          exact ⟨ret_bool (unhide HY).symm, by rw [unhide HB]; exact (unhide HBe).alloc (Nat.le_trans (Nat.le_of_eq (unhide HB).symm) (unhide HBe).size) _⟩
        · have hno : inF (n : Int) (a, b) = false := by simp [inF, c2]
          have HF := hide hno; clear hno
          go_wp2
          go_roundw
          case rel => exact ⟨j + 1, by go_num, by omega, fun i x hi hx => by
            by_cases e : i = j
            · subst e
              obtain rfl := Option.some.inj ((unhide HX).symm.trans hx)
              exact unhide HF
            · exact unhide HN i x (by omega) hx, (unhide HBe).alloc (Nat.le_trans (Nat.le_of_eq (unhide HB).symm) (unhide HBe).size) _⟩
          case measure => simp [intOf]; omega
      · have hno : inF (n : Int) (a, b) = false := by simp [inF, c1]
        have HF := hide hno; clear hno
        go_wp2
        go_roundw
        case rel => exact ⟨j + 1, by go_num, by omega, fun i x hi hx => by
          by_cases e : i = j
          · subst e
            obtain rfl := Option.some.inj ((unhide HX).symm.trans hx)
            exact unhide HF
          · exact unhide HN i x (by omega) hx, (unhide HBe).alloc (Nat.le_trans (Nat.le_of_eq (unhide HB).symm) (unhide HBe).size) _⟩
        case measure => simp [intOf]; omega
    · obtain rfl : j = 7 := by omega
      clear hj hlt
      go_wp2
      go_ret
      exact ⟨ret_bool (flt_no (unhide HN)).symm, by rw [unhide HB]; exact unhide HBe⟩
end Go.Proofs.YtjhmglefejclpaaDoor

/- ops.familyOf: what it returns. -/
namespace Go.Proofs.YtjhmglefejclpaaDoor
open Go.RowKit
set_option linter.unusedVariables false

def fmC (x : Fam) : List Value := [.int .u8 x.f, .int .u8 x.l, .int .i64 x.o, .int .u8 x.x, .int .u8 x.y, .int .u8 x.g]
def fmV : List Value := fms.flatMap fmC
def inX (n : Int) (x : Fam) : Bool := decide (x.f ≤ n) && decide (n ≤ x.l)
def fam (n : Int) : Option Fam := fms.find? (inX n)
def zf : Fam := ⟨0, 0, 0, 0, 0, 0⟩

/-- the j-th of the families, as cells -/
theorem fm_at : ∀ j : Nat, j < 32 → ∃ x, fms[j]? = some x ∧ (∀ wx, (Instr.index 164 (.agg fmV.toArray) (.int .i64 (j : Int))).run Tryd.prog wx = .ok (.agg #[.int .u8 x.f, .int .u8 x.l, .int .i64 x.o, .int .u8 x.x, .int .u8 x.y, .int .u8 x.g]) wx) ∧ 0 ≤ x.f ∧ x.f ≤ 255 ∧ 0 ≤ x.l ∧ x.l ≤ 255 := by
  intro j hj
  match j, hj with
  | 0, _ => exact ⟨_, rfl, fun _ => by kernel_rfl, by decide⟩
  | 1, _ => exact ⟨_, rfl, fun _ => by kernel_rfl, by decide⟩
  | 2, _ => exact ⟨_, rfl, fun _ => by kernel_rfl, by decide⟩
  | 3, _ => exact ⟨_, rfl, fun _ => by kernel_rfl, by decide⟩
  | 4, _ => exact ⟨_, rfl, fun _ => by kernel_rfl, by decide⟩
  | 5, _ => exact ⟨_, rfl, fun _ => by kernel_rfl, by decide⟩
  | 6, _ => exact ⟨_, rfl, fun _ => by kernel_rfl, by decide⟩
  | 7, _ => exact ⟨_, rfl, fun _ => by kernel_rfl, by decide⟩
  | 8, _ => exact ⟨_, rfl, fun _ => by kernel_rfl, by decide⟩
  | 9, _ => exact ⟨_, rfl, fun _ => by kernel_rfl, by decide⟩
  | 10, _ => exact ⟨_, rfl, fun _ => by kernel_rfl, by decide⟩
  | 11, _ => exact ⟨_, rfl, fun _ => by kernel_rfl, by decide⟩
  | 12, _ => exact ⟨_, rfl, fun _ => by kernel_rfl, by decide⟩
  | 13, _ => exact ⟨_, rfl, fun _ => by kernel_rfl, by decide⟩
  | 14, _ => exact ⟨_, rfl, fun _ => by kernel_rfl, by decide⟩
  | 15, _ => exact ⟨_, rfl, fun _ => by kernel_rfl, by decide⟩
  | 16, _ => exact ⟨_, rfl, fun _ => by kernel_rfl, by decide⟩
  | 17, _ => exact ⟨_, rfl, fun _ => by kernel_rfl, by decide⟩
  | 18, _ => exact ⟨_, rfl, fun _ => by kernel_rfl, by decide⟩
  | 19, _ => exact ⟨_, rfl, fun _ => by kernel_rfl, by decide⟩
  | 20, _ => exact ⟨_, rfl, fun _ => by kernel_rfl, by decide⟩
  | 21, _ => exact ⟨_, rfl, fun _ => by kernel_rfl, by decide⟩
  | 22, _ => exact ⟨_, rfl, fun _ => by kernel_rfl, by decide⟩
  | 23, _ => exact ⟨_, rfl, fun _ => by kernel_rfl, by decide⟩
  | 24, _ => exact ⟨_, rfl, fun _ => by kernel_rfl, by decide⟩
  | 25, _ => exact ⟨_, rfl, fun _ => by kernel_rfl, by decide⟩
  | 26, _ => exact ⟨_, rfl, fun _ => by kernel_rfl, by decide⟩
  | 27, _ => exact ⟨_, rfl, fun _ => by kernel_rfl, by decide⟩
  | 28, _ => exact ⟨_, rfl, fun _ => by kernel_rfl, by decide⟩
  | 29, _ => exact ⟨_, rfl, fun _ => by kernel_rfl, by decide⟩
  | 30, _ => exact ⟨_, rfl, fun _ => by kernel_rfl, by decide⟩
  | 31, _ => exact ⟨_, rfl, fun _ => by kernel_rfl, by decide⟩
  | j + 32, h => omega
theorem fam_yes {n : Int} {j : Nat} {x : Fam} (h : fms[j]? = some x) (h2 : inX n x = true) (hno : ∀ i y, i < j → fms[i]? = some y → inX n y = false) : fam n = some x := by
  obtain ⟨hl, rfl⟩ := List.getElem?_eq_some_iff.1 h
  refine List.find?_eq_some_iff_getElem.2 ⟨h2, j, hl, rfl, fun i hi => ?_⟩
  rw [hno i _ hi (List.getElem?_eq_getElem (by omega))]
  rfl
theorem fam_no {n : Int} (h : ∀ i y, i < 32 → fms[i]? = some y → inX n y = false) : fam n = none := by
  refine List.find?_eq_none.2 fun x hx h2 => ?_
  obtain ⟨i, hi⟩ := List.getElem?_of_mem hx
  have hl : i < fms.length := (List.getElem?_eq_some_iff.1 hi).1
  rw [h i x hl hi] at h2
  exact absurd h2 (by decide)
/-- what familyOf hands back -/
def famR (o : Option Fam) : Value := match o with
  | some x => .tuple #[.agg #[.int .u8 x.f, .int .u8 x.l, .int .i64 x.o, .int .u8 x.x, .int .u8 x.y, .int .u8 x.g], errV 0]
  | none => .tuple #[.agg #[.int .u8 0, .int .u8 0, .int .i64 0, .int .u8 0, .int .u8 0, .int .u8 0], errV 1]

/-- six cells written -/
theorem set6 (w : World) (b : Nat) (t : TypeId) (x0 x1 x2 x3 x4 x5 v0 v1 v2 v3 v4 v5 : Value) (h : w.heap[b]? = some (.cells #[x0, x1, x2, x3, x4, x5] t (0, 0))) :
    ((((((w.setCell ⟨b, 0, none⟩ v0).setCell ⟨b, 1, none⟩ v1).setCell ⟨b, 2, none⟩ v2).setCell ⟨b, 3, none⟩ v3).setCell ⟨b, 4, none⟩ v4).setCell ⟨b, 5, none⟩ v5).heap[b]? = some (.cells #[v0, v1, v2, v3, v4, v5] t (0, 0)) := by
  have h0 := heap_setCell_same w b 0 _ _ v0 h
  have h1 := heap_setCell_same _ b 1 _ _ v1 h0
  have h2 := heap_setCell_same _ b 2 _ _ v2 h1
  have h3 := heap_setCell_same _ b 3 _ _ v3 h2
  have h4 := heap_setCell_same _ b 4 _ _ v4 h3
  have h5 := heap_setCell_same _ b 5 _ _ v5 h4
  rw [h5]; rfl
theorem bel6 {B : Nat} {a w : World} (h : Below B a w) (b : Nat) (hb : B ≤ b) (v0 v1 v2 v3 v4 v5 : Value) :
    Below B a ((((((w.setCell ⟨b, 0, none⟩ v0).setCell ⟨b, 1, none⟩ v1).setCell ⟨b, 2, none⟩ v2).setCell ⟨b, 3, none⟩ v3).setCell ⟨b, 4, none⟩ v4).setCell ⟨b, 5, none⟩ v5) :=
  (((((h.setCell (p := ⟨b, 0, none⟩) hb v0).setCell (p := ⟨b, 1, none⟩) hb v1).setCell (p := ⟨b, 2, none⟩) hb v2).setCell (p := ⟨b, 3, none⟩) hb v3).setCell (p := ⟨b, 4, none⟩) hb v4).setCell (p := ⟨b, 5, none⟩) hb v5

set_option maxRecDepth 100000 in
set_option maxHeartbeats 1600000 in
theorem family_any (n : Nat) (hn : n < 256) (w : World) (hT : TC w 2 fmV) :
    Calls Tryd.prog 76 #[.int .u8 n] w fun e w' => e = .returned (famR (fam n)) ∧ Below w.heap.size w w' := by
  obtain ⟨hgl, tt, fr, hg0⟩ := hT
  have hla : fmV.toArray.size = 192 := rfl
  have hat := fm_at
  generalize hA : fmV.toArray = vs at *
  have HA := hide hat; clear hA hat
  have hg : (w.alloc (.cells #[.int .u8 0, .int .u8 0, .int .i64 0, .int .u8 0, .int .u8 0, .int .u8 0] 149)).heap[2]? = some (.cells vs tt fr) := by
    exact (((Below.refl w.heap.size w).alloc (Nat.le_refl _) _).block _ hgl).trans hg0
  clear hg0
  go_enter Tryd.func76, Tryd.ntmps76
  go_wp2_with (refine wpList_load_row rfl 164 _ rfl 2 rfl tt _ fr _ hg Tryd.underlying164 rfl (by rw [hla]; kernel_rfl) ?_)
  clear hg hgl
  have h0 : Below w.heap.size w (w.alloc (.cells #[.int .u8 0, .int .u8 0, .int .i64 0, .int .u8 0, .int .u8 0, .int .u8 0] 149)) := (Below.refl _ _).alloc (Nat.le_refl _) _
  have r0 : (w.alloc (.cells #[.int .u8 0, .int .u8 0, .int .i64 0, .int .u8 0, .int .u8 0, .int .u8 0] 149)).heap[w.heap.size]? = some (.cells #[.int .u8 0, .int .u8 0, .int .i64 0, .int .u8 0, .int .u8 0, .int .u8 0] 149 (0, 0)) := by show (w.heap.push _)[w.heap.size]? = _; rw [Array.getElem?_push_size]
  have s0 : (w.alloc (.cells #[.int .u8 0, .int .u8 0, .int .i64 0, .int .u8 0, .int .u8 0, .int .u8 0] 149)).heap.size = w.heap.size + 1 := by show (w.heap.push _).size = _; rw [Array.size_push]
  generalize w.alloc (.cells #[.int .u8 0, .int .u8 0, .int .i64 0, .int .u8 0, .int .u8 0, .int .u8 0] 149) = w1 at *
  have H0 := hide h0; have R0 := hide r0; have S0 := hide s0
  clear h0 r0 s0
  generalize hB : w.heap.size = B at *
  have HB := hide hB; clear hB
  go_loopw [7] (fun c wr => ∃ (j : Nat), c = .int .i64 j ∧ (j : Int) ≤ 32 ∧ (∀ i x, i < j → fms[i]? = some x → inX n x = false) ∧ Below (B + 1) w1 wr) (fun c _ => (32 - intOf c).toNat)
  case atStart => exact ⟨0, rfl, by omega, fun i x hi => absurd hi (by omega), Below.refl _ _⟩
  case round =>
    obtain ⟨j, rfl, hj, hno, hbel⟩ := hrel
    have hB : B < wr.heap.size := by have := hbel.size; have := unhide S0; omega
    have hrow := (hbel.block B (by omega)).trans (unhide R0)
    have cc : ∀ i v, #[Value.int .u8 0, .int .u8 0, .int .i64 0, .int .u8 0, .int .u8 0, .int .u8 0][i]? = some v → wr.cell? ⟨B, i, none⟩ = some v := fun i v h => by rw [cell_of_row wr B i _ _ _ hrow]; exact h
    have c0 := cc 0 _ rfl; have c1 := cc 1 _ rfl; have c2 := cc 2 _ rfl; have c3 := cc 3 _ rfl; have c4 := cc 4 _ rfl; have c5 := cc 5 _ rfl
    have ff : ∀ i, wr.frozen? ⟨B, i, none⟩ = false := fun i => by simp [World.frozen?, hrow]
    clear cc
    have HN := hide hno; have HBe := hide hbel; have HR := hide hrow
    clear hno hbel hrow
    by_cases hlt : (j : Int) < 32
    · obtain ⟨x, hx, he, x0, x1, x2, x3⟩ := unhide HA j (by omega)
      obtain ⟨a, b, o, y, z, g⟩ := x
      simp only at he x0 x1 x2 x3
      have HX := hide hx; clear hx hj
      by_cases t1 : a ≤ (n : Int)
      · by_cases t2 : (n : Int) ≤ b
        · have hy := fam_yes (n := n) (unhide HX) (by simp [inX, t1, t2]) (unhide HN)
          have HY := hide hy; clear hy
          go_wp2
          have hr := set6 wr B _ _ _ _ _ _ _ (.int .u8 a) (.int .u8 b) (.int .i64 o) (.int .u8 y) (.int .u8 z) (.int .u8 g) (unhide HR)
          have hb := bel6 (unhide H0 |>.trans ((unhide HBe).mono (by omega))) B (Nat.le_refl _) (.int .u8 a) (.int .u8 b) (.int .i64 o) (.int .u8 y) (.int .u8 z) (.int .u8 g)
          have hz : B < ((((((wr.setCell ⟨B, 0, none⟩ (.int .u8 a)).setCell ⟨B, 1, none⟩ (.int .u8 b)).setCell ⟨B, 2, none⟩ (.int .i64 o)).setCell ⟨B, 3, none⟩ (.int .u8 y)).setCell ⟨B, 4, none⟩ (.int .u8 z)).setCell ⟨B, 5, none⟩ (.int .u8 g)).heap.size := (Array.getElem?_eq_some_iff.1 hr).1
          rw [unhide HY, famR, errV_0]
          clear c0 c1 c2 c3 c4 c5 ff he HR
          generalize (((((wr.setCell ⟨B, 0, none⟩ (.int .u8 a)).setCell ⟨B, 1, none⟩ (.int .u8 b)).setCell ⟨B, 2, none⟩ (.int .i64 o)).setCell ⟨B, 3, none⟩ (.int .u8 y)).setCell ⟨B, 4, none⟩ (.int .u8 z)).setCell ⟨B, 5, none⟩ (.int .u8 g) = W2 at *
          have c0 := cell_of_row W2 B 0 _ _ _ hr; have c1 := cell_of_row W2 B 1 _ _ _ hr; have c2 := cell_of_row W2 B 2 _ _ _ hr; have c3 := cell_of_row W2 B 3 _ _ _ hr; have c4 := cell_of_row W2 B 4 _ _ _ hr; have c5 := cell_of_row W2 B 5 _ _ _ hr
          simp only [List.getElem?_toArray, List.getElem?_cons_zero, List.getElem?_cons_succ] at c0 c1 c2 c3 c4 c5
          refine bodyPost_ret (v := .tuple #[.agg #[.int .u8 a, .int .u8 b, .int .i64 o, .int .u8 y, .int .u8 z, .int .u8 g], .nilIface]) (by simp [results, Tryd.results76, go_sem, c0, c1, c2, c3, c4, c5, hz]) rfl ⟨rfl, ?_⟩
          rw [unhide HB]
          exact hb.alloc (by omega) _
        · have hno : inX (n : Int) ⟨a, b, o, y, z, g⟩ = false := by simp [inX, t2]
          have HF := hide hno; clear hno
          go_wp2
          go_roundw
          case rel => exact ⟨j + 1, by go_num, by omega, fun i x hi hx => by
            by_cases e : i = j
            · subst e
              obtain rfl := Option.some.inj ((unhide HX).symm.trans hx)
              exact unhide HF
            · exact unhide HN i x (by omega) hx, (unhide HBe).alloc (by omega) _⟩
          case measure => simp [intOf]; omega
      · have hno : inX (n : Int) ⟨a, b, o, y, z, g⟩ = false := by simp [inX, t1]
        have HF := hide hno; clear hno
        go_wp2
        go_roundw
        case rel => exact ⟨j + 1, by go_num, by omega, fun i x hi hx => by
          by_cases e : i = j
          · subst e
            obtain rfl := Option.some.inj ((unhide HX).symm.trans hx)
            exact unhide HF
          · exact unhide HN i x (by omega) hx, (unhide HBe).alloc (by omega) _⟩
        case measure => simp [intOf]; omega
    · obtain rfl : j = 32 := by omega
      clear hj hlt
      go_wp2
      have hr := set6 wr B _ _ _ _ _ _ _ (.int .u8 0) (.int .u8 0) (.int .i64 0) (.int .u8 0) (.int .u8 0) (.int .u8 0) (unhide HR)
      have hb := bel6 (unhide H0 |>.trans ((unhide HBe).mono (by omega))) B (Nat.le_refl _) (.int .u8 0) (.int .u8 0) (.int .i64 0) (.int .u8 0) (.int .u8 0) (.int .u8 0)
      rw [fam_no (unhide HN), famR, errV_1]
      clear c0 c1 c2 c3 c4 c5 ff HR
      generalize (((((wr.setCell ⟨B, 0, none⟩ (.int .u8 0)).setCell ⟨B, 1, none⟩ (.int .u8 0)).setCell ⟨B, 2, none⟩ (.int .i64 0)).setCell ⟨B, 3, none⟩ (.int .u8 0)).setCell ⟨B, 4, none⟩ (.int .u8 0)).setCell ⟨B, 5, none⟩ (.int .u8 0) = W2 at *
      have c0 := cell_of_row W2 B 0 _ _ _ hr; have c1 := cell_of_row W2 B 1 _ _ _ hr; have c2 := cell_of_row W2 B 2 _ _ _ hr; have c3 := cell_of_row W2 B 3 _ _ _ hr; have c4 := cell_of_row W2 B 4 _ _ _ hr; have c5 := cell_of_row W2 B 5 _ _ _ hr
      simp only [List.getElem?_toArray, List.getElem?_cons_zero, List.getElem?_cons_succ] at c0 c1 c2 c3 c4 c5
      refine bodyPost_ret (v := .tuple #[.agg #[.int .u8 0, .int .u8 0, .int .i64 0, .int .u8 0, .int .u8 0, .int .u8 0], .iface 64 (.int .i64 1)]) (by simp [results, Tryd.results76, go_sem, c0, c1, c2, c3, c4, c5]) rfl ⟨rfl, ?_⟩
      rw [unhide HB]
      exact hb
end Go.Proofs.YtjhmglefejclpaaDoor

/- ops.Form, family's params. -/
namespace Go.Proofs.YtjhmglefejclpaaDoor
open Go.RowKit
set_option linter.unusedVariables false

theorem infoK : (Tryd.prog.info? 47).map (fun i => (i.zero, i.size, i.bytes)) = some (some (.int .u8 0), 1, 1) := by kernel_rfl

def formR (o : Option Fam) : Value := match o with
  | some x => .tuple #[.int .i64 x.o, errV 0]
  | none => .tuple #[.int .i64 0, errV 1]

set_option maxRecDepth 100000 in
set_option maxHeartbeats 1600000 in
theorem form_any (n : Nat) (hn : n < 256) (w : World) (hT : TC w 2 fmV) :
    Calls Tryd.prog 52 #[.int .u8 n] w fun e w' => e = .returned (formR (fam n)) ∧ Below w.heap.size w w' := by
  have hf := family_any n hn w hT
  cases hx : fam n with
  | none =>
    rw [hx] at hf
    simp only [famR, errV_1] at hf
    simp only [formR, errV_1]
    have HF := hide hf; clear hf hx hT
    go_enter Tryd.func52, Tryd.ntmps52
    go_wp2_with fail
    refine (unhide HF).mono ?_
    rintro e w1 ⟨rfl, hb⟩
    have HB := hide hb; clear hb
    go_wp2
    go_ret2
    exact ⟨rfl, (unhide HB).alloc (unhide HB).size _⟩
  | some x =>
    rw [hx] at hf
    obtain ⟨a, b, o, y, z, g⟩ := x
    simp only [famR, errV_0] at hf
    simp only [formR, errV_0]
    have HF := hide hf; clear hf hx hT
    go_enter Tryd.func52, Tryd.ntmps52
    go_wp2_with fail
    refine (unhide HF).mono ?_
    rintro e w1 ⟨rfl, hb⟩
    have HB := hide hb; clear hb
    go_wp2
    go_ret2
    exact ⟨rfl, (unhide HB).alloc (unhide HB).size _⟩
end Go.Proofs.YtjhmglefejclpaaDoor

/- What is asked of ops' tables here. -/
namespace Go.Proofs.YtjhmglefejclpaaDoor
open Go.RowKit
set_option linter.unusedVariables false

/-- what the tables hold -/
def Tb (w : World) : Prop := TC w 2 fmV ∧ TC w 1 flV
theorem Tb.below {w w' : World} (h : Tb w) (hb : Below w.heap.size w w') : Tb w' := ⟨h.1.below hb, h.2.below hb⟩
theorem Below.drewn (w : World) (k : Nat) : Below w.heap.size w (w.drewN k) := ⟨rfl, rfl, rfl, Nat.le_refl _, fun _ _ => rfl⟩
end Go.Proofs.YtjhmglefejclpaaDoor

/- From the rows' condition on ops' tables to what the walks ask of them. -/
namespace Go.Proofs.YtjhmglefejclpaaDoor
open Go.RowKit
set_option linter.unusedVariables false

theorem tc_of_head {P : Program} {W : World} {name : String} {d : DataW Unit} {rest : List (String × DataW Unit)} {g : Nat} {t : TypeId}
    (hg : P.globalNamed name = some g) (hty : (P.globals[g]?).map (·.type) = some t) (h : laidMet P ((name, d) :: rest) W) {vs : List Value}
    (hc : ∀ fuel (xs : List Value) p, DataW.trod (fun _ => ()) P W 0 (fun _ => true) false fuel t xs = some (d, p) → xs = vs) : TC W g vs := by
  obtain ⟨ps, ⟨g', t', cs', fuel, p, q, hg', ht', hvar, hd, _, _⟩, _⟩ := h
  obtain rfl := Option.some.inj (hg.symm.trans hg')
  obtain rfl := Option.some.inj (hty.symm.trans ht')
  have e := hc _ _ _ hd
  simp only [World.var?, hg, Option.bind_some] at hvar
  split at hvar
  · rename_i cs t fr hh
    obtain rfl := Option.some.inj hvar
    subst e
    exact ⟨(Array.getElem?_eq_some_iff.1 hh).1, t, fr, hh⟩
  · cases hvar

theorem flat_one {α : Type} (f : α → Value) : ∀ l : List α, (l.flatMap fun s => [f s]) = l.map f
  | [] => rfl
  | a :: l => by rw [List.flatMap_cons, flat_one f l]; rfl
theorem ts_of_tc {W : World} {g : Nat} {l : List (List UInt8)} (h : TC W g (l.flatMap fun s => [Value.string (str s)])) : TS W g l := by
  obtain ⟨_, t, fr, hr⟩ := h
  intro j s hj
  rw [cell_of_row W g j _ _ _ hr, flat_one]
  simp [hj]

theorem fam_of_trod {W : World} (fuel : Nat) (xs : List Value) (x : Fam) (p : List MemPlace)
    (h : DataW.trod (fun _ => ()) Tryd.prog W 0 (fun _ => true) false fuel 149 xs = some (.agg [.lit (.int .u8 x.f), .lit (.int .u8 x.l), .lit (.int .i64 x.o), .lit (.int .u8 x.x), .lit (.int .u8 x.y), .lit (.int .u8 x.g)], p)) : xs = fmC x := by
  obtain ⟨fs, hfs⟩ : ∃ fs, Tryd.prog.underlying 149 = some (.struct fs) := ⟨_, Tryd.underlying149⟩
  have hty : (Tryd.prog.underlying 149).map (fun d => match d with | .struct fs => fs.toList.map (fun f => (f.type, f.offset)) | _ => []) = some [(5, 0), (5, 1), (3, 2), (47, 3), (47, 4), (47, 5)] := by kernel_rfl
  rw [hfs] at hty
  simp only [Option.map_some, Option.some.injEq] at hty
  obtain ⟨ys, k, rfl, hx, hlen, hyl, hall⟩ := DataW.trod_struct hfs h
  rw [show Tryd.prog.cellsOf 149 = 6 by kernel_rfl] at hlen
  have hm : ys.map (·.1) = [DataW.lit (.int .u8 x.f), .lit (.int .u8 x.l), .lit (.int .i64 x.o), .lit (.int .u8 x.x), .lit (.int .u8 x.y), .lit (.int .u8 x.g)] := by
    have := congrArg Prod.fst hx
    simpa using this.symm
  have key : ∀ (i : Nat) (t : TypeId) (kd : IntKind) (z : Int), (fs.toList.map (fun f => (f.type, f.offset)))[i]? = some (t, i) → Tryd.prog.underlying t = some (.int kd) → Tryd.prog.cellsOf t = 1 → (ys.map (·.1))[i]? = some (DataW.lit (.int kd z)) → xs[i]? = some (.int kd z) := by
    intro i t kd z e1 e2 e3 e4
    simp only [List.getElem?_map, Option.map_eq_some_iff] at e1 e4
    obtain ⟨f, hf, hft⟩ := e1
    obtain ⟨y, hy, hy1⟩ := e4
    have h1 := hall i f (by simpa using hf)
    have ht : f.type = t := congrArg Prod.fst hft
    have ho : f.offset = i := congrArg Prod.snd hft
    rw [ht, ho, e3, hy] at h1
    obtain ⟨y1, y2⟩ := y
    simp only at hy1
    subst hy1
    have := int_of_trod e2 _ _ _ _ h1
    have := congrArg (·[0]?) this
    simpa [List.getElem?_take, List.getElem?_drop] using this
  have u8 : Tryd.prog.underlying 5 = some (.int .u8) := by kernel_rfl
  have ui : Tryd.prog.underlying 3 = some (.int .i64) := by kernel_rfl
  have uk : Tryd.prog.underlying 47 = some (.int .u8) := by kernel_rfl
  have s8 : Tryd.prog.cellsOf 5 = 1 := by kernel_rfl
  have si : Tryd.prog.cellsOf 3 = 1 := by kernel_rfl
  have sk : Tryd.prog.cellsOf 47 = 1 := by kernel_rfl
  rw [hty, hm] at key
  have k0 := key 0 _ _ _ rfl u8 s8 rfl
  have k1 := key 1 _ _ _ rfl u8 s8 rfl
  have k2 := key 2 _ _ _ rfl ui si rfl
  have k3 := key 3 _ _ _ rfl uk sk rfl
  have k4 := key 4 _ _ _ rfl uk sk rfl
  have k5 := key 5 _ _ _ rfl uk sk rfl
  clear key hall hx h hm hty hfs
  match xs, hlen with
  | [a, b, c, d, e, f], _ =>
    simp at k0 k1 k2 k3 k4 k5
    subst k0 k1 k2 k3 k4 k5
    rfl

theorem floats_laid {W : World} {rest : List (String × DataW Unit)} (h : laidMet Tryd.prog (("mandrel/ops.floats", Rows.laid_mandrel_ops_floats) :: rest) W) : TC W 1 flV := by
  have h' : laidMet Tryd.prog (("mandrel/ops.floats", .agg (fls.map fun x => .agg ([x.1, x.2].map fun z => .lit (.int .u8 z)))) :: rest) W := h
  exact tc_of_head (t := 156) (by kernel_rfl) (by kernel_rfl) h' fun fuel xs p hp => cells_of_arr (n := 7) (e := 155) (m := 2) (fun x : Int × Int => .agg ([x.1, x.2].map fun z => .lit (.int .u8 z))) (fun x => [Value.int .u8 x.1, Value.int .u8 x.2])
    (fun fuel2 ys a q hq => cells_of_arr (n := 2) (fun z : Int => .lit (.int .u8 z)) (fun z => [Value.int .u8 z]) (int_of_trod (e := 5) (by kernel_rfl)) (by kernel_rfl) (m := 1) (by kernel_rfl) (by kernel_rfl) hq) (by kernel_rfl) (by kernel_rfl) (by kernel_rfl) hp
theorem families_laid {W : World} {rest : List (String × DataW Unit)} (h : laidMet Tryd.prog (("mandrel/ops.families", Rows.laid_mandrel_ops_families) :: rest) W) : TC W 2 fmV := by
  have h' : laidMet Tryd.prog (("mandrel/ops.families", .agg (fms.map fun x => .agg [.lit (.int .u8 x.f), .lit (.int .u8 x.l), .lit (.int .i64 x.o), .lit (.int .u8 x.x), .lit (.int .u8 x.y), .lit (.int .u8 x.g)])) :: rest) W := h
  exact tc_of_head (t := 164) (by kernel_rfl) (by kernel_rfl) h' fun fuel xs p hp => cells_of_arr (n := 32) (e := 149) (m := 6) (fun x : Fam => .agg [.lit (.int .u8 x.f), .lit (.int .u8 x.l), .lit (.int .i64 x.o), .lit (.int .u8 x.x), .lit (.int .u8 x.y), .lit (.int .u8 x.g)]) fmC
    fam_of_trod (by kernel_rfl) (by kernel_rfl) (by kernel_rfl) hp
end Go.Proofs.YtjhmglefejclpaaDoor

/- Plain mathematics of numbers as bytes: what PutU, PutS, SizeU, SizeS, TakeU, TakeS come to, over lists of integers. Nothing of the program is imported. -/
namespace Go.Proofs.YtjhmglefejclpaaDoor
namespace Leb

/-- The bytes of a number without a sign; f: fuel (10 is enough for 64 bits). -/
def bU : Nat → Int → List Int
  | 0, v => [v]
  | f + 1, v => if 127 < v then (v % 128 + 128) :: bU f (v / 128) else [v]
/-- The bytes of a number with a sign. -/
def bS : Nat → Int → List Int
  | 0, v => [v % 128]
  | f + 1, v => if -64 ≤ v ∧ v < 64 then [v % 128] else (v % 128 + 128) :: bS f (v / 128)

theorem bU_fuel : ∀ (f : Nat) (v : Int), 0 ≤ v → v < 128 ^ (f + 1) → bU (f + 1) v = bU f v
  | 0, v, h0, h => by
    have : ¬ 127 < v := by omega
    simp [bU, this]
  | f + 1, v, h0, h => by
    have hd : v / 128 < 128 ^ (f + 1) := by
      have : (128 : Int) ^ (f + 2) = 128 ^ (f + 1) * 128 := Int.pow_succ _ _
      omega
    have ih := bU_fuel f (v / 128) (by omega) hd
    by_cases h1 : 127 < v
    · rw [bU, if_pos h1, ih]; simp [bU, h1]
    · simp [bU, h1]

theorem bS_fuel : ∀ (f : Nat) (v : Int), -64 * 128 ^ f ≤ v → v < 64 * 128 ^ f → bS (f + 1) v = bS f v
  | 0, v, h0, h => by
    have : -64 ≤ v ∧ v < 64 := by omega
    simp [bS, this]
  | f + 1, v, h0, h => by
    have e : (128 : Int) ^ (f + 1) = 128 ^ f * 128 := Int.pow_succ _ _
    have ih := bS_fuel f (v / 128) (by omega) (by omega)
    by_cases h1 : -64 ≤ v ∧ v < 64
    · simp [bS, h1]
    · rw [bS, if_neg h1, ih, bS, if_neg h1]

theorem bU_step (v : Int) (h : 127 < v) (hv : v < 18446744073709551616) : bU 10 v = (v % 128 + 128) :: bU 10 (v / 128) := by
  have := bU_fuel 9 (v / 128) (by omega) (by omega)
  rw [bU, if_pos h, this]
theorem bU_last (v : Int) (h : ¬ 127 < v) : bU 10 v = [v] := by simp [bU, h]
theorem bS_step (v : Int) (h : ¬ (-64 ≤ v ∧ v < 64)) (h0 : -9223372036854775808 ≤ v) (hv : v < 9223372036854775808) : bS 10 v = (v % 128 + 128) :: bS 10 (v / 128) := by
  have := bS_fuel 9 (v / 128) (by omega) (by omega)
  rw [bS, if_neg h, this]
theorem bS_last (v : Int) (h : -64 ≤ v ∧ v < 64) : bS 10 v = [v % 128] := by simp [bS, h]

theorem bU_pos : ∀ (f : Nat) (v : Int), 1 ≤ (bU f v).length
  | 0, v => by simp [bU]
  | f + 1, v => by unfold bU; split <;> simp
theorem bS_pos : ∀ (f : Nat) (v : Int), 1 ≤ (bS f v).length
  | 0, v => by simp [bS]
  | f + 1, v => by unfold bS; split <;> simp
theorem bU_len : ∀ (f : Nat) (v : Int), (bU f v).length ≤ f + 1
  | 0, v => by simp [bU]
  | f + 1, v => by have := bU_len f (v / 128); unfold bU; split <;> simp <;> omega
theorem bS_len : ∀ (f : Nat) (v : Int), (bS f v).length ≤ f + 1
  | 0, v => by simp [bS]
  | f + 1, v => by have := bS_len f (v / 128); unfold bS; split <;> simp <;> omega

theorem bU_bytes : ∀ (f : Nat) (v : Int), 0 ≤ v → v < 128 ^ (f + 1) → ∀ z ∈ bU f v, 0 ≤ z ∧ z ≤ 255
  | 0, v, h0, h => by simp [bU]; omega
  | f + 1, v, h0, h => by
    have hd : v / 128 < 128 ^ (f + 1) := by
      have : (128 : Int) ^ (f + 2) = 128 ^ (f + 1) * 128 := Int.pow_succ _ _
      omega
    have ih := bU_bytes f (v / 128) (by omega) hd
    unfold bU; split
    · intro z hz
      rcases List.mem_cons.1 hz with rfl | hz
      · omega
      · exact ih z hz
    · intro z hz; simp at hz; omega
theorem bS_bytes : ∀ (f : Nat) (v : Int), ∀ z ∈ bS f v, 0 ≤ z ∧ z ≤ 255
  | 0, v => by simp [bS]; omega
  | f + 1, v => by
    have ih := bS_bytes f (v / 128)
    unfold bS; split
    · intro z hz; simp at hz; omega
    · intro z hz
      rcases List.mem_cons.1 hz with rfl | hz
      · omega
      · exact ih z hz

/-! the operations of the program on bytes -/
theorem u8_and127 (x : Int) (h0 : 0 ≤ x) (h1 : x < 256) : bits .and .u8 x 127 = x % 128 := bits_mask .u8 8 (by decide) wraps_u8 7 (by decide) x h0 h1
theorem u8_and128 (x : Int) (h0 : 0 ≤ x) (h1 : x < 256) : bits .and .u8 x 128 = x / 128 * 128 := by
  obtain ⟨a, rfl⟩ := Int.eq_ofNat_of_zero_le h0
  have ha : a < 256 := by omega
  have : ∀ b : Fin 256, bits .and .u8 ((b.val : Nat) : Int) 128 = ((b.val : Nat) : Int) / 128 * 128 := by decide +kernel
  exact this ⟨a, ha⟩
theorem u8_or128 (x : Int) (h0 : 0 ≤ x) (h1 : x < 256) : bits .or .u8 x 128 = x % 128 + 128 := by
  obtain ⟨a, rfl⟩ := Int.eq_ofNat_of_zero_le h0
  have ha : a < 256 := by omega
  have : ∀ b : Fin 256, bits .or .u8 ((b.val : Nat) : Int) 128 = ((b.val : Nat) : Int) % 128 + 128 := by decide +kernel
  exact this ⟨a, ha⟩
end Leb
end Go.Proofs.YtjhmglefejclpaaDoor

/- Plain mathematics of taking numbers off bytes. Nothing of the program is imported. -/
namespace Go.Proofs.YtjhmglefejclpaaDoor
namespace Leb

/-- How many bytes at the begin have the bit 128. -/
def lead : List Int → Nat
  | [] => 0
  | z :: r => if 128 ≤ z then lead r + 1 else 0
theorem lead_le : ∀ zs : List Int, lead zs ≤ zs.length
  | [] => by simp [lead]
  | z :: r => by have := lead_le r; unfold lead; split <;> simp <;> omega
theorem lead_ge : ∀ (zs : List Int) (i : Nat), i < lead zs → 128 ≤ zs.getD i 0
  | [], i, h => by simp [lead] at h
  | z :: r, i, h => by
    unfold lead at h
    split at h
    · cases i with
      | zero => simpa
      | succ i => have := lead_ge r i (by omega); simpa using this
    · omega
theorem lead_lt : ∀ (zs : List Int), lead zs < zs.length → zs.getD (lead zs) 0 < 128
  | [], h => by simp at h
  | z :: r, h => by
    unfold lead at h ⊢
    split at h
    · rename_i hz
      simp only [hz, if_true]
      have := lead_lt r (by simpa using h)
      simpa using this
    · rename_i hz
      simp only [hz, if_false]
      simp; omega

/-- The groups as one number, noughts above them. -/
def jn : List Int → Int
  | [] => 0
  | z :: r => z % 128 + 128 * jn r
theorem jn_bd : ∀ zs : List Int, 0 ≤ jn zs ∧ jn zs < 128 ^ zs.length
  | [] => by simp [jn]
  | z :: r => by
    have := jn_bd r
    have e : (128 : Int) ^ (r.length + 1) = 128 ^ r.length * 128 := Int.pow_succ _ _
    simp only [jn, List.length_cons]
    omega
theorem jn_snoc : ∀ (zs : List Int) (z : Int), jn (zs ++ [z]) = jn zs + z % 128 * 128 ^ zs.length
  | [], z => by simp [jn]
  | y :: r, z => by
    have := jn_snoc r z
    have e : (128 : Int) ^ (r.length + 1) = 128 ^ r.length * 128 := Int.pow_succ _ _
    simp only [jn, List.cons_append, List.length_cons, this, e, Int.mul_add]
    rw [Int.mul_comm (128 ^ r.length) 128, ← Int.mul_assoc, ← Int.mul_assoc, Int.mul_comm (z % 128) 128, Int.add_assoc]
theorem take_snoc (zs : List Int) (k : Nat) (h : k < zs.length) : zs.take (k + 1) = zs.take k ++ [zs.getD k 0] := by
  rw [List.take_succ_eq_append_getElem h]; simp [List.getD, List.getElem?_eq_getElem h]

theorem pow7 (k : Nat) : (2 : Int) ^ (7 * k) = 128 ^ k := by
  rw [Int.pow_mul]; rfl
theorem p128_le (k : Nat) (hk : k ≤ 9) : (128 : Int) ^ k ≤ 9223372036854775808 := by
  rcases (show k = 0 ∨ k = 1 ∨ k = 2 ∨ k = 3 ∨ k = 4 ∨ k = 5 ∨ k = 6 ∨ k = 7 ∨ k = 8 ∨ k = 9 from by omega) with rfl | rfl | rfl | rfl | rfl | rfl | rfl | rfl | rfl | rfl <;> decide

theorem wraps_u64 (n : Int) (h0 : 0 ≤ n) (h1 : n < 2 ^ 64) : IntKind.u64.wrap n = n := by rw [IntKind.wrap_u64]; omega
/-- one round of joinGroups -/
theorem join_step (V z : Int) (k : Nat) (hk : k ≤ 9) (h0 : 0 ≤ V) (hV : V < 128 ^ k) :
    bits .or .u64 V (z % 128 * 128 ^ k % 18446744073709551616) = (V + z % 128 * 128 ^ k) % 18446744073709551616 := by
  have h1 : bits .or .u64 V (z % 128 * 128 ^ k % 18446744073709551616) = bits .or .u64 (z % 128 * 128 ^ k % 18446744073709551616) V := by
    obtain ⟨A, hA⟩ := Int.eq_ofNat_of_zero_le h0
    obtain ⟨C, hC⟩ := Int.eq_ofNat_of_zero_le (show 0 ≤ z % 128 * 128 ^ k % 18446744073709551616 by omega)
    have hp := p128_le k hk
    have hA2 : A < 18446744073709551616 := by omega
    have hC2 : C < 18446744073709551616 := by omega
    rw [hA, hC, bits_or_u64_nat A C hA2 hC2, bits_or_u64_nat C A hC2 hA2, Nat.or_comm]
  have hp := p128_le k hk
  have hd : ∃ q : Int, (18446744073709551616 : Int) = 128 ^ k * q := by
    rcases (show k = 0 ∨ k = 1 ∨ k = 2 ∨ k = 3 ∨ k = 4 ∨ k = 5 ∨ k = 6 ∨ k = 7 ∨ k = 8 ∨ k = 9 from by omega) with rfl | rfl | rfl | rfl | rfl | rfl | rfl | rfl | rfl | rfl
    · exact ⟨18446744073709551616, rfl⟩
    · exact ⟨144115188075855872, rfl⟩
    · exact ⟨1125899906842624, rfl⟩
    · exact ⟨8796093022208, rfl⟩
    · exact ⟨68719476736, rfl⟩
    · exact ⟨536870912, rfl⟩
    · exact ⟨4194304, rfl⟩
    · exact ⟨32768, rfl⟩
    · exact ⟨256, rfl⟩
    · exact ⟨2, rfl⟩
  obtain ⟨q, hq⟩ := hd
  have hpos : (0 : Int) < 128 ^ k := Int.pow_pos (by omega)
  have e : z % 128 * 128 ^ k % 18446744073709551616 = 128 ^ k * (z % 128 % q) := by
    rw [hq, Int.mul_comm (z % 128) (128 ^ k), Int.mul_emod_mul_of_pos _ _ hpos]
  have hm : z % 128 * 128 ^ k % 18446744073709551616 % 2 ^ (7 * k) = 0 := by
    rw [pow7, e]; exact Int.mul_emod_right _ _
  have hj := bits_join .u64 64 (by decide) wraps_u64 (7 * k) (z % 128 * 128 ^ k % 18446744073709551616) V (by omega) hm (by omega) h0 (by rw [pow7]; exact hV) (by omega)
  rw [h1, hj]
  -- V is below the step: no carry over 2^64
  have hqpos : 0 < q := by
    rcases Int.lt_or_le 0 q with h | h
    · exact h
    · have : 128 ^ k * q ≤ 0 := Int.mul_nonpos_of_nonneg_of_nonpos (by omega) h
      omega
  have hr : z % 128 % q < q := Int.emod_lt_of_pos _ hqpos
  have hr0 : 0 ≤ z % 128 % q := Int.emod_nonneg _ (by omega)
  have hb : 128 ^ k * (z % 128 % q) + 128 ^ k ≤ 18446744073709551616 := by
    have : 128 ^ k * (z % 128 % q + 1) ≤ 128 ^ k * q := Int.mul_le_mul_of_nonneg_left (by omega) (by omega)
    rw [Int.mul_add, Int.mul_one, ← hq] at this; exact this
  have e2 : (V + z % 128 * 128 ^ k) % 18446744073709551616 = (V + z % 128 * 128 ^ k % 18446744073709551616) % 18446744073709551616 := by omega
  rw [e2, e]; omega

/-- The number that a last byte's seven bits are in two's complement. -/
def sg (c : Int) : Int := if 64 ≤ c then c - 128 else c
/-- How many bytes may be. -/
def mb (n : Int) : Int := (n + 6) / 7
/-- countBytes' error: 0 is none. -/
def cntE (zs : List Int) (n : Int) : Int := if n < 1 ∨ 64 < n then 1 else if (lead zs : Int) < mb n then (if lead zs < zs.length then 0 else 4) else 6
/-- countBytes' number. -/
def cntN (zs : List Int) (n : Int) : Int := if cntE zs n = 0 then (lead zs : Int) + 1 else 0
theorem cnt_arg (zs : List Int) (n : Int) (h : n < 1 ∨ 64 < n) : cntE zs n = 1 ∧ cntN zs n = 0 := by
  have e : cntE zs n = 1 := by unfold cntE; rw [if_pos h]
  exact ⟨e, by unfold cntN; rw [e]; rfl⟩
theorem cnt_end (zs : List Int) (n : Int) (h1 : 1 ≤ n) (h2 : n ≤ 64) (h : (lead zs : Int) < mb n) (hl : lead zs = zs.length) : cntE zs n = 4 ∧ cntN zs n = 0 := by
  have e : cntE zs n = 4 := by unfold cntE; rw [if_neg (by omega), if_pos h, if_neg (by omega)]
  exact ⟨e, by unfold cntN; rw [e]; rfl⟩
theorem cnt_ok (zs : List Int) (n : Int) (h1 : 1 ≤ n) (h2 : n ≤ 64) (h : (lead zs : Int) < mb n) (hl : lead zs < zs.length) : cntE zs n = 0 ∧ cntN zs n = (lead zs : Int) + 1 := by
  have e : cntE zs n = 0 := by unfold cntE; rw [if_neg (by omega), if_pos h, if_pos hl]
  exact ⟨e, by unfold cntN; rw [e]; rfl⟩
theorem cnt_mal (zs : List Int) (n : Int) (h1 : 1 ≤ n) (h2 : n ≤ 64) (h : mb n ≤ (lead zs : Int)) : cntE zs n = 6 ∧ cntN zs n = 0 := by
  have e : cntE zs n = 6 := by unfold cntE; rw [if_neg (by omega), if_neg (by omega)]
  exact ⟨e, by unfold cntN; rw [e]; rfl⟩
theorem lead_eq (zs : List Int) (k : Nat) (hk : k ≤ lead zs) (_hl : k < zs.length) (h : zs.getD k 0 < 128) : lead zs = k := by
  rcases Nat.lt_or_ge k (lead zs) with h1 | h1
  · have := lead_ge zs k h1; omega
  · omega
theorem lead_more (zs : List Int) (k : Nat) (hk : k ≤ lead zs) (hl : k < zs.length) (h : 128 ≤ zs.getD k 0) : k + 1 ≤ lead zs := by
  rcases Nat.lt_or_ge k (lead zs) with h1 | h1
  · exact h1
  · have e : k = lead zs := by omega
    have := lead_lt zs (by omega)
    rw [← e] at this; omega
/-- TakeU's error, number and size. -/
def tuE (zs : List Int) (n : Int) : Int := if cntE zs n = 0 then (if zs.getD (lead zs) 0 / 2 ^ min (n - 7 * lead zs).toNat 8 = 0 then 0 else 6) else cntE zs n
def tuV (zs : List Int) (n : Int) : Int := if tuE zs n = 0 then jn (zs.take (lead zs + 1)) % 18446744073709551616 else 0
def tuN (zs : List Int) (n : Int) : Int := if tuE zs n = 0 then (lead zs : Int) + 1 else 0
/-- TakeS's error, number and size. -/
def tsE (zs : List Int) (n : Int) : Int :=
  if cntE zs n = 0 then (if sg (zs.getD (lead zs) 0) / 2 ^ min (n - 7 * lead zs - 1).toNat 8 = 0 ∨ sg (zs.getD (lead zs) 0) / 2 ^ min (n - 7 * lead zs - 1).toNat 8 = -1 then 0 else 6) else cntE zs n
def tsV (zs : List Int) (n : Int) : Int := if tsE zs n = 0 then IntKind.i64.wrap (jn (zs.take (lead zs + 1)) - (if sg (zs.getD (lead zs) 0) < 0 then 128 ^ (lead zs + 1) else 0)) else 0
def tsN (zs : List Int) (n : Int) : Int := if tsE zs n = 0 then (lead zs : Int) + 1 else 0
/-- what stands where countBytes tells no error -/
theorem cnt_0 (zs : List Int) (n : Int) (h : cntE zs n = 0) : 1 ≤ n ∧ n ≤ 64 ∧ (lead zs : Int) < mb n ∧ lead zs < zs.length := by
  unfold cntE at h
  split at h
  · omega
  · split at h
    · split at h
      · exact ⟨by omega, by omega, by assumption, by assumption⟩
      · omega
    · omega
theorem sg_eq (c : Int) (h0 : 0 ≤ c) (h1 : c < 128) : IntKind.i8.wrap (c * 2) / 2 = sg c := by
  have : IntKind.i8.wrap (c * 2) = (c * 2 + 128) % 256 - 128 := by simp [IntKind.wrap, IntKind.bits, IntKind.signed]; split <;> omega
  rw [this]; unfold sg; split <;> omega

/-- ones above the p+1 groups -/
def msk (p : Nat) : Int := IntKind.u64.wrap (18446744073709551615 * 2 ^ min (7 * (p + 1)) 64)
theorem msk_9 : msk 9 = 0 := by decide +kernel
theorem msk_lt (p : Nat) (hp : p ≤ 8) : msk p = 18446744073709551616 - 128 ^ (p + 1) ∧ msk p % 2 ^ (7 * (p + 1)) = 0 ∧ (128 : Int) ^ (p + 1) ≤ 9223372036854775808 ∧ (0 : Int) < 128 ^ (p + 1) := by
  rcases (show p = 0 ∨ p = 1 ∨ p = 2 ∨ p = 3 ∨ p = 4 ∨ p = 5 ∨ p = 6 ∨ p = 7 ∨ p = 8 from by omega) with rfl | rfl | rfl | rfl | rfl | rfl | rfl | rfl | rfl <;> decide +kernel
theorem or_comm_u64 (x y : Int) (hx : 0 ≤ x) (hx1 : x < 18446744073709551616) (hy : 0 ≤ y) (hy1 : y < 18446744073709551616) : bits .or .u64 x y = bits .or .u64 y x := by
  obtain ⟨A, rfl⟩ := Int.eq_ofNat_of_zero_le hx
  obtain ⟨C, rfl⟩ := Int.eq_ofNat_of_zero_le hy
  rw [bits_or_u64_nat A C (by omega) (by omega), bits_or_u64_nat C A (by omega) (by omega), Nat.or_comm]
theorem neg_val (J : Int) (p : Nat) (hp : p ≤ 9) (h0 : 0 ≤ J) (h1 : J < 128 ^ (p + 1)) : IntKind.i64.wrap (bits .or .u64 (J % 18446744073709551616) (msk p)) = IntKind.i64.wrap (J - 128 ^ (p + 1)) := by
  by_cases h9 : p = 9
  · subst h9
    rw [msk_9]
    obtain ⟨A, hA⟩ := Int.eq_ofNat_of_zero_le (show 0 ≤ J % 18446744073709551616 by omega)
    have : bits .or .u64 (J % 18446744073709551616) 0 = J % 18446744073709551616 := by
      rw [hA]
      have := bits_or_u64_nat A 0 (by omega) (by omega)
      simpa using this
    rw [this, IntKind.wrap_i64, IntKind.wrap_i64]
    omega
  · obtain ⟨m1, m2, m3, m4⟩ := msk_lt p (by omega)
    have hJ : J % 18446744073709551616 = J := by omega
    rw [hJ, or_comm_u64 J (msk p) h0 (by omega) (by omega) (by omega)]
    have hj := bits_join .u64 64 (by decide) wraps_u64 (7 * (p + 1)) (msk p) J (by omega) m2 (by omega) h0 (by rw [pow7]; exact h1) (by omega)
    rw [hj, m1, IntKind.wrap_i64, IntKind.wrap_i64]
    omega
theorem pos_val (J : Int) : IntKind.i64.wrap (J % 18446744073709551616) = IntKind.i64.wrap (J - 0) := by
  rw [IntKind.wrap_i64, IntKind.wrap_i64]; omega
end Leb
end Go.Proofs.YtjhmglefejclpaaDoor

/- Plain mathematics: what was laid is taken. Nothing of the program is imported. -/
namespace Go.Proofs.YtjhmglefejclpaaDoor
namespace Leb

theorem bU_form : ∀ (f : Nat) (v : Int) (r : List Int), 0 ≤ v → v < 128 ^ (f + 1) →
    ∃ k, k ≤ f ∧ (bU f v).length = k + 1 ∧ lead (bU f v ++ r) = k ∧ (bU f v ++ r).getD k 0 = v / 128 ^ k ∧ v < 128 ^ (k + 1) ∧ (k = 0 ∨ 128 ^ k ≤ v) ∧ jn (bU f v) = v
  | 0, v, r, h0, h => by
    have h1 : ¬ 128 ≤ v := by omega
    refine ⟨0, by omega, by simp [bU], by simp [bU, lead, h1], by simp [bU], h, .inl rfl, ?_⟩
    simp [bU, jn]; omega
  | f + 1, v, r, h0, h => by
    have e : (128 : Int) ^ (f + 2) = 128 ^ (f + 1) * 128 := Int.pow_succ _ _
    by_cases hb : 127 < v
    · obtain ⟨k, h1, h2, h3, h4, h5, h6, h7⟩ := bU_form f (v / 128) r (by omega) (by omega)
      have ek : (128 : Int) ^ (k + 1) = 128 ^ k * 128 := Int.pow_succ _ _
      have ek2 : (128 : Int) ^ (k + 2) = 128 ^ (k + 1) * 128 := Int.pow_succ _ _
      have hh : 128 ≤ v % 128 + 128 := by omega
      rw [bU, if_pos hb]
      have h8 : (128 : Int) ^ (k + 1) ≤ v := by
        rcases h6 with rfl | h6
        · simp; omega
        · omega
      refine ⟨k + 1, by omega, by simp [h2], ?_, ?_, by omega, .inr h8, ?_⟩
      · rw [List.cons_append, lead, if_pos hh, h3]
      · rw [List.cons_append, List.getD_cons_succ, h4, ek, Int.mul_comm, Int.ediv_ediv_of_nonneg (by omega)]
      · rw [jn, h7]; omega
    · have h1 : ¬ 128 ≤ v := by omega
      rw [bU, if_neg hb]
      refine ⟨0, by omega, by simp, by simp [lead, h1], by simp, by omega, .inl rfl, ?_⟩
      simp [jn]; omega

theorem bS_form : ∀ (f : Nat) (v : Int) (r : List Int), -64 * 128 ^ f ≤ v → v < 64 * 128 ^ f →
    ∃ k, k ≤ f ∧ (bS f v).length = k + 1 ∧ lead (bS f v ++ r) = k ∧ (bS f v ++ r).getD k 0 = v / 128 ^ k % 128 ∧ -64 * 128 ^ k ≤ v ∧ v < 64 * 128 ^ k ∧
      (k = 0 ∨ ∃ j, k = j + 1 ∧ (v < -64 * 128 ^ j ∨ 64 * 128 ^ j ≤ v)) ∧ jn (bS f v) = if v < 0 then v + 128 ^ (k + 1) else v
  | 0, v, r, h0, h => by
    have h1 : ¬ 128 ≤ v % 128 := by omega
    refine ⟨0, by omega, by simp [bS], by simp [bS, lead, h1], by simp [bS], h0, h, .inl rfl, ?_⟩
    simp [bS, jn]; split <;> omega
  | f + 1, v, r, h0, h => by
    have e : (128 : Int) ^ (f + 1) = 128 ^ f * 128 := Int.pow_succ _ _
    by_cases hb : -64 ≤ v ∧ v < 64
    · have h1 : ¬ 128 ≤ v % 128 := by omega
      rw [bS, if_pos hb]
      refine ⟨0, by omega, by simp, by simp [lead, h1], by simp, by omega, by omega, .inl rfl, ?_⟩
      simp [jn]; split <;> omega
    · obtain ⟨k, h1, h2, h3, h4, h5, h6, h7, h8⟩ := bS_form f (v / 128) r (by omega) (by omega)
      have ek : (128 : Int) ^ (k + 1) = 128 ^ k * 128 := Int.pow_succ _ _
      have ek2 : (128 : Int) ^ (k + 2) = 128 ^ (k + 1) * 128 := Int.pow_succ _ _
      have hh : 128 ≤ v % 128 + 128 := by omega
      rw [bS, if_neg hb]
      refine ⟨k + 1, by omega, by simp [h2], ?_, ?_, by omega, by omega, .inr ⟨k, rfl, ?_⟩, ?_⟩
      · rw [List.cons_append, lead, if_pos hh, h3]
      · rw [List.cons_append, List.getD_cons_succ, h4, ek, Int.mul_comm, Int.ediv_ediv_of_nonneg (by omega)]
      · rcases h7 with rfl | ⟨j, rfl, h7⟩
        · omega
        · have ej : (128 : Int) ^ (j + 1) = 128 ^ j * 128 := Int.pow_succ _ _
          omega
      · rw [jn, h8, ek2]
        by_cases hn : v < 0
        · rw [if_pos (by omega), if_pos hn]; omega
        · rw [if_neg (by omega), if_neg hn]; omega

theorem take_len (l r : List Int) (k : Nat) (h : l.length = k + 1) : (l ++ r).take (k + 1) = l := by
  rw [← h]; simp

theorem small (k : Nat) (h : k ≤ 10) : k = 0 ∨ k = 1 ∨ k = 2 ∨ k = 3 ∨ k = 4 ∨ k = 5 ∨ k = 6 ∨ k = 7 ∨ k = 8 ∨ k = 9 ∨ k = 10 := by omega

theorem back_U64 (v : Int) (r : List Int) (h0 : 0 ≤ v) (hv : v < 18446744073709551616) :
    tuE (bU 10 v ++ r) 64 = 0 ∧ tuV (bU 10 v ++ r) 64 = v ∧ tuN (bU 10 v ++ r) 64 = ((bU 10 v).length : Int) := by
  obtain ⟨k, h1, h2, h3, h4, h5, h6, h7⟩ := bU_form 10 v r h0 (by omega)
  have hE : tuE (bU 10 v ++ r) 64 = 0 := by
    have hk : k ≤ 9 := by
      rcases h6 with h6 | h6
      · omega
      · rcases small k h1 with rfl | rfl | rfl | rfl | rfl | rfl | rfl | rfl | rfl | rfl | rfl <;> omega
    have hc : cntE (bU 10 v ++ r) 64 = 0 := (cnt_ok _ 64 (by omega) (by omega) (by rw [h3]; unfold mb; omega) (by rw [h3]; simp [h2]; omega)).1
    unfold tuE
    rw [if_pos hc, h3, h4, if_pos]
    clear hc h1 h2 h3 h4 h7
    rcases small k (by omega) with rfl | rfl | rfl | rfl | rfl | rfl | rfl | rfl | rfl | rfl | rfl <;> simp <;> omega
  refine ⟨hE, ?_, ?_⟩
  · unfold tuV; rw [if_pos hE, h3, take_len _ _ k h2, h7]; omega
  · unfold tuN; rw [if_pos hE, h3, h2]; omega
theorem back_U32 (v : Int) (r : List Int) (h0 : 0 ≤ v) (hv : v < 18446744073709551616) :
    (v < 4294967296 → tuE (bU 10 v ++ r) 32 = 0 ∧ tuV (bU 10 v ++ r) 32 = v) ∧ (4294967296 ≤ v → tuE (bU 10 v ++ r) 32 = 6) := by
  obtain ⟨k, h1, h2, h3, h4, h5, h6, h7⟩ := bU_form 10 v r h0 (by omega)
  have hl : lead (bU 10 v ++ r) < (bU 10 v ++ r).length := by rw [h3]; simp [h2]; omega
  constructor
  · intro hlt
    have hk : k ≤ 4 := by
      rcases h6 with h6 | h6
      · omega
      · rcases small k h1 with rfl | rfl | rfl | rfl | rfl | rfl | rfl | rfl | rfl | rfl | rfl <;> omega
    have hc : cntE (bU 10 v ++ r) 32 = 0 := (cnt_ok _ 32 (by omega) (by omega) (by rw [h3]; unfold mb; omega) hl).1
    have hE : tuE (bU 10 v ++ r) 32 = 0 := by
      unfold tuE
      rw [if_pos hc, h3, h4, if_pos]
      clear hc h1 h2 h3 h4 h7 hl
      rcases small k (by omega) with rfl | rfl | rfl | rfl | rfl | rfl | rfl | rfl | rfl | rfl | rfl <;> simp <;> omega
    exact ⟨hE, by unfold tuV; rw [if_pos hE, h3, take_len _ _ k h2, h7]; omega⟩
  · intro hge
    by_cases hk : k ≤ 4
    · have hc : cntE (bU 10 v ++ r) 32 = 0 := (cnt_ok _ 32 (by omega) (by omega) (by rw [h3]; unfold mb; omega) hl).1
      unfold tuE
      rw [if_pos hc, h3, h4, if_neg]
      clear hc h1 h2 h3 h4 h7 hl
      rcases small k (by omega) with rfl | rfl | rfl | rfl | rfl | rfl | rfl | rfl | rfl | rfl | rfl <;> simp <;> omega
    · have hc := (cnt_mal (bU 10 v ++ r) 32 (by omega) (by omega) (by rw [h3]; unfold mb; omega)).1
      unfold tuE; rw [if_neg (by rw [hc]; decide), hc]

theorem sg_last (v : Int) (k : Nat) (h1 : -64 * 128 ^ k ≤ v) (h2 : v < 64 * 128 ^ k) : sg (v / 128 ^ k % 128) = v / 128 ^ k := by
  have hp : (0 : Int) < 128 ^ k := Int.pow_pos (by omega)
  have a : -64 ≤ v / 128 ^ k := (Int.le_ediv_iff_mul_le hp).2 h1
  have b : v / 128 ^ k < 64 := (Int.ediv_lt_iff_lt_mul hp).2 h2
  unfold sg; split <;> omega
theorem neg_iff (v : Int) (k : Nat) : v / 128 ^ k < 0 ↔ v < 0 := by
  have hp : (0 : Int) < 128 ^ k := Int.pow_pos (by omega)
  constructor
  · intro h
    rcases Int.lt_or_le v 0 with h1 | h1
    · exact h1
    · have := Int.ediv_nonneg h1 (Int.le_of_lt hp); omega
  · intro h; exact Int.ediv_neg_of_neg_of_pos h hp
theorem tsV_of (v n : Int) (r : List Int) (k : Nat) (h2 : (bS 10 v).length = k + 1) (h3 : lead (bS 10 v ++ r) = k) (h4 : (bS 10 v ++ r).getD k 0 = v / 128 ^ k % 128) (h5 : -64 * 128 ^ k ≤ v) (h6 : v < 64 * 128 ^ k)
    (h8 : jn (bS 10 v) = if v < 0 then v + 128 ^ (k + 1) else v) (hE : tsE (bS 10 v ++ r) n = 0) (hv0 : -9223372036854775808 ≤ v) (hv : v < 9223372036854775808) : tsV (bS 10 v ++ r) n = v := by
  unfold tsV
  rw [if_pos hE, h3, h4, sg_last v k h5 h6, take_len _ _ k h2, h8, IntKind.wrap_i64]
  by_cases hn : v < 0
  · rw [if_pos hn, if_pos ((neg_iff v k).2 hn)]; omega
  · rw [if_neg hn, if_neg (fun h => hn ((neg_iff v k).1 h))]; omega

theorem back_S64 (v : Int) (r : List Int) (h0 : -9223372036854775808 ≤ v) (hv : v < 9223372036854775808) :
    tsE (bS 10 v ++ r) 64 = 0 ∧ tsV (bS 10 v ++ r) 64 = v ∧ tsN (bS 10 v ++ r) 64 = ((bS 10 v).length : Int) := by
  obtain ⟨k, h1, h2, h3, h4, h5, h6, h7, h8⟩ := bS_form 10 v r (by omega) (by omega)
  have hE : tsE (bS 10 v ++ r) 64 = 0 := by
    have hk : k ≤ 9 := by
      rcases h7 with h7 | ⟨j, rfl, h7⟩
      · omega
      · rcases small j (by omega) with rfl | rfl | rfl | rfl | rfl | rfl | rfl | rfl | rfl | rfl | rfl <;> omega
    have hc : cntE (bS 10 v ++ r) 64 = 0 := (cnt_ok _ 64 (by omega) (by omega) (by rw [h3]; unfold mb; omega) (by rw [h3]; simp [h2]; omega)).1
    unfold tsE
    rw [if_pos hc, h3, h4, sg_last v k h5 h6, if_pos]
    clear hc h1 h2 h3 h4 h7 h8
    rcases small k (by omega) with rfl | rfl | rfl | rfl | rfl | rfl | rfl | rfl | rfl | rfl | rfl <;> simp <;> omega
  refine ⟨hE, tsV_of v 64 r k h2 h3 h4 h5 h6 h8 hE h0 hv, ?_⟩
  unfold tsN; rw [if_pos hE, h3, h2]; omega
theorem back_S32 (v : Int) (r : List Int) (h0 : -9223372036854775808 ≤ v) (hv : v < 9223372036854775808) :
    (-2147483648 ≤ v ∧ v < 2147483648 → tsE (bS 10 v ++ r) 32 = 0 ∧ tsV (bS 10 v ++ r) 32 = v) ∧ (¬ (-2147483648 ≤ v ∧ v < 2147483648) → tsE (bS 10 v ++ r) 32 = 6) := by
  obtain ⟨k, h1, h2, h3, h4, h5, h6, h7, h8⟩ := bS_form 10 v r (by omega) (by omega)
  have hl : lead (bS 10 v ++ r) < (bS 10 v ++ r).length := by rw [h3]; simp [h2]; omega
  constructor
  · intro hlt
    have hk : k ≤ 4 := by
      rcases h7 with h7 | ⟨j, rfl, h7⟩
      · omega
      · rcases small j (by omega) with rfl | rfl | rfl | rfl | rfl | rfl | rfl | rfl | rfl | rfl | rfl <;> omega
    have hc : cntE (bS 10 v ++ r) 32 = 0 := (cnt_ok _ 32 (by omega) (by omega) (by rw [h3]; unfold mb; omega) hl).1
    have hE : tsE (bS 10 v ++ r) 32 = 0 := by
      unfold tsE
      rw [if_pos hc, h3, h4, sg_last v k h5 h6, if_pos]
      clear hc h1 h2 h3 h4 h7 h8 hl
      rcases small k (by omega) with rfl | rfl | rfl | rfl | rfl | rfl | rfl | rfl | rfl | rfl | rfl <;> simp <;> omega
    exact ⟨hE, tsV_of v 32 r k h2 h3 h4 h5 h6 h8 hE h0 hv⟩
  · intro hge
    by_cases hk : k ≤ 4
    · have hc : cntE (bS 10 v ++ r) 32 = 0 := (cnt_ok _ 32 (by omega) (by omega) (by rw [h3]; unfold mb; omega) hl).1
      unfold tsE
      rw [if_pos hc, h3, h4, sg_last v k h5 h6, if_neg]
      clear hc h1 h2 h3 h4 h7 h8 hl
      rcases small k (by omega) with rfl | rfl | rfl | rfl | rfl | rfl | rfl | rfl | rfl | rfl | rfl <;> simp <;> omega
    · have hc := (cnt_mal (bS 10 v ++ r) 32 (by omega) (by omega) (by rw [h3]; unfold mb; omega)).1
      unfold tsE; rw [if_neg (by rw [hc]; decide), hc]
end Leb
end Go.Proofs.YtjhmglefejclpaaDoor

/- Plain mathematics: bits of groups, and what the document says of the last byte's spare bits. -/
namespace Go.Proofs.YtjhmglefejclpaaDoor
namespace Leb

theorem bit_small (g R : Int) (k : Nat) (hk : k < 7) : (g % 128 + 128 * R) / 2 ^ k % 2 = g % 128 / 2 ^ k % 2 := by
  rcases (show k = 0 ∨ k = 1 ∨ k = 2 ∨ k = 3 ∨ k = 4 ∨ k = 5 ∨ k = 6 from by omega) with rfl | rfl | rfl | rfl | rfl | rfl | rfl <;> simp <;> omega
theorem bt_jn : ∀ (gs : List Int) (k : Nat), (∀ g ∈ gs, 0 ≤ g ∧ g < 128) → gs.getD (k / 7) 0 / 2 ^ (k % 7) % 2 = jn gs / 2 ^ k % 2
  | [], k, _ => by simp [jn]
  | g :: r, k, h => by
    have hg := h g (by simp)
    by_cases hk : k < 7
    · have e1 : k / 7 = 0 := by omega
      have e2 : k % 7 = k := by omega
      rw [e1, e2, List.getD_cons_zero, jn, bit_small g (jn r) k hk]
      rw [show g % 128 = g from by omega]
    · obtain ⟨j, rfl⟩ : ∃ j, k = j + 7 := ⟨k - 7, by omega⟩
      have ih := bt_jn r j (fun y hy => h y (by simp [hy]))
      have e1 : (j + 7) / 7 = j / 7 + 1 := by omega
      have e2 : (j + 7) % 7 = j % 7 := by omega
      have e3 : (2 : Int) ^ (j + 7) = 128 * 2 ^ j := by rw [Int.pow_add, Int.mul_comm]; rfl
      rw [e1, e2, List.getD_cons_succ, ih, e3, ← Int.ediv_ediv_of_nonneg (by omega), jn]
      rw [show (g % 128 + 128 * jn r) / 128 = jn r from by omega]
theorem jn_map (l : List Int) : jn (l.map (· % 128)) = jn l := by
  induction l with
  | nil => rfl
  | cons z r ih => rw [List.map_cons, jn, jn, ih]; omega

/-- the groups' number, and what the sign makes of it -/
def JJ (zs : List Int) : Int := jn (zs.take (lead zs + 1))
def XX (zs : List Int) : Int := JJ zs - (if sg (zs.getD (lead zs) 0) < 0 then 128 ^ (lead zs + 1) else 0)

theorem JJ_parts (zs : List Int) (hl : lead zs < zs.length) (h0 : 0 ≤ zs.getD (lead zs) 0) :
    ∃ low, 0 ≤ low ∧ low < 128 ^ lead zs ∧ JJ zs = low + 128 ^ lead zs * zs.getD (lead zs) 0 ∧ XX zs = low + 128 ^ lead zs * sg (zs.getD (lead zs) 0) ∧ -64 ≤ sg (zs.getD (lead zs) 0) ∧ sg (zs.getD (lead zs) 0) < 64 := by
  have hc := lead_lt zs hl
  have hb := jn_bd (zs.take (lead zs))
  have hlen : (zs.take (lead zs)).length = lead zs := by simp; omega
  rw [hlen] at hb
  have hJ : JJ zs = jn (zs.take (lead zs)) + 128 ^ lead zs * zs.getD (lead zs) 0 := by
    unfold JJ
    rw [take_snoc zs _ hl, jn_snoc, hlen, Int.mul_comm, show zs.getD (lead zs) 0 % 128 = zs.getD (lead zs) 0 from by omega]
  have e : (128 : Int) ^ (lead zs + 1) = 128 ^ lead zs * 128 := Int.pow_succ _ _
  have hs : -64 ≤ sg (zs.getD (lead zs) 0) ∧ sg (zs.getD (lead zs) 0) < 64 := by unfold sg; split <;> omega
  refine ⟨_, hb.1, hb.2, hJ, ?_, hs.1, hs.2⟩
  unfold XX
  rw [hJ, e]
  by_cases h64 : 64 ≤ zs.getD (lead zs) 0
  · have es : sg (zs.getD (lead zs) 0) = zs.getD (lead zs) 0 - 128 := by unfold sg; rw [if_pos h64]
    rw [es, if_pos (by omega), Int.mul_sub]; omega
  · have es : sg (zs.getD (lead zs) 0) = zs.getD (lead zs) 0 := by unfold sg; rw [if_neg h64]
    rw [es, if_neg (by omega)]; omega

theorem div_parts (low q : Int) (L D : Nat) (h0 : 0 ≤ low) (h1 : low < 128 ^ L) : (low + 128 ^ L * q) / 2 ^ (7 * L + D) = q / 2 ^ D := by
  have hp : (0 : Int) < 128 ^ L := Int.pow_pos (by omega)
  rw [Int.pow_add, pow7, ← Int.ediv_ediv_of_nonneg (Int.le_of_lt hp), Int.add_mul_ediv_left _ _ (by omega), Int.ediv_eq_zero_of_lt h0 h1, Int.zero_add]

theorem pow_ge8 (D : Nat) (h : 8 ≤ D) : (256 : Int) ≤ 2 ^ D := by
  obtain ⟨j, rfl⟩ : ∃ j, D = 8 + j := ⟨D - 8, by omega⟩
  have hp : (0 : Int) < 2 ^ j := Int.pow_pos (by omega)
  rw [Int.pow_add]
  have : (2 : Int) ^ 8 = 256 := rfl
  rw [this]; omega
theorem big_div (q : Int) (D : Nat) (h0 : -64 ≤ q) (h1 : q < 128) (hD : 8 ≤ D) : q / 2 ^ D = if q < 0 then -1 else 0 := by
  have hp := pow_ge8 D hD
  split
  · rename_i h
    rw [Int.ediv_eq_iff_of_pos (by omega)]; omega
  · exact Int.ediv_eq_zero_of_lt (by omega) (by omega)
theorem min_div (q : Int) (D : Nat) (h0 : -64 ≤ q) (h1 : q < 128) : q / 2 ^ min D 8 = q / 2 ^ D := by
  by_cases h : D ≤ 8
  · rw [Nat.min_eq_left h]
  · rw [Nat.min_eq_right (by omega), big_div q D h0 h1 (by omega), big_div q 8 h0 h1 (Nat.le_refl _)]

theorem tuE_iff (zs : List Int) (m : Nat) (hc : cntE zs m = 0) (h0 : 0 ≤ zs.getD (lead zs) 0) : tuE zs m = if JJ zs / 2 ^ m = 0 then 0 else 6 := by
  obtain ⟨h1, h2, h3, h4⟩ := cnt_0 zs m hc
  unfold mb at h3
  obtain ⟨low, l0, l1, l2, l3, l4, l5⟩ := JJ_parts zs h4 h0
  have hc1 := lead_lt zs h4
  unfold tuE
  rw [if_pos hc, min_div _ _ (by omega) hc1, show ((m : Int) - 7 * (lead zs : Int)).toNat = m - 7 * lead zs from by omega, l2]
  have := div_parts low (zs.getD (lead zs) 0) (lead zs) (m - 7 * lead zs) l0 l1
  rw [show 7 * lead zs + (m - 7 * lead zs) = m from by omega] at this
  rw [this]
theorem tsE_iff (zs : List Int) (m : Nat) (hc : cntE zs (m + 1 : Nat) = 0) (h0 : 0 ≤ zs.getD (lead zs) 0) : tsE zs (m + 1 : Nat) = if XX zs / 2 ^ m = 0 ∨ XX zs / 2 ^ m = -1 then 0 else 6 := by
  obtain ⟨h1, h2, h3, h4⟩ := cnt_0 zs _ hc
  unfold mb at h3
  obtain ⟨low, l0, l1, l2, l3, l4, l5⟩ := JJ_parts zs h4 h0
  unfold tsE
  rw [if_pos hc, min_div _ _ (by omega) (by omega), show (((m + 1 : Nat) : Int) - 7 * (lead zs : Int) - 1).toNat = m - 7 * lead zs from by omega, l3]
  have := div_parts low (sg (zs.getD (lead zs) 0)) (lead zs) (m - 7 * lead zs) l0 l1
  rw [show 7 * lead zs + (m - 7 * lead zs) = m from by omega] at this
  rw [this]

/-- the bits of the groups are those of the number with its sign -/
theorem bit_XX (zs : List Int) (k : Nat) (hk : k < 7 * (lead zs + 1)) : JJ zs / 2 ^ k % 2 = XX zs / 2 ^ k % 2 := by
  unfold XX
  split
  · obtain ⟨j, hj⟩ : ∃ j, 7 * (lead zs + 1) = k + (j + 1) := ⟨7 * (lead zs + 1) - k - 1, by omega⟩
    have hp : (0 : Int) < 2 ^ k := Int.pow_pos (by omega)
    have e : (128 : Int) ^ (lead zs + 1) = 2 ^ k * (2 ^ j * 2) := by rw [← pow7, hj, Int.pow_add, Int.pow_succ]
    rw [e, show JJ zs - 2 ^ k * (2 ^ j * 2) = JJ zs + 2 ^ k * (-(2 ^ j * 2)) from by rw [Int.mul_neg]; omega, Int.add_mul_ediv_left _ _ (by omega)]
    omega
  · simp
theorem top_XX (zs : List Int) (hl : lead zs < zs.length) (h0 : 0 ≤ zs.getD (lead zs) 0) : XX zs / 2 ^ (7 * (lead zs + 1)) = if sg (zs.getD (lead zs) 0) < 0 then -1 else 0 := by
  obtain ⟨low, l0, l1, l2, l3, l4, l5⟩ := JJ_parts zs hl h0
  have := div_parts low (sg (zs.getD (lead zs) 0)) (lead zs) 7 l0 l1
  rw [show 7 * (lead zs + 1) = 7 * lead zs + 7 from by omega, l3, this]
  have e : (2 : Int) ^ 7 = 128 := rfl
  rw [e]; split <;> omega
theorem sign_bit (zs : List Int) (hl : lead zs < zs.length) (h0 : 0 ≤ zs.getD (lead zs) 0) : JJ zs / 2 ^ (7 * (lead zs + 1) - 1) % 2 = if sg (zs.getD (lead zs) 0) < 0 then 1 else 0 := by
  obtain ⟨low, l0, l1, l2, l3, l4, l5⟩ := JJ_parts zs hl h0
  have hc := lead_lt zs hl
  have := div_parts low (zs.getD (lead zs) 0) (lead zs) 6 l0 l1
  rw [show 7 * (lead zs + 1) - 1 = 7 * lead zs + 6 from by omega, l2, this]
  have e : (2 : Int) ^ 6 = 64 := rfl
  rw [e]; unfold sg; split <;> split <;> omega

/-- one bit more -/
theorem mod_step (J : Int) (k : Nat) : J % 2 ^ (k + 1) = J % 2 ^ k + J / 2 ^ k % 2 * 2 ^ k := by
  have hp : (0 : Int) < 2 ^ k := Int.pow_pos (by omega)
  have e : (2 : Int) ^ (k + 1) = 2 ^ k * 2 := Int.pow_succ _ _
  have hd : J / (2 ^ k * 2) = J / 2 ^ k / 2 := (Int.ediv_ediv_of_nonneg (Int.le_of_lt hp)).symm
  have h1 : J / 2 ^ k = 2 * (J / 2 ^ k / 2) + J / 2 ^ k % 2 := by omega
  have h2 := congrArg (fun x => 2 ^ k * x) h1
  simp only [Int.mul_add, ← Int.mul_assoc] at h2
  rw [e, Int.emod_def J (2 ^ k * 2), hd, Int.emod_def J (2 ^ k), Int.mul_comm (J / 2 ^ k % 2)]
  omega
theorem div_step (X : Int) (k : Nat) : X / 2 ^ k = 2 * (X / 2 ^ (k + 1)) + X / 2 ^ k % 2 := by
  have hp : (0 : Int) < 2 ^ k := Int.pow_pos (by omega)
  rw [Int.pow_succ, ← Int.ediv_ediv_of_nonneg (Int.le_of_lt hp)]; omega
end Leb
end Go.Proofs.YtjhmglefejclpaaDoor

/- What SizeU and SizeS of the program return: as many as the bytes of the number are; the world stands. -/
namespace Go.Proofs.YtjhmglefejclpaaDoor
open Go.RowKit

set_option maxHeartbeats 400000 in
theorem fits_any (v : Int) (w : World) :
    Calls Tryd.prog 87 #[.int .i64 v] w fun e w' => e = .returned (.bool (decide (-64 ≤ v ∧ v < 64))) ∧ w = w' := by
  by_cases h1 : -64 ≤ v
  · by_cases h2 : v < 64
    · go_enter Tryd.func87, Tryd.ntmps87
      go_wp2
      go_ret
      exact ⟨by simp [h1, h2], rfl⟩
    · go_enter Tryd.func87, Tryd.ntmps87
      go_wp2
      go_ret
      exact ⟨by simp [h2], rfl⟩
  · go_enter Tryd.func87, Tryd.ntmps87
    go_wp2
    go_ret
    have e : decide (-64 ≤ v) = false := decide_eq_false (by omega)
    exact ⟨by rw [e]; rfl, rfl⟩

theorem fits_yes (v : Int) (w : World) (h : -64 ≤ v ∧ v < 64) :
    Calls Tryd.prog 87 #[.int .i64 v] w fun e w' => e = .returned (.bool true) ∧ w = w' := by
  have := fits_any v w
  simpa [h] using this
theorem fits_no (v : Int) (w : World) (h : ¬ (-64 ≤ v ∧ v < 64)) :
    Calls Tryd.prog 87 #[.int .i64 v] w fun e w' => e = .returned (.bool false) ∧ w = w' := by
  have := fits_any v w
  rw [decide_eq_false h] at this
  exact this

theorem szU_down (v : Int) (h : 127 < v) (hv : v < 18446744073709551616) : (Leb.bU 10 v).length = (Leb.bU 10 (v / 128)).length + 1 := by
  rw [Leb.bU_step v h hv]; simp
theorem szS_down (v : Int) (h : ¬ (-64 ≤ v ∧ v < 64)) (h0 : -9223372036854775808 ≤ v) (hv : v < 9223372036854775808) : (Leb.bS 10 v).length = (Leb.bS 10 (v / 128)).length + 1 := by
  rw [Leb.bS_step v h h0 hv]; simp

set_option maxHeartbeats 400000 in
theorem sizeU_any (v : Int) (w : World) (h0 : 0 ≤ v) (hv : v < 18446744073709551616) :
    Calls Tryd.prog 88 #[.int .u64 v] w fun e w' => e = .returned (.int .i64 (Leb.bU 10 v).length) ∧ w = w' := by
  have hlen := Leb.bU_len 10 v
  go_enter Tryd.func88, Tryd.ntmps88
  go_wp2
  go_loop [0, 3] (fun x c => ∃ (y : Int) (k : Nat), x = .int .u64 y ∧ c = .int .i64 k ∧ 0 ≤ y ∧ y < 18446744073709551616 ∧ 1 ≤ k ∧ k + (Leb.bU 10 y).length = (Leb.bU 10 v).length + 1) (fun x _ => (Leb.bU 10 (intOf x)).length)
  case atStart => exact ⟨v, 1, rfl, rfl, h0, hv, by omega, by omega⟩
  case round =>
    obtain ⟨y, k, rfl, rfl, hy0, hy1, hk, hsum⟩ := hrel
    by_cases hlt : 127 < y
    · have hd := szU_down y hlt hy1
      have hk2 : k ≤ 11 := by have := Leb.bU_pos 10 y; omega
      have HS := hide hsum; have HD := hide hd; clear hsum hd
      go_wp2
      go_round
      case rel => exact ⟨y / 128, k + 1, by simp, by go_num, by omega, by omega, by omega, by have := unhide HS; have := unhide HD; omega⟩
      case measure => have := unhide HD; simp [intOf]; omega
    · have hl : (Leb.bU 10 y).length = 1 := by rw [Leb.bU_last y hlt]; rfl
      have hk2 : k = (Leb.bU 10 v).length := by omega
      have HS := hide hk2; clear hk2 hsum hl
      go_wp2
      go_ret
      exact ⟨ret_int (by rw [unhide HS]), rfl⟩

set_option maxHeartbeats 400000 in
theorem sizeS_any (v : Int) (w : World) (h0 : -9223372036854775808 ≤ v) (hv : v < 9223372036854775808) :
    Calls Tryd.prog 86 #[.int .i64 v] w fun e w' => e = .returned (.int .i64 (Leb.bS 10 v).length) ∧ w = w' := by
  have hlen := Leb.bS_len 10 v
  go_enter Tryd.func86, Tryd.ntmps86
  go_wp2
  go_loop [0, 3] (fun x c => ∃ (y : Int) (k : Nat), x = .int .i64 y ∧ c = .int .i64 k ∧ -9223372036854775808 ≤ y ∧ y < 9223372036854775808 ∧ 1 ≤ k ∧ k + (Leb.bS 10 y).length = (Leb.bS 10 v).length + 1) (fun x _ => (Leb.bS 10 (intOf x)).length)
  case atStart => exact ⟨v, 1, rfl, rfl, h0, hv, by omega, by omega⟩
  case round =>
    obtain ⟨y, k, rfl, rfl, hy0, hy1, hk, hsum⟩ := hrel
    by_cases hlt : -64 ≤ y ∧ y < 64
    · have hl : (Leb.bS 10 y).length = 1 := by rw [Leb.bS_last y hlt]; rfl
      have hk2 : k = (Leb.bS 10 v).length := by omega
      have HS := hide hk2; have HL := hide hlt; clear hk2 hsum hl hlt
      go_wp2_with (go_at_call 87; refine (fits_yes _ _ (unhide HL)).mono ?_; rintro e w' ⟨rfl, rfl⟩)
      go_ret
      exact ⟨ret_int (by rw [unhide HS]), rfl⟩
    · have hd := szS_down y hlt hy0 hy1
      have hk2 : k ≤ 11 := by have := Leb.bS_pos 10 y; omega
      have HS := hide hsum; have HD := hide hd; have HL := hide hlt; clear hsum hd hlt
      go_wp2_with (go_at_call 87; refine (fits_no _ _ (unhide HL)).mono ?_; rintro e w' ⟨rfl, rfl⟩)
      go_round
      case rel => exact ⟨y / 128, k + 1, by simp, by go_num, by omega, by omega, by omega, by have := unhide HS; have := unhide HD; omega⟩
      case measure => have := unhide HD; simp [intOf]; omega
end Go.Proofs.YtjhmglefejclpaaDoor

/- copyWithRoom: a row of its own, with the bytes that were handed in, and room behind them. -/
namespace Go.Proofs.YtjhmglefejclpaaDoor
open Go.RowKit

/-- A slice of bytes: its elements are zs. Of an empty one nothing is asked of the address. -/
def Row (w : World) (a : Option Addr) (len : Nat) (zs : List Int) : Prop :=
  zs.length = len ∧ (∀ z ∈ zs, 0 ≤ z ∧ z ≤ 255) ∧
  (0 < len → ∃ b off, a = some ⟨b, off, none⟩ ∧ b < w.heap.size ∧ ∀ i, i < len → w.cell? ⟨b, off + i, none⟩ = some (.int .u8 (zs.getD i 0)))

theorem Row.below {w w' : World} {a : Option Addr} {len : Nat} {zs : List Int} (h : Row w a len zs) {B : Nat} (hB : w.heap.size ≤ B) (hb : Below B w w') : Row w' a len zs := by
  refine ⟨h.1, h.2.1, fun hl => ?_⟩
  obtain ⟨b, off, rfl, hlt, hc⟩ := h.2.2 hl
  exact ⟨b, off, rfl, Nat.lt_of_lt_of_le hlt hb.size, fun i hi => (hb.cell (p := ⟨b, off + i, none⟩) (by simp; omega)).trans (hc i hi)⟩

theorem Row.nil (w : World) : Row w none 0 [] := ⟨rfl, by simp, by simp⟩

/-- An owned row, read as a slice. -/
theorem Row.own {w : World} {base g n cap : Nat} {zs : List Int} (h : w.ownsRow base 5 1 (.slice (some ⟨g, 0, none⟩) n cap) n (zs.map (Value.int .u8))) (hz : ∀ z ∈ zs, 0 ≤ z ∧ z ≤ 255) : Row w (some ⟨g, 0, none⟩) n zs := by
  have hl : zs.length = n := by have := h.1; simpa using this
  refine ⟨hl, hz, fun _ => ⟨g, 0, rfl, (h.lt g rfl).2, fun i hi => ?_⟩⟩
  have := h.cellAt i (by omega)
  rw [show (0 + i) = i from by omega, this]
  simp [List.getD, List.getElem?_eq_getElem (show i < zs.length by omega)]

theorem Tryd.info5 : (Tryd.prog.info? 5).map (fun i => (i.zero, i.size, i.bytes)) = some (some (.int .u8 0), 1, 1) := by kernel_rfl

theorem addr_add (b off j : Nat) : (⟨b, off, none⟩ : Addr).add j = ⟨b, off + j, none⟩ := by
  by_cases h : j = 0 <;> simp [Addr.add, h]
theorem splice0 (L cs : List Value) (n : Nat) (h : cs.length = n) : (splice L 0 cs).take n = cs := by
  subst h; simp [splice]

set_option maxHeartbeats 400000 in
theorem copy_any (a : Option Addr) (len cap r : Nat) (zs : List Int) (w : World) (hrow : Row w a len zs) (hr : r ≤ 100) (hreach : len ≤ 140737488351232) :
    Calls Tryd.prog 85 #[.slice a len cap, .int .i64 r] w fun e w' => e = .returned (.slice (some ⟨w.heap.size, 0, none⟩) len (len + r)) ∧
      w'.ownsRow w.heap.size 5 1 (.slice (some ⟨w.heap.size, 0, none⟩) len (len + r)) len (zs.map (Value.int .u8)) ∧ Below w.heap.size w w' ∧ w.heap.size < w'.heap.size := by
  obtain ⟨i0, hi, hz0, hz1, hz2⟩ := info_parts Tryd.info5
  have hmk := fun wx => run_make (P := Tryd.prog) wx 27 5 i0 (.int .u8 0) Tryd.underlying27 hi hz0 .i64 .i64 (len : Int) ((len : Int) + r) (by omega) (by omega) (by rw [hz2]; omega) (by omega)
  rw [hz1] at hmk
  have e1 : ((len : Int) + (r : Int)).toNat = len + r := by omega
  rw [e1] at hmk
  simp only [Int.toNat_natCast, Nat.mul_one] at hmk
  obtain ⟨C, hC⟩ : ∃ C : List Value, (madeCells (Value.int .u8 0).cells (len + r)) = C.toArray := ⟨(madeCells (Value.int .u8 0).cells (len + r)).toList, by simp⟩
  have hCl : C.length = len + r := by have := size_madeCells (Value.int .u8 0).cells (len + r); rw [hC] at this; simpa using this
  rw [hC] at hmk
  clear hC e1
  have HC := hide hCl; clear hCl
  have hw1 : Below w.heap.size w (w.alloc (.cells C.toArray 5)) := (Below.refl _ _).alloc (Nat.le_refl _) _
  have hrow1 := hrow.below (Nat.le_refl _) hw1
  obtain ⟨hlen, hby, hcells⟩ := hrow1
  have HL := hide hlen; clear hlen hrow hby
  have HCe := hide hcells; clear hcells
  go_enter Tryd.func85, Tryd.ntmps85
  have hsz : (Tryd.prog.info? 5).map (·.size) = some 1 := by rw [hi]; simp [hz1]
  go_wp2_with (refine wpList_copy_splice rfl (.tmp 13) (.tmp 14) 27 27 rfl 5 Tryd.underlying27 hsz _ _ _ _ _ _ rfl rfl w.heap.size 0 C 5 ?hg (zs.map (Value.int .u8)) ?hn ?hpos ?hfit ?h1 w.heap.size w hw1 (Nat.le_refl _) ?_)
  case hg => exact heap_alloc_new _ _
  case hn => have := unhide HL; simp [this]
  case hpos =>
    intro hp
    have hl := unhide HL
    obtain ⟨b, off, ha, hb, hc⟩ := unhide HCe (by simpa [hl] using hp)
    refine ⟨_, ha, fun j z hj => ?_⟩
    have hj2 : j < len := by
      have := (List.getElem?_eq_some_iff.1 hj).1; omega
    have := hc j hj2
    rw [addr_add, this]; simp [List.getD, hj]
  case hfit => have := unhide HL; have := unhide HC; simp; omega
  case h1 => exact ints_oneCell _ _
  intro w2 HG hb2
  have hfin : w2.ownsRow w.heap.size 5 1 (.slice (some ⟨w.heap.size, 0, none⟩) len (len + r)) len (zs.map (Value.int .u8)) := by
    refine ⟨by have := unhide HL; simp [this], .inr ⟨w.heap.size, len + r, _, rfl, Nat.le_refl _, HG.out, by omega, by unfold maxLen; omega, ?_, ?_⟩⟩
    · have := length_splice C 0 (zs.map (Value.int .u8)) (by have := unhide HL; have := unhide HC; simp; omega)
      have h2 := unhide HC
      simp [this, h2]
    · have := splice0 C (zs.map (Value.int .u8)) len (by have := unhide HL; simp [this])
      simpa using this
  have hsz2 : w.heap.size < w2.heap.size := by
    have := (hfin.lt w.heap.size rfl).2
    exact this
  have HF := hide hfin; have HB := hide hb2; have HZ := hide hsz2
  clear hfin hb2 hsz2 HG hmk hw1
  go_wp2
  go_ret
  exact ⟨rfl, unhide HF, unhide HB, unhide HZ⟩
end Go.Proofs.YtjhmglefejclpaaDoor

/- countBytes, mostBytes, bitsLeft, signedGroup, joinGroups: what they return; they read alone, the world stands. -/
namespace Go.Proofs.YtjhmglefejclpaaDoor
open Go.RowKit

set_option maxHeartbeats 400000 in
theorem most_any (n : Int) (w : World) (h0 : 1 ≤ n) (h1 : n ≤ 64) :
    Calls Tryd.prog 96 #[.int .i64 n] w fun e w' => e = .returned (.int .i64 ((n + 6) / 7)) ∧ w = w' := by
  go_enter Tryd.func96, Tryd.ntmps96
  go_wp2
  go_ret
  exact ⟨ret_int (by omega), rfl⟩

set_option maxHeartbeats 400000 in
theorem left_any (n b : Int) (w : World) (h0 : 0 ≤ n) (h1 : n ≤ 1000) (h2 : 0 ≤ b) (h3 : b ≤ 1000) :
    Calls Tryd.prog 91 #[.int .i64 n, .int .i64 b] w fun e w' => e = .returned (.int .i64 (b - 7 * (n - 1))) ∧ w = w' := by
  go_enter Tryd.func91, Tryd.ntmps91
  go_wp2
  go_ret
  exact ⟨ret_int (by omega), rfl⟩

set_option maxHeartbeats 400000 in
theorem signed_any (c : Int) (w : World) (h0 : 0 ≤ c) (h1 : c < 128) :
    Calls Tryd.prog 90 #[.int .u8 c] w fun e w' => e = .returned (.int .i8 (Leb.sg c)) ∧ w = w' := by
  go_enter Tryd.func90, Tryd.ntmps90
  go_wp2
  go_ret
  exact ⟨ret_int (Leb.sg_eq c h0 h1), rfl⟩

set_option maxHeartbeats 400000 in
theorem count_arg (a : Option Addr) (len cap : Nat) (zs : List Int) (n : Int) (w : World) (h : n < 1 ∨ 64 < n) :
    Calls Tryd.prog 89 #[.slice a len cap, .int .i64 n] w fun e w' => e = .returned (.tuple #[.int .i64 (Leb.cntN zs n), errV (Leb.cntE zs n)]) ∧ w = w' := by
  have hc := Leb.cnt_arg zs n h
  have H := hide hc; clear hc
  rcases h with h | h
  · go_enter Tryd.func89, Tryd.ntmps89
    go_wp2
    go_ret2
    exact ⟨ret2 (by rw [(unhide H).2]) (by rw [(unhide H).1, errV_1]; rfl), rfl⟩
  · have h' : ¬ n < 1 := by omega
    go_enter Tryd.func89, Tryd.ntmps89
    go_wp2
    go_ret2
    exact ⟨ret2 (by rw [(unhide H).2]) (by rw [(unhide H).1, errV_1]; rfl), rfl⟩

set_option maxHeartbeats 400000 in
theorem count_in (a : Option Addr) (len cap : Nat) (zs : List Int) (n : Int) (w : World) (hrow : Row w a len zs) (h1 : 1 ≤ n) (h2 : n ≤ 64) (hreach : len ≤ 9223372036854775807) :
    Calls Tryd.prog 89 #[.slice a len cap, .int .i64 n] w fun e w' => e = .returned (.tuple #[.int .i64 (Leb.cntN zs n), errV (Leb.cntE zs n)]) ∧ w = w' := by
  have HR := hide hrow; clear hrow
  have hM : 1 ≤ (n + 6) / 7 ∧ (n + 6) / 7 ≤ 10 := by omega
  go_enter Tryd.func89, Tryd.ntmps89
  go_wp2_with fail
  refine (most_any n _ h1 h2).mono ?_
  rintro e w1 ⟨rfl, rfl⟩
  generalize hm : (n + 6) / 7 = M at *
  have HM := hide (show Leb.mb n = M from hm); clear hm
  go_wp2_with fail
  go_loop [16] (fun c => ∃ (k : Nat), c = .int .i64 k ∧ (k : Int) ≤ M ∧ k ≤ Leb.lead zs) (fun c => (M - intOf c).toNat)
  case atStart => exact ⟨0, rfl, by omega, by omega⟩
  case round =>
    obtain ⟨k, rfl, hkM, hkl⟩ := hrel
    have hle := Leb.lead_le zs
    have hzl := (unhide HR).1
    by_cases hlt : (k : Int) < M
    · by_cases hend : k = len
      · have hfin := Leb.cnt_end zs n h1 h2 (by rw [unhide HM]; omega) (by omega)
        have HF := hide hfin; clear hfin hkl hle hzl
        subst hend
        go_wp2
        go_ret2
        exact ⟨ret2 (by rw [(unhide HF).2]) (by rw [(unhide HF).1, errV_4]; rfl), rfl⟩
      · have hkn : k < len := by omega
        obtain ⟨b, off, rfl, hb, hc⟩ := (unhide HR).2.2 (by omega)
        have hck := hc k hkn
        have hby := (unhide HR).2.1 (zs.getD k 0) (by rw [List.getD, List.getElem?_eq_getElem (by omega)]; simp)
        have hne : ((k : Int) == (len : Int)) = false := by simp; omega
        have HL := hide hkl; have HLe := hide hle; have HZ := hide hzl
        clear hc hkl hle hzl
        generalize hz : zs.getD k 0 = z at *
        have HZd := hide hz; clear hz
        have hand := Leb.u8_and128 z hby.1 (by omega)
        by_cases h128 : 128 ≤ z
        · have h1z : z / 128 * 128 = 128 := by omega
          rw [h1z] at hand; clear h1z
          have hmore := Leb.lead_more zs k (unhide HL) (by have := unhide HZ; omega) (by rw [unhide HZd]; exact h128)
          have HMo := hide hmore; clear hmore
          go_wp2
          go_round
          case rel => exact ⟨k + 1, by go_num, by omega, unhide HMo⟩
          case measure => simp [intOf]; omega
        · have h1z : z / 128 * 128 = 0 := by omega
          rw [h1z] at hand; clear h1z
          have heq := Leb.lead_eq zs k (unhide HL) (by have := unhide HZ; omega) (by rw [unhide HZd]; omega)
          have hfin := Leb.cnt_ok zs n h1 h2 (by rw [unhide HM]; omega) (by have := unhide HZ; omega)
          rw [heq] at hfin
          have HF := hide hfin; clear hfin heq
          go_wp2
          go_ret2
          exact ⟨ret2 (by rw [(unhide HF).2]) (by rw [(unhide HF).1, errV_0]; rfl), rfl⟩
    · have hfin := Leb.cnt_mal zs n h1 h2 (by rw [unhide HM]; omega)
      have HF := hide hfin; clear hfin hkl hle hzl
      go_wp2
      go_ret2
      exact ⟨ret2 (by rw [(unhide HF).2]) (by rw [(unhide HF).1, errV_6]; rfl), rfl⟩

theorem count_any (a : Option Addr) (len cap : Nat) (zs : List Int) (n : Int) (w : World) (hrow : Row w a len zs) (hreach : len ≤ 9223372036854775807) :
    Calls Tryd.prog 89 #[.slice a len cap, .int .i64 n] w fun e w' => e = .returned (.tuple #[.int .i64 (Leb.cntN zs n), errV (Leb.cntE zs n)]) ∧ w = w' := by
  by_cases h : n < 1 ∨ 64 < n
  · exact count_arg a len cap zs n w h
  · exact count_in a len cap zs n w hrow (by omega) (by omega) hreach
end Go.Proofs.YtjhmglefejclpaaDoor

/- joinGroups: the groups as one number. -/
namespace Go.Proofs.YtjhmglefejclpaaDoor
open Go.RowKit

theorem jn_mod (zs : List Int) (h : zs.length ≤ 9) : 0 ≤ Leb.jn zs ∧ Leb.jn zs < 128 ^ zs.length ∧ Leb.jn zs % 18446744073709551616 = Leb.jn zs := by
  have h1 := Leb.jn_bd zs
  have h2 := Leb.p128_le zs.length h
  exact ⟨h1.1, h1.2, by omega⟩

/-- one round, as the walk spells it -/
theorem join_round (zs : List Int) (k : Nat) (hk : k < zs.length) (h9 : k ≤ 9) (z : Int) (hz : zs.getD k 0 = z) :
    bits .or .u64 (Leb.jn (zs.take k) % 18446744073709551616) (z % 128 * 128 ^ k % 18446744073709551616) = Leb.jn (zs.take (k + 1)) % 18446744073709551616 := by
  have hl : (zs.take k).length = k := by simp; omega
  obtain ⟨g0, g1, g2⟩ := jn_mod (zs.take k) (by omega)
  rw [hl] at g1
  rw [g2, Leb.join_step _ z k h9 g0 g1, Leb.take_snoc zs k hk, Leb.jn_snoc, hl, hz]

set_option maxHeartbeats 400000 in
theorem join_any (a : Option Addr) (len cap : Nat) (zs : List Int) (w : World) (hrow : Row w a len zs) (h10 : len ≤ 10) :
    Calls Tryd.prog 92 #[.slice a len cap] w fun e w' => e = .returned (.int .u64 (Leb.jn zs % 18446744073709551616)) ∧ w = w' := by
  have HR := hide hrow; clear hrow
  go_enter Tryd.func92, Tryd.ntmps92
  go_wp2_with fail
  go_loop [3, 8] (fun v c => ∃ (k : Nat), c = .int .i64 k ∧ k ≤ len ∧ v = .int .u64 (Leb.jn (zs.take k) % 18446744073709551616)) (fun _ c => len - (intOf c).toNat)
  case atStart => exact ⟨0, rfl, by omega, rfl⟩
  case round =>
    obtain ⟨k, rfl, hkl, rfl⟩ := hrel
    have hzl := (unhide HR).1
    by_cases hlt : k < len
    · obtain ⟨b, off, rfl, hb, hc⟩ := (unhide HR).2.2 (by omega)
      have hck := hc k hlt
      have hby := (unhide HR).2.1 (zs.getD k 0) (by rw [List.getD, List.getElem?_eq_getElem (by omega)]; simp)
      generalize hz : zs.getD k 0 = z at *
      have hnext := join_round zs k (by omega) (by omega) z hz
      have hand := Leb.u8_and127 z hby.1 (by omega)
      generalize Leb.jn (zs.take k) % 18446744073709551616 = V at *
      have HN := hide hnext; have HZ := hide hzl; have HZd := hide hz
      clear hc hnext hzl hz
      go_wp2
      go_round
      case rel => exact ⟨k + 1, by go_num, by omega, by rw [← unhide HN, IntKind.wrap_u64, Leb.pow7]⟩
      case measure => simp [intOf]; omega
    · have e : k = len := by omega
      have ht : zs.take k = zs := List.take_of_length_le (by omega)
      have HT := hide ht
      clear ht e hzl
      go_wp2
      go_ret
      exact ⟨ret_int (by rw [unhide HT]), rfl⟩
end Go.Proofs.YtjhmglefejclpaaDoor

/- TakeU: the number at the begin of bytes, or the error. -/
namespace Go.Proofs.YtjhmglefejclpaaDoor
open Go.RowKit
set_option linter.unusedVariables false


theorem left_q (n b : Int) (w : World) (h0 : 0 ≤ n) (h1 : n ≤ 1000) (h2 : 0 ≤ b) (h3 : b ≤ 1000) :
    Calls Tryd.prog 91 #[.int .i64 n, .int .i64 b] w fun e w' => e = .returned (.int .i64 (b - 7 * (n - 1))) ∧ w' = w :=
  (left_any n b w h0 h1 h2 h3).mono fun _ _ ⟨h, h'⟩ => ⟨h, h'.symm⟩
theorem left_p (p D : Nat) (b : Int) (w : World) (h1 : p ≤ 100) (h2 : 0 ≤ b) (h3 : b ≤ 1000) (hD : Hid (b = 7 * p + D)) :
    Calls Tryd.prog 91 #[.int .i64 ((p : Int) + 1), .int .i64 b] w fun e w' => e = .returned (.int .i64 D) ∧ w' = w :=
  (left_any _ b w (by omega) (by omega) h2 h3).mono fun _ _ ⟨h, h'⟩ => ⟨by rw [h]; exact ret_int (by have := hD.out; omega), h'.symm⟩

theorem Row.take {w : World} {a : Option Addr} {len : Nat} {zs : List Int} (h : Row w a len zs) (n : Nat) (hn : n ≤ len) : Row w a n (zs.take n) := by
  refine ⟨by have := h.1; simp; omega, fun z hz => h.2.1 z (List.mem_of_mem_take hz), fun hp => ?_⟩
  obtain ⟨b, off, rfl, hb, hc⟩ := h.2.2 (by omega)
  refine ⟨b, off, rfl, hb, fun i hi => ?_⟩
  rw [hc i (by omega)]
  simp [List.getD, hi]

set_option maxHeartbeats 400000 in
theorem takeU_cnt (a : Option Addr) (len cap : Nat) (zs : List Int) (n k : Int) (w : World) (hrow : Row w a len zs) (hreach : len ≤ 9223372036854775807) (hk : Leb.cntE zs n = k) (hk0 : k ≠ 0) :
    Calls Tryd.prog 93 #[.slice a len cap, .int .i64 n] w fun e w' => e = .returned (.tuple #[.int .u64 0, .int .i64 0, errV k]) ∧ w = w' := by
  have hN : Leb.cntN zs n = 0 := by unfold Leb.cntN; rw [if_neg (by rw [hk]; exact hk0)]
  have hv : errV k = .iface 64 (.int .i64 k) := by simp [errV, hk0]
  have HR := hide hrow; have HK := hide hk; have HN := hide hN; have HV := hide hv; clear hrow hk hN hv
  go_enter Tryd.func93, Tryd.ntmps93
  go_wp2_with fail
  refine (count_any a len cap zs n _ (unhide HR) hreach).mono ?_
  rintro e w1 ⟨rfl, rfl⟩
  rw [unhide HK, unhide HN, unhide HV]
  go_wp2
  go_ret3
  exact ⟨ret3 rfl rfl (by rw [unhide HV]; rfl), rfl⟩

set_option maxHeartbeats 400000 in
theorem takeU_in (a : Option Addr) (len cap : Nat) (zs : List Int) (n : Int) (w : World) (hrow : Row w a len zs) (hcap : len ≤ cap) (hreach : len ≤ 9223372036854775807) (hk : Leb.cntE zs n = 0) (h1 : 1 ≤ n) (h2 : n ≤ 64)
    (p : Nat) (hp : Leb.lead zs = p) (hpl : p < len) (hpm : (p : Int) < Leb.mb n) (c : Int) (hc : zs.getD p 0 = c) (D : Nat) (hD : n = 7 * p + D) (hz : c / 2 ^ min D 8 = 0) :
    Calls Tryd.prog 93 #[.slice a len cap, .int .i64 n] w fun e w' => e = .returned (.tuple #[.int .u64 (Leb.jn (zs.take (p + 1)) % 18446744073709551616), .int .i64 ((p : Int) + 1), .nilIface]) ∧ ∃ m, w' = w.drewN m := by
  have hN : Leb.cntN zs n = (p : Int) + 1 := by unfold Leb.cntN; rw [if_pos hk, hp]
  obtain ⟨b, off, rfl, hb, hcell⟩ := hrow.2.2 (by omega)
  have hcp := hcell p hpl
  rw [hc] at hcp
  have hp10 : p ≤ 9 := by unfold Leb.mb at hpm; omega
  have HR := hide hrow; have HK := hide hk; have HN := hide hN; have HD : Hid (n = 7 * p + D) := hD; clear hrow hk hN hcell hp hc hD
  clear hpm
  have hwp : IntKind.i64.wrap (p : Int) = p := by rw [IntKind.wrap_i64]; omega
  go_enter Tryd.func93, Tryd.ntmps93
  go_wp2_with fail
  refine (count_any _ len cap zs n _ (unhide HR) hreach).mono ?_
  rintro e w1 ⟨rfl, rfl⟩
  rw [unhide HK, unhide HN, errV_0]
  go_wp2_with fail
  go_quiet ((go_at_call 91; exact Calls.quiet_of_same (left_p p D _ _ (by omega) (by omega) (by omega) HD)))
  go_wp2_with fail
  refine (join_any _ (p + 1) _ (zs.take (p + 1)) _ (((unhide HR).below (Nat.le_refl _) (below_drewN (Below.refl _ _) _)).take (p + 1) (by omega)) (by omega)).mono ?_
  rintro e w1 ⟨rfl, rfl⟩
  go_wp2
  go_ret3
  exact ⟨rfl, _, rfl⟩

set_option maxHeartbeats 400000 in
theorem takeU_mal (a : Option Addr) (len cap : Nat) (zs : List Int) (n : Int) (w : World) (hrow : Row w a len zs) (hcap : len ≤ cap) (hreach : len ≤ 9223372036854775807) (hk : Leb.cntE zs n = 0) (h1 : 1 ≤ n) (h2 : n ≤ 64)
    (p : Nat) (hp : Leb.lead zs = p) (hpl : p < len) (hpm : (p : Int) < Leb.mb n) (c : Int) (hc : zs.getD p 0 = c) (D : Nat) (hD : n = 7 * p + D) (hz : (c / 2 ^ min D 8 == 0) = false) :
    Calls Tryd.prog 93 #[.slice a len cap, .int .i64 n] w fun e w' => e = .returned (.tuple #[.int .u64 0, .int .i64 0, errV 6]) ∧ ∃ m, w' = w.drewN m := by
  have hN : Leb.cntN zs n = (p : Int) + 1 := by unfold Leb.cntN; rw [if_pos hk, hp]
  obtain ⟨b, off, rfl, hb, hcell⟩ := hrow.2.2 (by omega)
  have hcp := hcell p hpl
  rw [hc] at hcp
  have hp10 : p ≤ 9 := by unfold Leb.mb at hpm; omega
  have hz2 : (c / 2 ^ min D 8 != 0) = true := by rw [bne, hz]; rfl
  have HR := hide hrow; have HK := hide hk; have HN := hide hN; have HD : Hid (n = 7 * p + D) := hD; clear hrow hk hN hcell hp hc hD hz
  clear hpm
  have hwp : IntKind.i64.wrap (p : Int) = p := by rw [IntKind.wrap_i64]; omega
  go_enter Tryd.func93, Tryd.ntmps93
  go_wp2_with fail
  refine (count_any _ len cap zs n _ (unhide HR) hreach).mono ?_
  rintro e w1 ⟨rfl, rfl⟩
  rw [unhide HK, unhide HN, errV_0]
  go_wp2_with fail
  go_quiet ((go_at_call 91; exact Calls.quiet_of_same (left_p p D _ _ (by omega) (by omega) (by omega) HD)))
  go_wp2
  go_ret3
  exact ⟨ret3 rfl rfl (by rw [errV_6]; rfl), _, rfl⟩

theorem takeU_any (a : Option Addr) (len cap : Nat) (zs : List Int) (n : Int) (w : World) (hrow : Row w a len zs) (hcap : len ≤ cap) (hreach : len ≤ 9223372036854775807) :
    Calls Tryd.prog 93 #[.slice a len cap, .int .i64 n] w fun e w' => e = .returned (.tuple #[.int .u64 (Leb.tuV zs n), .int .i64 (Leb.tuN zs n), errV (Leb.tuE zs n)]) ∧ ∃ m, w' = w.drewN m := by
  by_cases hk : Leb.cntE zs n = 0
  · obtain ⟨h1, h2, h3, h4⟩ := Leb.cnt_0 zs n hk
    have hl := hrow.1
    have hm := h3
    unfold Leb.mb at hm
    by_cases hz : zs.getD (Leb.lead zs) 0 / 2 ^ min (n - 7 * Leb.lead zs).toNat 8 = 0
    · have e : Leb.tuE zs n = 0 := by unfold Leb.tuE; rw [if_pos hk, if_pos hz]
      unfold Leb.tuV Leb.tuN
      rw [e, if_pos rfl, if_pos rfl, errV_0]
      exact takeU_in a len cap zs n w hrow hcap hreach hk h1 h2 _ rfl (by omega) h3 _ rfl (n - 7 * Leb.lead zs).toNat (by omega) hz
    · have e : Leb.tuE zs n = 6 := by unfold Leb.tuE; rw [if_pos hk, if_neg hz]
      unfold Leb.tuV Leb.tuN
      rw [e, if_neg (by decide), if_neg (by decide)]
      exact takeU_mal a len cap zs n w hrow hcap hreach hk h1 h2 _ rfl (by omega) h3 _ rfl (n - 7 * Leb.lead zs).toNat (by omega) (beq_eq_false_iff_ne.2 hz)
  · have e : Leb.tuE zs n = Leb.cntE zs n := by unfold Leb.tuE; rw [if_neg hk]
    unfold Leb.tuV Leb.tuN
    rw [e, if_neg hk, if_neg hk]
    exact (takeU_cnt a len cap zs n _ w hrow hreach rfl hk).mono fun _ _ ⟨h, h'⟩ => ⟨h, 0, h'.symm⟩
end Go.Proofs.YtjhmglefejclpaaDoor

/- TakeS: the number with a sign at the begin of bytes, or the error. -/
namespace Go.Proofs.YtjhmglefejclpaaDoor
open Go.RowKit
set_option linter.unusedVariables false

theorem wrap64_eq (x : Int) : wrap64 x = IntKind.i64.wrap x := by rw [IntKind.wrap_i64]; unfold wrap64; rfl

set_option maxHeartbeats 400000 in
theorem takeS_cnt (a : Option Addr) (len cap : Nat) (zs : List Int) (n k : Int) (w : World) (hrow : Row w a len zs) (hreach : len ≤ 9223372036854775807) (hk : Leb.cntE zs n = k) (hk0 : k ≠ 0) :
    Calls Tryd.prog 80 #[.slice a len cap, .int .i64 n] w fun e w' => e = .returned (.tuple #[.int .i64 0, .int .i64 0, errV k]) ∧ w = w' := by
  have hN : Leb.cntN zs n = 0 := by unfold Leb.cntN; rw [if_neg (by rw [hk]; exact hk0)]
  have hv : errV k = .iface 64 (.int .i64 k) := by simp [errV, hk0]
  have HR := hide hrow; have HK := hide hk; have HN := hide hN; have HV := hide hv; clear hrow hk hN hv
  go_enter Tryd.func80, Tryd.ntmps80
  go_wp2_with fail
  refine (count_any a len cap zs n _ (unhide HR) hreach).mono ?_
  rintro e w1 ⟨rfl, rfl⟩
  rw [unhide HK, unhide HN, unhide HV]
  go_wp2
  go_ret3
  exact ⟨ret3 rfl rfl (by rw [unhide HV]; rfl), rfl⟩

theorem left_s (p D : Nat) (b : Int) (w : World) (h1 : p ≤ 100) (h2 : 0 ≤ b) (h3 : b ≤ 1000) (hD : Hid (b = 7 * p + (D + 1 : Nat))) :
    Calls Tryd.prog 91 #[.int .i64 ((p : Int) + 1), .int .i64 b] w fun e w' => e = .returned (.int .i64 ((D : Int) + 1)) ∧ w = w' :=
  (left_any _ b w (by omega) (by omega) h2 h3).mono fun _ _ ⟨h, h'⟩ => ⟨by rw [h]; exact ret_int (by have := hD.out; omega), h'⟩

set_option maxHeartbeats 400000 in
theorem takeS_mal (a : Option Addr) (len cap : Nat) (zs : List Int) (n : Int) (w : World) (hrow : Row w a len zs) (hcap : len ≤ cap) (hreach : len ≤ 9223372036854775807) (hk : Leb.cntE zs n = 0) (h1 : 1 ≤ n) (h2 : n ≤ 64)
    (p : Nat) (hp : Leb.lead zs = p) (hpl : p < len) (hpm : (p : Int) < Leb.mb n) (c : Int) (hc : zs.getD p 0 = c) (hc0 : 0 ≤ c) (hc1 : c < 128) (D : Nat) (hD : n = 7 * p + (D + 1 : Nat)) (hD63 : D ≤ 63)
    (q : Int) (hq : Leb.sg c / 2 ^ min D 8 = q) (hq0 : (q != 0) = true) (hq1 : (q != -1) = true) :
    Calls Tryd.prog 80 #[.slice a len cap, .int .i64 n] w fun e w' => e = .returned (.tuple #[.int .i64 0, .int .i64 0, errV 6]) ∧ w = w' := by
  have hN : Leb.cntN zs n = (p : Int) + 1 := by unfold Leb.cntN; rw [if_pos hk, hp]
  obtain ⟨b, off, rfl, hb, hcell⟩ := hrow.2.2 (by omega)
  have hcp := hcell p hpl
  rw [hc] at hcp
  have hp10 : p ≤ 9 := by unfold Leb.mb at hpm; omega
  generalize hs : Leb.sg c = s at *
  have HR := hide hrow; have HK := hide hk; have HN := hide hN; have HD : Hid (n = 7 * p + (D + 1 : Nat)) := hD; have HS := hide hs; clear hrow hk hN hcell hp hc hD hs
  clear hpm
  go_enter Tryd.func80, Tryd.ntmps80
  go_wp2_with fail
  refine (count_any _ len cap zs n _ (unhide HR) hreach).mono ?_
  rintro e w1 ⟨rfl, rfl⟩
  rw [unhide HK, unhide HN, errV_0]
  go_wp2_with fail
  refine (signed_any c _ hc0 hc1).mono ?_
  rintro e w1 ⟨rfl, rfl⟩
  rw [unhide HS]
  go_wp2_with fail
  refine (left_s p D _ _ (by omega) (by omega) (by omega) HD).mono ?_
  rintro e w1 ⟨rfl, rfl⟩
  go_wp2_with fail
  go_ret3
  exact ⟨ret3 rfl rfl (by rw [errV_6]; rfl), rfl⟩

set_option maxHeartbeats 400000 in
theorem takeS_neg (a : Option Addr) (len cap : Nat) (zs : List Int) (n : Int) (w : World) (hrow : Row w a len zs) (hcap : len ≤ cap) (hreach : len ≤ 9223372036854775807) (hk : Leb.cntE zs n = 0) (h1 : 1 ≤ n) (h2 : n ≤ 64)
    (p : Nat) (hp : Leb.lead zs = p) (hpl : p < len) (hpm : (p : Int) < Leb.mb n) (c : Int) (hc : zs.getD p 0 = c) (hc0 : 0 ≤ c) (hc1 : c < 128) (D : Nat) (hD : n = 7 * p + (D + 1 : Nat)) (hD63 : D ≤ 63)
    (hq : Leb.sg c / 2 ^ min D 8 = -1) (hneg : Leb.sg c < 0) :
    Calls Tryd.prog 80 #[.slice a len cap, .int .i64 n] w fun e w' => e = .returned (.tuple #[.int .i64 (IntKind.i64.wrap (Leb.jn (zs.take (p + 1)) - 128 ^ (p + 1))), .int .i64 ((p : Int) + 1), errV 0]) ∧ w = w' := by
  have hN : Leb.cntN zs n = (p : Int) + 1 := by unfold Leb.cntN; rw [if_pos hk, hp]
  obtain ⟨b, off, rfl, hb, hcell⟩ := hrow.2.2 (by omega)
  have hcp := hcell p hpl
  rw [hc] at hcp
  have hp10 : p ≤ 9 := by unfold Leb.mb at hpm; omega
  have hlt : (zs.take (p + 1)).length = p + 1 := by have := hrow.1; simp; omega
  have hJ := Leb.jn_bd (zs.take (p + 1))
  rw [hlt] at hJ
  have HJ := hide hJ; clear hJ hlt
  generalize hs : Leb.sg c = s at *
  have HR := hide hrow; have HK := hide hk; have HN := hide hN; have HD : Hid (n = 7 * p + (D + 1 : Nat)) := hD; have HS := hide hs; clear hrow hk hN hcell hp hc hD hs
  clear hpm
  have hsh : Op.shift .shl .u64 18446744073709551615 .i64 (7 * ((p : Int) + 1)) = pure (.int .u64 (Leb.msk p)) := by
    rw [shift_shl_any _ _ _ _ (by omega)]; unfold Leb.msk; rw [show (7 * ((p : Int) + 1)).toNat = 7 * (p + 1) from by omega]; rfl
  go_enter Tryd.func80, Tryd.ntmps80
  go_wp2_with fail
  refine (count_any _ len cap zs n _ (unhide HR) hreach).mono ?_
  rintro e w1 ⟨rfl, rfl⟩
  rw [unhide HK, unhide HN, errV_0]
  go_wp2_with fail
  refine (signed_any c _ hc0 hc1).mono ?_
  rintro e w1 ⟨rfl, rfl⟩
  rw [unhide HS]
  go_wp2_with fail
  refine (left_s p D _ _ (by omega) (by omega) (by omega) HD).mono ?_
  rintro e w1 ⟨rfl, rfl⟩
  go_wp2_with fail
  refine (join_any _ (p + 1) _ (zs.take (p + 1)) _ ((unhide HR).take (p + 1) (by omega)) (by omega)).mono ?_
  rintro e w1 ⟨rfl, rfl⟩
  generalize hJe : Leb.jn (zs.take (p + 1)) = J at *
  have HE := hide hJe; clear hJe
  go_wp2_with fail
  go_ret3
  exact ⟨ret3 (by rw [wrap64_eq, unhide HE]; exact Leb.neg_val J p hp10 (unhide HJ).1 (unhide HJ).2) rfl (by rw [errV_0]; rfl), rfl⟩
set_option maxHeartbeats 400000 in
theorem takeS_pos (a : Option Addr) (len cap : Nat) (zs : List Int) (n : Int) (w : World) (hrow : Row w a len zs) (hcap : len ≤ cap) (hreach : len ≤ 9223372036854775807) (hk : Leb.cntE zs n = 0) (h1 : 1 ≤ n) (h2 : n ≤ 64)
    (p : Nat) (hp : Leb.lead zs = p) (hpl : p < len) (hpm : (p : Int) < Leb.mb n) (c : Int) (hc : zs.getD p 0 = c) (hc0 : 0 ≤ c) (hc1 : c < 128) (D : Nat) (hD : n = 7 * p + (D + 1 : Nat)) (hD63 : D ≤ 63)
    (hq : Leb.sg c / 2 ^ min D 8 = 0) (hneg : ¬ Leb.sg c < 0) :
    Calls Tryd.prog 80 #[.slice a len cap, .int .i64 n] w fun e w' => e = .returned (.tuple #[.int .i64 (IntKind.i64.wrap (Leb.jn (zs.take (p + 1)) - 0)), .int .i64 ((p : Int) + 1), errV 0]) ∧ w = w' := by
  have hN : Leb.cntN zs n = (p : Int) + 1 := by unfold Leb.cntN; rw [if_pos hk, hp]
  obtain ⟨b, off, rfl, hb, hcell⟩ := hrow.2.2 (by omega)
  have hcp := hcell p hpl
  rw [hc] at hcp
  have hp10 : p ≤ 9 := by unfold Leb.mb at hpm; omega
  have hlt : (zs.take (p + 1)).length = p + 1 := by have := hrow.1; simp; omega
  have hJ := Leb.jn_bd (zs.take (p + 1))
  rw [hlt] at hJ
  have HJ := hide hJ; clear hJ hlt
  generalize hs : Leb.sg c = s at *
  have HR := hide hrow; have HK := hide hk; have HN := hide hN; have HD : Hid (n = 7 * p + (D + 1 : Nat)) := hD; have HS := hide hs; clear hrow hk hN hcell hp hc hD hs
  clear hpm
  go_enter Tryd.func80, Tryd.ntmps80
  go_wp2_with fail
  refine (count_any _ len cap zs n _ (unhide HR) hreach).mono ?_
  rintro e w1 ⟨rfl, rfl⟩
  rw [unhide HK, unhide HN, errV_0]
  go_wp2_with fail
  refine (signed_any c _ hc0 hc1).mono ?_
  rintro e w1 ⟨rfl, rfl⟩
  rw [unhide HS]
  go_wp2_with fail
  refine (left_s p D _ _ (by omega) (by omega) (by omega) HD).mono ?_
  rintro e w1 ⟨rfl, rfl⟩
  go_wp2_with fail
  refine (join_any _ (p + 1) _ (zs.take (p + 1)) _ ((unhide HR).take (p + 1) (by omega)) (by omega)).mono ?_
  rintro e w1 ⟨rfl, rfl⟩
  generalize hJe : Leb.jn (zs.take (p + 1)) = J at *
  have HE := hide hJe; clear hJe
  go_wp2_with fail
  go_ret3
  exact ⟨ret3 (by rw [wrap64_eq, unhide HE]; exact Leb.pos_val J) rfl (by rw [errV_0]; rfl), rfl⟩

theorem takeS_any (a : Option Addr) (len cap : Nat) (zs : List Int) (n : Int) (w : World) (hrow : Row w a len zs) (hcap : len ≤ cap) (hreach : len ≤ 9223372036854775807) :
    Calls Tryd.prog 80 #[.slice a len cap, .int .i64 n] w fun e w' => e = .returned (.tuple #[.int .i64 (Leb.tsV zs n), .int .i64 (Leb.tsN zs n), errV (Leb.tsE zs n)]) ∧ w = w' := by
  by_cases hk : Leb.cntE zs n = 0
  · obtain ⟨h1, h2, h3, h4⟩ := Leb.cnt_0 zs n hk
    have hl := hrow.1
    have hm := h3
    unfold Leb.mb at hm
    have hc1 := Leb.lead_lt zs h4
    have hc0 := (hrow.2.1 (zs.getD (Leb.lead zs) 0) (by rw [List.getD, List.getElem?_eq_getElem h4]; simp)).1
    have hDe : n = 7 * (Leb.lead zs : Int) + ((n - 7 * (Leb.lead zs : Int) - 1).toNat + 1 : Nat) := by omega
    by_cases hz : Leb.sg (zs.getD (Leb.lead zs) 0) / 2 ^ min (n - 7 * Leb.lead zs - 1).toNat 8 = 0 ∨ Leb.sg (zs.getD (Leb.lead zs) 0) / 2 ^ min (n - 7 * Leb.lead zs - 1).toNat 8 = -1
    · have e : Leb.tsE zs n = 0 := by unfold Leb.tsE; rw [if_pos hk, if_pos hz]
      unfold Leb.tsV Leb.tsN
      rw [e, if_pos rfl, if_pos rfl]
      have hpow : (0 : Int) < 2 ^ min (n - 7 * Leb.lead zs - 1).toNat 8 := Int.pow_pos (by omega)
      by_cases hneg : Leb.sg (zs.getD (Leb.lead zs) 0) < 0
      · rw [if_pos hneg]
        have hq : Leb.sg (zs.getD (Leb.lead zs) 0) / 2 ^ min (n - 7 * Leb.lead zs - 1).toNat 8 = -1 := by
          rcases hz with hz | hz
          · have := Int.ediv_neg_of_neg_of_pos hneg hpow
            omega
          · exact hz
        exact takeS_neg a len cap zs n w hrow hcap hreach hk h1 h2 _ rfl (by omega) h3 _ rfl hc0 hc1 _ hDe (by omega) hq hneg
      · rw [if_neg hneg]
        have hq : Leb.sg (zs.getD (Leb.lead zs) 0) / 2 ^ min (n - 7 * Leb.lead zs - 1).toNat 8 = 0 := by
          rcases hz with hz | hz
          · exact hz
          · have := Int.ediv_nonneg (show 0 ≤ Leb.sg (zs.getD (Leb.lead zs) 0) by omega) (Int.le_of_lt hpow)
            omega
        exact takeS_pos a len cap zs n w hrow hcap hreach hk h1 h2 _ rfl (by omega) h3 _ rfl hc0 hc1 _ hDe (by omega) hq hneg
    · have e : Leb.tsE zs n = 6 := by unfold Leb.tsE; rw [if_pos hk, if_neg hz]
      unfold Leb.tsV Leb.tsN
      rw [e, if_neg (by decide), if_neg (by decide)]
      exact takeS_mal a len cap zs n w hrow hcap hreach hk h1 h2 _ rfl (by omega) h3 _ rfl hc0 hc1 _ hDe (by omega) _ rfl (bne_iff_ne.2 fun h => hz (.inl h)) (bne_iff_ne.2 fun h => hz (.inr h))
  · have e : Leb.tsE zs n = Leb.cntE zs n := by unfold Leb.tsE; rw [if_neg hk]
    unfold Leb.tsV Leb.tsN
    rw [e, if_neg hk, if_neg hk]
    exact takeS_cnt a len cap zs n _ w hrow hreach rfl hk
end Go.Proofs.YtjhmglefejclpaaDoor

/- PutU and PutS: the bytes that were handed in, in a row of their own, and behind them the number's. -/
namespace Go.Proofs.YtjhmglefejclpaaDoor
open Go.RowKit

/-- what one append does to the loop's relation -/
theorem rel_put (B : Nat) (w wr w2 : World) (len N : Nat) (zs ds : List Int) (c : Int)
    (_hown : wr.ownsRow B 5 1 (.slice (some ⟨B, 0, none⟩) (len + ds.length) (len + N)) (len + ds.length) ((zs ++ ds).map (Value.int .u8))) (hbel : Below B w wr) (hlt : B < wr.heap.size)
    (hown3 : w2.ownsRow B 5 1 (.slice (some ⟨B, 0, none⟩) (len + ds.length + 1) (len + N)) (len + ds.length + 1) (zs.map (Value.int .u8) ++ (ds.map (Value.int .u8) ++ [.int .u8 c])))
    (hgrow : (wr.alloc (.cells #[.int .u8 c] 5)).grownBy w2 (some B)) :
    w2.ownsRow B 5 1 (.slice (some ⟨B, 0, none⟩) (len + (ds ++ [c]).length) (len + N)) (len + (ds ++ [c]).length) ((zs ++ (ds ++ [c])).map (Value.int .u8)) ∧ Below B w w2 ∧ B < w2.heap.size := by
  have h1 : Below B w w2 := (hbel.alloc (by omega) _).grown hgrow (by simp; omega) (by intro k hk; simp at hk; omega)
  refine ⟨by simpa [Nat.add_assoc] using hown3, h1, ?_⟩
  have := hown3.lt B rfl
  omega

set_option maxHeartbeats 400000 in
theorem putU_any (a : Option Addr) (len cap : Nat) (zs : List Int) (v : Int) (w : World) (hrow : Row w a len zs) (h0 : 0 ≤ v) (hv : v < 18446744073709551616) (hreach : len ≤ 140737488351232) :
    Calls Tryd.prog 78 #[.slice a len cap, .int .u64 v] w fun e w' => ∃ cap', e = .returned (.slice (some ⟨w.heap.size, 0, none⟩) (len + (Leb.bU 10 v).length) cap') ∧
      w'.ownsRow w.heap.size 5 1 (.slice (some ⟨w.heap.size, 0, none⟩) (len + (Leb.bU 10 v).length) cap') (len + (Leb.bU 10 v).length) ((zs ++ Leb.bU 10 v).map (Value.int .u8)) ∧ Below w.heap.size w w' := by
  have hN := Leb.bU_len 10 v
  obtain ⟨i0, hi, hz0, hz1, hz2⟩ := info_parts Tryd.info5
  generalize hL : Leb.bU 10 v = L at *
  have HL := hide hL; clear hL
  have HR := hide hrow; clear hrow
  go_enter Tryd.func78, Tryd.ntmps78
  go_wp2_with fail
  refine (sizeU_any _ _ h0 hv).mono ?_
  rintro e w1 ⟨rfl, rfl⟩
  rw [unhide HL]
  go_wp2_with fail
  refine (copy_any a len cap L.length zs _ (unhide HR) (by omega) hreach).mono ?_
  rintro e w1 ⟨rfl, hown, hbel, hlt⟩
  generalize hB : w.heap.size = B at *
  have HB := hide hB; clear hB
  go_wp2_with fail
  go_loopw [1, 5] (fun x s wr => ∃ (y : Int) (ds : List Int), x = .int .u64 y ∧ s = .slice (some ⟨B, 0, none⟩) (len + ds.length) (len + L.length) ∧ 0 ≤ y ∧ y < 18446744073709551616 ∧ ds ++ Leb.bU 10 y = L ∧
      wr.ownsRow B 5 1 (.slice (some ⟨B, 0, none⟩) (len + ds.length) (len + L.length)) (len + ds.length) ((zs ++ ds).map (Value.int .u8)) ∧ Below B w wr ∧ B < wr.heap.size) (fun x _ _ => (Leb.bU 10 (intOf x)).length)
  case atStart => exact ⟨v, [], rfl, rfl, h0, hv, by simpa using unhide HL, by simpa using hown, hbel, hlt⟩
  case round =>
    obtain ⟨y, ds, rfl, rfl, hy0, hy1, hsum, hown2, hbel2, hlt2⟩ := hrel
    clear hown hbel hlt
    have HO := hide hown2; have HS := hide hsum; have HBe := hide hbel2; have HLt := hide hlt2
    clear hown2 hsum hbel2 hlt2
    by_cases hlt : 127 < y
    · have hn1 : ds.length + 1 ≤ L.length := by
        have := unhide HS; have h1 := Leb.bU_pos 10 y; rw [← this]; simp; omega
      go_wp2_with (at_builtin; refine wpList_append_fits _ rfl (.tmp 12) (.tmp 16) 27 rfl B 5 i0 1 Tryd.underlying27 hi hz1 B (len + ds.length) (len + L.length) ((zs ++ ds).map (Value.int .u8)) rfl ((unhide HO).alloc _) ⟨wr.heap.size, 0, none⟩ 1 1 [.int .u8 (bits BinOp.or IntKind.u8 (y % 256) 128)] rfl rfl ?c1 ?c2 ?c3 ?_)
      case c1 => exact cell_one_new _ _ _
      case c2 => intro u hu; simp at hu; subst hu; rfl
      case c3 => omega
      intro w2 hown3 hgrow
      have hrel2 := rel_put B w wr w2 len L.length zs ds (bits BinOp.or IntKind.u8 (y % 256) 128) (unhide HO) (unhide HBe) (unhide HLt) hown3 hgrow
      rw [Leb.u8_or128 (y % 256) (by omega) (by omega), show y % 256 % 128 = y % 128 from by omega] at hrel2
      have HR2 := hide hrel2
      clear hown3 hgrow hrel2 HO
      go_wp2
      go_roundw
      case rel => exact ⟨y / 128, ds ++ [y % 128 + 128], by simp, by simp [Nat.add_assoc], by omega, by omega, by rw [← unhide HS, Leb.bU_step y hlt hy1]; simp, (unhide HR2).1, (unhide HR2).2.1, (unhide HR2).2.2⟩
      case measure => have := szU_down y hlt hy1; simp [intOf]; omega
    · have hlast := Leb.bU_last y hlt
      have hn1 : L.length = ds.length + 1 := by have := unhide HS; rw [← this, hlast]; simp
      have hyL : ds ++ [y] = L := by rw [← hlast]; exact unhide HS
      have HN := hide hn1; have HY := hide hyL
      have hn2 : ds.length + 1 ≤ L.length := by omega
      clear hn1 hyL hlast
      go_wp2_with (at_builtin; refine wpList_append_fits _ rfl (.tmp 20) (.tmp 23) 27 rfl B 5 i0 1 Tryd.underlying27 hi hz1 B (len + ds.length) (len + L.length) ((zs ++ ds).map (Value.int .u8)) rfl ((unhide HO).alloc _) ⟨wr.heap.size, 0, none⟩ 1 1 [.int .u8 y] rfl rfl ?d1 ?d2 ?d3 ?_)
      case d2 => rfl
      case d3 => omega
      intro w2 hown3 hgrow
      have hrel2 := rel_put B w wr w2 len L.length zs ds y (unhide HO) (unhide HBe) (unhide HLt) hown3 hgrow
      rw [unhide HY] at hrel2
      have HR2 := hide hrel2
      clear hown3 hgrow hrel2 HO
      go_wp2
      go_ret
      refine ⟨len + L.length, ?_, ?_, ?_⟩
      · have e := unhide HN
        rw [unhide HB, show len + ds.length + 1 = len + L.length from by omega]; rfl
      · rw [unhide HB]; exact (unhide HR2).1
      · rw [unhide HB]; exact (unhide HR2).2.1
set_option maxHeartbeats 400000 in
theorem putS_any (a : Option Addr) (len cap : Nat) (zs : List Int) (v : Int) (w : World) (hrow : Row w a len zs) (h0 : -9223372036854775808 ≤ v) (hv : v < 9223372036854775808) (hreach : len ≤ 140737488351232) :
    Calls Tryd.prog 77 #[.slice a len cap, .int .i64 v] w fun e w' => ∃ cap', e = .returned (.slice (some ⟨w.heap.size, 0, none⟩) (len + (Leb.bS 10 v).length) cap') ∧
      w'.ownsRow w.heap.size 5 1 (.slice (some ⟨w.heap.size, 0, none⟩) (len + (Leb.bS 10 v).length) cap') (len + (Leb.bS 10 v).length) ((zs ++ Leb.bS 10 v).map (Value.int .u8)) ∧ Below w.heap.size w w' := by
  have hN := Leb.bS_len 10 v
  obtain ⟨i0, hi, hz0, hz1, hz2⟩ := info_parts Tryd.info5
  generalize hL : Leb.bS 10 v = L at *
  have HL := hide hL; clear hL
  have HR := hide hrow; clear hrow
  go_enter Tryd.func77, Tryd.ntmps77
  go_wp2_with fail
  refine (sizeS_any _ _ h0 hv).mono ?_
  rintro e w1 ⟨rfl, rfl⟩
  rw [unhide HL]
  go_wp2_with fail
  refine (copy_any a len cap L.length zs _ (unhide HR) (by omega) hreach).mono ?_
  rintro e w1 ⟨rfl, hown, hbel, hlt⟩
  generalize hB : w.heap.size = B at *
  have HB := hide hB; clear hB
  go_wp2_with fail
  go_loopw [1, 5] (fun x s wr => ∃ (y : Int) (ds : List Int), x = .int .i64 y ∧ s = .slice (some ⟨B, 0, none⟩) (len + ds.length) (len + L.length) ∧ -9223372036854775808 ≤ y ∧ y < 9223372036854775808 ∧ ds ++ Leb.bS 10 y = L ∧
      wr.ownsRow B 5 1 (.slice (some ⟨B, 0, none⟩) (len + ds.length) (len + L.length)) (len + ds.length) ((zs ++ ds).map (Value.int .u8)) ∧ Below B w wr ∧ B < wr.heap.size) (fun x _ _ => (Leb.bS 10 (intOf x)).length)
  case atStart => exact ⟨v, [], rfl, rfl, h0, hv, by simpa using unhide HL, by simpa using hown, hbel, hlt⟩
  case round =>
    obtain ⟨y, ds, rfl, rfl, hy0, hy1, hsum, hown2, hbel2, hlt2⟩ := hrel
    clear hown hbel hlt
    have HO := hide hown2; have HS := hide hsum; have HBe := hide hbel2; have HLt := hide hlt2
    clear hown2 hsum hbel2 hlt2
    by_cases hlt : ¬ (-64 ≤ y ∧ y < 64)
    · have hn1 : ds.length + 1 ≤ L.length := by
        have := unhide HS; have h1 := Leb.bS_pos 10 y; rw [← this]; simp; omega
      go_wp2_with (first | (go_at_call 87; refine (fits_no _ _ hlt).mono ?_; rintro e w' ⟨rfl, rfl⟩) | (at_builtin; refine wpList_append_fits _ rfl (.tmp 13) (.tmp 17) 27 rfl B 5 i0 1 Tryd.underlying27 hi hz1 B (len + ds.length) (len + L.length) ((zs ++ ds).map (Value.int .u8)) rfl ((unhide HO).alloc _) ⟨wr.heap.size, 0, none⟩ 1 1 [.int .u8 (bits BinOp.or IntKind.u8 (y % 256) 128)] rfl rfl ?c1 ?c2 ?c3 ?_))
      case c1 => exact cell_one_new _ _ _
      case c2 => intro u hu; simp at hu; subst hu; rfl
      case c3 => omega
      intro w2 hown3 hgrow
      have hrel2 := rel_put B w wr w2 len L.length zs ds (bits BinOp.or IntKind.u8 (y % 256) 128) (unhide HO) (unhide HBe) (unhide HLt) hown3 hgrow
      rw [Leb.u8_or128 (y % 256) (by omega) (by omega), show y % 256 % 128 = y % 128 from by omega] at hrel2
      have HR2 := hide hrel2
      clear hown3 hgrow hrel2 HO
      go_wp2
      go_roundw
      case rel => exact ⟨y / 128, ds ++ [y % 128 + 128], by simp, by simp [Nat.add_assoc], by omega, by omega, by rw [← unhide HS, Leb.bS_step y hlt hy0 hy1]; simp, (unhide HR2).1, (unhide HR2).2.1, (unhide HR2).2.2⟩
      case measure => have := szS_down y hlt hy0 hy1; simp [intOf]; omega
    · have hfit : -64 ≤ y ∧ y < 64 := Decidable.byContradiction hlt
      have hlast := Leb.bS_last y hfit
      have HF := hide hfit; clear hfit hlt
      have hn1 : L.length = ds.length + 1 := by have := unhide HS; rw [← this, hlast]; simp
      have hyL : ds ++ [y % 128] = L := by rw [← hlast]; exact unhide HS
      have HN := hide hn1; have HY := hide hyL
      have hn2 : ds.length + 1 ≤ L.length := by omega
      clear hn1 hyL hlast
      go_wp2_with (first | (go_at_call 87; refine (fits_yes _ _ (unhide HF)).mono ?_; rintro e w' ⟨rfl, rfl⟩) | (at_builtin; refine wpList_append_fits _ rfl (.tmp 21) (.tmp 25) 27 rfl B 5 i0 1 Tryd.underlying27 hi hz1 B (len + ds.length) (len + L.length) ((zs ++ ds).map (Value.int .u8)) rfl ((unhide HO).alloc _) ⟨wr.heap.size, 0, none⟩ 1 1 [.int .u8 (bits BinOp.and IntKind.u8 (y % 256) 127)] rfl rfl ?d1 ?d2 ?d3 ?_))
      case d1 => exact cell_one_new _ _ _
      case d2 => intro u hu; simp at hu; subst hu; rfl
      case d3 => omega
      intro w2 hown3 hgrow
      have hrel2 := rel_put B w wr w2 len L.length zs ds (bits BinOp.and IntKind.u8 (y % 256) 127) (unhide HO) (unhide HBe) (unhide HLt) hown3 hgrow
      rw [Leb.u8_and127 (y % 256) (by omega) (by omega), show y % 256 % 128 = y % 128 from by omega, unhide HY] at hrel2
      have HR2 := hide hrel2
      clear hown3 hgrow hrel2 HO
      go_wp2
      go_ret
      refine ⟨len + L.length, ?_, ?_, ?_⟩
      · have e := unhide HN
        rw [unhide HB, show len + ds.length + 1 = len + L.length from by omega]; rfl
      · rw [unhide HB]; exact (unhide HR2).1
      · rw [unhide HB]; exact (unhide HR2).2.1
end Go.Proofs.YtjhmglefejclpaaDoor

/- The contracts as the laws use them: each result, and that nothing that was there has turned. -/
namespace Go.Proofs.YtjhmglefejclpaaDoor
open Go.RowKit
set_option linter.unusedVariables false

theorem takeU_b (a : Option Addr) (len cap : Nat) (zs : List Int) (n : Int) (w : World) (hrow : Row w a len zs) (hcap : len ≤ cap) (hreach : len ≤ 9223372036854775807) :
    Calls Tryd.prog 93 #[.slice a len cap, .int .i64 n] w fun e w' => e = .returned (.tuple #[.int .u64 (Leb.tuV zs n), .int .i64 (Leb.tuN zs n), errV (Leb.tuE zs n)]) ∧ Below w.heap.size w w' :=
  (takeU_any a len cap zs n w hrow hcap hreach).mono fun _ _ ⟨h, m, h'⟩ => ⟨h, by rw [h']; exact below_drewN (Below.refl _ _) _⟩
theorem takeS_b (a : Option Addr) (len cap : Nat) (zs : List Int) (n : Int) (w : World) (hrow : Row w a len zs) (hcap : len ≤ cap) (hreach : len ≤ 9223372036854775807) :
    Calls Tryd.prog 80 #[.slice a len cap, .int .i64 n] w fun e w' => e = .returned (.tuple #[.int .i64 (Leb.tsV zs n), .int .i64 (Leb.tsN zs n), errV (Leb.tsE zs n)]) ∧ Below w.heap.size w w' :=
  (takeS_any a len cap zs n w hrow hcap hreach).mono fun _ _ ⟨h, h'⟩ => ⟨h, by rw [← h']; exact Below.refl _ _⟩

theorem own_cap {w : World} {base e size g n cap : Nat} {xs : List Value} (h : w.ownsRow base e size (.slice (some ⟨g, 0, none⟩) n cap) n xs) : n ≤ cap := by
  rcases h.2 with ⟨h, _⟩ | ⟨g', cap', cur, h, _, _, h1, _⟩
  · simp at h
  · simp at h; omega

theorem putU_b (a : Option Addr) (len cap : Nat) (zs : List Int) (v : Int) (w : World) (hrow : Row w a len zs) (h0 : 0 ≤ v) (hv : v < 18446744073709551616) (hreach : len ≤ 140737488351232) :
    Calls Tryd.prog 78 #[.slice a len cap, .int .u64 v] w fun e w' => ∃ g cap', e = .returned (.slice (some ⟨g, 0, none⟩) (len + (Leb.bU 10 v).length) cap') ∧
      Row w' (some ⟨g, 0, none⟩) (len + (Leb.bU 10 v).length) (zs ++ Leb.bU 10 v) ∧ len + (Leb.bU 10 v).length ≤ cap' ∧ w.heap.size ≤ g ∧ Below w.heap.size w w' :=
  (putU_any a len cap zs v w hrow h0 hv hreach).mono fun _ w' ⟨c, h, h1, h2⟩ => ⟨w.heap.size, c, h, Row.own h1 (fun z hz => by
    rcases List.mem_append.1 hz with hz | hz
    · exact hrow.2.1 z hz
    · exact Leb.bU_bytes 10 v h0 (by omega) z hz), own_cap h1, Nat.le_refl _, h2⟩
theorem putS_b (a : Option Addr) (len cap : Nat) (zs : List Int) (v : Int) (w : World) (hrow : Row w a len zs) (h0 : -9223372036854775808 ≤ v) (hv : v < 9223372036854775808) (hreach : len ≤ 140737488351232) :
    Calls Tryd.prog 77 #[.slice a len cap, .int .i64 v] w fun e w' => ∃ g cap', e = .returned (.slice (some ⟨g, 0, none⟩) (len + (Leb.bS 10 v).length) cap') ∧
      Row w' (some ⟨g, 0, none⟩) (len + (Leb.bS 10 v).length) (zs ++ Leb.bS 10 v) ∧ len + (Leb.bS 10 v).length ≤ cap' ∧ w.heap.size ≤ g ∧ Below w.heap.size w w' :=
  (putS_any a len cap zs v w hrow h0 hv hreach).mono fun _ w' ⟨c, h, h1, h2⟩ => ⟨w.heap.size, c, h, Row.own h1 (fun z hz => by
    rcases List.mem_append.1 hz with hz | hz
    · exact hrow.2.1 z hz
    · exact Leb.bS_bytes 10 v z hz), own_cap h1, Nat.le_refl _, h2⟩

end Go.Proofs.YtjhmglefejclpaaDoor

/- A row of bytes of the call's own: one append to it; its shape. -/
namespace Go.Proofs.YtjhmglefejclpaaDoor
open Go.RowKit
set_option linter.unusedVariables false

/-- what one append does to the relation of the document's loops -/
theorem rel_ref (B : Nat) (w wr w2 : World) (s v' : Value) (ds : List Int) (c : Int) (hw : w.heap.size = B) (hbel : Below B w wr) (hB : B ≤ wr.heap.size) (hown : wr.ownsRow B 5 1 s ds.length (ds.map (Value.int .u8)))
    (hown3 : w2.ownsRow B 5 1 v' (ds.length + 1) (ds.map (Value.int .u8) ++ [.int .u8 c]))
    (hgrow : (wr.alloc (.cells #[.int .u8 c] 5)).grownBy w2 s.ownBlock) :
    w2.ownsRow B 5 1 v' (ds ++ [c]).length ((ds ++ [c]).map (Value.int .u8)) ∧ Below B w w2 ∧ B ≤ w2.heap.size := by
  have h1 : Below B w w2 := (hbel.alloc hB _).grown hgrow (by simp; omega) (fun k hk => (hown.lt k hk).1)
  exact ⟨by simpa using hown3, h1, by have := h1.size; omega⟩
theorem own_shape {w : World} {B n : Nat} {v : Value} {zs : List Int} (h : w.ownsRow B 5 1 v n (zs.map (Value.int .u8))) (hn : 1 ≤ n) (hz : ∀ z ∈ zs, 0 ≤ z ∧ z ≤ 255) :
    ∃ g cap, v = .slice (some ⟨g, 0, none⟩) n cap ∧ Row w (some ⟨g, 0, none⟩) n zs ∧ n ≤ cap ∧ B ≤ g := by
  rcases h.2 with ⟨_, h0⟩ | ⟨g, cap, cur, rfl, hg, _, hc, _⟩
  · omega
  · exact ⟨g, cap, rfl, Row.own h hz, hc, hg⟩
end Go.Proofs.YtjhmglefejclpaaDoor

/- errors.As at the target *api.Errno, and the statements' own num: an error's number. After the guide's worked toy of errors.As. -/
namespace Go.Proofs.YtjhmglefejclpaaDoor
open Go.RowKit Go.Extern.Stop Go.Stop Go.Extern
set_option linter.unusedVariables false

/-- what the package variable errors.errorType holds -/
def ErrT (w : World) : Prop := w.cell? ⟨0, 0, none⟩ = some (.iface 116 (.agg #[.pointer (some ⟨3, 29, none⟩)]))

theorem as_nil (t : Value) (w : World) :
    Calls Tryd.prog 30 #[.nilIface, t] w fun e w' => e = .returned (.bool false) ∧ w' = w := by
  go_enter Tryd.func30, Tryd.ntmps30
  go_wp2
  go_ret
  exact ⟨rfl, rfl⟩

theorem asValueOfP (t : Addr) (w : World) : (ReflectliteValue.unpack (.iface 66 (.pointer (some t)))).run Tryd.prog w
    = .ok (.agg #[.pointer (some ⟨3, 66, none⟩), .pointer (some ⟨w.heap.size, 0, none⟩), .int .u64 150]) (w.alloc (.cells #[.pointer (some t)] 66)) := by kernel_rfl
theorem asTypeP (a : Addr) (w : World) : (ReflectliteValue.methodAny (ReflectliteValue.valueError "reflectlite.Value.Type" 0) (fun t _ _ _ => ReflectliteType.toType t) #[.agg #[.pointer (some ⟨3, 66, none⟩), .pointer (some a), .int .u64 150]]).run Tryd.prog w
    = .ok (.iface 116 (.agg #[.pointer (some ⟨3, 66, none⟩)])) w := by kernel_rfl
theorem asMethodKind (h : Value) (w : World) : (Go.method 311 116 (.agg #[h]) "Kind").run Tryd.prog w = .ok (111, h) w := by kernel_rfl
theorem asKindP (w : World) : ((ReflectliteType.abiMethod fun t => (fun a : Nat => Value.int IntKind.u8 (a : Int)) <$> Rtype.kind t) #[.pointer (some ⟨3, 66, none⟩)]).run Tryd.prog w = .ok (.int .u8 22) w := by kernel_rfl
theorem asKindE (w : World) : ((ReflectliteType.abiMethod fun t => (fun a : Nat => Value.int IntKind.u8 (a : Int)) <$> Rtype.kind t) #[.pointer (some ⟨3, 64, none⟩)]).run Tryd.prog w = .ok (.int .u8 2) w := by kernel_rfl

theorem asPartsP (a : Addr) (w : World) : (ReflectliteValue.parts (.agg #[.pointer (some ⟨3, 66, none⟩), .pointer (some a), .int .u64 150])).run Tryd.prog w = .ok (some (66, a, 150)) w := by kernel_rfl
theorem asIsNilP (a p : Addr) (W : World) (ha : W.cell? a = some (.pointer (some p))) :
    (ReflectliteValue.method (ReflectliteValue.valueError "reflectlite.Value.IsNil" 0) ReflectliteValue.isNil #[.agg #[.pointer (some ⟨3, 66, none⟩), .pointer (some a), .int .u64 150]]).run Tryd.prog W = .ok (.bool false) W := by
  show Sem.run Tryd.prog (ReflectliteValue.parts (.agg #[.pointer (some ⟨3, 66, none⟩), .pointer (some a), .int .u64 150]) >>= fun q => _) W = _
  simp only [Sem.run_bind, asPartsP, Result.andThen]
  simp [ReflectliteValue.isNil, loadVar, isAgg, underlying, Tryd.underlying66, ha, Result.andThen]

theorem asMethodElem (h : Value) (w : World) : (Go.method 311 116 (.agg #[h]) "Elem").run Tryd.prog w = .ok (121, .agg #[h]) w := by kernel_rfl
theorem asMethodImplements (h : Value) (w : World) : (Go.method 311 116 (.agg #[h]) "Implements").run Tryd.prog w = .ok (122, .agg #[h]) w := by kernel_rfl
theorem asMethodAssignableTo (h : Value) (w : World) : (Go.method 311 116 (.agg #[h]) "AssignableTo").run Tryd.prog w = .ok (119, .agg #[h]) w := by kernel_rfl
theorem asElemP (w : World) : (ReflectliteType.method ReflectliteType.elem #[.agg #[.pointer (some ⟨3, 66, none⟩)]]).run Tryd.prog w = .ok (.iface 116 (.agg #[.pointer (some ⟨3, 64, none⟩)])) w := by kernel_rfl
theorem asImplementsE (w : World) : (ReflectliteType.relation "Implements" ReflectliteType.implements_ #[.agg #[.pointer (some ⟨3, 64, none⟩)], .iface 116 (.agg #[.pointer (some ⟨3, 29, none⟩)])]).run Tryd.prog w = .ok (.bool true) w := by kernel_rfl
theorem asTypeOfE (v : Value) (w : World) : (ReflectliteType.typeOf #[.iface 64 v]).run Tryd.prog w = .ok (.iface 116 (.agg #[.pointer (some ⟨3, 64, none⟩)])) w := by kernel_rfl
theorem asAssignableE (w : World) : (ReflectliteType.relation "AssignableTo" ReflectliteType.assignableTo #[.agg #[.pointer (some ⟨3, 64, none⟩)], .iface 116 (.agg #[.pointer (some ⟨3, 64, none⟩)])]).run Tryd.prog w = .ok (.bool true) w := by kernel_rfl
theorem asValueOfE (k : Int) (w : World) : (ReflectliteValue.unpack (.iface 64 (.int .i64 k))).run Tryd.prog w
    = .ok (.agg #[.pointer (some ⟨3, 64, none⟩), .pointer (some ⟨w.heap.size, 0, none⟩), .int .u64 130]) (w.alloc (.cells #[.int .i64 k] 64)) := by kernel_rfl

theorem asElemOfP (w : World) : (Rtype.elem? 66).run Tryd.prog w = .ok (some 64) w := by kernel_rfl
theorem asMkE (p : Addr) (w : World) : (ReflectliteValue.mk 64 p ReflectliteValue.flagAddr).run Tryd.prog w = .ok (.agg #[.pointer (some ⟨3, 64, none⟩), .pointer (some p), .int .u64 386]) w := by kernel_rfl
theorem asElemVP (a p : Addr) (W : World) (ha : W.cell? a = some (.pointer (some p))) :
    (ReflectliteValue.method (ReflectliteValue.valueError "reflectlite.Value.Elem" 0) ReflectliteValue.elem #[.agg #[.pointer (some ⟨3, 66, none⟩), .pointer (some a), .int .u64 150]]).run Tryd.prog W
      = .ok (.agg #[.pointer (some ⟨3, 64, none⟩), .pointer (some p), .int .u64 386]) W := by
  show Sem.run Tryd.prog (ReflectliteValue.parts (.agg #[.pointer (some ⟨3, 66, none⟩), .pointer (some a), .int .u64 150]) >>= fun q => _) W = _
  simp only [Sem.run_bind, asPartsP, Result.andThen]
  simp [ReflectliteValue.elem, loadVar, isAgg, underlying, Tryd.underlying66, ha, Result.andThen, asElemOfP, asMkE]
theorem asPartsEa (a : Addr) (w : World) : (ReflectliteValue.parts (.agg #[.pointer (some ⟨3, 64, none⟩), .pointer (some a), .int .u64 386])).run Tryd.prog w = .ok (some (64, a, 386)) w := by kernel_rfl
theorem asPartsE (a : Addr) (w : World) : (ReflectliteValue.parts (.agg #[.pointer (some ⟨3, 64, none⟩), .pointer (some a), .int .u64 130])).run Tryd.prog w = .ok (some (64, a, 130)) w := by kernel_rfl
theorem asDirectE (w : World) : (Rtype.directlyAssignable 64 64).run Tryd.prog w = .ok true w := by kernel_rfl
theorem asSetE (ta b : Addr) (k : Int) (old : Value) (W : World) (hb : W.cell? b = some (.int .i64 k)) (ht : W.cell? ta = some old) (hf : W.frozen? ta = false) :
    (ReflectliteValue.set #[.agg #[.pointer (some ⟨3, 64, none⟩), .pointer (some ta), .int .u64 386], .agg #[.pointer (some ⟨3, 64, none⟩), .pointer (some b), .int .u64 130]]).run Tryd.prog W
      = .ok (.tuple #[]) (W.setCell ta (.int .i64 k)) := by
  show Sem.run Tryd.prog (ReflectliteValue.parts (.agg #[.pointer (some ⟨3, 64, none⟩), .pointer (some ta), .int .u64 386]) >>= fun p => ReflectliteValue.parts (.agg #[.pointer (some ⟨3, 64, none⟩), .pointer (some b), .int .u64 130]) >>= fun q => _) W = _
  simp only [Sem.run_bind, asPartsEa, asPartsE, Result.andThen]
  simp [ReflectliteValue.flagAddr, loadVar, isAgg, underlying, Tryd.underlying64, hb, Result.andThen, asDirectE, storeVar, Value.cells, storeCells, Addr.add]
  rw [run_store Tryd.prog W ta _ _ (by rfl)]
  simp [ht, hf]

set_option maxHeartbeats 4000000 in
theorem as_hit (k : Int) (t : Addr) (old : Value) (w : World) (hg : w.cell? ⟨0, 0, none⟩ = some (.iface 116 (.agg #[.pointer (some ⟨3, 29, none⟩)]))) (ht0 : w.cell? t = some old) (hf0 : w.frozen? t = false) :
    Calls Tryd.prog 30 #[.iface 64 (.int .i64 k), .iface 66 (.pointer (some t))] w fun ev w' => ev = .returned (.bool true) ∧ w' = ((((w.alloc (.cells #[.pointer (some t)] 66)).alloc (.cells #[.pointer (some ⟨3, 66, none⟩), .pointer (some ⟨w.heap.size, 0, none⟩), .int .u64 150] 89)).alloc (.cells #[.pointer (some ⟨3, 66, none⟩), .pointer (some ⟨w.heap.size, 0, none⟩), .int .u64 150] 89)).alloc (.cells #[.int .i64 k] 64)).setCell t (.int .i64 k) := by
  have x24 := @run_callFunc_extern Tryd.prog 39 _ (fun args => ReflectliteValue.unpack (args.getD 0 (.tuple #[]))) Tryd.func39 (by kernel_rfl) (by kernel_rfl) (by kernel_rfl) (by kernel_rfl)
  have x25 := @run_callFunc_extern Tryd.prog 40 _ (ReflectliteValue.methodAny (ReflectliteValue.valueError "reflectlite.Value.Type" 0) (fun t _ _ _ => ReflectliteType.toType t)) Tryd.func40 (by kernel_rfl) (by kernel_rfl) (by kernel_rfl) (by kernel_rfl)
  have x26 := @run_callFunc_extern Tryd.prog 41 _ (ReflectliteValue.method (ReflectliteValue.valueError "reflectlite.Value.IsNil" 0) ReflectliteValue.isNil) Tryd.func41 (by kernel_rfl) (by kernel_rfl) (by kernel_rfl) (by kernel_rfl)
  have x46 := @run_callFunc_extern Tryd.prog 111 _ (ReflectliteType.abiMethod fun t => do pure (.int .u8 (← Rtype.kind t))) Tryd.func111 (by kernel_rfl) (by kernel_rfl) (by kernel_rfl) (by kernel_rfl)
  have x56 := @run_callFunc_extern Tryd.prog 121 _ (ReflectliteType.method ReflectliteType.elem) Tryd.func121 (by kernel_rfl) (by kernel_rfl) (by kernel_rfl) (by kernel_rfl)
  have x57 := @run_callFunc_extern Tryd.prog 122 _ (ReflectliteType.relation "Implements" ReflectliteType.implements_) Tryd.func122 (by kernel_rfl) (by kernel_rfl) (by kernel_rfl) (by kernel_rfl)
  have x29 := @run_callFunc_extern Tryd.prog 57 _ ReflectliteType.typeOf Tryd.func57 (by kernel_rfl) (by kernel_rfl) (by kernel_rfl) (by kernel_rfl)
  have x54 := @run_callFunc_extern Tryd.prog 119 _ (ReflectliteType.relation "AssignableTo" ReflectliteType.assignableTo) Tryd.func119 (by kernel_rfl) (by kernel_rfl) (by kernel_rfl) (by kernel_rfl)
  have x30 := @run_callFunc_extern Tryd.prog 58 _ (ReflectliteValue.method (ReflectliteValue.valueError "reflectlite.Value.Elem" 0) ReflectliteValue.elem) Tryd.func58 (by kernel_rfl) (by kernel_rfl) (by kernel_rfl) (by kernel_rfl)
  have x31 := @run_callFunc_extern Tryd.prog 59 _ ReflectliteValue.set Tryd.func59 (by kernel_rfl) (by kernel_rfl) (by kernel_rfl) (by kernel_rfl)
  have y0 := asTypeOfE
  have y1 := asMethodAssignableTo
  have y2 := asAssignableE
  have y3 := asValueOfE
  have y4 := asValueOfP
  have y5 := asTypeP
  have y6 := asMethodKind
  have y7 := asMethodElem
  have y8 := asMethodImplements
  have y9 := asKindP
  have y10 := asKindE
  have y11 := asElemP
  have y12 := asImplementsE
  have n8 := asIsNilP ⟨w.heap.size, 0, none⟩ t ((w.alloc (.cells #[.pointer (some t)] 66)).alloc (.cells #[.pointer (some ⟨3, 66, none⟩), .pointer (some ⟨w.heap.size, 0, none⟩), .int .u64 150] 89)) (by simp)
  have hlt : 0 < w.heap.size := block_lt_of_cell hg
  have hg2 : ((w.alloc (.cells #[.pointer (some t)] 66)).alloc (.cells #[.pointer (some ⟨3, 66, none⟩), .pointer (some ⟨w.heap.size, 0, none⟩), .int .u64 150] 89)).cell? ⟨0, 0, none⟩ = some (.iface 116 (.agg #[.pointer (some ⟨3, 29, none⟩)])) := by
    rw [World.cell?_alloc_lt _ _ ⟨0, 0, none⟩ (by simp <;> omega), World.cell?_alloc_lt _ _ ⟨0, 0, none⟩ hlt]; exact hg
  have htl : t.block < w.heap.size := block_lt_of_cell ht0
  have el := asElemVP ⟨w.heap.size, 0, none⟩ t (((w.alloc (.cells #[.pointer (some t)] 66)).alloc (.cells #[.pointer (some ⟨3, 66, none⟩), .pointer (some ⟨w.heap.size, 0, none⟩), .int .u64 150] 89)).alloc (.cells #[.pointer (some ⟨3, 66, none⟩), .pointer (some ⟨w.heap.size, 0, none⟩), .int .u64 150] 89)) (by rw [World.cell?_alloc_lt _ _ ⟨w.heap.size, 0, none⟩ (by simp; omega)]; simp)
  have st := asSetE t ⟨w.heap.size + 1 + 1 + 1, 0, none⟩ k old ((((w.alloc (.cells #[.pointer (some t)] 66)).alloc (.cells #[.pointer (some ⟨3, 66, none⟩), .pointer (some ⟨w.heap.size, 0, none⟩), .int .u64 150] 89)).alloc (.cells #[.pointer (some ⟨3, 66, none⟩), .pointer (some ⟨w.heap.size, 0, none⟩), .int .u64 150] 89)).alloc (.cells #[.int .i64 k] 64))
    (by rw [World.cell?_alloc_at _ _ _ _ (by simp)]; rfl)
    (by rw [World.cell?_alloc_lt _ _ t (by simp; omega), World.cell?_alloc_lt _ _ t (by simp; omega), World.cell?_alloc_lt _ _ t (by simp; omega), World.cell?_alloc_lt _ _ t htl]; exact ht0)
    (by rw [World.frozen?_alloc_old _ _ t (by simp; omega), World.frozen?_alloc_old _ _ t (by simp; omega), World.frozen?_alloc_old _ _ t (by simp; omega), World.frozen?_alloc_old _ _ t (Nat.ne_of_lt htl)]; exact hf0)
  go_enter Tryd.func30, Tryd.ntmps30
  go_wp2
  refine wp_loop_rounds 1 ?_
  rw [rounds_succ]
  go_wp2
  go_ret
  exact ⟨rfl, rfl⟩
end Go.Proofs.YtjhmglefejclpaaDoor

/- the statements' own function that tells an error's number, by errors.As. -/
namespace Go.Proofs.YtjhmglefejclpaaDoor
open Go.RowKit
set_option linter.unusedVariables false

theorem ErrT.lt {w : World} (h : ErrT w) : 0 < w.heap.size := block_lt_of_cell h
theorem ErrT.below {w w' : World} (h : ErrT w) {B : Nat} (hB : w.heap.size ≤ B) (hb : Below B w w') : ErrT w' :=
  (hb.cell (p := ⟨0, 0, none⟩) (by have := h.lt; simp; omega)).trans h

theorem as_use (k : Int) (t : Addr) (old : Value) (w : World) (hg : w.cell? ⟨0, 0, none⟩ = some (.iface 116 (.agg #[.pointer (some ⟨3, 29, none⟩)]))) (ht0 : w.cell? t = some old) (hf0 : w.frozen? t = false) :
    Calls Tryd.prog 30 #[.iface 64 (.int .i64 k), .iface 66 (.pointer (some t))] w fun ev w' => ev = .returned (.bool true) ∧ w'.cell? t = some (.int .i64 k) ∧ ∀ B, B ≤ t.block → Below B w w' := by
  refine (as_hit k t old w hg ht0 hf0).mono ?_
  rintro e w' ⟨he, hw⟩
  have htl : t.block < w.heap.size := block_lt_of_cell ht0
  refine ⟨he, ?_, fun B hB => ?_⟩
  · rw [hw]
    refine World.cell?_setCell_same _ _ _ (u := old) ?_
    rw [World.cell?_alloc_lt _ _ t (by simp; omega), World.cell?_alloc_lt _ _ t (by simp; omega), World.cell?_alloc_lt _ _ t (by simp; omega), World.cell?_alloc_lt _ _ t htl]; exact ht0
  · rw [hw]
    refine Below.setCell ?_ hB _
    exact ((((Below.refl B w).alloc (by omega) _).alloc (by simp; omega) _).alloc (by simp; omega) _).alloc (by simp; omega) _

set_option maxHeartbeats 400000 in
theorem num_nil (w : World) : Calls Tryd.prog 18 #[.nilIface] w fun e w' => e = .returned (.int .i64 0) ∧ Below w.heap.size w w' := by
  go_enter Tryd.func18, Tryd.ntmps18
  go_wp2
  go_ret
  exact ⟨rfl, (Below.refl _ _).alloc (Nat.le_refl _) _⟩

set_option maxHeartbeats 400000 in
theorem num_hit (k : Int) (w : World) (hg : ErrT w) : Calls Tryd.prog 18 #[.iface 64 (.int .i64 k)] w fun e w' => e = .returned (.int .i64 k) ∧ Below w.heap.size w w' := by
  have hlt := hg.lt
  have hg1 : (w.alloc (.cells #[.int .i64 0] 64)).cell? ⟨0, 0, none⟩ = some (.iface 116 (.agg #[.pointer (some ⟨3, 29, none⟩)])) := by
    rw [World.cell?_alloc_lt _ _ ⟨0, 0, none⟩ hlt]; exact hg
  have HG := hide hg1; clear hg1 hg
  go_enter Tryd.func18, Tryd.ntmps18
  go_wp2_with fail
  refine (as_use k ⟨w.heap.size, 0, none⟩ (.int .i64 0) _ (unhide HG) (by simp) (by simp)).mono ?_
  rintro e w1 ⟨rfl, hc, hb⟩
  have hb1 := ((Below.refl w.heap.size w).alloc (Nat.le_refl _) _).trans (hb w.heap.size (Nat.le_refl _))
  have HB := hide hb1; clear hb hb1 HG
  go_wp2
  go_ret
  exact ⟨rfl, unhide HB⟩
theorem num_any (k : Int) (w : World) (hg : ErrT w) : Calls Tryd.prog 18 #[errV k] w fun e w' => e = .returned (.int .i64 k) ∧ Below w.heap.size w w' := by
  by_cases h : k = 0
  · subst h; rw [errV_0]; exact num_nil w
  · have : errV k = .iface 64 (.int .i64 k) := by simp [errV, h]
    rw [this]; exact num_hit k w hg
end Go.Proofs.YtjhmglefejclpaaDoor

/- From the rows' condition on errors.errorType (beside other variables) to the variable's cell. After the guide's worked toy of errors.As. -/
namespace Go.Proofs.YtjhmglefejclpaaDoor
open Go.ChangeShapes Go.WideShapes Go.RowKit

theorem hownKnob : ownKnob Tryd.prog.godebug = none := by kernel_rfl
theorem het : Tryd.prog.globalNamed "errors.errorType" = some 0 := by kernel_rfl
theorem honeRow : ((List.range 211).filter fun t => Tryd.prog.rowNamed t [101, 114, 114, 111, 114]) = [29] := by kernel_rfl
theorem hsize : Tryd.prog.types.size = 211 := by kernel_rfl

theorem handle_of_met {W : World} (h : handlesMet Tryd.prog [("errors.errorType", Rows.laid_errors_errorType)] W) : ErrT W := by
  obtain ⟨name, u, ty, e1, e2, e3, e4, e5⟩ := h _ (List.mem_singleton.2 rfl)
  have en : name = [101, 114, 114, 111, 114] := (Option.some.inj e1).symm
  subst en
  obtain rfl : 116 = u := Option.some.inj (Eq.trans (by kernel_rfl) e2)
  have hm : ty ∈ (List.range 211).filter fun t => Tryd.prog.rowNamed t [101, 114, 114, 111, 114] := List.mem_filter.2 ⟨List.mem_range.2 (by rw [← hsize]; exact e3), e4⟩
  rw [honeRow] at hm
  obtain rfl := List.mem_singleton.1 hm
  have hh : typeHandle Tryd.prog 29 = .pointer (some ⟨3, 29, none⟩) := by kernel_rfl
  rw [hh] at e5
  have := World.var?_cell het e5 0
  unfold ErrT
  simpa using this
end Go.Proofs.YtjhmglefejclpaaDoor
