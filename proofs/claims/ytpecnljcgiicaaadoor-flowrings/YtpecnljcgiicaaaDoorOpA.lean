/- The tables of ops as lists; from the rows' condition on the package's variables to their cells. -/
import Derived.Test.YtpecnljcgiicaaaDoorOn
import Derived.LaidLaws
import Derived.Lib.LaidTab
import Derived.OpenShut
import Derived.Stop.LaidErr
namespace Go.Proofs.YtpecnljcgiicaaaDoor
open Go.RowKit
set_option linter.unusedVariables false

/-- a text's bytes as the model's string -/
def str (l : List UInt8) : ByteArray := ⟨⟨l⟩⟩
theorem str_inj {a b : List UInt8} (h : str a = str b) : a = b := by
  have := congrArg (fun x : ByteArray => x.data.toList) h
  simpa [str] using this

/-- the names by number; those of tests, of what reckons -/
def nms : List (List UInt8) := [
  [117, 110, 114, 101, 97, 99, 104, 97, 98, 108, 101], [110, 111, 112], [98, 108, 111, 99, 107], [108, 111, 111, 112],
  [105, 102], [], [], [],
  [], [], [], [],
  [98, 114], [98, 114, 95, 105, 102], [98, 114, 95, 116, 97, 98, 108, 101], [114, 101, 116, 117, 114, 110],
  [99, 97, 108, 108], [99, 97, 108, 108, 95, 105, 110, 100, 105, 114, 101, 99, 116], [], [],
  [], [], [], [],
  [], [], [100, 114, 111, 112], [115, 101, 108, 101, 99, 116],
  [], [], [], [],
  [108, 111, 99, 97, 108, 46, 103, 101, 116], [108, 111, 99, 97, 108, 46, 115, 101, 116], [108, 111, 99, 97, 108, 46, 116, 101, 101], [103, 108, 111, 98, 97, 108, 46, 103, 101, 116],
  [103, 108, 111, 98, 97, 108, 46, 115, 101, 116], [], [], [],
  [105, 51, 50, 46, 108, 111, 97, 100], [105, 54, 52, 46, 108, 111, 97, 100], [], [],
  [105, 51, 50, 46, 108, 111, 97, 100, 56, 95, 115], [105, 51, 50, 46, 108, 111, 97, 100, 56, 95, 117], [105, 51, 50, 46, 108, 111, 97, 100, 49, 54, 95, 115], [105, 51, 50, 46, 108, 111, 97, 100, 49, 54, 95, 117],
  [105, 54, 52, 46, 108, 111, 97, 100, 56, 95, 115], [105, 54, 52, 46, 108, 111, 97, 100, 56, 95, 117], [105, 54, 52, 46, 108, 111, 97, 100, 49, 54, 95, 115], [105, 54, 52, 46, 108, 111, 97, 100, 49, 54, 95, 117],
  [105, 54, 52, 46, 108, 111, 97, 100, 51, 50, 95, 115], [105, 54, 52, 46, 108, 111, 97, 100, 51, 50, 95, 117], [105, 51, 50, 46, 115, 116, 111, 114, 101], [105, 54, 52, 46, 115, 116, 111, 114, 101],
  [], [], [105, 51, 50, 46, 115, 116, 111, 114, 101, 56], [105, 51, 50, 46, 115, 116, 111, 114, 101, 49, 54],
  [105, 54, 52, 46, 115, 116, 111, 114, 101, 56], [105, 54, 52, 46, 115, 116, 111, 114, 101, 49, 54], [105, 54, 52, 46, 115, 116, 111, 114, 101, 51, 50], [109, 101, 109, 111, 114, 121, 46, 115, 105, 122, 101],
  [109, 101, 109, 111, 114, 121, 46, 103, 114, 111, 119], [105, 51, 50, 46, 99, 111, 110, 115, 116], [105, 54, 52, 46, 99, 111, 110, 115, 116]]
def tns : List (List UInt8) := [
  [105, 51, 50, 46, 101, 113, 122], [105, 51, 50, 46, 101, 113], [105, 51, 50, 46, 110, 101], [105, 51, 50, 46, 108, 116, 95, 115],
  [105, 51, 50, 46, 108, 116, 95, 117], [105, 51, 50, 46, 103, 116, 95, 115], [105, 51, 50, 46, 103, 116, 95, 117], [105, 51, 50, 46, 108, 101, 95, 115],
  [105, 51, 50, 46, 108, 101, 95, 117], [105, 51, 50, 46, 103, 101, 95, 115], [105, 51, 50, 46, 103, 101, 95, 117], [105, 54, 52, 46, 101, 113, 122],
  [105, 54, 52, 46, 101, 113], [105, 54, 52, 46, 110, 101], [105, 54, 52, 46, 108, 116, 95, 115], [105, 54, 52, 46, 108, 116, 95, 117],
  [105, 54, 52, 46, 103, 116, 95, 115], [105, 54, 52, 46, 103, 116, 95, 117], [105, 54, 52, 46, 108, 101, 95, 115], [105, 54, 52, 46, 108, 101, 95, 117],
  [105, 54, 52, 46, 103, 101, 95, 115], [105, 54, 52, 46, 103, 101, 95, 117]]
def rns : List (List UInt8) := [
  [105, 51, 50, 46, 99, 108, 122], [105, 51, 50, 46, 99, 116, 122], [105, 51, 50, 46, 112, 111, 112, 99, 110, 116], [105, 51, 50, 46, 97, 100, 100],
  [105, 51, 50, 46, 115, 117, 98], [105, 51, 50, 46, 109, 117, 108], [105, 51, 50, 46, 100, 105, 118, 95, 115], [105, 51, 50, 46, 100, 105, 118, 95, 117],
  [105, 51, 50, 46, 114, 101, 109, 95, 115], [105, 51, 50, 46, 114, 101, 109, 95, 117], [105, 51, 50, 46, 97, 110, 100], [105, 51, 50, 46, 111, 114],
  [105, 51, 50, 46, 120, 111, 114], [105, 51, 50, 46, 115, 104, 108], [105, 51, 50, 46, 115, 104, 114, 95, 115], [105, 51, 50, 46, 115, 104, 114, 95, 117],
  [105, 51, 50, 46, 114, 111, 116, 108], [105, 51, 50, 46, 114, 111, 116, 114], [105, 54, 52, 46, 99, 108, 122], [105, 54, 52, 46, 99, 116, 122],
  [105, 54, 52, 46, 112, 111, 112, 99, 110, 116], [105, 54, 52, 46, 97, 100, 100], [105, 54, 52, 46, 115, 117, 98], [105, 54, 52, 46, 109, 117, 108],
  [105, 54, 52, 46, 100, 105, 118, 95, 115], [105, 54, 52, 46, 100, 105, 118, 95, 117], [105, 54, 52, 46, 114, 101, 109, 95, 115], [105, 54, 52, 46, 114, 101, 109, 95, 117],
  [105, 54, 52, 46, 97, 110, 100], [105, 54, 52, 46, 111, 114], [105, 54, 52, 46, 120, 111, 114], [105, 54, 52, 46, 115, 104, 108],
  [105, 54, 52, 46, 115, 104, 114, 95, 115], [105, 54, 52, 46, 115, 104, 114, 95, 117], [105, 54, 52, 46, 114, 111, 116, 108], [105, 54, 52, 46, 114, 111, 116, 114]]
/-- ranges of numbers with points -/
def fls : List (Int × Int) := [
  (42, 43), (56, 57), (67, 68), (91, 102),
  (139, 166), (168, 171), (174, 191)]
/-- first, last, form, what is taken, what is given -/
structure Fam where
  f : Int
  l : Int
  o : Int
  x : Int
  y : Int
  g : Int
def fms : List Fam := [
  ⟨0, 1, 0, 0, 0, 0⟩, ⟨2, 3, 6, 0, 0, 0⟩, ⟨4, 4, 7, 0, 0, 0⟩, ⟨12, 13, 3, 0, 0, 0⟩,
  ⟨14, 14, 8, 0, 0, 0⟩, ⟨15, 15, 0, 0, 0, 0⟩, ⟨16, 16, 3, 0, 0, 0⟩, ⟨17, 17, 9, 0, 0, 0⟩,
  ⟨26, 27, 0, 0, 0, 0⟩, ⟨32, 36, 3, 0, 0, 0⟩, ⟨40, 40, 4, 127, 0, 127⟩, ⟨41, 41, 4, 127, 0, 126⟩,
  ⟨44, 47, 4, 127, 0, 127⟩, ⟨48, 53, 4, 127, 0, 126⟩, ⟨54, 54, 4, 127, 127, 0⟩, ⟨55, 55, 4, 127, 126, 0⟩,
  ⟨58, 59, 4, 127, 127, 0⟩, ⟨60, 62, 4, 127, 126, 0⟩, ⟨63, 63, 5, 0, 0, 127⟩, ⟨64, 64, 5, 127, 0, 127⟩,
  ⟨65, 65, 1, 0, 0, 127⟩, ⟨66, 66, 2, 0, 0, 126⟩, ⟨69, 69, 0, 127, 0, 127⟩, ⟨70, 79, 0, 127, 127, 127⟩,
  ⟨80, 80, 0, 126, 0, 127⟩, ⟨81, 90, 0, 126, 126, 127⟩, ⟨103, 105, 0, 127, 0, 127⟩, ⟨106, 120, 0, 127, 127, 127⟩,
  ⟨121, 123, 0, 126, 0, 126⟩, ⟨124, 138, 0, 126, 126, 126⟩, ⟨167, 167, 0, 126, 0, 127⟩, ⟨172, 173, 0, 127, 0, 126⟩]
def abs' : List Int := [0, 0, 0, 0, 0, 0, 0, 0, 0, 0, 0, 0, 0, 0, 0, 0, 0, 0, 0, 0, 0, 0, 0, 0, 0, 0, 0, 0, 0, 0, 0, 0, 0, 0, 0, 0, 0, 0, 0, 0, 4, 8, 0, 0, 1, 1, 2, 2, 1, 1, 2, 2, 4, 4, 4, 8, 0, 0, 1, 2, 1, 2, 4]

/-- an array that reads as a list of things has their cells one behind another -/
theorem cells_of_arr {H α : Type} {enc : TypeId × Value → H} {P : Program} {w : World} {base : Nat} {sp : Nat → Bool} {held : Bool} {t e : TypeId} {n m : Nat} (dat : α → DataW H) (val : α → List Value)
    (he : ∀ (fuel : Nat) (xs : List Value) (a : α) (p : List MemPlace), DataW.trod enc P w base sp held fuel e xs = some (dat a, p) → xs = val a)
    (ht : P.underlying t = some (.array n e)) (hce : P.cellsOf e = m) (hct : P.cellsOf t = n * m) {fuel : Nat} {cs : List Value} {l : List α} {p : List MemPlace}
    (h : DataW.trod enc P w base sp held fuel t cs = some (.agg (l.map dat), p)) : cs = l.flatMap val := by
  obtain ⟨xs, k, rfl, hx, hlen, hxl, hall⟩ := DataW.trod_array ht h
  rw [hce] at hall
  rw [hct] at hlen
  have hmap : l.map dat = xs.map (·.1) := by
    have := congrArg Prod.fst hx
    simpa using this
  have hln : l.length = n := by
    have := congrArg List.length hmap
    simp at this
    omega
  have hsl : ∀ i (a : α), l[i]? = some a → (cs.drop (i * m)).take m = val a := by
    intro i a ha
    have hi : i < n := by
      have := (List.getElem?_eq_some_iff.1 ha).1
      omega
    have h1 := hall i hi
    obtain ⟨y, hy⟩ : ∃ y, xs[i]? = some y := ⟨xs[i], List.getElem?_eq_some_iff.2 ⟨by omega, rfl⟩⟩
    have h2 : (l.map dat)[i]? = some (dat a) := by simp [ha]
    rw [hmap] at h2
    simp [hy] at h2
    rw [hy] at h1
    obtain ⟨y1, y2⟩ := y
    simp only at h2
    subst h2
    exact he _ _ a _ h1
  subst hln
  clear hall hmap hxl hx h ht hct xs
  induction l generalizing cs with
  | nil => simp at hlen; simp [hlen]
  | cons a l ih =>
    have h0 := hsl 0 a rfl
    simp only [Nat.zero_mul, List.drop_zero] at h0
    have hrest := ih (cs := cs.drop m) (fun i b hb => by
      have := hsl (i + 1) b (by simpa using hb)
      rw [List.drop_drop]
      rw [Nat.add_mul, Nat.one_mul] at this
      rw [Nat.add_comm]
      exact this) (by simp only [List.length_cons, Nat.add_mul, Nat.one_mul] at hlen; rw [List.length_drop]; omega)
    rw [List.flatMap_cons, ← hrest, ← h0, List.take_append_drop]

theorem var_of_head {P : Program} {W : World} {name : String} {d : DataW Unit} {rest : List (String × DataW Unit)} {g : Nat} {t : TypeId}
    (hg : P.globalNamed name = some g) (hty : (P.globals[g]?).map (·.type) = some t) (h : laidMet P ((name, d) :: rest) W) {cs : List Value}
    (hc : ∀ fuel (xs : List Value) p, DataW.trod (fun _ => ()) P W 0 (fun _ => true) false fuel t xs = some (d, p) → xs = cs) : ∀ i, W.cell? ⟨g, i, none⟩ = cs[i]? := by
  obtain ⟨ps, ⟨g', t', cs', fuel, p, q, hg', ht', hvar, hd, _, _⟩, _⟩ := h
  obtain rfl := Option.some.inj (hg.symm.trans hg')
  obtain rfl := Option.some.inj (hty.symm.trans ht')
  intro i
  rw [World.var?_cell hg hvar i, ← hc _ _ _ hd]
  simp

theorem str_of_trod {H : Type} {enc : TypeId × Value → H} {P : Program} {w : World} {base : Nat} {sp : Nat → Bool} {held : Bool} {e : TypeId} (ht : P.underlying e = some .string) (fuel : Nat) (xs : List Value) (a : List UInt8) (p : List MemPlace)
    (h : DataW.trod enc P w base sp held fuel e xs = some (.lit (.string a), p)) : xs = [.string (str a)] := by
  obtain ⟨s, rfl, hx, _⟩ := DataW.trod_string ht h
  have : a = s.data.toList := by
    have := congrArg Prod.fst hx
    simpa using this
  subst this
  rfl
theorem int_of_trod {H : Type} {enc : TypeId × Value → H} {P : Program} {w : World} {base : Nat} {sp : Nat → Bool} {held : Bool} {e : TypeId} {k : IntKind} (ht : P.underlying e = some (.int k)) (fuel : Nat) (xs : List Value) (z : Int) (p : List MemPlace)
    (h : DataW.trod enc P w base sp held fuel e xs = some (.lit (.int k z), p)) : xs = [.int k z] := by
  obtain ⟨n, rfl, hx, _⟩ := DataW.trod_int ht h
  have : z = n := by
    have := congrArg Prod.fst hx
    simpa using this
  subst this
  rfl
end Go.Proofs.YtpecnljcgiicaaaDoor
