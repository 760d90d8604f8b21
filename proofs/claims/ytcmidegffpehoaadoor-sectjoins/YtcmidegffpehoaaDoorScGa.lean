/- The document's Text: plain mathematics; the body of its loop. -/
import Derived.Test.YtcmidegffpehoaaDoorScVa
namespace Go.Proofs.YtcmidegffpehoaaDoor
open Go.RowKit
namespace Sc
set_option linter.unusedVariables false
set_option linter.unusedSimpArgs false

/-- a character's number, so far -/
def vv (z : Int) (f : Nat → Int) : Nat → Int
  | 0 => z
  | j + 1 => 64 * vv z f j + f (j + 1) - 128
theorem tb_1 {t : List Int} {z : Int} (hz : t.getD 0 0 = z) (h1 : 192 ≤ z) (h2 : z < 224) (hb : t.length < 2 ∨ t.getD 1 0 < 128 ∨ 191 < t.getD 1 0) : wid t = 0 := by
  unfold wid lo hi
  rw [hz]
  generalize t.getD 1 0 = y1 at *; generalize t.getD 2 0 = y2 at *; generalize t.getD 3 0 = y3 at *; generalize t.length = n at *
  (repeat' split) <;> omega
theorem tv_1 {t : List Int} {z V : Int} {f : Nat → Int} (hz : t.getD 0 0 = z) (h1 : 192 ≤ z) (h2 : z < 224) (hb : ¬ (t.length < 2 ∨ t.getD 1 0 < 128 ∨ 191 < t.getD 1 0)) (hf : ∀ i, f i = t.getD i 0) (hV : V = vv (z - 192) f 1) : (V < 128 → wid t = 0) ∧ (¬ V < 128 → wid t = 2) := by
  simp only [vv, hf] at hV
  unfold wid lo hi
  rw [hz]
  simp only [Nat.zero_add, Nat.reduceAdd] at hV
  generalize t.getD 1 0 = y1 at *; generalize t.getD 2 0 = y2 at *; generalize t.getD 3 0 = y3 at *; generalize t.length = n at *
  constructor <;> intro hx <;> (repeat' split) <;> omega
theorem tb_2 {t : List Int} {z : Int} (hz : t.getD 0 0 = z) (h1 : 224 ≤ z) (h2 : z < 240) (hb : t.length < 3 ∨ t.getD 1 0 < 128 ∨ 191 < t.getD 1 0 ∨ t.getD 2 0 < 128 ∨ 191 < t.getD 2 0) : wid t = 0 := by
  unfold wid lo hi
  rw [hz]
  generalize t.getD 1 0 = y1 at *; generalize t.getD 2 0 = y2 at *; generalize t.getD 3 0 = y3 at *; generalize t.length = n at *
  (repeat' split) <;> omega
theorem tv_2 {t : List Int} {z V : Int} {f : Nat → Int} (hz : t.getD 0 0 = z) (h1 : 224 ≤ z) (h2 : z < 240) (hb : ¬ (t.length < 3 ∨ t.getD 1 0 < 128 ∨ 191 < t.getD 1 0 ∨ t.getD 2 0 < 128 ∨ 191 < t.getD 2 0)) (hf : ∀ i, f i = t.getD i 0) (hV : V = vv (z - 224) f 2) : ((V < 2048 ∨ (55296 ≤ V ∧ V < 57344)) → wid t = 0) ∧ (¬ (V < 2048 ∨ (55296 ≤ V ∧ V < 57344)) → wid t = 3) := by
  simp only [vv, hf] at hV
  unfold wid lo hi
  rw [hz]
  simp only [Nat.zero_add, Nat.reduceAdd] at hV
  generalize t.getD 1 0 = y1 at *; generalize t.getD 2 0 = y2 at *; generalize t.getD 3 0 = y3 at *; generalize t.length = n at *
  constructor <;> intro hx <;> (repeat' split) <;> omega
theorem tb_3 {t : List Int} {z : Int} (hz : t.getD 0 0 = z) (h1 : 240 ≤ z) (h2 : z < 248) (hb : t.length < 4 ∨ t.getD 1 0 < 128 ∨ 191 < t.getD 1 0 ∨ t.getD 2 0 < 128 ∨ 191 < t.getD 2 0 ∨ t.getD 3 0 < 128 ∨ 191 < t.getD 3 0) : wid t = 0 := by
  unfold wid lo hi
  rw [hz]
  generalize t.getD 1 0 = y1 at *; generalize t.getD 2 0 = y2 at *; generalize t.getD 3 0 = y3 at *; generalize t.length = n at *
  (repeat' split) <;> omega
theorem tv_3 {t : List Int} {z V : Int} {f : Nat → Int} (hz : t.getD 0 0 = z) (h1 : 240 ≤ z) (h2 : z < 248) (hb : ¬ (t.length < 4 ∨ t.getD 1 0 < 128 ∨ 191 < t.getD 1 0 ∨ t.getD 2 0 < 128 ∨ 191 < t.getD 2 0 ∨ t.getD 3 0 < 128 ∨ 191 < t.getD 3 0)) (hf : ∀ i, f i = t.getD i 0) (hV : V = vv (z - 240) f 3) : ((V < 65536 ∨ 1114111 < V) → wid t = 0) ∧ (¬ (V < 65536 ∨ 1114111 < V) → wid t = 4) := by
  simp only [vv, hf] at hV
  unfold wid lo hi
  rw [hz]
  simp only [Nat.zero_add, Nat.reduceAdd] at hV
  generalize t.getD 1 0 = y1 at *; generalize t.getD 2 0 = y2 at *; generalize t.getD 3 0 = y3 at *; generalize t.length = n at *
  constructor <;> intro hx <;> (repeat' split) <;> omega
theorem tbj_1 {t : List Int} {y : Int} {j : Nat} (hj : j < 1) (hy : t.getD (j + 1) 0 = y) (hb : y < 128 ∨ 191 < y) : t.length < 2 ∨ t.getD 1 0 < 128 ∨ 191 < t.getD 1 0 := by
  rcases (by omega : j = 0) with rfl <;> simp only [Nat.zero_add, Nat.reduceAdd] at hy <;> omega
theorem tbj_2 {t : List Int} {y : Int} {j : Nat} (hj : j < 2) (hy : t.getD (j + 1) 0 = y) (hb : y < 128 ∨ 191 < y) : t.length < 3 ∨ t.getD 1 0 < 128 ∨ 191 < t.getD 1 0 ∨ t.getD 2 0 < 128 ∨ 191 < t.getD 2 0 := by
  rcases (by omega : j = 0 ∨ j = 1) with rfl | rfl <;> simp only [Nat.zero_add, Nat.reduceAdd] at hy <;> omega
theorem tbj_3 {t : List Int} {y : Int} {j : Nat} (hj : j < 3) (hy : t.getD (j + 1) 0 = y) (hb : y < 128 ∨ 191 < y) : t.length < 4 ∨ t.getD 1 0 < 128 ∨ 191 < t.getD 1 0 ∨ t.getD 2 0 < 128 ∨ 191 < t.getD 2 0 ∨ t.getD 3 0 < 128 ∨ 191 < t.getD 3 0 := by
  rcases (by omega : j = 0 ∨ j = 1 ∨ j = 2) with rfl | rfl | rfl <;> simp only [Nat.zero_add, Nat.reduceAdd] at hy <;> omega
theorem tw_mid {t : List Int} {z : Int} (hz : t.getD 0 0 = z) (h1 : 128 ≤ z) (h2 : z < 192 ∨ 248 ≤ z) : wid t = 0 := by
  unfold wid
  rw [hz]
  (repeat' split) <;> omega
noncomputable def tbody : Code := ((Tryd.f15.body.bind firstLoop).getD .skip)
end Sc
end Go.Proofs.YtcmidegffpehoaaDoor
