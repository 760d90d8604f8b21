/- Texts and sections, by the document. Plain mathematics. -/
import Derived.Test.YtcmidegffpehoaaDoorLaws0
import Derived.Test.YtcmidegffpehoaaDoorMath4
import Derived.Test.YtcmidegffpehoaaDoorMath3
namespace Go.Proofs.YtcmidegffpehoaaDoor
open Go.RowKit
namespace Sc
set_option linter.unusedVariables false

/-- the least second byte, and the greatest, behind a first one -/
def lo (a : Int) : Int := if a = 224 then 160 else if a = 240 then 144 else 128
def hi (a : Int) : Int := if a = 237 then 159 else if a = 244 then 143 else 191
/-- how many bytes the first character has; 0: it is none -/
def wid (zs : List Int) : Nat :=
  if zs.getD 0 0 < 128 then 1
  else if 194 ≤ zs.getD 0 0 ∧ zs.getD 0 0 ≤ 223 ∧ 2 ≤ zs.length ∧ 128 ≤ zs.getD 1 0 ∧ zs.getD 1 0 ≤ 191 then 2
  else if 224 ≤ zs.getD 0 0 ∧ zs.getD 0 0 ≤ 239 ∧ 3 ≤ zs.length ∧ lo (zs.getD 0 0) ≤ zs.getD 1 0 ∧ zs.getD 1 0 ≤ hi (zs.getD 0 0) ∧ 128 ≤ zs.getD 2 0 ∧ zs.getD 2 0 ≤ 191 then 3
  else if 240 ≤ zs.getD 0 0 ∧ zs.getD 0 0 ≤ 244 ∧ 4 ≤ zs.length ∧ lo (zs.getD 0 0) ≤ zs.getD 1 0 ∧ zs.getD 1 0 ≤ hi (zs.getD 0 0) ∧ 128 ≤ zs.getD 2 0 ∧ zs.getD 2 0 ≤ 191 ∧ 128 ≤ zs.getD 3 0 ∧ zs.getD 3 0 ≤ 191 then 4
  else 0
def vdF : Nat → List Int → Bool
  | 0, _ => true
  | f + 1, zs => if zs.length = 0 then true else if wid zs = 0 then false else vdF f (zs.drop (wid zs))
/-- is it a text? -/
def vd (zs : List Int) : Bool := vdF zs.length zs
theorem vdF_nil (f : Nat) : vdF f [] = true := by cases f <;> simp [vdF]
theorem vdF_more : ∀ (f g : Nat) (zs : List Int), zs.length ≤ f → zs.length ≤ g → vdF f zs = vdF g zs
  | 0, g, zs, h, _ => by
    obtain rfl : zs = [] := List.eq_nil_of_length_eq_zero (by omega)
    rw [vdF_nil, vdF_nil]
  | f + 1, 0, zs, _, h => by
    obtain rfl : zs = [] := List.eq_nil_of_length_eq_zero (by omega)
    rw [vdF_nil, vdF_nil]
  | f + 1, g + 1, zs, h, h2 => by
    unfold vdF
    by_cases h0 : zs.length = 0
    · rw [if_pos h0, if_pos h0]
    · rw [if_neg h0, if_neg h0]
      by_cases h1 : wid zs = 0
      · rw [if_pos h1, if_pos h1]
      · rw [if_neg h1, if_neg h1]
        exact vdF_more f g _ (by simp; omega) (by simp; omega)
theorem vd_nil : vd [] = true := rfl
theorem vd_no {zs : List Int} (h : zs.length ≠ 0) (hw : wid zs = 0) : vd zs = false := by
  unfold vd
  obtain ⟨n, hn⟩ : ∃ n, zs.length = n + 1 := ⟨zs.length - 1, by omega⟩
  rw [hn]; unfold vdF; rw [if_neg h, if_pos hw]
theorem vd_on {zs : List Int} (h : zs.length ≠ 0) (hw : wid zs ≠ 0) : vd zs = vd (zs.drop (wid zs)) := by
  obtain ⟨n, hn⟩ : ∃ n, zs.length = n + 1 := ⟨zs.length - 1, by omega⟩
  have e : vd zs = vdF (n + 1) zs := by unfold vd; rw [hn]
  rw [e]; unfold vdF; rw [if_neg h, if_neg hw]
  exact vdF_more n (zs.drop (wid zs)).length (zs.drop (wid zs)) (by rw [List.length_drop]; omega) (Nat.le_refl _)
/-- bytes below 128 are passed by -/
theorem vd_asc : ∀ (k : Nat) (zs : List Int), k ≤ zs.length → (∀ i, i < k → zs.getD i 0 < 128) → vd zs = vd (zs.drop k)
  | 0, zs, _, _ => by simp
  | k + 1, zs, h, ha => by
    have hw : wid zs = 1 := by unfold wid; rw [if_pos (ha 0 (by omega))]
    rw [vd_on (by omega) (by rw [hw]; decide), hw, vd_asc k (zs.drop 1) (by simp; omega) (fun i hi => by have := ha (i + 1) (by omega); simpa [List.getD, Nat.add_comm] using this), List.drop_drop, Nat.add_comm]

structure Sec where
  id : Int
  at_ : Int
  bs : List Int
/-- how sections come out: the error, or 0; the place; what they are -/
structure Out where
  e : Int
  at_ : Nat
  v : List Sec
/-- what is wrong with a section's contents -/
def judge (id : Int) (cs : List Int) : Int :=
  if id = 0 then
    if Leb.tuE cs 32 = 0 then
      if (cs.length : Int) - Leb.tuN cs 32 < Leb.tuV cs 32 then 6 else if vd ((cs.drop (Leb.tuN cs 32).toNat).take (Leb.tuV cs 32).toNat) = true then 0 else 6
    else Leb.tuE cs 32
  else 0
/-- may it follow? -/
def mf (id top : Int) : Bool := decide (id = 0 ∨ (top < id ∧ id ≤ 11))
/-- one section: the error, or 0; where the next one begins, or what is wrong; what it is -/
structure One where
  e : Int
  at_ : Nat
  s : Sec
def no : Sec := ⟨0, 0, []⟩
def one (zs : List Int) (a : Nat) (top : Int) : One :=
  if mf (zs.getD a 0) top = true then
    if Leb.tuE (zs.drop (a + 1)) 32 = 0 then
      if (zs.length : Int) - (a + 1 + Leb.tuN (zs.drop (a + 1)) 32) < Leb.tuV (zs.drop (a + 1)) 32 then ⟨4, a + 1, no⟩ else
      if judge (zs.getD a 0) ((zs.drop (a + 1 + (Leb.tuN (zs.drop (a + 1)) 32).toNat)).take (Leb.tuV (zs.drop (a + 1)) 32).toNat) = 0 then
        ⟨0, a + 1 + (Leb.tuN (zs.drop (a + 1)) 32).toNat + (Leb.tuV (zs.drop (a + 1)) 32).toNat,
          ⟨zs.getD a 0, a + 1 + (Leb.tuN (zs.drop (a + 1)) 32).toNat, (zs.drop (a + 1 + (Leb.tuN (zs.drop (a + 1)) 32).toNat)).take (Leb.tuV (zs.drop (a + 1)) 32).toNat⟩⟩
      else ⟨judge (zs.getD a 0) ((zs.drop (a + 1 + (Leb.tuN (zs.drop (a + 1)) 32).toNat)).take (Leb.tuV (zs.drop (a + 1)) 32).toNat), a + 1 + (Leb.tuN (zs.drop (a + 1)) 32).toNat, no⟩
    else ⟨Leb.tuE (zs.drop (a + 1)) 32, a + 1, no⟩
  else ⟨6, a, no⟩
def Out.cons (s : Sec) (o : Out) : Out := if o.e = 0 then ⟨0, o.at_, s :: o.v⟩ else o
def secs : Nat → List Int → Nat → Int → Out
  | 0, _, a, _ => ⟨0, a, []⟩
  | f + 1, zs, a, top => if zs.length ≤ a then ⟨0, a, []⟩ else if (one zs a top).e = 0 then (secs f zs (one zs a top).at_ (max top (one zs a top).s.id)).cons (one zs a top).s else ⟨(one zs a top).e, (one zs a top).at_, []⟩
theorem one_at {zs : List Int} {a : Nat} {top : Int} (h : (one zs a top).e = 0) : a + 1 ≤ (one zs a top).at_ := by
  unfold one at *
  repeat' split at h
  all_goals first | (simp only at h; omega) | skip
  all_goals (repeat' split)
  all_goals first | (simp only; omega) | contradiction
theorem secs_more : ∀ (f g : Nat) (zs : List Int) (a : Nat) (top : Int), zs.length - a + 1 ≤ f → zs.length - a + 1 ≤ g → secs f zs a top = secs g zs a top
  | 0, _, _, _, _, h, _ => by omega
  | _ + 1, 0, _, _, _, _, h => by omega
  | f + 1, g + 1, zs, a, top, h, h2 => by
    unfold secs
    by_cases h0 : zs.length ≤ a
    · rw [if_pos h0, if_pos h0]
    · rw [if_neg h0, if_neg h0]
      by_cases h1 : (one zs a top).e = 0
      · rw [if_pos h1, if_pos h1]
        have := one_at h1
        rw [secs_more f g zs _ _ (by omega) (by omega)]
      · rw [if_neg h1, if_neg h1]
/-- the sections from here on -/
def SE (zs : List Int) (a : Nat) (top : Int) : Out := secs (zs.length - a + 1) zs a top
theorem SE_end {zs : List Int} {a : Nat} {top : Int} (h : zs.length ≤ a) : SE zs a top = ⟨0, a, []⟩ := by
  unfold SE secs; rw [if_pos h]
theorem SE_no {zs : List Int} {a : Nat} {top : Int} (h : a < zs.length) (he : ¬ (one zs a top).e = 0) : SE zs a top = ⟨(one zs a top).e, (one zs a top).at_, []⟩ := by
  unfold SE secs; rw [if_neg (by omega), if_neg he]
theorem SE_on {zs : List Int} {a : Nat} {top : Int} (h : a < zs.length) (he : (one zs a top).e = 0) : SE zs a top = (SE zs (one zs a top).at_ (max top (one zs a top).s.id)).cons (one zs a top).s := by
  have h1 := one_at he
  have e : SE zs a top = (secs (zs.length - a) zs (one zs a top).at_ (max top (one zs a top).s.id)).cons (one zs a top).s := by
    show secs (zs.length - a + 1) zs a top = _
    conv => lhs; unfold secs
    rw [if_neg (by omega), if_pos he]
  rw [e]
  unfold SE
  rw [secs_more (zs.length - a) (zs.length - (one zs a top).at_ + 1) zs _ _ (by omega) (Nat.le_refl _)]
def hd : List Int := [0, 97, 115, 109, 1, 0, 0, 0]
/-- the first eight bytes, from the i-th on -/
def head : Nat → List Int → Nat → Int × Nat
  | 0, _, i => (0, i)
  | f + 1, zs, i => if i = zs.length then (4, i) else if zs.getD i 0 = hd.getD i 0 then head f zs (i + 1) else (6, i)
def S (zs : List Int) : Out := if (head 8 zs 0).1 = 0 then SE zs 8 0 else ⟨(head 8 zs 0).1, (head 8 zs 0).2, []⟩
end Sc
end Go.Proofs.YtcmidegffpehoaaDoor
