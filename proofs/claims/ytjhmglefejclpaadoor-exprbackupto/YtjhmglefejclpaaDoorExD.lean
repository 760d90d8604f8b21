/- What bytes tell, by the document: the parts, one after another, and the first one that is wrong. Plain mathematics. -/
import Derived.Test.YtjhmglefejclpaaDoorExM
namespace Go.Proofs.YtjhmglefejclpaaDoor
open Go.RowKit
namespace Ex
set_option linter.unusedVariables false

/-- a part: the error, or 0; where the next one begins, or this one if it is wrong; what it tells -/
structure Part where
  e : Int
  at_ : Nat
  v : Int
/-- how a list, or an instruction, comes out: beside these how many there are so far -/
structure Out (α : Type) where
  e : Int
  at_ : Nat
  k : Nat
  v : α
def Part.on {β : Type} (p : Part) (k : Nat) (d : β) (f : Nat → Int → Out β) : Out β := if p.e = 0 then f p.at_ p.v else ⟨p.e, p.at_, k, d⟩
def Out.on {α β : Type} (x : Out α) (d : β) (f : Nat → Nat → α → Out β) : Out β := if x.e = 0 then f x.at_ x.k x.v else ⟨x.e, x.at_, x.k, d⟩
theorem Part.on_ok {β : Type} {p : Part} (h : p.e = 0) (k : Nat) (d : β) (f : Nat → Int → Out β) : p.on k d f = f p.at_ p.v := by unfold Part.on; rw [if_pos h]
theorem Part.on_no {β : Type} {p : Part} (h : ¬ p.e = 0) (k : Nat) (d : β) (f : Nat → Int → Out β) : p.on k d f = ⟨p.e, p.at_, k, d⟩ := by unfold Part.on; rw [if_neg h]
theorem Out.on_ok {α β : Type} {x : Out α} (h : x.e = 0) (d : β) (f : Nat → Nat → α → Out β) : x.on d f = f x.at_ x.k x.v := by unfold Out.on; rw [if_pos h]
theorem Out.on_no {α β : Type} {x : Out α} (h : ¬ x.e = 0) (d : β) (f : Nat → Nat → α → Out β) : x.on d f = ⟨x.e, x.at_, x.k, d⟩ := by unfold Out.on; rw [if_neg h]

/-- one byte, judged -/
def pB (zs : List Int) (a : Nat) (J : Int → Int) : Part :=
  if zs.length ≤ a then ⟨4, a, 0⟩ else if J (zs.getD a 0) = 0 then ⟨0, a + 1, zs.getD a 0⟩ else ⟨J (zs.getD a 0), a, 0⟩
/-- a number without a sign, of 32 bits, and not above some -/
def pU (zs : List Int) (a : Nat) (most : Int) : Part :=
  if Leb.tuE (zs.drop a) 32 = 0 then (if most < Leb.tuV (zs.drop a) 32 then ⟨9, a, 0⟩ else ⟨0, a + (Leb.tuN (zs.drop a) 32).toNat, Leb.tuV (zs.drop a) 32⟩) else ⟨Leb.tuE (zs.drop a) 32, a, 0⟩
/-- one with a sign -/
def pS (zs : List Int) (a : Nat) (bits : Int) : Part :=
  if Leb.tsE (zs.drop a) bits = 0 then ⟨0, a + (Leb.tsN (zs.drop a) bits).toNat, Leb.tsV (zs.drop a) bits⟩ else ⟨Leb.tsE (zs.drop a) bits, a, 0⟩
def jZ (c : Int) : Int := if c = 0 then 0 else 6
def jK (c : Int) : Int := if c = 64 ∨ c = 127 ∨ c = 126 then 0 else if c = 125 ∨ c = 124 then 8 else 6
def kV (c : Int) : Int := if c = 64 then 0 else c
/-- an instruction's number, or what stands in its place -/
def jO (k nest : Nat) (me : Bool) (c : Int) : Int :=
  if c = 11 ∨ (c = 5 ∧ me = true) then 0 else if flt c = true then 8 else
    match frm c with
    | none => 6
    | some f => if k = 16384 ∨ (blk f = true ∧ nest = 64) then 9 else 0
/-- so many labels -/
def pL (zs : List Int) : Nat → Nat → Nat → Out (List Int)
  | 0, a, k => ⟨0, a, k, []⟩
  | m + 1, a, k => (pU zs a 4294967295).on k [] fun a1 v => (pL zs m a1 k).on [] fun a2 k2 ls => ⟨0, a2, k2, v :: ls⟩

def plain (op : Int) : Ins := ⟨op, 0, 0, 0, 0, [], [], []⟩
/-- a block's body, and its else, behind its kind -/
def pK (rc : Nat → Nat → Nat → Bool → Out (List Ins × Int)) (a k nest : Nat) (op re : Int) : Out Ins :=
  (rc a k (nest + 1) (decide (fr op = 7))).on (plain op) fun a2 k2 x => if x.2 = 5 then (rc a2 k2 (nest + 1) false).on (plain op) fun a3 k3 y => ⟨0, a3, k3, { plain op with re := re, body := x.1, els := y.1 }⟩ else ⟨0, a2, k2, { plain op with re := re, body := x.1 }⟩
/-- what stands behind an instruction's number; 'rc': how lists are read -/
def pI (rc : Nat → Nat → Nat → Bool → Out (List Ins × Int)) (zs : List Int) (a k nest : Nat) (op : Int) : Out Ins :=
  if fr op = 1 then (pS zs a 32).on k (plain op) fun a1 v => ⟨0, a1, k, { plain op with n := v }⟩
  else if fr op = 2 then (pS zs a 64).on k (plain op) fun a1 v => ⟨0, a1, k, { plain op with n := v }⟩
  else if fr op = 3 then (pU zs a 4294967295).on k (plain op) fun a1 v => ⟨0, a1, k, { plain op with n := v }⟩
  else if fr op = 4 then (pU zs a 4294967295).on k (plain op) fun a1 v => (pU zs a1 4294967295).on k (plain op) fun a2 u => ⟨0, a2, k, { plain op with al := v, of := u }⟩
  else if fr op = 5 then (pB zs a jZ).on k (plain op) fun a1 _ => ⟨0, a1, k, plain op⟩
  else if fr op = 8 then (pU zs a 256).on k (plain op) fun a1 v => (pL zs (v.toNat + 1) a1 k).on (plain op) fun a2 k2 ls => ⟨0, a2, k2, { plain op with ls := ls }⟩
  else if fr op = 9 then (pU zs a 4294967295).on k (plain op) fun a1 v => (pB zs a1 jZ).on k (plain op) fun a2 _ => ⟨0, a2, k, { plain op with n := v }⟩
  else if fr op = 6 ∨ fr op = 7 then (pB zs a jK).on k (plain op) fun a1 c => pK rc a1 k nest op (kV c)
  else ⟨0, a, k, plain op⟩
/-- the list that begins here -/
def step (rc : Nat → Nat → Nat → Bool → Out (List Ins × Int)) (zs : List Int) (a k nest : Nat) (me : Bool) : Out (List Ins × Int) :=
  (pB zs a (jO k nest me)).on k ([], 0) fun a1 c => if c = 11 ∨ c = 5 then ⟨0, a1, k, ([], c)⟩ else
    (pI rc zs a1 (k + 1) nest c).on ([], 0) fun a2 k2 i => (rc a2 k2 nest me).on ([], 0) fun a3 k3 y => ⟨0, a3, k3, (i :: y.1, y.2)⟩
def dec : Nat → List Int → Nat → Nat → Nat → Bool → Out (List Ins × Int)
  | 0, _, a, k, _, _ => ⟨4, a, k, ([], 0)⟩
  | f + 1, zs, a, k, nest, me => step (dec f zs) zs a k nest me
def D (zs : List Int) (a k nest : Nat) (me : Bool) : Out (List Ins × Int) := dec (zs.length + 1) zs a k nest me

theorem pB_bd (zs : List Int) (a : Nat) (J : Int → Int) (h : a ≤ zs.length) : a ≤ (pB zs a J).at_ ∧ (pB zs a J).at_ ≤ zs.length ∧ ((pB zs a J).e = 0 → a < (pB zs a J).at_ ∧ (pB zs a J).v = zs.getD a 0 ∧ J (pB zs a J).v = 0) := by
  unfold pB
  by_cases h1 : zs.length ≤ a
  · rw [if_pos h1]; exact ⟨Nat.le_refl _, h, fun e => absurd e (show ¬ (4 : Int) = 0 by decide)⟩
  · rw [if_neg h1]
    by_cases h2 : J (zs.getD a 0) = 0
    · rw [if_pos h2]; exact ⟨by simp, by simp only; omega, fun _ => ⟨by simp, rfl, h2⟩⟩
    · rw [if_neg h2]; exact ⟨Nat.le_refl _, h, fun e => absurd e h2⟩
theorem tu_bd (qs : List Int) (n : Int) (h : Leb.tuE qs n = 0) : 1 ≤ (Leb.tuN qs n).toNat ∧ (Leb.tuN qs n).toNat ≤ qs.length ∧ Leb.tuN qs n = ((Leb.tuN qs n).toNat : Int) := by
  have hc : Leb.cntE qs n = 0 := by
    unfold Leb.tuE at h
    by_cases hh : Leb.cntE qs n = 0
    · exact hh
    · rw [if_neg hh] at h; exact h
  have h2 := Leb.cnt_0 qs n hc
  unfold Leb.tuN
  rw [if_pos h]
  omega
theorem ts_bd (qs : List Int) (n : Int) (h : Leb.tsE qs n = 0) : 1 ≤ (Leb.tsN qs n).toNat ∧ (Leb.tsN qs n).toNat ≤ qs.length ∧ Leb.tsN qs n = ((Leb.tsN qs n).toNat : Int) := by
  have hc : Leb.cntE qs n = 0 := by
    unfold Leb.tsE at h
    by_cases hh : Leb.cntE qs n = 0
    · exact hh
    · rw [if_neg hh] at h; exact h
  have h2 := Leb.cnt_0 qs n hc
  unfold Leb.tsN
  rw [if_pos h]
  omega
theorem pU_bd (zs : List Int) (a : Nat) (m : Int) (h : a ≤ zs.length) : a ≤ (pU zs a m).at_ ∧ (pU zs a m).at_ ≤ zs.length ∧ ((pU zs a m).e = 0 → a < (pU zs a m).at_ ∧ (pU zs a m).v ≤ m) := by
  unfold pU
  by_cases h1 : Leb.tuE (zs.drop a) 32 = 0
  · rw [if_pos h1]
    have := tu_bd _ _ h1
    rw [List.length_drop] at this
    by_cases h2 : m < Leb.tuV (zs.drop a) 32
    · rw [if_pos h2]; exact ⟨Nat.le_refl _, h, fun e => absurd e (show ¬ (9 : Int) = 0 by decide)⟩
    · rw [if_neg h2]; exact ⟨by simp, by simp only; omega, fun _ => ⟨by simp only; omega, by simp only; omega⟩⟩
  · rw [if_neg h1]; exact ⟨Nat.le_refl _, h, fun e => absurd e h1⟩
theorem pS_bd (zs : List Int) (a : Nat) (m : Int) (h : a ≤ zs.length) : a ≤ (pS zs a m).at_ ∧ (pS zs a m).at_ ≤ zs.length ∧ ((pS zs a m).e = 0 → a < (pS zs a m).at_) := by
  unfold pS
  by_cases h1 : Leb.tsE (zs.drop a) m = 0
  · rw [if_pos h1]
    have := ts_bd _ _ h1
    rw [List.length_drop] at this
    exact ⟨by simp, by simp only; omega, fun _ => by simp only; omega⟩
  · rw [if_neg h1]; exact ⟨Nat.le_refl _, h, fun e => absurd e h1⟩
/-- it goes on, and not beyond the end -/
def Fwd {α : Type} (zs : List Int) (a : Nat) (x : Out α) : Prop := a ≤ x.at_ ∧ x.at_ ≤ zs.length
theorem Fwd.part {β : Type} {zs : List Int} {a : Nat} {p : Part} (h : a ≤ p.at_) (h2 : p.at_ ≤ zs.length) (k : Nat) (d : β) {f : Nat → Int → Out β} (hf : p.e = 0 → Fwd zs p.at_ (f p.at_ p.v)) : Fwd zs a (p.on k d f) := by
  by_cases he : p.e = 0
  · rw [Part.on_ok he]; have := hf he; unfold Fwd at *; omega
  · rw [Part.on_no he]; exact ⟨h, h2⟩
theorem Fwd.out {α β : Type} {zs : List Int} {a : Nat} {x : Out α} (h : Fwd zs a x) (d : β) {f : Nat → Nat → α → Out β} (hf : x.e = 0 → Fwd zs x.at_ (f x.at_ x.k x.v)) : Fwd zs a (x.on d f) := by
  by_cases he : x.e = 0
  · rw [Out.on_ok he]; have := hf he; unfold Fwd at *; omega
  · rw [Out.on_no he]; exact h
theorem pL_bd (zs : List Int) : ∀ (m a k : Nat), a ≤ zs.length → Fwd zs a (pL zs m a k)
  | 0, a, k, h => by rw [pL]; exact ⟨Nat.le_refl _, h⟩
  | m + 1, a, k, h => by
    rw [pL]
    have h1 := pU_bd zs a 4294967295 h
    refine Fwd.part h1.1 h1.2.1 _ _ fun _ => Fwd.out (pL_bd zs m _ k h1.2.1) _ fun _ => ⟨Nat.le_refl _, (pL_bd zs m _ k h1.2.1).2⟩
theorem pK_bd (zs : List Int) (rc : Nat → Nat → Nat → Bool → Out (List Ins × Int)) (hrc : ∀ a k n m, a ≤ zs.length → Fwd zs a (rc a k n m)) (a k nest : Nat) (op re : Int) (h : a ≤ zs.length) : Fwd zs a (pK rc a k nest op re) := by
  unfold pK
  refine Fwd.out (hrc _ _ _ _ h) _ fun _ => ?_
  have h2 := (hrc a k (nest + 1) (decide (fr op = 7)) h).2
  split
  · exact Fwd.out (hrc _ _ _ _ h2) _ fun _ => ⟨Nat.le_refl _, (hrc _ _ _ _ h2).2⟩
  · exact ⟨Nat.le_refl _, h2⟩
theorem pI_bd (zs : List Int) (rc : Nat → Nat → Nat → Bool → Out (List Ins × Int)) (hrc : ∀ a k n m, a ≤ zs.length → Fwd zs a (rc a k n m)) (a k nest : Nat) (op : Int) (h : a ≤ zs.length) : Fwd zs a (pI rc zs a k nest op) := by
  have u := pU_bd zs a 4294967295 h
  have u2 := pU_bd zs a 256 h
  have s32 := pS_bd zs a 32 h
  have s64 := pS_bd zs a 64 h
  have b0 := pB_bd zs a jZ h
  have bk := pB_bd zs a jK h
  unfold pI
  by_cases f1 : fr op = 1
  · rw [if_pos f1]; exact Fwd.part s32.1 s32.2.1 _ _ fun _ => ⟨Nat.le_refl _, s32.2.1⟩
  rw [if_neg f1]
  by_cases f2 : fr op = 2
  · rw [if_pos f2]; exact Fwd.part s64.1 s64.2.1 _ _ fun _ => ⟨Nat.le_refl _, s64.2.1⟩
  rw [if_neg f2]
  by_cases f3 : fr op = 3
  · rw [if_pos f3]; exact Fwd.part u.1 u.2.1 _ _ fun _ => ⟨Nat.le_refl _, u.2.1⟩
  rw [if_neg f3]
  by_cases f4 : fr op = 4
  · rw [if_pos f4]
    refine Fwd.part u.1 u.2.1 _ _ fun _ => ?_
    have v := pU_bd zs _ 4294967295 u.2.1
    exact Fwd.part v.1 v.2.1 _ _ fun _ => ⟨Nat.le_refl _, v.2.1⟩
  rw [if_neg f4]
  by_cases f5 : fr op = 5
  · rw [if_pos f5]; exact Fwd.part b0.1 b0.2.1 _ _ fun _ => ⟨Nat.le_refl _, b0.2.1⟩
  rw [if_neg f5]
  by_cases f8 : fr op = 8
  · rw [if_pos f8]
    exact Fwd.part u2.1 u2.2.1 _ _ fun _ => Fwd.out (pL_bd zs _ _ k u2.2.1) _ fun _ => ⟨Nat.le_refl _, (pL_bd zs _ _ k u2.2.1).2⟩
  rw [if_neg f8]
  by_cases f9 : fr op = 9
  · rw [if_pos f9]
    refine Fwd.part u.1 u.2.1 _ _ fun _ => ?_
    have v := pB_bd zs _ jZ u.2.1
    exact Fwd.part v.1 v.2.1 _ _ fun _ => ⟨Nat.le_refl _, v.2.1⟩
  rw [if_neg f9]
  by_cases f6 : fr op = 6 ∨ fr op = 7
  · rw [if_pos f6]
    exact Fwd.part bk.1 bk.2.1 _ _ fun _ => pK_bd zs rc hrc _ _ _ _ _ bk.2.1
  rw [if_neg f6]
  exact ⟨Nat.le_refl _, h⟩
theorem step_bd (zs : List Int) (rc : Nat → Nat → Nat → Bool → Out (List Ins × Int)) (hrc : ∀ a k n m, a ≤ zs.length → Fwd zs a (rc a k n m)) (a k nest : Nat) (me : Bool) (h : a ≤ zs.length) : Fwd zs a (step rc zs a k nest me) := by
  unfold step
  have b := pB_bd zs a (jO k nest me) h
  refine Fwd.part b.1 b.2.1 _ _ fun _ => ?_
  split
  · exact ⟨Nat.le_refl _, b.2.1⟩
  · have hi := pI_bd zs rc hrc _ (k + 1) nest (pB zs a (jO k nest me)).v b.2.1
    exact Fwd.out hi _ fun _ => Fwd.out (hrc _ _ _ _ hi.2) _ fun _ => ⟨Nat.le_refl _, (hrc _ _ _ _ hi.2).2⟩
theorem dec_bd (zs : List Int) : ∀ (f a k nest : Nat) (me : Bool), a ≤ zs.length → Fwd zs a (dec f zs a k nest me)
  | 0, a, k, nest, me, h => by rw [dec]; exact ⟨Nat.le_refl _, h⟩
  | f + 1, a, k, nest, me, h => by rw [dec]; exact step_bd zs _ (dec_bd zs f) a k nest me h
/-- two ways to read lists that are the same further on -/
theorem pI_congr (zs : List Int) (r1 r2 : Nat → Nat → Nat → Bool → Out (List Ins × Int)) (hrc : ∀ a k n m, a ≤ zs.length → Fwd zs a (r1 a k n m)) (a k nest : Nat) (op : Int) (h : a ≤ zs.length) (he : ∀ a' k n m, a ≤ a' → a' ≤ zs.length → r1 a' k n m = r2 a' k n m) :
    pI r1 zs a k nest op = pI r2 zs a k nest op := by
  unfold pI
  split; rfl; split; rfl; split; rfl; split; rfl; split; rfl; split; rfl; split; rfl; split
  · have bk := pB_bd zs a jK h
    by_cases e : (pB zs a jK).e = 0
    · rw [Part.on_ok e, Part.on_ok e]
      unfold pK
      rw [← he _ _ _ _ bk.1 bk.2.1]
      have f1 := hrc (pB zs a jK).at_ k (nest + 1) (decide (fr op = 7)) bk.2.1
      generalize r1 (pB zs a jK).at_ k (nest + 1) (decide (fr op = 7)) = R at *
      by_cases eR : R.e = 0
      · rw [Out.on_ok eR, Out.on_ok eR]
        dsimp only
        rw [← he R.at_ _ _ _ (by have := f1.1; have := bk.1; omega) f1.2]
      · rw [Out.on_no eR, Out.on_no eR]
    · rw [Part.on_no e, Part.on_no e]
  · rfl
theorem step_congr (zs : List Int) (r1 r2 : Nat → Nat → Nat → Bool → Out (List Ins × Int)) (hrc : ∀ a k n m, a ≤ zs.length → Fwd zs a (r1 a k n m)) (a k nest : Nat) (me : Bool) (h : a ≤ zs.length) (he : ∀ a' k n m, a < a' → a' ≤ zs.length → r1 a' k n m = r2 a' k n m) :
    step r1 zs a k nest me = step r2 zs a k nest me := by
  unfold step
  have b := pB_bd zs a (jO k nest me) h
  by_cases e : (pB zs a (jO k nest me)).e = 0
  · rw [Part.on_ok e, Part.on_ok e]
    have hb := (b.2.2 e).1
    split
    · rfl
    · rw [← pI_congr zs r1 r2 hrc _ _ _ _ b.2.1 fun a' k n m h1 h2 => he a' k n m (by omega) h2]
      have hi := pI_bd zs r1 hrc _ (k + 1) nest (pB zs a (jO k nest me)).v b.2.1
      generalize pI r1 zs (pB zs a (jO k nest me)).at_ (k + 1) nest (pB zs a (jO k nest me)).v = R at *
      by_cases eR : R.e = 0
      · rw [Out.on_ok eR, Out.on_ok eR]
        rw [← he R.at_ _ _ _ (by have := hi.1; omega) hi.2]
      · rw [Out.on_no eR, Out.on_no eR]
  · rw [Part.on_no e, Part.on_no e]
theorem dec_fuel (zs : List Int) : ∀ (f g a k nest : Nat) (me : Bool), a ≤ zs.length → zs.length - a < f → zs.length - a < g → dec f zs a k nest me = dec g zs a k nest me
  | 0, g, a, k, nest, me, h, h1, h2 => by omega
  | f + 1, 0, a, k, nest, me, h, h1, h2 => by omega
  | f + 1, g + 1, a, k, nest, me, h, h1, h2 => by
    rw [dec, dec]
    exact step_congr zs _ _ (dec_bd zs f) a k nest me h fun a' k n m h3 h4 => dec_fuel zs f g a' k n m h4 (by omega) (by omega)
theorem D_bd (zs : List Int) (a k nest : Nat) (me : Bool) (h : a ≤ zs.length) : Fwd zs a (D zs a k nest me) := dec_bd zs _ a k nest me h
theorem D_eq (zs : List Int) (a k nest : Nat) (me : Bool) (h : a ≤ zs.length) : D zs a k nest me = step (D zs) zs a k nest me := by
  unfold D
  rw [dec]
  exact step_congr zs _ _ (dec_bd zs _) a k nest me h fun a' k n m h3 h4 => dec_fuel zs _ _ a' k n m h4 (by omega) (by omega)
end Ex
end Go.Proofs.YtjhmglefejclpaaDoor
