/- What unicode/utf8.Valid stands on: words of eight bytes, the tables, the body of its loop. -/
import Derived.Test.YtcmidegffpehoaaDoorScA
import Derived.Lib.LaidU8T
import Derived.Deep.LoopGhost
import Derived.Deep.DeepMust
import Derived.Deep.CutBlock
import Derived.Deep.DeepCutAuto
import Derived.Laws.BitsAllLaws
namespace Go.Proofs.YtcmidegffpehoaaDoor
open Go.RowKit
namespace Sc
set_option linter.unusedVariables false
set_option linter.unusedSimpArgs false

theorem bdN {B : Nat} {a w : World} (h : Below B a w) : ∀ q, Below B a (w.drewN q)
  | 0 => h
  | q + 1 => (bdN h q).drew
theorem word_at {b o n cap : Nat} {t : List Int} {w : World} (h : Row w (some ⟨b, o, none⟩) n t) (hn : 8 ≤ n) : ∀ q, Calls Tryd.prog 38 #[.slice (some ⟨b, o, none⟩) n cap] (w.drewN q) fun e w' => e = .returned (.int .u64 (wd t)) ∧ ∃ m, w' = (w.drewN q).drewN m :=
  fun q => word_any (h.below (Nat.le_refl _) (bdN (Below.refl _ _) q)) hn
theorem or_mask (a b m : Nat) : (a ||| b) &&& m = 0 ↔ a &&& m = 0 ∧ b &&& m = 0 := by
  rw [Nat.and_or_distrib_right, Nat.or_eq_zero_iff]
theorem by_drop {t : List Int} (hz : ∀ z ∈ t, 0 ≤ z ∧ z ≤ 255) (k : Nat) : ∀ z ∈ t.drop k, 0 ≤ z ∧ z ≤ 255 := fun z h => hz z (List.mem_of_mem_drop h)
theorem drop_get (t : List Int) (k i : Nat) : (t.drop k).getD i 0 = t.getD (k + i) 0 := by simp [List.getD]
theorem w8 {t : List Int} (hz : ∀ z ∈ t, 0 ≤ z ∧ z ≤ 255) : ∃ A Z : Nat, wd t = A ∧ bits .and .u64 (A : Int) 9259542123273814144 = (Z : Int) ∧ (Z = 0 → ∀ i, i < 8 → t.getD i 0 < 128) :=
  ⟨wd t, wd t &&& 9259542123273814144, rfl, u64_and_nat (wd t) 9259542123273814144 (wd_lt hz) (by omega), wd_asc hz⟩
theorem w16 {t : List Int} (hz : ∀ z ∈ t, 0 ≤ z ∧ z ≤ 255) : ∃ A B O Z : Nat, wd t = A ∧ wd (t.drop 8) = B ∧ bits .or .u64 (A : Int) (B : Int) = (O : Int) ∧ bits .and .u64 (O : Int) 9259542123273814144 = (Z : Int) ∧ (Z = 0 → ∀ i, i < 16 → t.getD i 0 < 128) := by
  have l1 := wd_lt hz; have l2 := wd_lt (by_drop hz 8)
  refine ⟨wd t, wd (t.drop 8), wd t ||| wd (t.drop 8), _, rfl, rfl, u64_or_nat _ _ l1 l2, u64_and_nat _ 9259542123273814144 (Nat.or_lt_two_pow (n := 64) l1 l2) (by omega), fun h0 i hi => ?_⟩
  obtain ⟨e1, e2⟩ := (or_mask _ _ _).1 h0
  by_cases h8 : i < 8
  · exact wd_asc hz e1 i h8
  · have := wd_asc (by_drop hz 8) e2 (i - 8) (by omega)
    rw [drop_get, show 8 + (i - 8) = i by omega] at this
    exact this
theorem w32 {t : List Int} (hz : ∀ z ∈ t, 0 ≤ z ∧ z ≤ 255) : ∃ A B C D O1 O2 O3 Z : Nat, wd t = A ∧ wd (t.drop 8) = B ∧ wd (t.drop 16) = C ∧ wd (t.drop 24) = D ∧ bits .or .u64 (A : Int) (B : Int) = (O1 : Int) ∧ bits .or .u64 (C : Int) (D : Int) = (O2 : Int) ∧
    bits .or .u64 (O1 : Int) (O2 : Int) = (O3 : Int) ∧ bits .and .u64 (O3 : Int) 9259542123273814144 = (Z : Int) ∧ (Z = 0 → ∀ i, i < 32 → t.getD i 0 < 128) := by
  have l1 := wd_lt hz; have l2 := wd_lt (by_drop hz 8); have l3 := wd_lt (by_drop hz 16); have l4 := wd_lt (by_drop hz 24)
  have o1 := Nat.or_lt_two_pow (n := 64) l1 l2; have o2 := Nat.or_lt_two_pow (n := 64) l3 l4
  refine ⟨_, _, _, _, _, _, _, _, rfl, rfl, rfl, rfl, u64_or_nat _ _ l1 l2, u64_or_nat _ _ l3 l4, u64_or_nat _ _ o1 o2, u64_and_nat _ 9259542123273814144 (Nat.or_lt_two_pow (n := 64) o1 o2) (by omega), fun h0 i hi => ?_⟩
  obtain ⟨e01, e23⟩ := (or_mask _ _ _).1 h0
  obtain ⟨e0, e1⟩ := (or_mask _ _ _).1 e01
  obtain ⟨e2, e3⟩ := (or_mask _ _ _).1 e23
  by_cases h8 : i < 8
  · exact wd_asc hz e0 i h8
  by_cases h16 : i < 16
  · have := wd_asc (by_drop hz 8) e1 (i - 8) (by omega)
    rw [drop_get, show 8 + (i - 8) = i by omega] at this
    exact this
  by_cases h24 : i < 24
  · have := wd_asc (by_drop hz 16) e2 (i - 16) (by omega)
    rw [drop_get, show 16 + (i - 16) = i by omega] at this
    exact this
  · have := wd_asc (by_drop hz 24) e3 (i - 24) (by omega)
    rw [drop_get, show 24 + (i - 24) = i by omega] at this
    exact this
theorem accL0 : Lib.accLo 0 = 128 := by decide
theorem accH0 : Lib.accHi 0 = 191 := by decide
theorem accL1 : Lib.accLo 1 = 160 := by decide
theorem accH1 : Lib.accHi 1 = 191 := by decide
theorem accL2 : Lib.accLo 2 = 128 := by decide
theorem accH2 : Lib.accHi 2 = 159 := by decide
theorem accL3 : Lib.accLo 3 = 144 := by decide
theorem accH3 : Lib.accHi 3 = 191 := by decide
theorem accL4 : Lib.accLo 4 = 128 := by decide
theorem accH4 : Lib.accHi 4 = 143 := by decide
theorem first_ranges (x : Nat) (h : 128 ≤ x) (h1 : x < 256) : (x < 194 ∧ Lib.firstT x = 241) ∨ (194 ≤ x ∧ x < 224 ∧ Lib.firstT x = 2) ∨ (x = 224 ∧ Lib.firstT x = 19) ∨ (225 ≤ x ∧ x < 237 ∧ Lib.firstT x = 3) ∨ (x = 237 ∧ Lib.firstT x = 35) ∨ (238 ≤ x ∧ x < 240 ∧ Lib.firstT x = 3) ∨
    (x = 240 ∧ Lib.firstT x = 52) ∨ (241 ≤ x ∧ x < 244 ∧ Lib.firstT x = 4) ∨ (x = 244 ∧ Lib.firstT x = 68) ∨ (245 ≤ x ∧ Lib.firstT x = 241) := by
  rcases (by omega : (x < 194) ∨ (194 ≤ x ∧ x < 224) ∨ x = 224 ∨ (225 ≤ x ∧ x < 237) ∨ x = 237 ∨ (238 ≤ x ∧ x < 240) ∨ x = 240 ∨ (241 ≤ x ∧ x < 244) ∨ x = 244 ∨ 245 ≤ x) with h2 | h2 | h2 | h2 | h2 | h2 | h2 | h2 | h2 | h2
  · exact .inl (⟨h2, by unfold Lib.firstT; rw [if_neg (by omega), if_pos (by omega)]⟩)
  · exact .inr (.inl (⟨h2.1, h2.2, by unfold Lib.firstT; rw [if_neg (by omega), if_neg (by omega), if_pos (by omega)]⟩))
  · exact .inr (.inr (.inl (⟨h2, by unfold Lib.firstT; rw [if_neg (by omega), if_neg (by omega), if_neg (by omega), if_pos (by omega)]⟩)))
  · exact .inr (.inr (.inr (.inl (⟨h2.1, h2.2, by unfold Lib.firstT; rw [if_neg (by omega), if_neg (by omega), if_neg (by omega), if_neg (by omega), if_pos (by omega)]⟩))))
  · exact .inr (.inr (.inr (.inr (.inl (⟨h2, by unfold Lib.firstT; rw [if_neg (by omega), if_neg (by omega), if_neg (by omega), if_neg (by omega), if_neg (by omega), if_pos (by omega)]⟩)))))
  · exact .inr (.inr (.inr (.inr (.inr (.inl (⟨h2.1, h2.2, by unfold Lib.firstT; rw [if_neg (by omega), if_neg (by omega), if_neg (by omega), if_neg (by omega), if_neg (by omega), if_neg (by omega), if_pos (by omega)]⟩))))))
  · exact .inr (.inr (.inr (.inr (.inr (.inr (.inl (⟨h2, by unfold Lib.firstT; rw [if_neg (by omega), if_neg (by omega), if_neg (by omega), if_neg (by omega), if_neg (by omega), if_neg (by omega), if_neg (by omega), if_pos (by omega)]⟩)))))))
  · exact .inr (.inr (.inr (.inr (.inr (.inr (.inr (.inl (⟨h2.1, h2.2, by unfold Lib.firstT; rw [if_neg (by omega), if_neg (by omega), if_neg (by omega), if_neg (by omega), if_neg (by omega), if_neg (by omega), if_neg (by omega), if_neg (by omega), if_pos (by omega)]⟩))))))))
  · exact .inr (.inr (.inr (.inr (.inr (.inr (.inr (.inr (.inl (⟨h2, by unfold Lib.firstT; rw [if_neg (by omega), if_neg (by omega), if_neg (by omega), if_neg (by omega), if_neg (by omega), if_neg (by omega), if_neg (by omega), if_neg (by omega), if_neg (by omega), if_pos (by omega)]⟩)))))))))
  · exact .inr (.inr (.inr (.inr (.inr (.inr (.inr (.inr (.inr (⟨h2, by unfold Lib.firstT; rw [if_neg (by omega), if_neg (by omega), if_neg (by omega), if_neg (by omega), if_neg (by omega), if_neg (by omega), if_neg (by omega), if_neg (by omega), if_neg (by omega), if_neg (by omega)]⟩)))))))))
theorem wid_2 {t : List Int} {x : Nat} (hx : t.getD 0 0 = (x : Int)) (h : 128 ≤ x) (h1 : x < 256) (hs : Lib.firstT x % 8 = 2) : ((t.length < 2 ∨ t.getD 1 0 < (Lib.accLo (Lib.firstT x / 16) : Int) ∨ (Lib.accHi (Lib.firstT x / 16) : Int) < t.getD 1 0) → wid t = 0) ∧ (¬ (t.length < 2 ∨ t.getD 1 0 < (Lib.accLo (Lib.firstT x / 16) : Int) ∨ (Lib.accHi (Lib.firstT x / 16) : Int) < t.getD 1 0) → wid t = 2) := by
  unfold wid
  rw [hx, if_neg (show ¬ (x : Int) < 128 by omega)]
  generalize t.getD 1 0 = y; generalize t.getD 2 0 = z; generalize t.getD 3 0 = u; generalize t.length = n
  rcases first_ranges x h h1 with ⟨h2, e⟩ | ⟨h2, h3, e⟩ | ⟨h2, e⟩ | ⟨h2, h3, e⟩ | ⟨h2, e⟩ | ⟨h2, h3, e⟩ | ⟨h2, e⟩ | ⟨h2, h3, e⟩ | ⟨h2, e⟩ | ⟨h2, e⟩
  all_goals (rw [e] at hs ⊢; first | (exfalso; omega) | skip)
  all_goals (try subst h2)
  all_goals (simp only [Nat.reduceDiv, accL0, accL1, accL2, accL3, accL4, accH0, accH1, accH2, accH3, accH4, lo, hi]; constructor <;> intro hb <;> (repeat' split) <;> omega)
theorem wid_3 {t : List Int} {x : Nat} (hx : t.getD 0 0 = (x : Int)) (h : 128 ≤ x) (h1 : x < 256) (hs : Lib.firstT x % 8 = 3) : ((t.length < 3 ∨ t.getD 1 0 < (Lib.accLo (Lib.firstT x / 16) : Int) ∨ (Lib.accHi (Lib.firstT x / 16) : Int) < t.getD 1 0 ∨ t.getD 2 0 < 128 ∨ 191 < t.getD 2 0) → wid t = 0) ∧ (¬ (t.length < 3 ∨ t.getD 1 0 < (Lib.accLo (Lib.firstT x / 16) : Int) ∨ (Lib.accHi (Lib.firstT x / 16) : Int) < t.getD 1 0 ∨ t.getD 2 0 < 128 ∨ 191 < t.getD 2 0) → wid t = 3) := by
  unfold wid
  rw [hx, if_neg (show ¬ (x : Int) < 128 by omega)]
  generalize t.getD 1 0 = y; generalize t.getD 2 0 = z; generalize t.getD 3 0 = u; generalize t.length = n
  rcases first_ranges x h h1 with ⟨h2, e⟩ | ⟨h2, h3, e⟩ | ⟨h2, e⟩ | ⟨h2, h3, e⟩ | ⟨h2, e⟩ | ⟨h2, h3, e⟩ | ⟨h2, e⟩ | ⟨h2, h3, e⟩ | ⟨h2, e⟩ | ⟨h2, e⟩
  all_goals (rw [e] at hs ⊢; first | (exfalso; omega) | skip)
  all_goals (try subst h2)
  all_goals (simp only [Nat.reduceDiv, accL0, accL1, accL2, accL3, accL4, accH0, accH1, accH2, accH3, accH4, lo, hi]; constructor <;> intro hb <;> (repeat' split) <;> omega)
theorem wid_4 {t : List Int} {x : Nat} (hx : t.getD 0 0 = (x : Int)) (h : 128 ≤ x) (h1 : x < 256) (hs : Lib.firstT x % 8 = 4) : ((t.length < 4 ∨ t.getD 1 0 < (Lib.accLo (Lib.firstT x / 16) : Int) ∨ (Lib.accHi (Lib.firstT x / 16) : Int) < t.getD 1 0 ∨ t.getD 2 0 < 128 ∨ 191 < t.getD 2 0 ∨ t.getD 3 0 < 128 ∨ 191 < t.getD 3 0) → wid t = 0) ∧ (¬ (t.length < 4 ∨ t.getD 1 0 < (Lib.accLo (Lib.firstT x / 16) : Int) ∨ (Lib.accHi (Lib.firstT x / 16) : Int) < t.getD 1 0 ∨ t.getD 2 0 < 128 ∨ 191 < t.getD 2 0 ∨ t.getD 3 0 < 128 ∨ 191 < t.getD 3 0) → wid t = 4) := by
  unfold wid
  rw [hx, if_neg (show ¬ (x : Int) < 128 by omega)]
  generalize t.getD 1 0 = y; generalize t.getD 2 0 = z; generalize t.getD 3 0 = u; generalize t.length = n
  rcases first_ranges x h h1 with ⟨h2, e⟩ | ⟨h2, h3, e⟩ | ⟨h2, e⟩ | ⟨h2, h3, e⟩ | ⟨h2, e⟩ | ⟨h2, h3, e⟩ | ⟨h2, e⟩ | ⟨h2, h3, e⟩ | ⟨h2, e⟩ | ⟨h2, e⟩
  all_goals (rw [e] at hs ⊢; first | (exfalso; omega) | skip)
  all_goals (try subst h2)
  all_goals (simp only [Nat.reduceDiv, accL0, accL1, accL2, accL3, accL4, accH0, accH1, accH2, accH3, accH4, lo, hi]; constructor <;> intro hb <;> (repeat' split) <;> omega)
theorem wid_0 {t : List Int} {x : Nat} (hx : t.getD 0 0 = (x : Int)) (h : 128 ≤ x) (h1 : x < 256) (h2 : ¬ Lib.firstT x % 8 = 2) (h3 : ¬ Lib.firstT x % 8 = 3) (h4 : ¬ Lib.firstT x % 8 = 4) : wid t = 0 := by
  unfold wid
  rw [hx, if_neg (show ¬ (x : Int) < 128 by omega)]
  rcases first_ranges x h h1 with ⟨g2, e⟩ | ⟨g2, g3, e⟩ | ⟨g2, e⟩ | ⟨g2, g3, e⟩ | ⟨g2, e⟩ | ⟨g2, g3, e⟩ | ⟨g2, e⟩ | ⟨g2, g3, e⟩ | ⟨g2, e⟩ | ⟨g2, e⟩
  all_goals (rw [e] at h2 h3 h4; first | (exfalso; omega) | skip)
  all_goals ((repeat' split) <;> omega)
set_option maxRecDepth 100000 in
theorem and7 : ∀ X : Fin 256, bits .and .u8 ((X.val : Nat) : Int) 7 = ((X.val % 8 : Nat) : Int) := by decide

/-- the first loop of a body -/
def firstLoop : Code → Option Code
  | .loop c => some c
  | .seq a b => match firstLoop a with
    | some c => some c
    | none => firstLoop b
  | .block _ c => firstLoop c
  | .scope c => firstLoop c
  | .cond _ a b => match firstLoop a with
    | some c => some c
    | none => firstLoop b
  | _ => none
noncomputable def vbody : Code := ((Tryd.f27.body.bind firstLoop).getD .skip)
end Sc
end Go.Proofs.YtcmidegffpehoaaDoor
