/- LBk: what follows, part by part: each part tells what it holds. -/
import Derived.Test.YtjhmglefejclpaaDoorEyB
import Derived.Test.YtjhmglefejclpaaDoorMath4
import Derived.Test.YtjhmglefejclpaaDoorExX
import Derived.Deep.RegionHeld3
import Derived.Deep.AppendLies
import Derived.Test.YtjhmglefejclpaaDoorOwn
import Derived.Laws.AppendOwnNone
import Derived.Test.YtjhmglefejclpaaDoorEyA
import Derived.Test.YtjhmglefejclpaaDoorExF
import Derived.Test.YtjhmglefejclpaaDoorRows
import Derived.Test.YtjhmglefejclpaaDoorExH
import Derived.WalkKit
import Derived.ProofKit
import Derived.OpenShut
import Derived.ShutString
import Derived.Deep.Slices
import Derived.Test.YtjhmglefejclpaaDoorOpI
import Derived.Stop.LaidErr
import Derived.LaidHandle
import Derived.Test.YtjhmglefejclpaaDoorNum
import Derived.ChangeOld
import Derived.ChangeSame
import Derived.ChangeVars
import Derived.JoinedOf
import Derived.RowKit
import Derived.RowKitTokens
import Derived.LaidLaws
import Derived.Stop.Joined
import Derived.Test.YtjhmglefejclpaaDoorTie
import Derived.Test.YtjhmglefejclpaaDoorCards
import Derived.Below
import Derived.Deep.DeepHandedRow

/- What is read may be, and has no fewer bytes than it needs. Plain mathematics. -/
namespace Go.Proofs.YtjhmglefejclpaaDoor
open Go.RowKit
namespace Ex
set_option linter.unusedVariables false
set_option linter.unusedSimpArgs false

theorem bU_short : ∀ (n f : Nat) (v : Int), v < 128 ^ (n + 1) → (Leb.bU f v).length ≤ n + 1
  | n, 0, v, _ => by simp [Leb.bU]
  | 0, f + 1, v, h => by
    have h0 : ¬ 127 < v := by simp at h; omega
    simp [Leb.bU, h0]
  | n + 1, f + 1, v, h => by
    by_cases h0 : 127 < v
    · have h1 : v / 128 < 128 ^ (n + 1) := by
        have e : (128 : Int) ^ (n + 1 + 1) = 128 ^ (n + 1) * 128 := by rw [Int.pow_succ]
        rw [e] at h
        exact Int.ediv_lt_of_lt_mul (by decide) h
      have := bU_short n f (v / 128) h1
      simp only [Leb.bU, h0, if_true, List.length_cons]
      omega
    · simp [Leb.bU, h0]
theorem bS_short : ∀ (n f : Nat) (v : Int), -64 * 128 ^ n ≤ v → v < 64 * 128 ^ n → (Leb.bS f v).length ≤ n + 1
  | n, 0, v, _, _ => by simp [Leb.bS]
  | 0, f + 1, v, h, h' => by
    have h0 : -64 ≤ v ∧ v < 64 := by simp at h h'; omega
    simp [Leb.bS, h0]
  | n + 1, f + 1, v, h, h' => by
    by_cases h0 : -64 ≤ v ∧ v < 64
    · simp [Leb.bS, h0]
    · have e : (128 : Int) ^ (n + 1) = 128 ^ n * 128 := by rw [Int.pow_succ]
      rw [e] at h h'
      have := bS_short n f (v / 128) (by omega) (by omega)
      simp only [Leb.bS, h0, if_false, List.length_cons]
      omega
theorem tu_short {qs : List Int} {n : Int} (h : Leb.tuE qs n = 0) : (Leb.bU 10 (Leb.tuV qs n)).length ≤ (Leb.tuN qs n).toNat := by
  have hb := tu_bd qs n h
  have hc : Leb.cntE qs n = 0 := by
    unfold Leb.tuE at h
    by_cases hh : Leb.cntE qs n = 0
    · exact hh
    · rw [if_neg hh] at h; exact h
  have h2 := Leb.cnt_0 qs n hc
  have hN : (Leb.tuN qs n).toNat = Leb.lead qs + 1 := by unfold Leb.tuN; rw [if_pos h]; omega
  have hj := Leb.jn_bd (qs.take (Leb.lead qs + 1))
  have hl : (qs.take (Leb.lead qs + 1)).length = Leb.lead qs + 1 := by simp; omega
  rw [hl] at hj
  rw [hN]
  refine bU_short _ _ _ ?_
  unfold Leb.tuV
  rw [if_pos h]
  generalize (128 : Int) ^ (Leb.lead qs + 1) = P at *
  omega
theorem XX_bd {qs : List Int} (hl : Leb.lead qs < qs.length) (h0 : 0 ≤ qs.getD (Leb.lead qs) 0) : -64 * 128 ^ Leb.lead qs ≤ Leb.XX qs ∧ Leb.XX qs < 64 * 128 ^ Leb.lead qs := by
  obtain ⟨low, l0, l1, _, hx, s0, s1⟩ := Leb.JJ_parts qs hl h0
  generalize Leb.sg (qs.getD (Leb.lead qs) 0) = s at *
  rw [hx]
  have hP : (0 : Int) ≤ 128 ^ Leb.lead qs := by omega
  generalize (128 : Int) ^ Leb.lead qs = P at *
  have a1 : P * -64 ≤ P * s := Int.mul_le_mul_of_nonneg_left s0 hP
  have a2 : P * s ≤ P * 63 := Int.mul_le_mul_of_nonneg_left (by omega) hP
  omega
theorem ts_good {qs : List Int} {m : Nat} (hm : m = 31 ∨ m = 63) (hq : ∀ z ∈ qs, 0 ≤ z ∧ z ≤ 255) (h : Leb.tsE qs ((m + 1 : Nat) : Int) = 0) :
    (Leb.bS 10 (Leb.tsV qs ((m + 1 : Nat) : Int))).length ≤ (Leb.tsN qs ((m + 1 : Nat) : Int)).toNat ∧ -(2 ^ m) ≤ Leb.tsV qs ((m + 1 : Nat) : Int) ∧ Leb.tsV qs ((m + 1 : Nat) : Int) < 2 ^ m := by
  have hc : Leb.cntE qs ((m + 1 : Nat) : Int) = 0 := by
    have h' := h
    unfold Leb.tsE at h'
    by_cases hh : Leb.cntE qs ((m + 1 : Nat) : Int) = 0
    · exact hh
    · rw [if_neg hh] at h'; exact h'
  have h2 := Leb.cnt_0 qs _ hc
  have h0 : 0 ≤ qs.getD (Leb.lead qs) 0 := by
    have : qs.getD (Leb.lead qs) 0 = qs[Leb.lead qs]'h2.2.2.2 := by simp [List.getD, h2.2.2.2]
    rw [this]; exact (hq _ (List.getElem_mem _)).1
  have hi := Leb.tsE_iff qs m hc h0
  rw [h] at hi
  have hx : Leb.XX qs / 2 ^ m = 0 ∨ Leb.XX qs / 2 ^ m = -1 := by
    by_cases hh : Leb.XX qs / 2 ^ m = 0 ∨ Leb.XX qs / 2 ^ m = -1
    · exact hh
    · rw [if_neg hh] at hi; exact absurd hi (by decide)
  have hb := XX_bd h2.2.2.2 h0
  have hN : (Leb.tsN qs ((m + 1 : Nat) : Int)).toNat = Leb.lead qs + 1 := by unfold Leb.tsN; rw [if_pos h]; omega
  have hr : -(2 ^ m) ≤ Leb.XX qs ∧ Leb.XX qs < 2 ^ m := by
    rcases hm with rfl | rfl
    · have e : (2 : Int) ^ 31 = 2147483648 := by decide
      rw [e] at *; omega
    · have e : (2 : Int) ^ 63 = 9223372036854775808 := by decide
      rw [e] at *; omega
  have hV : Leb.tsV qs ((m + 1 : Nat) : Int) = Leb.XX qs := by
    have e : Leb.tsV qs ((m + 1 : Nat) : Int) = IntKind.i64.wrap (Leb.XX qs) := by unfold Leb.tsV; rw [if_pos h]; rfl
    rw [e, IntKind.wrap_i64]
    rcases hm with rfl | rfl
    · have e : (2 : Int) ^ 31 = 2147483648 := by decide
      rw [e] at *; omega
    · have e : (2 : Int) ^ 63 = 9223372036854775808 := by decide
      rw [e] at *; omega
  rw [hV, hN]
  exact ⟨bS_short _ _ _ hb.1 hb.2, hr⟩
theorem pU_good {zs : List Int} {a : Nat} {m : Int} (hz : ∀ z ∈ zs, 0 ≤ z ∧ z ≤ 255) (h : (pU zs a m).e = 0) : a + (Leb.bU 10 (pU zs a m).v).length ≤ (pU zs a m).at_ ∧ 0 ≤ (pU zs a m).v ∧ (pU zs a m).v < 4294967296 ∧ (pU zs a m).v ≤ m := by
  have hq : ∀ z ∈ zs.drop a, 0 ≤ z ∧ z ≤ 255 := fun z h => hz z (List.mem_of_mem_drop h)
  by_cases h1 : Leb.tuE (zs.drop a) 32 = 0
  · by_cases h2 : m < Leb.tuV (zs.drop a) 32
    · have e : pU zs a m = ⟨9, a, 0⟩ := by unfold pU; rw [if_pos h1, if_pos h2]
      rw [e] at h; exact absurd h (show ¬ (9 : Int) = 0 by decide)
    · have e : pU zs a m = ⟨0, a + (Leb.tuN (zs.drop a) 32).toNat, Leb.tuV (zs.drop a) 32⟩ := by unfold pU; rw [if_pos h1, if_neg h2]
      have h3 := tu_short h1
      have h4 := tuV_32 hq h1
      rw [e]
      exact ⟨Nat.add_le_add_left h3 a, h4.1, h4.2, by show Leb.tuV (zs.drop a) 32 ≤ m; omega⟩
  · have e : pU zs a m = ⟨Leb.tuE (zs.drop a) 32, a, 0⟩ := by unfold pU; rw [if_neg h1]
    rw [e] at h; exact absurd h h1
theorem pS_good {zs : List Int} {a m : Nat} (hm : m = 31 ∨ m = 63) (hz : ∀ z ∈ zs, 0 ≤ z ∧ z ≤ 255) (h : (pS zs a ((m + 1 : Nat) : Int)).e = 0) : a + (Leb.bS 10 (pS zs a ((m + 1 : Nat) : Int)).v).length ≤ (pS zs a ((m + 1 : Nat) : Int)).at_ ∧ -(2 ^ m) ≤ (pS zs a ((m + 1 : Nat) : Int)).v ∧ (pS zs a ((m + 1 : Nat) : Int)).v < 2 ^ m := by
  have hq : ∀ z ∈ zs.drop a, 0 ≤ z ∧ z ≤ 255 := fun z h => hz z (List.mem_of_mem_drop h)
  by_cases h1 : Leb.tsE (zs.drop a) ((m + 1 : Nat) : Int) = 0
  · have e : pS zs a ((m + 1 : Nat) : Int) = ⟨0, a + (Leb.tsN (zs.drop a) ((m + 1 : Nat) : Int)).toNat, Leb.tsV (zs.drop a) ((m + 1 : Nat) : Int)⟩ := by unfold pS; rw [if_pos h1]
    have h3 := ts_good hm hq h1
    rw [e]
    exact ⟨Nat.add_le_add_left h3.1 a, h3.2.1, h3.2.2⟩
  · have e : pS zs a ((m + 1 : Nat) : Int) = ⟨Leb.tsE (zs.drop a) ((m + 1 : Nat) : Int), a, 0⟩ := by unfold pS; rw [if_neg h1]
    rw [e] at h; exact absurd h h1
theorem pB_good {zs : List Int} {a : Nat} {J : Int → Int} (h : (pB zs a J).e = 0) : a < zs.length ∧ (pB zs a J).at_ = a + 1 ∧ (pB zs a J).v = zs.getD a 0 ∧ J (zs.getD a 0) = 0 := by
  by_cases h1 : zs.length ≤ a
  · have e : pB zs a J = ⟨4, a, 0⟩ := by unfold pB; rw [if_pos h1]
    rw [e] at h; exact absurd h (show ¬ (4 : Int) = 0 by decide)
  · by_cases h2 : J (zs.getD a 0) = 0
    · have e : pB zs a J = ⟨0, a + 1, zs.getD a 0⟩ := by unfold pB; rw [if_neg h1, if_pos h2]
      rw [e]; exact ⟨by omega, rfl, rfl, h2⟩
    · have e : pB zs a J = ⟨J (zs.getD a 0), a, 0⟩ := by unfold pB; rw [if_neg h1, if_neg h2]
      rw [e] at h; exact absurd h h2
theorem Part.on_e {β : Type} {p : Part} {k : Nat} {d : β} {f : Nat → Int → Out β} (h : (p.on k d f).e = 0) : p.e = 0 ∧ p.on k d f = f p.at_ p.v := by
  by_cases he : p.e = 0
  · exact ⟨he, Part.on_ok he _ _ _⟩
  · rw [Part.on_no he] at h; exact absurd h he
theorem Out.on_e {α β : Type} {x : Out α} {d : β} {f : Nat → Nat → α → Out β} (h : (x.on d f).e = 0) : x.e = 0 ∧ x.on d f = f x.at_ x.k x.v := by
  by_cases he : x.e = 0
  · exact ⟨he, Out.on_ok he _ _⟩
  · rw [Out.on_no he] at h; exact absurd h he
theorem pL_good {zs : List Int} (hz : ∀ z ∈ zs, 0 ≤ z ∧ z ≤ 255) : ∀ (m a k : Nat), (pL zs m a k).e = 0 → (pL zs m a k).v.length = m ∧ (pL zs m a k).k = k ∧ (∀ z ∈ (pL zs m a k).v, 0 ≤ z ∧ z < 4294967296) ∧ a + ((pL zs m a k).v.flatMap (Leb.bU 10)).length ≤ (pL zs m a k).at_
  | 0, a, k, _ => by simp [pL]
  | m + 1, a, k, h => by
    rw [pL] at h ⊢
    obtain ⟨e1, q1⟩ := Part.on_e h
    rw [q1] at h ⊢
    obtain ⟨e2, q2⟩ := Out.on_e h
    rw [q2]
    obtain ⟨g1, g2, g3, _⟩ := pU_good hz e1
    obtain ⟨i1, i2, i3, i4⟩ := pL_good hz m _ k e2
    generalize pU zs a 4294967295 = P at *
    generalize pL zs m P.at_ k = R at *
    refine ⟨by simp [i1], i2, fun z hz => ?_, ?_⟩
    · rcases List.mem_cons.1 hz with rfl | hz
      · exact ⟨g2, g3⟩
      · exact i3 z hz
    · simp only [List.flatMap_cons, List.length_append]; omega
/-- a list that is read well -/
def GoodL (nest a k : Nat) (me : Bool) (R : Out (List Ins × Int)) : Prop :=
  R.e = 0 → Wf R.v.1 ∧ may nest R.v.1 = true ∧ R.k = k + cnt R.v.1 ∧ R.k ≤ 16384 ∧ a + (enc R.v.1).length + 1 ≤ R.at_ ∧ (R.v.2 = 5 → me = true)
/-- an instruction that is read well -/
def GoodI (nest a k : Nat) (op : Int) (R : Out Ins) : Prop :=
  R.e = 0 → R.v.op = op ∧ WfI R.v ∧ mayI nest R.v = true ∧ R.k = k + cnt R.v.body + cnt R.v.els ∧ R.k ≤ 16384 ∧ a + (encI R.v).length ≤ R.at_
theorem Wf_plain {op n al of re : Int} {ls : List Int} (h : fit op n al of re ls) : WfI ⟨op, n, al, of, re, [], [], ls⟩ := ⟨h, Wf_nil, Wf_nil⟩
theorem flat_i {nest a k at_ : Nat} {op f n al of re : Int} {ls : List Int} (hs : (frm op).isSome = true) (hf : fr op = f) (h6 : ¬ f = 6) (h7 : ¬ f = 7) (hfit : fit op n al of re ls) (hb : bnd f n re ls.length = true) (ha : alo f n al of re 0 0 ls.length = true) (hk : k ≤ 16384)
    (he : a + (encF f n al of re [] [] 0 ls).length ≤ at_) : GoodI nest a k op ⟨0, at_, k, ⟨op, n, al, of, re, [], [], ls⟩⟩ := by
  intro _
  refine ⟨rfl, Wf_plain hfit, ?_, by simp [cnt_nil], hk, ?_⟩
  · unfold mayI one
    simp only [hs, hf, hb, List.length_nil, ha, Bool.and_self, Bool.true_and]
    have : blk f = false := by unfold blk; exact decide_eq_false (by omega)
    simp [this]
  · unfold encI
    simp only [hf, enc_nil, List.length_nil]
    exact he
theorem pI_good {rc : Nat → Nat → Nat → Bool → Out (List Ins × Int)} {zs : List Int} (hz : ∀ z ∈ zs, 0 ≤ z ∧ z ≤ 255) (hrc : ∀ a k nest me, nest ≤ 64 → k ≤ 16384 → GoodL nest a k me (rc a k nest me)) (a k nest : Nat) (op : Int)
    (h0 : 0 ≤ op) (h1 : op ≤ 255) (hs : (frm op).isSome = true) (hn : nest ≤ 64) (hb : blk (fr op) = true → nest < 64) (hk : k ≤ 16384) : GoodI nest a k op (pI rc zs a k nest op) := by
  obtain ⟨f, hf⟩ : ∃ f, fr op = f := ⟨_, rfl⟩
  have hop : (0 ≤ op ∧ op ≤ 255) := ⟨h0, h1⟩
  have z64 : (-9223372036854775808 : Int) ≤ 0 ∧ (0 : Int) < 9223372036854775808 := by decide
  have z32 : (0 : Int) ≤ 0 ∧ (0 : Int) < 4294967296 := by decide
  have z8 : (0 : Int) ≤ 0 ∧ (0 : Int) ≤ 255 := by decide
  have znil : ∀ z ∈ ([] : List Int), 0 ≤ z ∧ z < 4294967296 := by simp
  unfold pI
  rw [hf]
  by_cases f1 : f = 1
  · subst f1
    rw [if_pos rfl]
    intro h
    obtain ⟨e1, q1⟩ := Part.on_e h
    rw [q1]
    obtain ⟨g1, g2, g3⟩ := pS_good (m := 31) (.inl rfl) hz e1
    have e31 : (2 : Int) ^ 31 = 2147483648 := by decide
    rw [e31] at g2 g3
    have c32 : (((31 + 1 : Nat) : Nat) : Int) = 32 := rfl
    rw [c32] at g1 g2 g3
    generalize pS zs a 32 = P at *
    exact flat_i hs hf (by decide) (by decide) ⟨hop, ⟨by omega, by omega⟩, z32, z32, z8, znil⟩ (by simp [bnd]; omega) (by simp [alo, plain]) hk (by simp [encF]; exact g1) rfl
  rw [if_neg f1]
  by_cases f2 : f = 2
  · subst f2
    rw [if_pos rfl]
    intro h
    obtain ⟨e1, q1⟩ := Part.on_e h
    rw [q1]
    obtain ⟨g1, g2, g3⟩ := pS_good (m := 63) (.inr rfl) hz e1
    have e63 : (2 : Int) ^ 63 = 9223372036854775808 := by decide
    rw [e63] at g2 g3
    have c64 : (((63 + 1 : Nat) : Nat) : Int) = 64 := rfl
    rw [c64] at g1 g2 g3
    generalize pS zs a 64 = P at *
    exact flat_i hs hf (by decide) (by decide) ⟨hop, ⟨by omega, by omega⟩, z32, z32, z8, znil⟩ (by simp [bnd]) (by simp [alo, plain]) hk (by simp [encF]; exact g1) rfl
  rw [if_neg f2]
  by_cases f3 : f = 3
  · subst f3
    rw [if_pos rfl]
    intro h
    obtain ⟨e1, q1⟩ := Part.on_e h
    rw [q1]
    obtain ⟨g1, g2, g3, _⟩ := pU_good hz e1
    generalize pU zs a 4294967295 = P at *
    exact flat_i hs hf (by decide) (by decide) ⟨hop, ⟨by omega, by omega⟩, z32, z32, z8, znil⟩ (by simp [bnd]; omega) (by simp [alo, plain]) hk (by simp [encF]; exact g1) rfl
  rw [if_neg f3]
  by_cases f4 : f = 4
  · subst f4
    rw [if_pos rfl]
    intro h
    obtain ⟨e1, q1⟩ := Part.on_e h
    rw [q1] at h ⊢
    obtain ⟨e2, q2⟩ := Part.on_e h
    rw [q2]
    obtain ⟨g1, g2, g3, _⟩ := pU_good hz e1
    obtain ⟨i1, i2, i3, _⟩ := pU_good hz e2
    generalize pU zs a 4294967295 = P at *
    generalize pU zs P.at_ 4294967295 = R at *
    exact flat_i hs hf (by decide) (by decide) ⟨hop, z64, ⟨g2, g3⟩, ⟨i2, i3⟩, z8, znil⟩ (by simp [bnd]) (by simp [alo, plain]) hk (by simp [encF]; omega) rfl
  rw [if_neg f4]
  by_cases f5 : f = 5
  · subst f5
    rw [if_pos rfl]
    intro h
    obtain ⟨e1, q1⟩ := Part.on_e h
    rw [q1]
    obtain ⟨_, g1, _, _⟩ := pB_good e1
    generalize pB zs a jZ = P at *
    exact flat_i hs hf (by decide) (by decide) ⟨hop, z64, z32, z32, z8, znil⟩ (by simp [bnd]) (by simp [alo, plain]) hk (by simp [encF]; omega) rfl
  rw [if_neg f5]
  by_cases f8 : f = 8
  · subst f8
    rw [if_pos rfl]
    intro h
    obtain ⟨e1, q1⟩ := Part.on_e h
    rw [q1] at h ⊢
    obtain ⟨e2, q2⟩ := Out.on_e h
    rw [q2]
    obtain ⟨g1, g2, g3, g4⟩ := pU_good hz e1
    obtain ⟨i1, i2, i3, i4⟩ := pL_good hz _ _ _ e2
    generalize pU zs a 256 = P at *
    generalize pL zs (P.v.toNat + 1) P.at_ k = R at *
    have hl : ((R.v.length : Int) - 1) = P.v := by omega
    rw [i2]
    exact flat_i hs hf (by decide) (by decide) ⟨hop, z64, z32, z32, z8, i3⟩ (by simp [bnd]; omega) (by simp [alo, plain]) hk (by
      have e : encF 8 0 0 0 0 [] [] 0 R.v = Leb.bU 10 P.v ++ R.v.flatMap (Leb.bU 10) := by simp only [encF, hl]; simp
      show a + (encF 8 0 0 0 0 [] [] 0 R.v).length ≤ R.at_
      rw [e, List.length_append]; omega) rfl
  rw [if_neg f8]
  by_cases f9 : f = 9
  · subst f9
    rw [if_pos rfl]
    intro h
    obtain ⟨e1, q1⟩ := Part.on_e h
    rw [q1] at h ⊢
    obtain ⟨e2, q2⟩ := Part.on_e h
    rw [q2]
    obtain ⟨g1, g2, g3, _⟩ := pU_good hz e1
    obtain ⟨_, i1, _, _⟩ := pB_good e2
    generalize pU zs a 4294967295 = P at *
    generalize pB zs P.at_ jZ = R at *
    exact flat_i hs hf (by decide) (by decide) ⟨hop, ⟨by omega, by omega⟩, z32, z32, z8, znil⟩ (by simp [bnd]; omega) (by simp [alo, plain]) hk (by simp [encF]; omega) rfl
  rw [if_neg f9]
  by_cases f67 : f = 6 ∨ f = 7
  · rw [if_pos f67]
    intro h
    obtain ⟨e1, q1⟩ := Part.on_e h
    rw [q1] at h ⊢
    obtain ⟨_, g1, g2, g3⟩ := pB_good e1
    have hre : kV (pB zs a jK).v = 0 ∨ kV (pB zs a jK).v = 127 ∨ kV (pB zs a jK).v = 126 := by
      rw [g2]
      unfold jK at g3
      by_cases hh : zs.getD a 0 = 64 ∨ zs.getD a 0 = 127 ∨ zs.getD a 0 = 126
      · unfold kV; rcases hh with hh | hh | hh <;> rw [hh] <;> decide
      · rw [if_neg hh] at g3
        split at g3 <;> exact absurd g3 (by decide)
    obtain ⟨re, hr⟩ : ∃ re, kV (pB zs a jK).v = re := ⟨_, rfl⟩
    rw [hr] at h hre ⊢
    rw [g1] at h ⊢
    unfold pK at h ⊢
    obtain ⟨e2, q2⟩ := Out.on_e h
    rw [q2] at h ⊢
    have hbl : blk (fr op) = true := by rw [hf]; unfold blk; exact decide_eq_true f67
    have hlt := hb hbl
    obtain ⟨b1, b2, b3, b4, b5, b6⟩ := hrc (a + 1) k (nest + 1) (decide (fr op = 7)) (by omega) hk e2
    generalize rc (a + 1) k (nest + 1) (decide (fr op = 7)) = R at *
    have hreb : (0 ≤ re ∧ re ≤ 255) := by omega
    by_cases h5 : R.v.2 = 5
    · rw [if_pos h5] at h ⊢
      have h7 : fr op = 7 := of_decide_eq_true (b6 h5)
      have f7 : f = 7 := by omega
      obtain ⟨e3, q3⟩ := Out.on_e h
      rw [q3] at h ⊢
      obtain ⟨d1, d2, d3, d4, d5, _⟩ := hrc R.at_ R.k (nest + 1) false (by omega) b4 e3
      generalize rc R.at_ R.k (nest + 1) false = T at *
      refine ⟨rfl, ⟨⟨hop, z64, z32, z32, hreb, znil⟩, b1, d1⟩, ?_, ?_, d4, ?_⟩
      · unfold mayI one
        simp only [plain, hs, hf, f7, b2, d2, hlt, Bool.true_and, Bool.and_true, decide_true, Bool.and_self, Bool.or_true]
        simp [bnd, alo, hre]
      · show T.k = k + cnt R.v.1 + cnt T.v.1
        omega
      · unfold encI
        simp only [plain, hf, f7]
        simp only [encF]
        simp
        split <;> simp <;> omega
    · rw [if_neg h5] at h ⊢
      refine ⟨rfl, ⟨⟨hop, z64, z32, z32, hreb, znil⟩, b1, Wf_nil⟩, ?_, ?_, b4, ?_⟩
      · unfold mayI one
        simp only [plain, hs, hf, b2, may_nil, hlt, Bool.true_and, Bool.and_true, decide_true, Bool.and_self, Bool.or_true]
        rcases f67 with rfl | rfl <;> simp [bnd, alo, hre]
      · show R.k = k + cnt R.v.1 + cnt []
        rw [cnt_nil]; omega
      · unfold encI
        simp only [plain, hf, enc_nil, List.length_nil]
        rcases f67 with rfl | rfl <;> (simp [encF]; omega)
  · rw [if_neg f67]
    exact flat_i hs hf (by omega) (by omega) ⟨hop, z64, z32, z32, z8, znil⟩ (by unfold bnd; rw [if_neg f1, if_neg (by omega), if_neg f67, if_neg f8]) (by unfold alo; exact decide_eq_true (by simp)) hk (by unfold encF; rw [if_neg (by omega), if_neg f3, if_neg f4, if_neg f5, if_neg f67, if_neg f8, if_neg f9]; simp)
theorem dec_good {zs : List Int} (hz : ∀ z ∈ zs, 0 ≤ z ∧ z ≤ 255) : ∀ (f a k nest : Nat) (me : Bool), nest ≤ 64 → k ≤ 16384 → GoodL nest a k me (dec f zs a k nest me)
  | 0, a, k, nest, me, _, _ => fun h => absurd h (show ¬ (4 : Int) = 0 by decide)
  | f + 1, a, k, nest, me, hn, hk => by
    have ih := dec_good hz f
    show GoodL nest a k me (step (dec f zs) zs a k nest me)
    intro h
    unfold step at h ⊢
    obtain ⟨e1, q1⟩ := Part.on_e h
    rw [q1] at h ⊢
    obtain ⟨g0, g1, g2, g3⟩ := pB_good e1
    have hc : 0 ≤ zs.getD a 0 ∧ zs.getD a 0 ≤ 255 := by
      have : zs.getD a 0 = zs[a]'g0 := by simp [List.getD, g0]
      rw [this]; exact hz _ (List.getElem_mem _)
    rw [g1, g2] at h ⊢
    generalize zs.getD a 0 = c at *
    by_cases hcc : c = 11 ∨ c = 5
    · rw [if_pos hcc]
      refine ⟨Wf_nil, may_nil _, by simp [cnt_nil], hk, by simp [enc_nil], fun h5 => ?_⟩
      have h5' : c = 5 := h5
      subst h5'
      cases me with
      | true => rfl
      | false =>
        have h5a : frm 5 = none := by kernel_rfl
        have h5b : flt 5 = false := by kernel_rfl
        unfold jO at g3
        rw [h5a, h5b] at g3
        simp at g3
    · rw [if_neg hcc] at h ⊢
      have hj : (frm c).isSome = true ∧ ¬ k = 16384 ∧ (blk (fr c) = true → ¬ nest = 64) := by
        unfold jO at g3
        rw [if_neg (fun hh => hcc (by rcases hh with hh | hh; exact .inl hh; exact .inr hh.1))] at g3
        by_cases hfl : flt c = true
        · rw [if_pos hfl] at g3; exact absurd g3 (by decide)
        · rw [if_neg hfl] at g3
          cases hfr : frm c with
          | none => rw [hfr] at g3; simp at g3
          | some f =>
            rw [hfr] at g3
            simp only at g3
            by_cases hh : k = 16384 ∨ (blk f = true ∧ nest = 64)
            · rw [if_pos hh] at g3; exact absurd g3 (by decide)
            · refine ⟨rfl, fun e => hh (.inl e), fun hb hn => hh (.inr ⟨?_, hn⟩)⟩
              unfold fr at hb; rw [hfr] at hb; exact hb
      obtain ⟨e2, q2⟩ := Out.on_e h
      rw [q2] at h ⊢
      obtain ⟨i1, i2, i3, i4, i5, i6⟩ := pI_good hz (fun a k nest me hn hk => ih a k nest me hn hk) (a + 1) (k + 1) nest c hc.1 hc.2 hj.1 hn (fun hb => by have := hj.2.2 hb; omega) (by omega) e2
      generalize pI (dec f zs) zs (a + 1) (k + 1) nest c = P at *
      obtain ⟨e3, q3⟩ := Out.on_e h
      rw [q3]
      obtain ⟨r1, r2, r3, r4, r5, r6⟩ := ih P.at_ P.k nest me hn i5 e3
      generalize dec f zs P.at_ P.k nest me = R at *
      refine ⟨(Wf_cons _ _).2 ⟨i2, r1⟩, by rw [may_cons, i3, r2]; rfl, ?_, r4, ?_, r6⟩
      · rw [cnt_cons]
        show R.k = _
        omega
      · rw [enc_cons]
        simp only [List.length_append, List.length_cons, List.length_nil]
        show _ ≤ R.at_
        omega
end Ex
end Go.Proofs.YtjhmglefejclpaaDoor

/- The statements' give: the same instructions, in a list of its own. -/
namespace Go.Proofs.YtjhmglefejclpaaDoor
open Go.RowKit
namespace Ex
set_option linter.unusedVariables false
attribute [local go_sem ↓] Go.wp_at_zero Go.wp_at_succ

/-- old blocks that g lets, and those from S on -/
def gor (g : Nat → Prop) (S : Nat) : Nat → Prop := fun k => g k ∨ S ≤ k
def GiveP (l : List Ins) : Prop := ∀ (g : Nat → Prop) (v : Value) (w : World), (∀ k, g k → k < w.heap.size) → Code w g l v → l.length ≤ 1099511627776 → Sz 1099511627776 l →
  Calls Tryd.prog 11 #[v] w fun e w' => ∃ v', e = .returned v' ∧ Below w.heap.size w w' ∧ OwnC w' w.heap.size (gor g w.heap.size) v' l

theorem fin_cell {wa wb : World} {N : Nat} (hb : Below wa.heap.size wa wb) (hlt : N < wa.heap.size) (o : Nat) : wb.cell? ⟨N, o, none⟩ = wa.cell? ⟨N, o, none⟩ := hb.cell (p := ⟨N, o, none⟩) hlt
/-- a round's end -/
theorem give_step {g : Nat → Prop} {wr w3 w4 w5 : World} {S B3 B4 blk cap : Nat} {s v1 v2 vl : Value} {acc : List Ins} {xs : List Value} {i : Ins} (hgS : ∀ k, g k → k < S)
    (hx : wr.ownsRow S 50 8 s acc.length xs) (hit : Its wr (own (gor g S) s) acc xs) (hs : ∀ k, s.ownBlock = some k → S ≤ k ∧ k < wr.heap.size) (hSw : S ≤ wr.heap.size)
    (h13 : Below wr.heap.size wr w3) (h34 : Below w3.heap.size w3 w4) (hB3 : wr.heap.size ≤ B3) (hB4 : wr.heap.size ≤ B4) (o3 : OwnC w3 B3 (gor g B3) v1 i.body) (o4 : OwnC w4 B4 (gor g B4) v2 i.els) (hl : Lies g i.ls.length (Lab wr i.ls) vl)
    (hown : w5.ownsRow S 50 8 (.slice (some ⟨blk, 0, none⟩) (acc.length + 1) cap) (acc.length + 1) (xs ++ cel i v1 v2 vl)) (hgrow : (w4.alloc (.cells (cel i v1 v2 vl).toArray 50)).grownBy w5 s.ownBlock) (hat : s.ownBlock = some blk ∨ blk = w4.heap.size + 1) :
    OwnC w5 S (gor g S) (.slice (some ⟨blk, 0, none⟩) (acc.length + 1) cap) (acc ++ [i]) := by
  have h14 : Below wr.heap.size wr w4 := Below.on h13 h34
  have hal := one_alloc w4 (.cells (cel i v1 v2 vl).toArray 50)
  have h1a := Below.on h14 hal
  have go : ∀ k, gor g wr.heap.size k → own (gor g S) s k := by
    intro k hk
    rcases hk with hk | hk
    · exact ⟨fun e => by have := (hs k e).1; have := hgS k hk; omega, .inl hk⟩
    · exact ⟨fun e => by have := (hs k e).2; omega, .inr (by omega)⟩
  have c3 : Code w3 (gor g wr.heap.size) i.body v1 := o3.code fun k _ hk => by
    rcases hk with (hk | hk) | hk
    · exact .inl hk
    · exact .inr (by omega)
    · exact .inr (by omega)
  have c4 : Code w4 (gor g wr.heap.size) i.els v2 := o4.code fun k _ hk => by
    rcases hk with (hk | hk) | hk
    · exact .inl hk
    · exact .inr (by omega)
    · exact .inr (by omega)
  refine OwnC.snoc (w := w4.alloc (.cells (cel i v1 v2 vl).toArray 50)) (H := w4.heap.size + 1) (ownsRow_below hx h1a) (Its.move (moves_below h1a fun _ _ h => h) hit) ?_ ?_ ?_ hown hgrow hat (by simp)
  · exact ((c3.below h34).below hal).any fun k _ hk => go k hk
  · exact (c4.below hal).any fun k _ hk => go k hk
  · exact Labs.any (Labs.below hl h1a) fun k _ hk => go k (.inl hk)

set_option maxRecDepth 100000 in
set_option maxHeartbeats 3200000 in
theorem give_any (l : List Ins) : GiveP l := by
  refine ind2 (P := GiveP) (fun l ih => ?_) l
  intro g v w hgS hv hm hsz
  obtain ⟨i0, hi, hz0, hz1, hz2⟩ := info_parts infoI
  obtain ⟨a, ca, rfl, hca, _, hA⟩ := hv
  have HA := hide hA; have HIh := hide ih; have HSz := hide (Sz_get hsz); have HG := hide hgS
  clear hA ih hsz hgS
  generalize hn : l.length = n at *
  have HN := hide hn; clear hn
  go_enter Tryd.func11, Tryd.ntmps11
  go_wp2_with fail
  go_loopw [3, 4] (fun s c wr => ∃ j : Nat, c = .int .i64 j ∧ (j : Int) ≤ n ∧ OwnC wr w.heap.size (gor g w.heap.size) s (l.take j) ∧ Below w.heap.size w wr) (fun _ c _ => n - (intOf c).toNat)
  case atStart => exact ⟨0, rfl, by omega, by simpa using OwnC_nil _ _ _, Below.refl _ _⟩
  case round =>
    obtain ⟨j, rfl, hj, hown, hbel⟩ := hrel
    have HBel := hide hbel; have HOwn := hide hown
    by_cases hlt : (j : Int) < n
    · have ja : j < l.length := by have := unhide HN; omega
      have hjl : (l.take j).length = j := by rw [List.length_take]; omega
      obtain ⟨ba, oa, rfl, hga, hla⟩ := unhide HA (by have := unhide HN; omega)
      have hmA : Moves w wr g g := moves_below hbel (fun _ _ h => h)
      have iA := ItemAt.move hmA (hbel.block ba (Items_lt hla (by omega))) (Items_get hla j ja)
      have hI := unhide HIh l[j] (List.getElem_mem ja)
      have hZ := unhide HSz l[j] (List.getElem_mem ja)
      have htk : l.take (j + 1) = l.take j ++ [l[j]] := List.take_succ_eq_append_getElem ja
      obtain ⟨sa, sc, rfl, _⟩ := hown.shape
      obtain ⟨xs, hx, hit⟩ := hown
      have hs := (unhide HOwn).lt
      rw [hjl] at *
      generalize hxx : l[j] = x at *
      obtain ⟨vb, ve, vl, hc, h1, h2, h3⟩ := iA
      have H1 := hide h1; have H2 := hide h2; have H3 := hide h3; have HTk := hide htk; have HX := hide hx; have HIt := hide hit; have HI := hide hI; have HZ := hide hZ; have HS := hide hs
      obtain ⟨c1, cb1, rfl, _⟩ := h1
      obtain ⟨c2, cb2, rfl, _⟩ := h2
      obtain ⟨c3, cb3, rfl, _⟩ := h3
      obtain ⟨e0, e1, e2, e3, e4, e5, e6, e7⟩ := hc
      have hb0 := one_alloc wr (.cells #[.int .u8 x.op, .int .i64 x.n, .int .u32 x.al, .int .u32 x.of, .int .u8 x.re, .slice c1 x.body.length cb1, .slice c2 x.els.length cb2, .slice c3 x.ls.length cb3] 55)
      have HB0 := hide hb0
      have HW := hide hbel.size
      clear hmA hla hga hI hZ htk hx hit hs hjl hbel hb0 hxx
      have hl0 : x.body.length ≤ 1099511627776 ∧ x.els.length ≤ 1099511627776 := ⟨(unhide HZ).1, (unhide HZ).2.1⟩
      go_wp2_with fail
      generalize hw2 : wr.alloc (.cells #[.int .u8 x.op, .int .i64 x.n, .int .u32 x.al, .int .u32 x.of, .int .u8 x.re, .slice c1 x.body.length cb1, .slice c2 x.els.length cb2, .slice c3 x.ls.length cb3] 55) = w2 at *
      have g0 : w2.cell? ⟨wr.heap.size, 0, none⟩ = some (.int .u8 x.op) := by rw [← hw2]; simp
      have g1 : w2.cell? ⟨wr.heap.size, 1, none⟩ = some (.int .i64 x.n) := by rw [← hw2]; simp
      have g2 : w2.cell? ⟨wr.heap.size, 2, none⟩ = some (.int .u32 x.al) := by rw [← hw2]; simp
      have g3 : w2.cell? ⟨wr.heap.size, 3, none⟩ = some (.int .u32 x.of) := by rw [← hw2]; simp
      have g4 : w2.cell? ⟨wr.heap.size, 4, none⟩ = some (.int .u8 x.re) := by rw [← hw2]; simp
      have g5 : w2.cell? ⟨wr.heap.size, 5, none⟩ = some (.slice c1 x.body.length cb1) := by rw [← hw2]; simp
      have g6 : w2.cell? ⟨wr.heap.size, 6, none⟩ = some (.slice c2 x.els.length cb2) := by rw [← hw2]; simp
      have g7 : w2.cell? ⟨wr.heap.size, 7, none⟩ = some (.slice c3 x.ls.length cb3) := by rw [← hw2]; simp
      have hz : w2.heap.size = wr.heap.size + 1 := by rw [← hw2]; simp
      have HZ2 := hide hz
      clear hw2 e0 e1 e2 e3 e4 e5 e6 e7 hz
      have qb : ∀ wx, Below w2.heap.size w2 wx → Calls Tryd.prog 11 #[.slice c1 x.body.length cb1] wx fun e w' => ∃ v', e = .returned v' ∧ Below wx.heap.size wx w' ∧ OwnC w' wx.heap.size (gor g wx.heap.size) v' x.body := fun wx hwx =>
        (unhide HI).1 g _ wx (fun k hk => by have := unhide HG k hk; have := hwx.size; have := unhide HZ2; have := unhide HW; omega) ((unhide H1).below (Below.on (unhide HB0) hwx)) (unhide HZ).1 (unhide HZ).2.2.2.1
      have qe : ∀ wx, Below w2.heap.size w2 wx → Calls Tryd.prog 11 #[.slice c2 x.els.length cb2] wx fun e w' => ∃ v', e = .returned v' ∧ Below wx.heap.size wx w' ∧ OwnC w' wx.heap.size (gor g wx.heap.size) v' x.els := fun wx hwx =>
        (unhide HI).2 g _ wx (fun k hk => by have := unhide HG k hk; have := hwx.size; have := unhide HZ2; have := unhide HW; omega) ((unhide H2).below (Below.on (unhide HB0) hwx)) (unhide HZ).2.1 (unhide HZ).2.2.2.2
      have QB := hide qb; have QE := hide qe
      clear qb qe
      generalize hN : wr.heap.size = N at g0 g1 g2 g3 g4 g5 g6 g7 HZ2 ⊢
      have HNN := hide hN; clear hN
      go_region_held3 (fun w' => w'.cell? ⟨N, 0, none⟩ = some (.int .u8 x.op) ∧ w'.cell? ⟨N, 1, none⟩ = some (.int .i64 x.n) ∧ w'.cell? ⟨N, 2, none⟩ = some (.int .u32 x.al) ∧ w'.cell? ⟨N, 3, none⟩ = some (.int .u32 x.of) ∧ w'.cell? ⟨N, 4, none⟩ = some (.int .u8 x.re) ∧ w'.cell? ⟨N, 5, none⟩ = some (.slice c1 x.body.length cb1) ∧ w'.cell? ⟨N, 6, none⟩ = some (.slice c2 x.els.length cb2) ∧ w'.cell? ⟨N, 7, none⟩ = some (.slice c3 x.ls.length cb3))
        (first | go_keep | exact ⟨(hk 0).trans g0, (hk 1).trans g1, (hk 2).trans g2, (hk 3).trans g3, (hk 4).trans g4, (hk 5).trans g5, (hk 6).trans g6, (hk 7).trans g7⟩)
        (first
          | (go_at_call_of 11 (Value.slice c1 x.body.length cb1); refine (unhide QB _ (below_drew w2)).mono ?_; rintro e w3 ⟨v1, rfl, hb3, ho3⟩; obtain ⟨s1, t1, rfl, _⟩ := ho3.shape; have HB3 := hide (Below.on (below_drew w2) hb3); have HO3 := hide ho3; clear ho3 hb3; have hk : ∀ o, w3.cell? ⟨N, o, none⟩ = w2.cell? ⟨N, o, none⟩ := fun o => fin_cell (unhide HB3) (by have := unhide HZ2; omega) o)
          | (go_at_call_of 11 (Value.slice c2 x.els.length cb2); refine (unhide QE _ (unhide HB3)).mono ?_; rintro e w4 ⟨v2, rfl, hb4, ho4⟩; obtain ⟨s2, t2, rfl, _⟩ := ho4.shape; have HB34 := hide hb4; have HB4 := hide (Below.on (unhide HB3) hb4); have HB5 := hide (Below.on (unhide HB0) (Below.on (unhide HB4) (one_alloc w4 (.cells (cel x (.slice s1 x.body.length t1) (.slice s2 x.els.length t2) (.slice c3 x.ls.length cb3)).toArray 50)))); have HO4 := hide ho4; clear ho4 hb4; have hk : ∀ o, w4.cell? ⟨N, o, none⟩ = w2.cell? ⟨N, o, none⟩ := fun o => fin_cell (unhide HB4) (by have := unhide HZ2; omega) o)
          | (refine step_append_lies _ (by rfl) _ _ _ (by rfl) w.heap.size 50 i0 (.agg #[.int .u8 0, .int .i64 0, .int .u32 0, .int .u32 0, .int .u8 0, .slice none 0 0, .slice none 0 0, .slice none 0 0]) 8 104 Tryd.underlying25 hi hz0 hz1 hz2 rfl (by decide) (.slice sa j sc) j xs (by rfl) (ownsRow_below (unhide HX) (unhide HB5)) ⟨w4.heap.size, 0, none⟩ 1 1 (cel x (.slice s1 x.body.length t1) (.slice s2 x.els.length t2) (.slice c3 x.ls.length cb3)) (by rfl) (by rfl) (new_cel w4 x _ _ _ _) (cel_one x ⟨_, _, _, rfl⟩ ⟨_, _, _, rfl⟩ ⟨_, _, _, rfl⟩) (by omega) (by unfold maxLen; omega) (by omega) (Nat.le_trans (unhide HW) (unhide HB5).size) (w4.heap.size + 1) (by simp) ?_; intro gg capn w5 hown5 hgrow hat5 hlt5; have hk : ∀ o, w5.cell? ⟨N, o, none⟩ = w2.cell? ⟨N, o, none⟩ := fun o => (World.cell?_of_block (a := ⟨N, o, none⟩) (hgrow.block N (by have := (unhide HB5).size; have := unhide HNN; have := (unhide HB4).size; have := unhide HZ2; simp; omega) (fun e => by have := (unhide HS N e.symm).2; have := unhide HNN; omega))).trans ((fin_cell (one_alloc w4 _) (by have := (unhide HB4).size; have := unhide HZ2; omega) o).trans (fin_cell (unhide HB4) (by have := unhide HZ2; omega) o))))
      have hjl : (l.take j).length = j := by rw [List.length_take]; have := unhide HN; omega
      have hst := give_step (s := .slice sa j sc) (acc := l.take j) (i := x) (unhide HG) (by rw [hjl]; exact unhide HX) (unhide HIt) (unhide HS) (unhide HW) (Below.on (unhide HB0) (unhide HB3)) (unhide HB34) (by have := (unhide HB0).size; exact this) (by have := (unhide HB0).size; have := (unhide HB3).size; omega) (unhide HO3) (unhide HO4) (unhide H3) (by rw [hjl]; exact hown5) hgrow hat5
      rw [hjl, ← unhide HTk] at hst
      have hbb : Below w.heap.size w w5 := (Below.on (unhide HBel) (unhide HB5)).grown hgrow (Below.on (unhide HBel) (unhide HB5)).size fun k hk => (unhide HS k hk).1
      have HSt := hide hst; have HBB := hide hbb
      clear hjl hst hbb hk hown5 hgrow hat5 hlt5 g0 g1 g2 g3 g4 g5 g6 g7
      go_wp2
      go_roundw
      case rel => exact ⟨j + 1, by go_num, by omega, unhide HSt, unhide HBB⟩
      case measure => simp [intOf]; omega
    · obtain rfl : j = n := by omega
      clear hj hlt
      obtain ⟨sa, sc, rfl, _⟩ := hown.shape
      clear hown hbel
      go_wp2
      go_ret
      have : l.take j = l := by rw [← unhide HN]; exact List.take_length
      have q := unhide HOwn
      rw [this] at q
      refine ⟨.slice sa (l.take j).length sc, rfl, unhide HBel, ?_⟩
      rw [this]; exact q
end Ex
end Go.Proofs.YtjhmglefejclpaaDoor

/- The statements' count and large: a number, whatever the list; nothing old turns. -/
namespace Go.Proofs.YtjhmglefejclpaaDoor
open Go.RowKit
namespace Ex
set_option linter.unusedVariables false
attribute [local go_sem ↓] Go.wp_at_zero Go.wp_at_succ

def CtP (l : List Ins) : Prop := ∀ (g : Nat → Prop) (v : Value) (m d : Int) (w : World), Code w g l v → l.length ≤ 1099511627776 →  Sz 1099511627776 l →
  Calls Tryd.prog 23 #[v, .int .i64 m, .int .i64 d] w fun e w' => ∃ n, e = .returned (.int .i64 n) ∧ Below w.heap.size w w'

set_option maxRecDepth 100000 in
set_option maxHeartbeats 3200000 in
theorem ct_any (l : List Ins) : CtP l := by
  refine ind2 (P := CtP) (fun l ih => ?_) l
  intro g v m d w hv hm hsz
  obtain ⟨a, ca, rfl, hca, _, hA⟩ := hv
  have HA := hide hA; have HIh := hide ih; have HSz := hide (Sz_get hsz)
  clear hA ih hsz
  generalize hn : l.length = n at *
  have HN := hide hn; clear hn
  go_enter Tryd.func23, Tryd.ntmps23
  by_cases h1 : (n : Int) > m
  · go_wp2
    go_ret
    first | exact ⟨⟨_, rfl⟩, Below.refl _ _⟩ | exact ⟨_, rfl, Below.refl _ _⟩ | exact Below.refl _ _
  by_cases h2 : d > 80
  · go_wp2
    go_ret
    first | exact ⟨⟨_, rfl⟩, Below.refl _ _⟩ | exact ⟨_, rfl, Below.refl _ _⟩ | exact Below.refl _ _
  go_wp2_with fail
  clear h1 h2
  go_loopw [7, 8] (fun s c wr => ∃ (j : Nat) (k : Int), c = .int .i64 j ∧ s = .int .i64 k ∧ (j : Int) ≤ n ∧ Below w.heap.size w wr) (fun _ c _ => n - (intOf c).toNat)
  case atStart => exact ⟨0, n, rfl, rfl, by omega, Below.refl _ _⟩
  case round =>
    obtain ⟨j, k, rfl, rfl, hj, hbel⟩ := hrel
    have HBel := hide hbel
    by_cases hlt : (j : Int) < n
    · by_cases hk : k < m
      · have ja : j < l.length := by have := unhide HN; omega
        obtain ⟨ba, oa, rfl, hga, hla⟩ := unhide HA (by have := unhide HN; omega)
        have hmA : Moves w wr g g := moves_below hbel (fun _ _ h => h)
        have hba : ba < wr.heap.size := by have := Items_lt hla (by omega); have := hbel.size; omega
        have iA := ItemAt.move hmA (hbel.block ba (Items_lt hla (by omega))) (Items_get hla j ja)
        have hI := unhide HIh l[j] (List.getElem_mem ja)
        have hZ := unhide HSz l[j] (List.getElem_mem ja)
        generalize l[j] = x at *
        obtain ⟨vb, ve, vl, hc, h1, h2, h3⟩ := iA
        have H1 := hide h1; have H2 := hide h2
        obtain ⟨c1, cb1, rfl, _⟩ := h1
        obtain ⟨c2, cb2, rfl, _⟩ := h2
        obtain ⟨c3, cb3, rfl, _⟩ := h3
        obtain ⟨e0, e1, e2, e3, e4, e5, e6, e7⟩ := hc
        have qb : ∀ wx m d, Below wr.heap.size wr wx → Calls Tryd.prog 23 #[.slice c1 x.body.length cb1, .int .i64 m, .int .i64 d] wx fun e w' => ∃ n, e = .returned (.int .i64 n) ∧ Below wx.heap.size wx w' := fun wx m d hwx =>
          hI.1 g _ m d wx ((unhide H1).below hwx) hZ.1 hZ.2.2.2.1
        have qe : ∀ wx m d, Below wr.heap.size wr wx → Calls Tryd.prog 23 #[.slice c2 x.els.length cb2, .int .i64 m, .int .i64 d] wx fun e w' => ∃ n, e = .returned (.int .i64 n) ∧ Below wx.heap.size wx w' := fun wx m d hwx =>
          hI.2 g _ m d wx ((unhide H2).below hwx) hZ.2.1 hZ.2.2.2.2
        have QB := hide qb; have QE := hide qe; have HBa := hide hba
        have hll := hZ.2.2.1
        clear hmA hla hga hI hZ hbel qb qe hba e0 e1 e2 e3 e4 H1 H2
        generalize x.body.length = lb at *
        generalize x.els.length = le at *
        generalize x.ls.length = ll at *
        go_wp2_with fail
        go_region_held3 (fun w' => w'.cell? ⟨ba, oa + j * 8 + 5, none⟩ = some (.slice c1 lb cb1) ∧ w'.cell? ⟨ba, oa + j * 8 + 6, none⟩ = some (.slice c2 le cb2) ∧ w'.cell? ⟨ba, oa + j * 8 + 7, none⟩ = some (.slice c3 ll cb3))
          (first | go_keep | exact ⟨(hk2 _).trans e5, (hk2 _).trans e6, (hk2 _).trans e7⟩)
          (first
            | (go_at_call_of 23 (Value.slice c1 lb cb1); refine (unhide QB _ _ _ (below_drew wr)).mono ?_; rintro e w3 ⟨k1, rfl, hb3⟩; have HB3 := hide (Below.on (below_drew wr) hb3); clear hb3; have hk2 : ∀ o, w3.cell? ⟨ba, o, none⟩ = wr.cell? ⟨ba, o, none⟩ := fun o => fin_cell (unhide HB3) (unhide HBa) o)
            | (go_at_call_of 23 (Value.slice c2 le cb2); refine (unhide QE _ _ _ (unhide HB3)).mono ?_; rintro e w4 ⟨k2, rfl, hb4⟩; have HB4 := hide (Below.on (unhide HB3) hb4); clear hb4; have hk2 : ∀ o, w4.cell? ⟨ba, o, none⟩ = wr.cell? ⟨ba, o, none⟩ := fun o => fin_cell (unhide HB4) (unhide HBa) o))
        have HBB := hide (Below.on (unhide HBel) (unhide HB4))
        clear hk2 e5 e6 e7 HB3 HB4
        go_wp2
        go_roundw
        case rel => exact ⟨j + 1, _, by go_num, rfl, by omega, unhide HBB⟩
        case measure => simp [intOf]; omega
      · go_wp2
        go_ret
        first | exact ⟨⟨_, rfl⟩, unhide HBel⟩ | exact ⟨_, rfl, unhide HBel⟩ | exact unhide HBel
    · go_wp2
      go_ret
      first | exact ⟨⟨_, rfl⟩, unhide HBel⟩ | exact ⟨_, rfl, unhide HBel⟩ | exact unhide HBel
theorem large_any (l : List Ins) (g : Nat → Prop) (v : Value) (w : World) (hv : Code w g l v) (hm : l.length ≤ 1099511627776) (hs : Sz 1099511627776 l) :
    Calls Tryd.prog 9 #[v] w fun e w' => ∃ b, e = .returned (.bool b) ∧ Below w.heap.size w w' := by
  have q := fun m d => ct_any l g v m d w hv hm hs
  have Q := hide q
  obtain ⟨a, ca, rfl, hca, _, hA⟩ := hv
  clear hA q
  go_enter Tryd.func9, Tryd.ntmps9
  go_wp2_with fail
  refine (unhide Q _ _).mono ?_
  rintro e w3 ⟨k1, rfl, hb3⟩
  go_wp2
  go_ret
  first | exact ⟨⟨_, rfl⟩, hb3⟩ | exact ⟨_, rfl, hb3⟩ | exact hb3
end Ex
end Go.Proofs.YtjhmglefejclpaaDoor

/- append(own, bytes...): bytes of whatever slice, behind those of a row of the call's own. -/
namespace Go.Proofs.YtjhmglefejclpaaDoor
open Go.RowKit
set_option linter.unusedVariables false

theorem wpList_append_row {ops : Array Oper} {rest : List Oper} {o : Oper} {a : Act} {Q : Exit → Act → World → Prop} (w : World) (hgd : o.guard = none) (s x : Operand)
    (ho : o.op = .call { callee := .builtin .append, args := #[s, x], argTypes := #[27, 27] })
    (B : Nat) (v : Value) (n : Nat) (xs : List Int) (hs : a.eval s = v) (hown : w.ownsRow B 5 1 v n (xs.map (Value.int .u8)))
    (ao : Option Addr) (m c : Nat) (zs : List Int) (hx : a.eval x = .slice ao m c) (hrow : Row w ao m zs) (hnil : ao = none → c = 0) (hb : n + m ≤ 100000) (hB : B ≤ w.heap.size)
    (h : ∀ v' w', w'.ownsRow B 5 1 v' (n + m) ((xs ++ zs).map (Value.int .u8)) → Below B w w' → wpList Tryd.prog ops Q rest (a.put o.dst v') w') : wpList Tryd.prog ops Q (o :: rest) a w := by
  obtain ⟨i0, hi, hz0, hz1, hz2⟩ := info_parts Tryd.info5
  cases ao with
  | none =>
    have hm : m = 0 := by
      rcases Nat.eq_zero_or_pos m with h1 | h1
      · exact h1
      · obtain ⟨b, off, hc, _⟩ := hrow.2.2 h1; simp at hc
    subst hm
    have hzs : zs = [] := List.eq_nil_of_length_eq_zero hrow.1
    subst hzs
    have hc0 := hnil rfl
    subst hc0
    refine wpList_append_own_none hgd s x 27 ho B 5 i0 1 Tryd.underlying27 hi v n (xs.map (Value.int .u8)) hs hown hx ?_
    exact h v w (by simpa using hown) (Below.refl _ _)
  | some ad =>
    refine wpList_append_own w hgd s x 27 ho B 5 i0 (.int .u8 0) 1 1 Tryd.underlying27 hi hz0 hz1 hz2 rfl (by decide) v n (xs.map (Value.int .u8)) hs hown ad m c (zs.map (Value.int .u8)) hx (by simp [hrow.1]) ?_ (ints_oneCell _ _) (by unfold maxLen; omega) (by omega) hB ?_
    · intro j u hj
      simp at hj
      obtain ⟨z, hz, rfl⟩ := hj
      have hj2 : j < m := by have := (List.getElem?_eq_some_iff.1 hz).1; have := hrow.1; omega
      obtain ⟨b, off, he, _, hcell⟩ := hrow.2.2 (by omega)
      simp at he; subst he
      rw [addr_add, hcell j hj2]; simp [List.getD, hz]
    · intro v' w' hown' hgrow _
      exact h v' w' (by simpa using hown') ((Below.refl B w).grown hgrow hB (fun k hk => (hown.lt k hk).1))
end Go.Proofs.YtjhmglefejclpaaDoor

/- ExprBack's walk. -/
namespace Go.Proofs.YtjhmglefejclpaaDoor
open Go.RowKit
namespace Ex
set_option linter.unusedVariables false
set_option linter.unusedSimpArgs false

theorem wpList_append_far {ops : Array Oper} {rest : List Oper} {o : Oper} {a : Act} {Q : Exit → Act → World → Prop} (w : World) (hgd : o.guard = none) (s x : Operand)
    (ho : o.op = .call { callee := .builtin .append, args := #[s, x], argTypes := #[27, 27] })
    (B : Nat) (v : Value) (n : Nat) (xs : List Int) (hs : a.eval s = v) (hown : w.ownsRow B 5 1 v n (xs.map (Value.int .u8)))
    (ao : Option Addr) (m c : Nat) (zs : List Int) (hx : a.eval x = .slice ao m c) (hrow : Row w ao m zs) (hnil : ao = none → c = 0) (hb : n + m ≤ 1099511627776) (hB : B ≤ w.heap.size)
    (h : ∀ v' w', w'.ownsRow B 5 1 v' (n + m) ((xs ++ zs).map (Value.int .u8)) → Below B w w' → wpList Tryd.prog ops Q rest (a.put o.dst v') w') : wpList Tryd.prog ops Q (o :: rest) a w := by
  obtain ⟨i0, hi, hz0, hz1, hz2⟩ := info_parts Tryd.info5
  cases ao with
  | none =>
    have hm : m = 0 := by
      rcases Nat.eq_zero_or_pos m with h1 | h1
      · exact h1
      · obtain ⟨b, off, hc, _⟩ := hrow.2.2 h1; simp at hc
    subst hm
    have hzs : zs = [] := List.eq_nil_of_length_eq_zero hrow.1
    subst hzs
    have hc0 := hnil rfl
    subst hc0
    refine wpList_append_own_none hgd s x 27 ho B 5 i0 1 Tryd.underlying27 hi v n (xs.map (Value.int .u8)) hs hown hx ?_
    exact h v w (by simpa using hown) (Below.refl _ _)
  | some ad =>
    refine wpList_append_own w hgd s x 27 ho B 5 i0 (.int .u8 0) 1 1 Tryd.underlying27 hi hz0 hz1 hz2 rfl (by decide) v n (xs.map (Value.int .u8)) hs hown ad m c (zs.map (Value.int .u8)) hx (by simp [hrow.1]) ?_ (ints_oneCell _ _) (by unfold maxLen; omega) (by omega) hB ?_
    · intro j u hj
      simp at hj
      obtain ⟨z, hz, rfl⟩ := hj
      have hj2 : j < m := by have := (List.getElem?_eq_some_iff.1 hz).1; have := hrow.1; omega
      obtain ⟨b, off, he, _, hcell⟩ := hrow.2.2 (by omega)
      simp at he; subst he
      rw [addr_add, hcell j hj2]; simp [List.getD, hz]
    · intro v' w' hown' hgrow _
      exact h v' w' (by simpa using hown') ((Below.refl B w).grown hgrow hB (fun k hk => (hown.lt k hk).1))
theorem mayI_ls {d : Nat} {i : Ins} (h : mayI d i = true) : i.ls.length ≤ 257 ∧ (blk (fr i.op) = false → i.body = [] ∧ i.els = []) ∧ (blk (fr i.op) = true → may (d + 1) i.body = true ∧ may (d + 1) i.els = true) := by
  unfold mayI one at h
  simp only [Bool.and_eq_true] at h
  obtain ⟨⟨⟨_, hb⟩, ha⟩, hr⟩ := h
  unfold alo at ha
  have ha := of_decide_eq_true ha
  obtain ⟨_, _, a3, a4, a5⟩ := ha
  refine ⟨?_, fun hk => ?_, fun hk => ?_⟩
  · rcases a5 with h8 | h8
    · unfold bnd at hb
      rw [h8] at hb
      simp at hb
      omega
    · omega
  · have hk := of_decide_eq_false hk
    refine ⟨List.eq_nil_of_length_eq_zero ?_, List.eq_nil_of_length_eq_zero ?_⟩
    · rcases a3 with h | h | h
      · exact absurd (.inl h) hk
      · exact absurd (.inr h) hk
      · exact h.2
    · rcases a4 with h | h
      · exact absurd (.inr h) hk
      · exact h
  · rw [hk] at hr
    simp at hr
    exact ⟨hr.1.2, hr.2⟩
theorem Sz_may (l : List Ins) : ∀ d, may d l = true → cnt l ≤ 16384 → Sz 1099511627776 l := by
  refine ind2 (P := fun l => ∀ d, may d l = true → cnt l ≤ 16384 → Sz 1099511627776 l) (fun l ih d hm hc => ?_) l
  refine Sz_of fun i hi => ?_
  obtain ⟨q1, q2, q3⟩ := mayI_ls (may_get hm i hi)
  have hs := cnt_sub hi
  have h1 := cnt_len i.body
  have h2 := cnt_len i.els
  refine ⟨by omega, by omega, by omega, ?_, ?_⟩
  · cases hk : blk (fr i.op) with
    | true => exact (ih i hi).1 (d + 1) (q3 hk).1 (by omega)
    | false => rw [(q2 hk).1]; exact Sz_nil _
  · cases hk : blk (fr i.op) with
    | true => exact (ih i hi).2 (d + 1) (q3 hk).2 (by omega)
    | false => rw [(q2 hk).2]; exact Sz_nil _
/-- what is read may be encoded -/
theorem D_may {zs : List Int} (hz : ∀ z ∈ zs, 0 ≤ z ∧ z ≤ 255) (h : (D zs 0 0 0 false).e = 0) : Wf (D zs 0 0 0 false).v.1 ∧ mayB (D zs 0 0 0 false).v.1 = true ∧ (D zs 0 0 0 false).v.1.length ≤ 1099511627776 ∧ Sz 1099511627776 (D zs 0 0 0 false).v.1 ∧ (enc (D zs 0 0 0 false).v.1).length + 1 ≤ (D zs 0 0 0 false).at_ := by
  obtain ⟨g1, g2, g3, g4, g5, _⟩ := dec_good hz (zs.length + 1) 0 0 0 false (by omega) (by omega) h
  have hc : cnt (D zs 0 0 0 false).v.1 ≤ 16384 := by unfold D; omega
  have hl := cnt_len (D zs 0 0 0 false).v.1
  exact ⟨g1, mayB_of hc g2, by omega, Sz_may _ 0 g2 hc, by unfold D; omega⟩
end Ex
end Go.Proofs.YtjhmglefejclpaaDoor

/- Instructions that come in, one within another: opened into a list that lies in memory; how much it holds against the reading's own bulk. -/
namespace Go.Proofs.YtjhmglefejclpaaDoor
open Go.ChangeShapes Go.WideShapes Go.ChangeAt Go.RowKit
namespace Ex
set_option linter.unusedVariables false

/-- how much there is: instructions and labels -/
def wt : List Ins → Nat
  | [] => 0
  | ⟨_, _, _, _, _, b, e, ls⟩ :: r => 1 + ls.length + wt b + wt e + wt r
def wI (i : Ins) : Nat := 1 + i.ls.length + wt i.body + wt i.els
theorem wt_nil : wt [] = 0 := by rw [wt]
theorem wt_cons (i : Ins) (r : List Ins) : wt (i :: r) = wI i + wt r := by obtain ⟨op, n, al, of, re, b, e, ls⟩ := i; rw [wt]; rfl
theorem wt_len : ∀ l : List Ins, l.length ≤ wt l
  | [] => by simp
  | i :: r => by have := wt_len r; rw [wt_cons, List.length_cons]; unfold wI; omega
theorem wt_mem {i : Ins} : ∀ {l : List Ins}, i ∈ l → wI i ≤ wt l
  | x :: r, h => by
    rw [wt_cons]
    rcases List.mem_cons.1 h with rfl | h
    · omega
    · have := wt_mem h; omega
theorem cnt_wt (l : List Ins) : cnt l ≤ wt l := by
  refine ind (P := fun l => cnt l ≤ wt l) (by rw [cnt_nil]; exact Nat.zero_le _) ?_ l
  intro op n al of re b e ls r hb he hr
  rw [cnt_cons, wt_cons]
  unfold wI
  simp only
  omega
theorem Sz_wt {M : Nat} (l : List Ins) : wt l ≤ M → Sz M l := by
  refine ind2 (P := fun l => wt l ≤ M → Sz M l) (fun l ih h => ?_) l
  refine Sz_of fun i hi => ?_
  have h1 := wt_mem hi
  unfold wI at h1
  have h2 := wt_len i.body
  have h3 := wt_len i.els
  exact ⟨by omega, by omega, by omega, (ih i hi).1 (by omega), (ih i hi).2 (by omega)⟩
theorem wt_le {H : Type} : ∀ (l : List Ins) (ds : List (DataW H)), l.length = ds.length → (∀ j (hj : j < l.length) (hj' : j < ds.length), wI l[j] ≤ Rows.uptoBulk ds[j]) → wt l ≤ Rows.uptoBulkAll ds
  | [], ds, _, _ => by rw [wt_nil]; exact Nat.zero_le _
  | i :: r, [], h, _ => by simp at h
  | i :: r, d :: ds, h, hw => by
    have h0 : wI i ≤ Rows.uptoBulk d := hw 0 (by simp) (by simp)
    have h1 := wt_le r ds (by simpa using h) (fun j hj hj' => hw (j + 1) (by simpa using hj) (by simpa using hj'))
    have e : Rows.uptoBulkAll (d :: ds) = Rows.uptoBulk d + Rows.uptoBulkAll ds := by rw [Rows.uptoBulkAll]
    rw [wt_cons, e]; omega
theorem bulk_pos {H : Type} (d : DataW H) : 1 ≤ Rows.uptoBulk d := by
  cases d with
  | lit l => cases l <;> simp [Rows.uptoBulk]
  | _ => simp [Rows.uptoBulk]
theorem len_bulk {H : Type} : ∀ ds : List (DataW H), ds.length ≤ Rows.uptoBulkAll ds
  | [] => by simp
  | d :: ds => by
    have e : Rows.uptoBulkAll (d :: ds) = Rows.uptoBulk d + Rows.uptoBulkAll ds := by rw [Rows.uptoBulkAll]
    have := len_bulk ds
    have := bulk_pos d
    rw [e, List.length_cons]; omega
theorem cell_at {cs : List Value} {k n : Nat} {x : Value} (hl : cs.length = n) (hk : k < n) (h : (cs.drop k).take 1 = [x]) : cs[k]? = some x := by
  have h1 : ((cs.drop k).take 1)[0]? = some x := by rw [h]; rfl
  rw [List.getElem?_take_of_lt (by omega), List.getElem?_drop] at h1
  simpa using h1
/-- labels that came in -/
theorem open_labs {H : Type} {enc : TypeId × Value → H} {w : World} {base fuel : Nat} {cs : List Value} {x : DataW H × List MemPlace}
    (h : DataW.trod enc Tryd.prog w base (fun _ => true) true fuel 48 cs = some x) : ∃ (ls : List Int) (v : Value), cs = [v] ∧ Lies (fun _ => True) ls.length (Lab w ls) v ∧ (∀ z ∈ ls, 0 ≤ z ∧ z < 4294967296) ∧ ls.length + 1 ≤ Rows.uptoBulk x.1 := by
  rcases open_ints Tryd.underlying48 Tryd.underlying46 (by kernel_rfl) h with ⟨hcs, hx⟩ | ⟨a, len, cap, zs, hcs, _, hl, hm, hz, hx, hc, hw⟩
  · exact ⟨[], _, hcs, ⟨none, 0, rfl, Nat.le_refl _, fun _ => rfl, fun h => by simp at h⟩, by simp, by have := bulk_pos x.1; simpa using this⟩
  · have hzl : zs.length = cap := by simpa using hz
    have hlt : (zs.take len).length = len := by simp; omega
    refine ⟨zs.take len, .slice (some a) len cap, hcs, ⟨some a, cap, by rw [hlt], by omega, by simp, fun h0 => ?_⟩, fun z hzm => ?_, ?_⟩
    · obtain ⟨b, off, spot⟩ := a
      have h00 := hc 0 (by omega)
      have hspot : spot = none := by simpa [Addr.add] using World.cell?_spot h00
      subst hspot
      refine ⟨b, off, rfl, trivial, fun i hi => ?_⟩
      have := hc i (by omega)
      rw [addr_add] at this
      rw [this]; simp [List.getD, show i < len by omega]
    · have := bounds_u32 (hw z (List.mem_of_mem_take hzm)); omega
    · rw [hx]
      have e : Rows.uptoBulk (DataW.slice (lits .u32 (zs.take len)) (lits .u32 (zs.drop len)) : DataW H) = Rows.uptoBulkAll (H := H) (lits .u32 (zs.take len)) + Rows.uptoBulkAll (H := H) (lits .u32 (zs.drop len)) + 1 := by rw [Rows.uptoBulk]
      have h2 := len_bulk (H := H) (lits .u32 (zs.take len))
      have h3 : (lits (H := H) .u32 (zs.take len)).length = (zs.take len).length := by simp [lits]
      rw [e]; omega
/-- what an instruction's eight cells tell -/
def CelA (w : World) (a : Addr) (op n al of re : Int) (vb ve vl : Value) : Prop :=
  w.cell? (a.add 0) = some (.int .u8 op) ∧ w.cell? (a.add 1) = some (.int .i64 n) ∧ w.cell? (a.add 2) = some (.int .u32 al) ∧ w.cell? (a.add 3) = some (.int .u32 of) ∧
  w.cell? (a.add 4) = some (.int .u8 re) ∧ w.cell? (a.add 5) = some vb ∧ w.cell? (a.add 6) = some ve ∧ w.cell? (a.add 7) = some vl
def OpenC {H : Type} (enc : TypeId × Value → H) (w : World) (base fuel : Nat) : Prop :=
  ∀ cs x, DataW.trod enc Tryd.prog w base (fun _ => true) true fuel 22 cs = some x → ∃ (l : List Ins) (v : Value), cs = [v] ∧ Code w (fun _ => True) l v ∧ Wf l ∧ wt l ≤ Rows.uptoBulk x.1
theorem bulk_at {H : Type} : ∀ {ds : List (DataW H)} {i : Nat} {d : DataW H}, ds[i]? = some d → Rows.uptoBulk d ≤ Rows.uptoBulkAll ds
  | d0 :: ds, 0, d, h => by
    have e : Rows.uptoBulkAll (d0 :: ds) = Rows.uptoBulk d0 + Rows.uptoBulkAll ds := by rw [Rows.uptoBulkAll]
    simp at h; rw [e, h]; omega
  | d0 :: ds, i + 1, d, h => by
    have e : Rows.uptoBulkAll (d0 :: ds) = Rows.uptoBulk d0 + Rows.uptoBulkAll ds := by rw [Rows.uptoBulkAll]
    have := bulk_at (ds := ds) (i := i) (d := d) (by simpa using h)
    rw [e]; omega
theorem open_ins {H : Type} {enc : TypeId × Value → H} {w : World} {base fuel : Nat} {cs : List Value} {x : DataW H × List MemPlace} (ih : ∀ m, m < fuel → OpenC enc w base m)
    (h : DataW.trod enc Tryd.prog w base (fun _ => true) true fuel 55 cs = some x) :
    ∃ (i : Ins) (vb ve vl : Value), cs.length = 8 ∧ cs[0]? = some (.int .u8 i.op) ∧ cs[1]? = some (.int .i64 i.n) ∧ cs[2]? = some (.int .u32 i.al) ∧ cs[3]? = some (.int .u32 i.of) ∧ cs[4]? = some (.int .u8 i.re) ∧ cs[5]? = some vb ∧ cs[6]? = some ve ∧ cs[7]? = some vl ∧
      Code w (fun _ => True) i.body vb ∧ Code w (fun _ => True) i.els ve ∧ Lies (fun _ => True) i.ls.length (Lab w i.ls) vl ∧ WfI i ∧ wI i ≤ Rows.uptoBulk x.1 := by
  obtain ⟨xs, n, hfn, hx, hl, hlen, hf⟩ := DataW.trod_struct Tryd.underlying55 h
  have hl8 : cs.length = 8 := hl.trans (by kernel_rfl)
  have hxl : xs.length = 8 := hlen
  have g0 := hf 0 _ rfl
  have g1 := hf 1 _ rfl
  have g2 := hf 2 _ rfl
  have g3 := hf 3 _ rfl
  have g4 := hf 4 _ rfl
  have g5 := hf 5 _ rfl
  have g6 := hf 6 _ rfl
  have g7 := hf 7 _ rfl
  rw [List.getElem?_eq_getElem (by omega)] at g0 g1 g2 g3 g4 g5 g6 g7
  obtain ⟨op, e0, _, w0⟩ := DataW.trod_int Tryd.underlying5 g0
  obtain ⟨nn, e1, _, w1⟩ := DataW.trod_int Tryd.underlying2 g1
  obtain ⟨al, e2, _, w2⟩ := DataW.trod_int Tryd.underlying46 g2
  obtain ⟨of, e3, _, w3⟩ := DataW.trod_int Tryd.underlying46 g3
  obtain ⟨re, e4, _, w4⟩ := DataW.trod_int Tryd.underlying5 g4
  obtain ⟨lb, vb, e5, hb, hbw, hbb⟩ := ih n (by omega) _ _ g5
  obtain ⟨le, ve, e6, he, hew, heb⟩ := ih n (by omega) _ _ g6
  obtain ⟨ls, vl, e7, hls, hlw, hlb⟩ := open_labs g7
  have c8 : Tryd.prog.cellsOf 5 = 1 := by kernel_rfl
  have c64 : Tryd.prog.cellsOf 2 = 1 := by kernel_rfl
  have c32 : Tryd.prog.cellsOf 46 = 1 := by kernel_rfl
  have cI : Tryd.prog.cellsOf 22 = 1 := by kernel_rfl
  have cL : Tryd.prog.cellsOf 48 = 1 := by kernel_rfl
  have f0 : (cs.drop 0).take (Tryd.prog.cellsOf 5) = [.int .u8 op] := e0
  have f1 : (cs.drop 1).take (Tryd.prog.cellsOf 2) = [.int .i64 nn] := e1
  have f2 : (cs.drop 2).take (Tryd.prog.cellsOf 46) = [.int .u32 al] := e2
  have f3 : (cs.drop 3).take (Tryd.prog.cellsOf 46) = [.int .u32 of] := e3
  have f4 : (cs.drop 4).take (Tryd.prog.cellsOf 5) = [.int .u8 re] := e4
  have f5 : (cs.drop 5).take (Tryd.prog.cellsOf 22) = [vb] := e5
  have f6 : (cs.drop 6).take (Tryd.prog.cellsOf 22) = [ve] := e6
  have f7 : (cs.drop 7).take (Tryd.prog.cellsOf 48) = [vl] := e7
  rw [c8] at f0 f4
  rw [c64] at f1
  rw [c32] at f2 f3
  rw [cI] at f5 f6
  rw [cL] at f7
  have b0 := bounds_u8 w0; have b1 := bounds_i64 w1; have b2 := bounds_u32 w2; have b3 := bounds_u32 w3; have b4 := bounds_u8 w4
  refine ⟨⟨op, nn, al, of, re, lb, le, ls⟩, vb, ve, vl, hl8, cell_at hl8 (by omega) f0, cell_at hl8 (by omega) f1, cell_at hl8 (by omega) f2, cell_at hl8 (by omega) f3, cell_at hl8 (by omega) f4, cell_at hl8 (by omega) f5, cell_at hl8 (by omega) f6, cell_at hl8 (by omega) f7, hb, he, hls, ⟨⟨⟨b0.1, ?_⟩, ⟨b1.1, ?_⟩, ⟨b2.1, ?_⟩, ⟨b3.1, ?_⟩, ⟨b4.1, ?_⟩, hlw⟩, hbw, hew⟩, ?_⟩
  · show op ≤ 255; omega
  · show nn < 9223372036854775808; omega
  · show al < 4294967296; omega
  · show of < 4294967296; omega
  · show re ≤ 255; omega
  · rw [hx]
    match xs, hxl with
    | [y0, y1, y2, y3, y4, y5, y6, y7], _ =>
      simp only [List.getElem_cons_zero, List.getElem_cons_succ] at hbb heb hlb
      have p0 := bulk_pos y0.1
      show 1 + ls.length + wt lb + wt le ≤ _
      simp only [List.map_cons, List.map_nil, Rows.uptoBulk, Rows.uptoBulkAll]
      omega
theorem open_code {H : Type} {enc : TypeId × Value → H} {w : World} {base : Nat} (fuel : Nat) : OpenC enc w base fuel := by
  induction fuel using Nat.strongRecOn with
  | ind fuel ih =>
    intro cs x h
    rcases DataW.trod_slice Tryd.underlying22 h with ⟨hcs, hx⟩ | ⟨a, len, cap, elems, rest, n, hfn, hcs, hx, _, hl, hm, hel, hE, _, _⟩
    · exact ⟨[], _, hcs, ⟨none, 0, rfl, Nat.le_refl _, fun _ => rfl, fun h => by simp at h⟩, Wf_nil, by rw [wt_nil]; exact Nat.zero_le _⟩
    · have c8 : Tryd.prog.cellsOf 55 = 8 := by kernel_rfl
      rw [c8] at hE
      haveI : Inhabited Ins := ⟨⟨0, 0, 0, 0, 0, [], [], []⟩⟩
      obtain ⟨A, hA⟩ := Go.Deep.choose_lt (α := Ins) (n := len) (p := fun j i =>
          (∃ vb ve vl, CelA w (a.add (j * 8)) i.op i.n i.al i.of i.re vb ve vl ∧ Code w (fun _ => True) i.body vb ∧ Code w (fun _ => True) i.els ve ∧ Lies (fun _ => True) i.ls.length (Lab w i.ls) vl) ∧ WfI i ∧ ∀ d, (elems.map (·.1))[j]? = some d → wI i ≤ Rows.uptoBulk d) (fun j hj => by
        have h1 := hE j hj
        rw [List.getElem?_eq_getElem (show j < elems.length by omega)] at h1
        obtain ⟨cs', h2, h3⟩ := Option.bind_eq_some_iff.1 h1
        obtain ⟨_, _, hc⟩ := World.cells?_some h2
        obtain ⟨i, vb, ve, vl, hl8, e0, e1, e2, e3, e4, e5, e6, e7, q1, q2, q3, q4, q5⟩ := open_ins (fun m hm => ih m (by omega)) h3
        refine ⟨i, ⟨vb, ve, vl, ⟨(hc 0 (by omega)).trans e0, (hc 1 (by omega)).trans e1, (hc 2 (by omega)).trans e2, (hc 3 (by omega)).trans e3, (hc 4 (by omega)).trans e4, (hc 5 (by omega)).trans e5, (hc 6 (by omega)).trans e6, (hc 7 (by omega)).trans e7⟩, q1, q2, q3⟩, q4, fun d hd => ?_⟩
        rw [List.getElem?_map, List.getElem?_eq_getElem (show j < elems.length by omega)] at hd
        simp at hd
        rw [← hd]; exact q5)
      have hll : ((List.range len).map A).length = len := by simp
      refine ⟨(List.range len).map A, .slice (some a) len cap, hcs, ⟨some a, cap, by rw [hll], by omega, by simp, fun h0 => ?_⟩, Wf_of fun i hi => ?_, ?_⟩
      · obtain ⟨b, off, spot⟩ := a
        have hsp : spot = none := by
          obtain ⟨⟨_, _, _, hc0, _⟩, _⟩ := hA 0 (by omega)
          simpa [Addr.add] using World.cell?_spot hc0.1
        subst hsp
        refine ⟨b, off, rfl, trivial, Items_of fun j hj => ?_⟩
        obtain ⟨⟨vb, ve, vl, ⟨d0, d1, d2, d3, d4, d5, d6, d7⟩, q1, q2, q3⟩, _⟩ := hA j (by omega)
        have hAj : ((List.range len).map A)[j] = A j := by simp
        rw [hAj]
        simp only [addr_add, Nat.add_zero] at d0 d1 d2 d3 d4 d5 d6 d7
        exact ⟨vb, ve, vl, ⟨d0, d1, d2, d3, d4, d5, d6, d7⟩, q1, q2, q3⟩
      · obtain ⟨j, hj, rfl⟩ := List.getElem_of_mem hi
        have hAj : ((List.range len).map A)[j] = A j := by simp
        rw [hAj]; exact (hA j (by omega)).2.1
      · rw [hx]
        have h1 := wt_le ((List.range len).map A) (elems.map (·.1)) (by simp [hel]) (fun j hj hj' => by
          have hAj : ((List.range len).map A)[j] = A j := by simp
          rw [hAj]
          exact (hA j (by omega)).2.2 _ (List.getElem?_eq_getElem hj'))
        simp only [Rows.uptoBulk]
        omega
/-- an argument that is such a list -/
theorem open_arg {H : Type} {enc : TypeId × Value → H} {w : World} {a : Option Addr} {n c : Nat} {d : DataW H} {p : List MemPlace}
    (h : DataW.Trod enc Tryd.prog w 0 (fun _ => true) true 22 (.slice a n c) d p) : ∃ l : List Ins, Code w (fun _ => True) l (.slice a n c) ∧ Wf l ∧ wt l ≤ Rows.uptoBulk d := by
  obtain ⟨fuel, hf⟩ := h
  obtain ⟨l, v, hcs, h1, h2, h3⟩ := open_code fuel _ _ hf
  simp [Value.cells] at hcs
  subst hcs
  exact ⟨l, h1, h2, h3⟩
/-- an argument of bytes -/
theorem open_row {H : Type} {enc : TypeId × Value → H} {w : World} {a : Option Addr} {n c : Nat} {d : DataW H} {p : List MemPlace}
    (h : DataW.Trod enc Tryd.prog w 0 (fun _ => true) true 27 (.slice a n c) d p) : ∃ zs : List Int, Row w a n zs ∧ n ≤ c ∧ (a = none → c = 0) := by
  obtain ⟨fuel, hf⟩ := h
  rcases open_ints Tryd.underlying27 Tryd.underlying5 (by kernel_rfl) hf with ⟨hcs, _⟩ | ⟨x, len, cap, zs, hcs, _, hl, hm, hz, _, hc, hw⟩
  · simp [Value.cells] at hcs
    obtain ⟨rfl, rfl, rfl⟩ := hcs
    exact ⟨[], ⟨rfl, by simp, by simp⟩, Nat.le_refl _, fun _ => rfl⟩
  · simp [Value.cells] at hcs
    obtain ⟨rfl, rfl, rfl⟩ := hcs
    have hzl : zs.length = c := by simpa using hz
    refine ⟨zs.take n, ⟨by simp; omega, fun z hzm => ?_, fun h0 => ?_⟩, hl, by simp⟩
    · have := bounds_u8 (hw z (List.mem_of_mem_take hzm)); omega
    · obtain ⟨b, off, spot⟩ := x
      have h00 := hc 0 (by omega)
      have hspot : spot = none := by simpa [Addr.add] using World.cell?_spot h00
      subst hspot
      have hlt : b < w.heap.size := by
        have h1 : w.cell? ⟨b, off, none⟩ = some (.int .u8 (zs.getD 0 0)) := by simpa [Addr.add] using h00
        exact block_lt_of_cell h1
      refine ⟨b, off, rfl, hlt, fun i hi => ?_⟩
      have := hc i (by omega)
      rw [addr_add] at this
      rw [this]; simp [List.getD, hi]
theorem small_of {H : Type} {ds : List (DataW H)} (h : Rows.uptoSmall H ds = true) : Rows.uptoBulkAll ds ≤ 1048576 := of_decide_eq_true h
end Ex
end Go.Proofs.YtjhmglefejclpaaDoor

/- ExprBack's walk, whole. -/
namespace Go.Proofs.YtjhmglefejclpaaDoor
open Go.RowKit
namespace Ex
set_option linter.unusedVariables false
set_option linter.unusedSimpArgs false

set_option maxRecDepth 100000 in
set_option maxHeartbeats 6400000 in
theorem eback_any {v : Value} {l : List Ins} {a1 a2 : Option Addr} {n1 c1 n2 c2 : Nat} {ys zs : List Int} {w : World} (hv : Code w (fun _ => True) l v) (hw : Wf l) (hwt : wt l ≤ 1048576) (h1 : Row w a1 n1 ys) (k1 : n1 ≤ c1) (z1 : a1 = none → c1 = 0) (h2 : Row w a2 n2 zs) (k2 : n2 ≤ c2) (z2 : a2 = none → c2 = 0) (hE : ErrT w) (hT : Tb w) :
    Calls Tryd.prog 5 #[v, .slice a1 n1 c1, .slice a2 n2 c2] w fun e w' => e = .returned (.bool true) ∧ Below w.heap.size w w' := by
  have hll : l.length ≤ 1099511627776 := by have := wt_len l; omega
  have hsz : Sz 1099511627776 l := Sz_wt l (by omega)
  have hlg := large_any l _ v w hv hll hsz
  have hsu := fun wx (hb : Below w.heap.size w wx) => sure_any wx (hT.below hb) (hE.below (Nat.le_refl _) hb)
  have HLg := hide hlg; have HSu := hide hsu; have HV := hide hv; have H1 := hide h1; have H2 := hide h2; have HE := hide hE; have HT := hide hT; have HLl := hide hll; have HSz := hide hsz; have HW := hide hw
  have HZ1 := hide z1; have HZ2 := hide z2
  obtain ⟨va, vc, rfl, _⟩ := hv
  clear hlg hsu h1 h2 hE hT hll hsz hw z1 z2 hwt
  generalize hln : l.length = ln at *
  have HLn := hide hln; clear hln
  go_enter Tryd.func5, Tryd.ntmps5
  go_wp2_with fail
  refine (unhide HLg).mono ?_
  rintro e w1 ⟨b, rfl, hb1⟩
  have HB1 := hide hb1; clear hb1 HLg
  cases b with
  | true =>
    go_wp2_with fail
    refine (unhide HSu _ (unhide HB1)).mono ?_
    rintro e w9 ⟨rfl, hb9⟩
    have HB9 := hide (Below.on (unhide HB1) hb9); clear hb9
    go_wp2
    go_ret
    exact ⟨rfl, unhide HB9⟩
  | false =>
    by_cases g1 : n1 ≤ 3000
    · have g1z : ¬ ((3000 : Int) < (n1 : Int)) := by omega
      have g1b : decide (3000 < n1) = false := decide_eq_false (by omega)
      by_cases g2 : n2 ≤ 100
      · have g2z : ¬ ((100 : Int) < (n2 : Int)) := by omega
        have g2b : decide (100 < n2) = false := decide_eq_false (by omega)
        have hgv := give_any l (· < w1.heap.size) (.slice va ln vc) w1 (fun k h => h) (((unhide HV).below (unhide HB1)).any (fun k hk _ => hk)) (by have := unhide HLn; have := unhide HLl; omega) (unhide HSz)
        have HGv := hide hgv; clear hgv
        go_wp2_with fail
        refine (unhide HGv).mono ?_
        rintro e w2 ⟨v2, rfl, hb2, hown⟩
        have hc2 : Code w2 (fun _ => True) l v2 := hown.code fun _ _ _ => trivial
        have HB2 := hide (Below.on (unhide HB1) hb2)
        have hen := encode_any l hc2 ((unhide HT).below (unhide HB2)) (by have := unhide HLn; have := unhide HLl; omega) (unhide HSz) (unhide HW)
        have HEn := hide hen; have HC2 := hide hc2
        obtain ⟨oa, oc, rfl, _⟩ := hc2
        clear hb2 hown hen HGv
        rw [unhide HLn] at HC2 HEn ⊢
        go_wp2_with fail
        refine (unhide HEn).mono ?_
        rintro e w3 ⟨ca, cl, cc, rfl, hb3, hy, hn⟩
        have HB3 := hide (Below.on (unhide HB2) hb3); have HC3 := hide ((unhide HC2).below hb3)
        clear hb3 HEn HC2
        cases hmb : mayB l with
        | false =>
          rw [hmb] at hy hn
          try rw [hmb]
          obtain ⟨rfl, rfl, rfl⟩ := hn rfl
          clear hy hn
          have HBx := HB3
          rw [if_neg (by decide), errV_1]
          have hdb := decode_any (a := a1) (len := n1) (cap := c1) (zs := ys) ⟨(unhide H1).below (Nat.le_refl _) (unhide HBx), unhide HZ1, k1, by omega⟩ ((unhide HT).below (unhide HBx))
          have hfw := (D_bd ys 0 0 0 false (Nat.zero_le _)).2
          have hgd := fun h => D_may (unhide H1).2.1 h
          have hyl := (unhide H1).1
          obtain ⟨R, hR⟩ : ∃ R, D ys 0 0 0 false = R := ⟨_, rfl⟩
          rw [hR] at hdb hfw hgd
          have hat : (R.at_ : Int) ≤ (n1 : Int) := by omega
          have hat0 : (0 : Int) ≤ (R.at_ : Int) := by omega
          have hat1 : R.at_ ≤ n1 := by omega
          have HDb := hide hdb; have HGd := hide hgd
          clear hdb hfw hgd hyl hR
          go_wp2_with fail
          refine (unhide HDb).mono ?_
          rintro e w6 ⟨v6, rfl, _, hb6, hy6, hn6⟩
          have HB6 := hide (Below.on (unhide HBx) hb6)
          by_cases he : R.e = 0
          · rw [he, errV_0]
            have hc6 := hy6 he
            obtain ⟨q1, q2, q3, q4, q5⟩ := unhide HGd he
            have hen6 := encode_any R.v.1 hc6 ((unhide HT).below (unhide HB6)) q3 q4 q1
            have hck6 := fun wx (hb : Below w6.heap.size w6 wx) => check_any R.v.1 (hc6.below hb) (((unhide HT).below (unhide HB6)).below hb) q3 q4 q1
            unfold EncPost at hen6
            rw [q2, if_pos rfl, errV_0] at hen6
            rw [q2, if_pos rfl, errV_0] at hck6
            obtain ⟨xa, xc, rfl, _⟩ := hc6
            have HEn6 := hide hen6; have HCk6 := hide hck6
            clear hen6 hck6 hb6 hy6 hn6 HDb q1 q3 q4 q2
            go_wp2_with fail
            refine (unhide HEn6).mono ?_
            rintro e w7 ⟨da, dl, dc, rfl, hb7, hy7, _⟩
            have hdl : dl = (enc R.v.1).length + 1 := by have := (hy7 (by first | trivial | rfl)).row.1; simp at this; omega
            have hdz : (dl : Int) ≤ (R.at_ : Int) := by omega
            have hdn : dl ≤ R.at_ := by omega
            have HB67 := hide hb7
            have HB7 := hide (Below.on (unhide HB6) hb7)
            clear hb7 hy7 hdl q5
            go_wp2_with fail
            refine (unhide HCk6 _ (unhide HB67)).mono ?_
            rintro e w8 ⟨rfl, hb8⟩
            have HB8 := hide (Below.on (unhide HB7) hb8); clear hb8
            go_wp2_with fail
            refine (unhide HSu _ (unhide HB8)).mono ?_
            rintro e w9 ⟨rfl, hb9⟩
            have HB9 := hide (Below.on (unhide HB8) hb9); clear hb9
            go_wp2
            go_ret
            exact ⟨rfl, unhide HB9⟩
          · rw [errV_pos he, hn6 he]
            clear hb6 hy6 hn6 HDb HGd
            go_wp2_with fail
            refine (unhide HSu _ (unhide HB6)).mono ?_
            rintro e w9 ⟨rfl, hb9⟩
            have HB9 := hide (Below.on (unhide HB6) hb9); clear hb9
            go_wp2
            go_ret
            exact ⟨rfl, unhide HB9⟩
        | true =>
          rw [hmb] at hy hn
          have hbs := hy rfl
          obtain ⟨hcn, hmy⟩ := mayB_parts hmb
          have hel := enc_len l 0 hmy
          have HBs := hide hbs
          have hclz : cl = (enc l).length + 1 := by have := hbs.row.1; simp at this; omega
          try rw [hmb]
          rw [if_pos rfl, errV_0]
          subst hclz
          have hcnil := hbs.nil
          have HB0 := hide hbs.row
          have hEl : (enc l).length ≤ 47513600 := by omega
          have hMy := hide hmy; have hCn := hide hcn
          clear hy hn hbs HBs hmb hel hmy hcn
          have hbyz : ∀ z ∈ enc l ++ [11] ++ zs, 0 ≤ z ∧ z ≤ 255 := by
            intro z hz
            rcases List.mem_append.1 hz with h | h
            · exact (unhide HB0).2.1 z h
            · exact (unhide H2).2.1 z h
          obtain ⟨EL, hEL⟩ : ∃ EL, enc l ++ [11] = EL := ⟨_, rfl⟩
          rw [hEL] at hbyz HB0
          have HByz := hide hbyz; have HEL := hide hEL; clear hbyz hEL
          go_wp2_with (at_builtin; go_loud (refine wpList_append_far _ rfl (.tmp 41) (.tmp 42) rfl w3.heap.size (.slice none 0 0) 0 [] rfl (World.ownsRow_nil _ _ _ _) ca ((enc l).length + 1) cc EL rfl (unhide HB0) hcnil (by omega) (Nat.le_refl _) ?_))
          intro v4 w4 hown4 hb4
          have HB34 := hide hb4
          have ho4 : w4.ownsRow w3.heap.size 5 1 v4 ((enc l).length + 1) (EL.map (Value.int .u8)) := by simpa using hown4
          have HO4 := hide ho4
          clear hown4 ho4 hb4
          go_wp2_with (at_builtin; go_loud (refine wpList_append_far _ rfl (.tmp 43) (.tmp 44) rfl w3.heap.size v4 ((enc l).length + 1) EL rfl (unhide HO4) a2 n2 c2 zs rfl ((unhide H2).below (Nat.le_refl _) (Below.on (unhide HB3) (unhide HB34))) (unhide HZ2) (by omega) (unhide HB34).size ?_))
          intro v5 w5 hown5 hb5
          have HB35 := hide ((unhide HB34).trans hb5)
          have ho5 : w5.ownsRow w3.heap.size 5 1 v5 ((enc l).length + 1 + n2) ((EL ++ zs).map (Value.int .u8)) := by first | exact hown5 | simpa using hown5
          have hpos : 1 ≤ (enc l).length + 1 + n2 := by omega
          obtain ⟨g5, c5, rfl, hr5, hc5, _⟩ := own_shape ho5 hpos (unhide HByz)
          have hd5 := decode_any (w := w5) (a := some ⟨g5, 0, none⟩) (len := (enc l).length + 1 + n2) (cap := c5) (zs := EL ++ zs) ⟨hr5, by simp, hc5, by omega⟩ ((unhide HT).below (Below.on (unhide HB3) (unhide HB35)))
          rw [← unhide HEL] at hd5
          have hbk := back_any l (enc l ++ [11] ++ zs) 0 0 0 false 11 zs (unhide hMy) (by have := unhide hCn; omega) (unhide HW) (by simp) (.inl rfl)
          rw [hbk] at hd5
          simp only [Nat.zero_add] at hd5
          have HD5 := hide hd5
          have HC5 := hide ((unhide HC3).below (unhide HB35))
          have HB5 := hide (Below.on (unhide HB3) (unhide HB35))
          clear hown5 ho5 hpos hb5 hr5 hd5 hbk HO4 HB34
          go_wp2_with fail
          refine (unhide HD5).mono ?_
          rintro e w6 ⟨v6, rfl, _, hb6, hy6, _⟩
          rw [show errV (⟨0, (enc l).length + 1, cnt l, (l, 11)⟩ : Out (List Ins × Int)).e = .nilIface from errV_0]
          have hc6 := hy6 rfl
          have hsa := same_any l l _ _ _ _ w6 hc6 ((unhide HC5).below hb6) (by have := unhide HLn; have := unhide HLl; omega) (unhide HSz) (by have := unhide HLn; have := unhide HLl; omega) (unhide HSz)
          rw [same_refl] at hsa
          obtain ⟨xa6, xc6, rfl, _⟩ := hc6
          have HB6' := hide (Below.on (unhide HB5) hb6); have HSa := hide hsa
          clear hb6 hy6 hsa HD5 HC5
          go_wp2_with fail
          refine (unhide HSa).mono ?_
          rintro e w7 ⟨rfl, hb7⟩
          have HBx := hide (Below.on (unhide HB6') hb7)
          clear hb7 HSa
          have hdb := decode_any (a := a1) (len := n1) (cap := c1) (zs := ys) ⟨(unhide H1).below (Nat.le_refl _) (unhide HBx), unhide HZ1, k1, by omega⟩ ((unhide HT).below (unhide HBx))
          have hfw := (D_bd ys 0 0 0 false (Nat.zero_le _)).2
          have hgd := fun h => D_may (unhide H1).2.1 h
          have hyl := (unhide H1).1
          obtain ⟨R, hR⟩ : ∃ R, D ys 0 0 0 false = R := ⟨_, rfl⟩
          rw [hR] at hdb hfw hgd
          have hat : (R.at_ : Int) ≤ (n1 : Int) := by omega
          have hat0 : (0 : Int) ≤ (R.at_ : Int) := by omega
          have hat1 : R.at_ ≤ n1 := by omega
          have HDb := hide hdb; have HGd := hide hgd
          clear hdb hfw hgd hyl hR
          go_wp2_with fail
          refine (unhide HDb).mono ?_
          rintro e u6 ⟨v6, rfl, _, hb6, hy6, hn6⟩
          have HB6b := hide (Below.on (unhide HBx) hb6)
          by_cases he : R.e = 0
          · rw [he, errV_0]
            have hc6 := hy6 he
            obtain ⟨q1, q2, q3, q4, q5⟩ := unhide HGd he
            have hen6 := encode_any R.v.1 hc6 ((unhide HT).below (unhide HB6b)) q3 q4 q1
            have hck6 := fun wx (hb : Below u6.heap.size u6 wx) => check_any R.v.1 (hc6.below hb) (((unhide HT).below (unhide HB6b)).below hb) q3 q4 q1
            unfold EncPost at hen6
            rw [q2, if_pos rfl, errV_0] at hen6
            rw [q2, if_pos rfl, errV_0] at hck6
            obtain ⟨xa, xc, rfl, _⟩ := hc6
            have HEn6 := hide hen6; have HCk6 := hide hck6
            clear hen6 hck6 hb6 hy6 hn6 HDb q1 q3 q4 q2
            go_wp2_with fail
            refine (unhide HEn6).mono ?_
            rintro e u7 ⟨da, dl, dc, rfl, hb7, hy7, _⟩
            have hdl : dl = (enc R.v.1).length + 1 := by have := (hy7 (by first | trivial | rfl)).row.1; simp at this; omega
            have hdz : (dl : Int) ≤ (R.at_ : Int) := by omega
            have hdn : dl ≤ R.at_ := by omega
            have HB67 := hide hb7
            have HB7 := hide (Below.on (unhide HB6b) hb7)
            clear hb7 hy7 hdl q5
            go_wp2_with fail
            refine (unhide HCk6 _ (unhide HB67)).mono ?_
            rintro e u8 ⟨rfl, hb8⟩
            have HB8 := hide (Below.on (unhide HB7) hb8); clear hb8
            go_wp2_with fail
            refine (unhide HSu _ (unhide HB8)).mono ?_
            rintro e u9 ⟨rfl, hb9⟩
            have HB9 := hide (Below.on (unhide HB8) hb9); clear hb9
            go_wp2
            go_ret
            exact ⟨rfl, unhide HB9⟩
          · rw [errV_pos he, hn6 he]
            clear hb6 hy6 hn6 HDb HGd
            go_wp2_with fail
            refine (unhide HSu _ (unhide HB6b)).mono ?_
            rintro e u9 ⟨rfl, hb9⟩
            have HB9 := hide (Below.on (unhide HB6b) hb9); clear hb9
            go_wp2
            go_ret
            exact ⟨rfl, unhide HB9⟩
      · have g2z : (100 : Int) < (n2 : Int) := by omega
        have g2b : decide (100 < n2) = true := decide_eq_true (by omega)
        go_wp2_with fail
        refine (unhide HSu _ (unhide HB1)).mono ?_
        rintro e w9 ⟨rfl, hb9⟩
        have HB9 := hide (Below.on (unhide HB1) hb9); clear hb9
        go_wp2
        go_ret
        exact ⟨rfl, unhide HB9⟩
    · have g1z : (3000 : Int) < (n1 : Int) := by omega
      have g1b : decide (3000 < n1) = true := decide_eq_true (by omega)
      go_wp2_with fail
      refine (unhide HSu _ (unhide HB1)).mono ?_
      rintro e w9 ⟨rfl, hb9⟩
      have HB9 := hide (Below.on (unhide HB1) hb9); clear hb9
      go_wp2
      go_ret
      exact ⟨rfl, unhide HB9⟩
end Ex
end Go.Proofs.YtjhmglefejclpaaDoor

/- From the rows' condition on ops' tables to what the walks ask of them. -/
namespace Go.Proofs.YtjhmglefejclpaaDoor
open Go.RowKit
set_option linter.unusedVariables false

theorem tc_of_head {P : Program} {W : World} {name : String} {d : DataW Unit} {rest : List (String × DataW Unit)} {g : Nat} {t : TypeId}
    (hg : P.globalNamed name = some g) (hty : (P.globals[g]?).map (·.type) = some t) (h : laidMet P ((name, d) :: rest) W) {vs : List Value}
    (hc : ∀ fuel (xs : List Value) p, DataW.trod (fun _ => ()) P W 0 (fun _ => true) false fuel t xs = some (d, p) → xs = vs) : TC W g vs := by
  obtain ⟨ps, ⟨g', t', cs', fuel, p, q, hg', ht', hvar, hd, _, _⟩, _⟩ := h
  obtain rfl := Option.some.inj (hg.symm.trans hg')
  obtain rfl := Option.some.inj (hty.symm.trans ht')
  have e := hc _ _ _ hd
  simp only [World.var?, hg, Option.bind_some] at hvar
  split at hvar
  · rename_i cs t fr hh
    obtain rfl := Option.some.inj hvar
    subst e
    exact ⟨(Array.getElem?_eq_some_iff.1 hh).1, t, fr, hh⟩
  · cases hvar

theorem flat_one {α : Type} (f : α → Value) : ∀ l : List α, (l.flatMap fun s => [f s]) = l.map f
  | [] => rfl
  | a :: l => by rw [List.flatMap_cons, flat_one f l]; rfl
theorem ts_of_tc {W : World} {g : Nat} {l : List (List UInt8)} (h : TC W g (l.flatMap fun s => [Value.string (str s)])) : TS W g l := by
  obtain ⟨_, t, fr, hr⟩ := h
  intro j s hj
  rw [cell_of_row W g j _ _ _ hr, flat_one]
  simp [hj]

theorem fam_of_trod {W : World} (fuel : Nat) (xs : List Value) (x : Fam) (p : List MemPlace)
    (h : DataW.trod (fun _ => ()) Tryd.prog W 0 (fun _ => true) false fuel 149 xs = some (.agg [.lit (.int .u8 x.f), .lit (.int .u8 x.l), .lit (.int .i64 x.o), .lit (.int .u8 x.x), .lit (.int .u8 x.y), .lit (.int .u8 x.g)], p)) : xs = fmC x := by
  obtain ⟨fs, hfs⟩ : ∃ fs, Tryd.prog.underlying 149 = some (.struct fs) := ⟨_, Tryd.underlying149⟩
  have hty : (Tryd.prog.underlying 149).map (fun d => match d with | .struct fs => fs.toList.map (fun f => (f.type, f.offset)) | _ => []) = some [(5, 0), (5, 1), (3, 2), (47, 3), (47, 4), (47, 5)] := by kernel_rfl
  rw [hfs] at hty
  simp only [Option.map_some, Option.some.injEq] at hty
  obtain ⟨ys, k, rfl, hx, hlen, hyl, hall⟩ := DataW.trod_struct hfs h
  rw [show Tryd.prog.cellsOf 149 = 6 by kernel_rfl] at hlen
  have hm : ys.map (·.1) = [DataW.lit (.int .u8 x.f), .lit (.int .u8 x.l), .lit (.int .i64 x.o), .lit (.int .u8 x.x), .lit (.int .u8 x.y), .lit (.int .u8 x.g)] := by
    have := congrArg Prod.fst hx
    simpa using this.symm
  have key : ∀ (i : Nat) (t : TypeId) (kd : IntKind) (z : Int), (fs.toList.map (fun f => (f.type, f.offset)))[i]? = some (t, i) → Tryd.prog.underlying t = some (.int kd) → Tryd.prog.cellsOf t = 1 → (ys.map (·.1))[i]? = some (DataW.lit (.int kd z)) → xs[i]? = some (.int kd z) := by
    intro i t kd z e1 e2 e3 e4
    simp only [List.getElem?_map, Option.map_eq_some_iff] at e1 e4
    obtain ⟨f, hf, hft⟩ := e1
    obtain ⟨y, hy, hy1⟩ := e4
    have h1 := hall i f (by simpa using hf)
    have ht : f.type = t := congrArg Prod.fst hft
    have ho : f.offset = i := congrArg Prod.snd hft
    rw [ht, ho, e3, hy] at h1
    obtain ⟨y1, y2⟩ := y
    simp only at hy1
    subst hy1
    have := int_of_trod e2 _ _ _ _ h1
    have := congrArg (·[0]?) this
    simpa [List.getElem?_take, List.getElem?_drop] using this
  have u8 : Tryd.prog.underlying 5 = some (.int .u8) := by kernel_rfl
  have ui : Tryd.prog.underlying 3 = some (.int .i64) := by kernel_rfl
  have uk : Tryd.prog.underlying 47 = some (.int .u8) := by kernel_rfl
  have s8 : Tryd.prog.cellsOf 5 = 1 := by kernel_rfl
  have si : Tryd.prog.cellsOf 3 = 1 := by kernel_rfl
  have sk : Tryd.prog.cellsOf 47 = 1 := by kernel_rfl
  rw [hty, hm] at key
  have k0 := key 0 _ _ _ rfl u8 s8 rfl
  have k1 := key 1 _ _ _ rfl u8 s8 rfl
  have k2 := key 2 _ _ _ rfl ui si rfl
  have k3 := key 3 _ _ _ rfl uk sk rfl
  have k4 := key 4 _ _ _ rfl uk sk rfl
  have k5 := key 5 _ _ _ rfl uk sk rfl
  clear key hall hx h hm hty hfs
  match xs, hlen with
  | [a, b, c, d, e, f], _ =>
    simp at k0 k1 k2 k3 k4 k5
    subst k0 k1 k2 k3 k4 k5
    rfl

theorem floats_laid {W : World} {rest : List (String × DataW Unit)} (h : laidMet Tryd.prog (("mandrel/ops.floats", Rows.laid_mandrel_ops_floats) :: rest) W) : TC W 1 flV := by
  have h' : laidMet Tryd.prog (("mandrel/ops.floats", .agg (fls.map fun x => .agg ([x.1, x.2].map fun z => .lit (.int .u8 z)))) :: rest) W := h
  exact tc_of_head (t := 156) (by kernel_rfl) (by kernel_rfl) h' fun fuel xs p hp => cells_of_arr (n := 7) (e := 155) (m := 2) (fun x : Int × Int => .agg ([x.1, x.2].map fun z => .lit (.int .u8 z))) (fun x => [Value.int .u8 x.1, Value.int .u8 x.2])
    (fun fuel2 ys a q hq => cells_of_arr (n := 2) (fun z : Int => .lit (.int .u8 z)) (fun z => [Value.int .u8 z]) (int_of_trod (e := 5) (by kernel_rfl)) (by kernel_rfl) (m := 1) (by kernel_rfl) (by kernel_rfl) hq) (by kernel_rfl) (by kernel_rfl) (by kernel_rfl) hp
theorem families_laid {W : World} {rest : List (String × DataW Unit)} (h : laidMet Tryd.prog (("mandrel/ops.families", Rows.laid_mandrel_ops_families) :: rest) W) : TC W 2 fmV := by
  have h' : laidMet Tryd.prog (("mandrel/ops.families", .agg (fms.map fun x => .agg [.lit (.int .u8 x.f), .lit (.int .u8 x.l), .lit (.int .i64 x.o), .lit (.int .u8 x.x), .lit (.int .u8 x.y), .lit (.int .u8 x.g)])) :: rest) W := h
  exact tc_of_head (t := 164) (by kernel_rfl) (by kernel_rfl) h' fun fuel xs p hp => cells_of_arr (n := 32) (e := 149) (m := 6) (fun x : Fam => .agg [.lit (.int .u8 x.f), .lit (.int .u8 x.l), .lit (.int .i64 x.o), .lit (.int .u8 x.x), .lit (.int .u8 x.y), .lit (.int .u8 x.g)]) fmC
    fam_of_trod (by kernel_rfl) (by kernel_rfl) (by kernel_rfl) hp
end Go.Proofs.YtjhmglefejclpaaDoor

/- From the rows' condition on errors.errorType (beside other variables) to the variable's cell. After the guide's worked toy of errors.As. -/
namespace Go.Proofs.YtjhmglefejclpaaDoor
open Go.ChangeShapes Go.WideShapes Go.RowKit

theorem hownKnob : ownKnob Tryd.prog.godebug = none := by kernel_rfl
theorem het : Tryd.prog.globalNamed "errors.errorType" = some 0 := by kernel_rfl
theorem honeRow : ((List.range 211).filter fun t => Tryd.prog.rowNamed t [101, 114, 114, 111, 114]) = [29] := by kernel_rfl
theorem hsize : Tryd.prog.types.size = 211 := by kernel_rfl

theorem handle_of_met {W : World} (h : handlesMet Tryd.prog [("errors.errorType", Rows.laid_errors_errorType)] W) : ErrT W := by
  obtain ⟨name, u, ty, e1, e2, e3, e4, e5⟩ := h _ (List.mem_singleton.2 rfl)
  have en : name = [101, 114, 114, 111, 114] := (Option.some.inj e1).symm
  subst en
  obtain rfl : 116 = u := Option.some.inj (Eq.trans (by kernel_rfl) e2)
  have hm : ty ∈ (List.range 211).filter fun t => Tryd.prog.rowNamed t [101, 114, 114, 111, 114] := List.mem_filter.2 ⟨List.mem_range.2 (by rw [← hsize]; exact e3), e4⟩
  rw [honeRow] at hm
  obtain rfl := List.mem_singleton.1 hm
  have hh : typeHandle Tryd.prog 29 = .pointer (some ⟨3, 29, none⟩) := by kernel_rfl
  rw [hh] at e5
  have := World.var?_cell het e5 0
  unfold ErrT
  simpa using this
end Go.Proofs.YtjhmglefejclpaaDoor

/- ExprBack returns true for every list of instructions and every two slices of bytes that hold together at most 1048576 values, and leaves them: instructions that may be are decoded as themselves, whatever stands behind; what is decoded may be, and has no fewer bytes than it needs. Of ops' tables and of errors.errorType it takes what the program's text lays (the card ties it). -/
namespace Go.Proofs.YtjhmglefejclpaaDoor.exprBack
open Go.ChangeShapes Go.WideShapes Go.ChangeAt Go.RowKit
set_option linter.unusedVariables false

theorem own : ownKnob Tryd.prog.godebug = none := by kernel_rfl
theorem laidOut : laidOutB Tryd.prog = true := by kernel_rfl

theorem walk (a0 : Option Addr) (n0 c0 : Nat) (l0 : List Ex.Ins) (a1 : Option Addr) (n1 c1 : Nat) (z1 : List Int) (a2 : Option Addr) (n2 c2 : Nat) (z2 : List Int) (w : World) (hErr : ErrT w) (hTb : Tb w) (h0 : Ex.Code w (fun _ => True) l0 (.slice a0 n0 c0)) (f0 : Ex.Wf l0) (b0 : Ex.wt l0 ≤ 1048576) (r1 : Row w a1 n1 z1) (k1 : n1 ≤ c1) (e1 : a1 = none → c1 = 0) (r2 : Row w a2 n2 z2) (k2 : n2 ≤ c2) (e2 : a2 = none → c2 = 0) :
    Calls Tryd.prog 5 #[.slice a0 n0 c0, .slice a1 n1 c1, .slice a2 n2 c2] w fun e w' => e = .returned (.bool true) ∧ Below w.heap.size w w' := by
  exact Ex.eback_any h0 f0 b0 r1 k1 e1 r2 k2 e2 hErr hTb

noncomputable def laidWorld (os : Os) : World := ({ World.holding Tryd.prog os ⟨#[], #[], []⟩ with heap := ((((World.holding Tryd.prog os ⟨#[], #[], []⟩).heap.modify 0 fun | .cells _ t frozen => .cells #[.iface 116 (.agg #[.pointer (some ⟨3, 29, none⟩)])] t frozen | o => o).modify 1 fun | .cells _ t frozen => .cells #[.int .u8 42, .int .u8 43, .int .u8 56, .int .u8 57, .int .u8 67, .int .u8 68, .int .u8 91, .int .u8 102, .int .u8 139, .int .u8 166, .int .u8 168, .int .u8 171, .int .u8 174, .int .u8 191] t frozen | o => o).modify 2 fun | .cells _ t frozen => .cells #[.int .u8 0, .int .u8 1, .int .i64 0, .int .u8 0, .int .u8 0, .int .u8 0, .int .u8 2, .int .u8 3, .int .i64 6, .int .u8 0, .int .u8 0, .int .u8 0, .int .u8 4, .int .u8 4, .int .i64 7, .int .u8 0, .int .u8 0, .int .u8 0, .int .u8 12, .int .u8 13, .int .i64 3, .int .u8 0, .int .u8 0, .int .u8 0, .int .u8 14, .int .u8 14, .int .i64 8, .int .u8 0, .int .u8 0, .int .u8 0, .int .u8 15, .int .u8 15, .int .i64 0, .int .u8 0, .int .u8 0, .int .u8 0, .int .u8 16, .int .u8 16, .int .i64 3, .int .u8 0, .int .u8 0, .int .u8 0, .int .u8 17, .int .u8 17, .int .i64 9, .int .u8 0, .int .u8 0, .int .u8 0, .int .u8 26, .int .u8 27, .int .i64 0, .int .u8 0, .int .u8 0, .int .u8 0, .int .u8 32, .int .u8 36, .int .i64 3, .int .u8 0, .int .u8 0, .int .u8 0, .int .u8 40, .int .u8 40, .int .i64 4, .int .u8 127, .int .u8 0, .int .u8 127, .int .u8 41, .int .u8 41, .int .i64 4, .int .u8 127, .int .u8 0, .int .u8 126, .int .u8 44, .int .u8 47, .int .i64 4, .int .u8 127, .int .u8 0, .int .u8 127, .int .u8 48, .int .u8 53, .int .i64 4, .int .u8 127, .int .u8 0, .int .u8 126, .int .u8 54, .int .u8 54, .int .i64 4, .int .u8 127, .int .u8 127, .int .u8 0, .int .u8 55, .int .u8 55, .int .i64 4, .int .u8 127, .int .u8 126, .int .u8 0, .int .u8 58, .int .u8 59, .int .i64 4, .int .u8 127, .int .u8 127, .int .u8 0, .int .u8 60, .int .u8 62, .int .i64 4, .int .u8 127, .int .u8 126, .int .u8 0, .int .u8 63, .int .u8 63, .int .i64 5, .int .u8 0, .int .u8 0, .int .u8 127, .int .u8 64, .int .u8 64, .int .i64 5, .int .u8 127, .int .u8 0, .int .u8 127, .int .u8 65, .int .u8 65, .int .i64 1, .int .u8 0, .int .u8 0, .int .u8 127, .int .u8 66, .int .u8 66, .int .i64 2, .int .u8 0, .int .u8 0, .int .u8 126, .int .u8 69, .int .u8 69, .int .i64 0, .int .u8 127, .int .u8 0, .int .u8 127, .int .u8 70, .int .u8 79, .int .i64 0, .int .u8 127, .int .u8 127, .int .u8 127, .int .u8 80, .int .u8 80, .int .i64 0, .int .u8 126, .int .u8 0, .int .u8 127, .int .u8 81, .int .u8 90, .int .i64 0, .int .u8 126, .int .u8 126, .int .u8 127, .int .u8 103, .int .u8 105, .int .i64 0, .int .u8 127, .int .u8 0, .int .u8 127, .int .u8 106, .int .u8 120, .int .i64 0, .int .u8 127, .int .u8 127, .int .u8 127, .int .u8 121, .int .u8 123, .int .i64 0, .int .u8 126, .int .u8 0, .int .u8 126, .int .u8 124, .int .u8 138, .int .i64 0, .int .u8 126, .int .u8 126, .int .u8 126, .int .u8 167, .int .u8 167, .int .i64 0, .int .u8 126, .int .u8 0, .int .u8 127, .int .u8 172, .int .u8 173, .int .i64 0, .int .u8 127, .int .u8 0, .int .u8 126] t frozen | o => o) } : World)
set_option maxRecDepth 100000 in
theorem laid_met (os : Os) : laidMetH Tryd.prog Rows.exprBackUptoRow.laid ((laidWorld os).forCall (fun _ _ => 0) ⟨#[], #[.slice none 0 0, .slice none 0 0, .slice none 0 0], []⟩).memory :=
  laidMetH_of_parts (laidMet_of_run' 8 (by kernel_rfl) (by kernel_rfl)) (by kernel_rfl)
set_option maxRecDepth 100000 in
theorem reads (os : Os) {H : Type} (enc : TypeId × Value → H) : ∃ places, DataW.whole enc Tryd.prog ((laidWorld os).forCall (fun _ _ => 0) ⟨#[], #[.slice none 0 0, .slice none 0 0, .slice none 0 0], []⟩).memory Tryd.f5.params.toList Rows.exprBackSpec.vars false (#[.slice none 0 0, .slice none 0 0, .slice none 0 0] : Array Value).toList 8 = some ([.nil, .nil, .nil], [], places) :=
  ⟨[], by kernel_rfl⟩

set_option maxRecDepth 100000 in
theorem contract (H : Type) (enc : TypeId × Value → H) (W : World) (base : Nat) (args : Array Value) (ds gs : List (DataW H)) (before : List MemPlace)
    (hval0 : ∀ (j : Nat) t v, Tryd.f5.params[j]? = some t → args[j]? = some v → Value.okWide Tryd.prog W .any base t v)
    (hW : DataW.Whole enc Tryd.prog Tryd.f5.params.toList Rows.exprBackSpec.vars false W args.toList ds gs before) (hL : laidMetH Tryd.prog Rows.exprBackUptoRow.laid W) (hk0 : Rows.uptoSmall H (ds ++ gs) = true) :
    Calls Tryd.prog 5 args W fun e W' => ∃ v, e = .returned v ∧ Rows.exprBackSpec.post enc Tryd.prog Tryd.f5 false true false false W args v W' := by
  have hLL : laidMet Tryd.prog [("mandrel/ops.floats", Rows.laid_mandrel_ops_floats), ("mandrel/ops.families", Rows.laid_mandrel_ops_families)] W ∧ handlesMet Tryd.prog [("errors.errorType", Rows.laid_errors_errorType)] W := hL
  have hg : ErrT W := handle_of_met hLL.2
  have hgTb : Tb W := ⟨families_laid hLL.1.tail, floats_laid hLL.1⟩
  have hval : ∀ (j : Nat) t v, Tryd.f5.params[j]? = some t → args[j]? = some v → Value.okWide Tryd.prog W .any base t v := hval0
  have hk1 := Ex.small_of hk0
  have hW' := hW
  obtain ⟨p, q, hA0, hV, rfl, hfz, hnd⟩ := hW
  have hA : DataW.TrodAll enc Tryd.prog W 0 (fun _ => true) true Tryd.f5.params.toList args.toList ds p := hA0
  rw [Tryd.params5] at hA hval
  obtain ⟨v0, vs0, d0, ds0, p0, q0, hargs, rfl, rfl, h0, r0⟩ := trodAll_cons hA
  obtain ⟨v1, vs1, d1, ds1, p1, q1, rfl, rfl, rfl, h1, r1⟩ := trodAll_cons r0
  obtain ⟨v2, vs2, d2, ds2, p2, q2, rfl, rfl, rfl, h2, r2⟩ := trodAll_cons r1
  obtain ⟨rfl, rfl, rfl⟩ := trodAll_nil r2
  obtain rfl : args = #[v0, v1, v2] := by cases args; simp_all
  obtain ⟨rfl, rfl⟩ := trodVars_none hV
  have hk : Rows.uptoBulkAll [d0, d1, d2] ≤ 1048576 := hk1
  have m0 := h0
  have lt0 : ∀ x ∈ p0, x.block < W.heap.size := by obtain ⟨m, hm⟩ := m0; exact DataW.trod_lt m _ _ _ hm
  obtain ⟨a0, n0, c0, rfl⟩ := okWide_slice Tryd.underlying22 (hval 0 22 v0 rfl rfl)
  obtain ⟨l0, h0c, f0, b0'⟩ := Ex.open_arg h0
  have b0 : Ex.wt l0 ≤ 1048576 := Nat.le_trans b0' (Nat.le_trans (Ex.bulk_at (ds := _) (i := 0) rfl) hk)
  have m1 := h1
  have lt1 : ∀ x ∈ p1, x.block < W.heap.size := by obtain ⟨m, hm⟩ := m1; exact DataW.trod_lt m _ _ _ hm
  obtain ⟨a1, n1, c1, rfl⟩ := okWide_slice Tryd.underlying27 (hval 1 27 v1 rfl rfl)
  obtain ⟨z1, r1r, k1c, e1⟩ := Ex.open_row h1
  have m2 := h2
  have lt2 : ∀ x ∈ p2, x.block < W.heap.size := by obtain ⟨m, hm⟩ := m2; exact DataW.trod_lt m _ _ _ hm
  obtain ⟨a2, n2, c2, rfl⟩ := okWide_slice Tryd.underlying27 (hval 2 27 v2 rfl rfl)
  obtain ⟨z2, r2r, k2c, e2⟩ := Ex.open_row h2
  clear hA0 hval0
  refine (walk a0 n0 c0 l0 a1 n1 c1 z1 a2 n2 c2 z2 W hg hgTb h0c f0 b0 r1r k1c e1 r2r k2c e2).mono fun e W' ⟨he, bel⟩ => ?_
  subst he
  exact ⟨_, rfl, _, _, _, [], _, [], hW', trodAll_mk1 (shut_bool Tryd.underlying4 _), (trodAll_cons_mk (Below.trod laidOut (by kernel_rfl) (of_decide_eq_true (by kernel_rfl)) m0 bel lt0) (trodAll_cons_mk (Below.trod laidOut (by kernel_rfl) (of_decide_eq_true (by kernel_rfl)) m1 bel lt1) (trodAll_cons_mk (Below.trod laidOut (by kernel_rfl) (of_decide_eq_true (by kernel_rfl)) m2 bel lt2) trodAll_mk0))), rfl, bel.frame _, fun h => by cases h⟩

set_option maxRecDepth 100000 in
theorem lifted (os : Os) (started : os.Started) (H : Type) (enc : TypeId × Value → H) (F : Stop.Interp) :
    ReturnsInHanded {} Tryd.checked os 5 .any ((Rows.OpenSpec.upto Rows.exprBackSpec).preRow enc Tryd.prog Tryd.f5 Rows.exprBackUptoRow.domain false Rows.exprBackUptoRow.laid) (((Rows.OpenSpec.upto Rows.exprBackSpec).at F).post enc Tryd.prog Tryd.f5 false true false false) := by
  obtain ⟨places, hx⟩ := reads os enc
  refine returnsInHanded_of_row (C := Tryd.checked) (s := Rows.OpenSpec.upto Rows.exprBackSpec) own started (by kernel_rfl) Tryd.func5
    (witness_row_at (enc := enc) (C := Tryd.checked) false (laidWorld os) #[.slice none 0 0, .slice none 0 0, .slice none 0 0] rfl (by kernel_rfl) (by kernel_rfl) (by kernel_rfl)
      (OpenSpec.preRow_of_cond 8 hx (by kernel_rfl) (fun k hk => by cases hk; kernel_rfl) (by kernel_rfl) (laid_met os))) ?_
  intro W base args ds gs before hval hW _ hcond _ hL _ _
  exact contract H enc W base args ds gs before hval hW hL (hcond _ rfl)

theorem proved : Rows.ExprBackUptoSaid :=
  OpenClaim.holds_of_cond 5 Tryd.f5 rfl rfl rfl rfl rfl rfl rfl ⟨rfl, rfl, rfl, rfl, rfl⟩ rfl rfl rfl rfl rfl (by kernel_rfl) Tryd.func5 (by kernel_rfl)
    (of_decide_eq_true (by kernel_rfl)) (by unfold Func.isWrapper; first | (rw [if_pos (by decide +kernel)]; kernel_rfl) | (rw [if_neg (by decide +kernel)]; exact ⟨rfl, rfl⟩))
    (fun os started H enc _ F => by rw [OpenClaim.pre_eq_preRow]; exact lifted os started H enc F)
end Go.Proofs.YtjhmglefejclpaaDoor.exprBack

namespace Go.Proofs.YtjhmglefejclpaaDoor
theorem exprBack_upto_card : Rows.ExprBackUptoCardSaid :=
  Claim7.holds_tied_plain_at .later [] _ _ _ _ exprBack.proved (fun _ h => by cases h) (by kernel_rfl) (fun _ h => by cases h) exprBackUpto_row_tie rfl ⟨rfl, rfl⟩ (by kernel_rfl) rfl
    (fun f fn hf hfn => by
      obtain rfl : 5 = f := Option.some.inj (Eq.trans (by kernel_rfl) hf)
      obtain rfl : fn = Tryd.f5 := (Option.some.inj (Tryd.func5.symm.trans hfn)).symm
      exact ⟨by kernel_rfl, fun j t ht => by
        rw [Tryd.params5] at ht
        rcases j with _ | _ | _ | j
        · obtain rfl : t = 22 := by simpa using ht.symm
          exact (show Tryd.prog.wantsStandIn 22 = false by kernel_rfl)
        · obtain rfl : t = 27 := by simpa using ht.symm
          exact (show Tryd.prog.wantsStandIn 27 = false by kernel_rfl)
        · obtain rfl : t = 27 := by simpa using ht.symm
          exact (show Tryd.prog.wantsStandIn 27 = false by kernel_rfl)
        · simp at ht⟩)
    (by kernel_rfl)
end Go.Proofs.YtjhmglefejclpaaDoor
