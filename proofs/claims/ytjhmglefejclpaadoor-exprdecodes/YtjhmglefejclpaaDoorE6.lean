/- The document's rest: of the forms of blocks. -/
import Derived.Test.YtjhmglefejclpaaDoorGD
import Derived.Test.YtjhmglefejclpaaDoorGA
import Derived.Test.YtjhmglefejclpaaDoorE1
import Derived.Deep.Cut

/- What is read may be, and has no fewer bytes than it needs. Plain mathematics. -/
namespace Go.Proofs.YtjhmglefejclpaaDoor
open Go.RowKit
namespace Ex
set_option linter.unusedVariables false
set_option linter.unusedSimpArgs false

theorem bU_short : ∀ (n f : Nat) (v : Int), v < 128 ^ (n + 1) → (Leb.bU f v).length ≤ n + 1
  | n, 0, v, _ => by simp [Leb.bU]
  | 0, f + 1, v, h => by
    have h0 : ¬ 127 < v := by simp at h; omega
    simp [Leb.bU, h0]
  | n + 1, f + 1, v, h => by
    by_cases h0 : 127 < v
    · have h1 : v / 128 < 128 ^ (n + 1) := by
        have e : (128 : Int) ^ (n + 1 + 1) = 128 ^ (n + 1) * 128 := by rw [Int.pow_succ]
        rw [e] at h
        exact Int.ediv_lt_of_lt_mul (by decide) h
      have := bU_short n f (v / 128) h1
      simp only [Leb.bU, h0, if_true, List.length_cons]
      omega
    · simp [Leb.bU, h0]
theorem bS_short : ∀ (n f : Nat) (v : Int), -64 * 128 ^ n ≤ v → v < 64 * 128 ^ n → (Leb.bS f v).length ≤ n + 1
  | n, 0, v, _, _ => by simp [Leb.bS]
  | 0, f + 1, v, h, h' => by
    have h0 : -64 ≤ v ∧ v < 64 := by simp at h h'; omega
    simp [Leb.bS, h0]
  | n + 1, f + 1, v, h, h' => by
    by_cases h0 : -64 ≤ v ∧ v < 64
    · simp [Leb.bS, h0]
    · have e : (128 : Int) ^ (n + 1) = 128 ^ n * 128 := by rw [Int.pow_succ]
      rw [e] at h h'
      have := bS_short n f (v / 128) (by omega) (by omega)
      simp only [Leb.bS, h0, if_false, List.length_cons]
      omega
theorem tu_short {qs : List Int} {n : Int} (h : Leb.tuE qs n = 0) : (Leb.bU 10 (Leb.tuV qs n)).length ≤ (Leb.tuN qs n).toNat := by
  have hb := tu_bd qs n h
  have hc : Leb.cntE qs n = 0 := by
    unfold Leb.tuE at h
    by_cases hh : Leb.cntE qs n = 0
    · exact hh
    · rw [if_neg hh] at h; exact h
  have h2 := Leb.cnt_0 qs n hc
  have hN : (Leb.tuN qs n).toNat = Leb.lead qs + 1 := by unfold Leb.tuN; rw [if_pos h]; omega
  have hj := Leb.jn_bd (qs.take (Leb.lead qs + 1))
  have hl : (qs.take (Leb.lead qs + 1)).length = Leb.lead qs + 1 := by simp; omega
  rw [hl] at hj
  rw [hN]
  refine bU_short _ _ _ ?_
  unfold Leb.tuV
  rw [if_pos h]
  generalize (128 : Int) ^ (Leb.lead qs + 1) = P at *
  omega
theorem XX_bd {qs : List Int} (hl : Leb.lead qs < qs.length) (h0 : 0 ≤ qs.getD (Leb.lead qs) 0) : -64 * 128 ^ Leb.lead qs ≤ Leb.XX qs ∧ Leb.XX qs < 64 * 128 ^ Leb.lead qs := by
  obtain ⟨low, l0, l1, _, hx, s0, s1⟩ := Leb.JJ_parts qs hl h0
  generalize Leb.sg (qs.getD (Leb.lead qs) 0) = s at *
  rw [hx]
  have hP : (0 : Int) ≤ 128 ^ Leb.lead qs := by omega
  generalize (128 : Int) ^ Leb.lead qs = P at *
  have a1 : P * -64 ≤ P * s := Int.mul_le_mul_of_nonneg_left s0 hP
  have a2 : P * s ≤ P * 63 := Int.mul_le_mul_of_nonneg_left (by omega) hP
  omega
theorem ts_good {qs : List Int} {m : Nat} (hm : m = 31 ∨ m = 63) (hq : ∀ z ∈ qs, 0 ≤ z ∧ z ≤ 255) (h : Leb.tsE qs ((m + 1 : Nat) : Int) = 0) :
    (Leb.bS 10 (Leb.tsV qs ((m + 1 : Nat) : Int))).length ≤ (Leb.tsN qs ((m + 1 : Nat) : Int)).toNat ∧ -(2 ^ m) ≤ Leb.tsV qs ((m + 1 : Nat) : Int) ∧ Leb.tsV qs ((m + 1 : Nat) : Int) < 2 ^ m := by
  have hc : Leb.cntE qs ((m + 1 : Nat) : Int) = 0 := by
    have h' := h
    unfold Leb.tsE at h'
    by_cases hh : Leb.cntE qs ((m + 1 : Nat) : Int) = 0
    · exact hh
    · rw [if_neg hh] at h'; exact h'
  have h2 := Leb.cnt_0 qs _ hc
  have h0 : 0 ≤ qs.getD (Leb.lead qs) 0 := by
    have : qs.getD (Leb.lead qs) 0 = qs[Leb.lead qs]'h2.2.2.2 := by simp [List.getD, h2.2.2.2]
    rw [this]; exact (hq _ (List.getElem_mem _)).1
  have hi := Leb.tsE_iff qs m hc h0
  rw [h] at hi
  have hx : Leb.XX qs / 2 ^ m = 0 ∨ Leb.XX qs / 2 ^ m = -1 := by
    by_cases hh : Leb.XX qs / 2 ^ m = 0 ∨ Leb.XX qs / 2 ^ m = -1
    · exact hh
    · rw [if_neg hh] at hi; exact absurd hi (by decide)
  have hb := XX_bd h2.2.2.2 h0
  have hN : (Leb.tsN qs ((m + 1 : Nat) : Int)).toNat = Leb.lead qs + 1 := by unfold Leb.tsN; rw [if_pos h]; omega
  have hr : -(2 ^ m) ≤ Leb.XX qs ∧ Leb.XX qs < 2 ^ m := by
    rcases hm with rfl | rfl
    · have e : (2 : Int) ^ 31 = 2147483648 := by decide
      rw [e] at *; omega
    · have e : (2 : Int) ^ 63 = 9223372036854775808 := by decide
      rw [e] at *; omega
  have hV : Leb.tsV qs ((m + 1 : Nat) : Int) = Leb.XX qs := by
    have e : Leb.tsV qs ((m + 1 : Nat) : Int) = IntKind.i64.wrap (Leb.XX qs) := by unfold Leb.tsV; rw [if_pos h]; rfl
    rw [e, IntKind.wrap_i64]
    rcases hm with rfl | rfl
    · have e : (2 : Int) ^ 31 = 2147483648 := by decide
      rw [e] at *; omega
    · have e : (2 : Int) ^ 63 = 9223372036854775808 := by decide
      rw [e] at *; omega
  rw [hV, hN]
  exact ⟨bS_short _ _ _ hb.1 hb.2, hr⟩
theorem pU_good {zs : List Int} {a : Nat} {m : Int} (hz : ∀ z ∈ zs, 0 ≤ z ∧ z ≤ 255) (h : (pU zs a m).e = 0) : a + (Leb.bU 10 (pU zs a m).v).length ≤ (pU zs a m).at_ ∧ 0 ≤ (pU zs a m).v ∧ (pU zs a m).v < 4294967296 ∧ (pU zs a m).v ≤ m := by
  have hq : ∀ z ∈ zs.drop a, 0 ≤ z ∧ z ≤ 255 := fun z h => hz z (List.mem_of_mem_drop h)
  by_cases h1 : Leb.tuE (zs.drop a) 32 = 0
  · by_cases h2 : m < Leb.tuV (zs.drop a) 32
    · have e : pU zs a m = ⟨9, a, 0⟩ := by unfold pU; rw [if_pos h1, if_pos h2]
      rw [e] at h; exact absurd h (show ¬ (9 : Int) = 0 by decide)
    · have e : pU zs a m = ⟨0, a + (Leb.tuN (zs.drop a) 32).toNat, Leb.tuV (zs.drop a) 32⟩ := by unfold pU; rw [if_pos h1, if_neg h2]
      have h3 := tu_short h1
      have h4 := tuV_32 hq h1
      rw [e]
      exact ⟨Nat.add_le_add_left h3 a, h4.1, h4.2, by show Leb.tuV (zs.drop a) 32 ≤ m; omega⟩
  · have e : pU zs a m = ⟨Leb.tuE (zs.drop a) 32, a, 0⟩ := by unfold pU; rw [if_neg h1]
    rw [e] at h; exact absurd h h1
theorem pS_good {zs : List Int} {a m : Nat} (hm : m = 31 ∨ m = 63) (hz : ∀ z ∈ zs, 0 ≤ z ∧ z ≤ 255) (h : (pS zs a ((m + 1 : Nat) : Int)).e = 0) : a + (Leb.bS 10 (pS zs a ((m + 1 : Nat) : Int)).v).length ≤ (pS zs a ((m + 1 : Nat) : Int)).at_ ∧ -(2 ^ m) ≤ (pS zs a ((m + 1 : Nat) : Int)).v ∧ (pS zs a ((m + 1 : Nat) : Int)).v < 2 ^ m := by
  have hq : ∀ z ∈ zs.drop a, 0 ≤ z ∧ z ≤ 255 := fun z h => hz z (List.mem_of_mem_drop h)
  by_cases h1 : Leb.tsE (zs.drop a) ((m + 1 : Nat) : Int) = 0
  · have e : pS zs a ((m + 1 : Nat) : Int) = ⟨0, a + (Leb.tsN (zs.drop a) ((m + 1 : Nat) : Int)).toNat, Leb.tsV (zs.drop a) ((m + 1 : Nat) : Int)⟩ := by unfold pS; rw [if_pos h1]
    have h3 := ts_good hm hq h1
    rw [e]
    exact ⟨Nat.add_le_add_left h3.1 a, h3.2.1, h3.2.2⟩
  · have e : pS zs a ((m + 1 : Nat) : Int) = ⟨Leb.tsE (zs.drop a) ((m + 1 : Nat) : Int), a, 0⟩ := by unfold pS; rw [if_neg h1]
    rw [e] at h; exact absurd h h1
theorem pB_good {zs : List Int} {a : Nat} {J : Int → Int} (h : (pB zs a J).e = 0) : a < zs.length ∧ (pB zs a J).at_ = a + 1 ∧ (pB zs a J).v = zs.getD a 0 ∧ J (zs.getD a 0) = 0 := by
  by_cases h1 : zs.length ≤ a
  · have e : pB zs a J = ⟨4, a, 0⟩ := by unfold pB; rw [if_pos h1]
    rw [e] at h; exact absurd h (show ¬ (4 : Int) = 0 by decide)
  · by_cases h2 : J (zs.getD a 0) = 0
    · have e : pB zs a J = ⟨0, a + 1, zs.getD a 0⟩ := by unfold pB; rw [if_neg h1, if_pos h2]
      rw [e]; exact ⟨by omega, rfl, rfl, h2⟩
    · have e : pB zs a J = ⟨J (zs.getD a 0), a, 0⟩ := by unfold pB; rw [if_neg h1, if_neg h2]
      rw [e] at h; exact absurd h h2
theorem Part.on_e {β : Type} {p : Part} {k : Nat} {d : β} {f : Nat → Int → Out β} (h : (p.on k d f).e = 0) : p.e = 0 ∧ p.on k d f = f p.at_ p.v := by
  by_cases he : p.e = 0
  · exact ⟨he, Part.on_ok he _ _ _⟩
  · rw [Part.on_no he] at h; exact absurd h he
theorem Out.on_e {α β : Type} {x : Out α} {d : β} {f : Nat → Nat → α → Out β} (h : (x.on d f).e = 0) : x.e = 0 ∧ x.on d f = f x.at_ x.k x.v := by
  by_cases he : x.e = 0
  · exact ⟨he, Out.on_ok he _ _⟩
  · rw [Out.on_no he] at h; exact absurd h he
theorem pL_good {zs : List Int} (hz : ∀ z ∈ zs, 0 ≤ z ∧ z ≤ 255) : ∀ (m a k : Nat), (pL zs m a k).e = 0 → (pL zs m a k).v.length = m ∧ (pL zs m a k).k = k ∧ (∀ z ∈ (pL zs m a k).v, 0 ≤ z ∧ z < 4294967296) ∧ a + ((pL zs m a k).v.flatMap (Leb.bU 10)).length ≤ (pL zs m a k).at_
  | 0, a, k, _ => by simp [pL]
  | m + 1, a, k, h => by
    rw [pL] at h ⊢
    obtain ⟨e1, q1⟩ := Part.on_e h
    rw [q1] at h ⊢
    obtain ⟨e2, q2⟩ := Out.on_e h
    rw [q2]
    obtain ⟨g1, g2, g3, _⟩ := pU_good hz e1
    obtain ⟨i1, i2, i3, i4⟩ := pL_good hz m _ k e2
    generalize pU zs a 4294967295 = P at *
    generalize pL zs m P.at_ k = R at *
    refine ⟨by simp [i1], i2, fun z hz => ?_, ?_⟩
    · rcases List.mem_cons.1 hz with rfl | hz
      · exact ⟨g2, g3⟩
      · exact i3 z hz
    · simp only [List.flatMap_cons, List.length_append]; omega
/-- a list that is read well -/
def GoodL (nest a k : Nat) (me : Bool) (R : Out (List Ins × Int)) : Prop :=
  R.e = 0 → Wf R.v.1 ∧ may nest R.v.1 = true ∧ R.k = k + cnt R.v.1 ∧ R.k ≤ 16384 ∧ a + (enc R.v.1).length + 1 ≤ R.at_ ∧ (R.v.2 = 5 → me = true)
/-- an instruction that is read well -/
def GoodI (nest a k : Nat) (op : Int) (R : Out Ins) : Prop :=
  R.e = 0 → R.v.op = op ∧ WfI R.v ∧ mayI nest R.v = true ∧ R.k = k + cnt R.v.body + cnt R.v.els ∧ R.k ≤ 16384 ∧ a + (encI R.v).length ≤ R.at_
theorem Wf_plain {op n al of re : Int} {ls : List Int} (h : fit op n al of re ls) : WfI ⟨op, n, al, of, re, [], [], ls⟩ := ⟨h, Wf_nil, Wf_nil⟩
theorem flat_i {nest a k at_ : Nat} {op f n al of re : Int} {ls : List Int} (hs : (frm op).isSome = true) (hf : fr op = f) (h6 : ¬ f = 6) (h7 : ¬ f = 7) (hfit : fit op n al of re ls) (hb : bnd f n re ls.length = true) (ha : alo f n al of re 0 0 ls.length = true) (hk : k ≤ 16384)
    (he : a + (encF f n al of re [] [] 0 ls).length ≤ at_) : GoodI nest a k op ⟨0, at_, k, ⟨op, n, al, of, re, [], [], ls⟩⟩ := by
  intro _
  refine ⟨rfl, Wf_plain hfit, ?_, by simp [cnt_nil], hk, ?_⟩
  · unfold mayI one
    simp only [hs, hf, hb, List.length_nil, ha, Bool.and_self, Bool.true_and]
    have : blk f = false := by unfold blk; exact decide_eq_false (by omega)
    simp [this]
  · unfold encI
    simp only [hf, enc_nil, List.length_nil]
    exact he
theorem pI_good {rc : Nat → Nat → Nat → Bool → Out (List Ins × Int)} {zs : List Int} (hz : ∀ z ∈ zs, 0 ≤ z ∧ z ≤ 255) (hrc : ∀ a k nest me, nest ≤ 64 → k ≤ 16384 → GoodL nest a k me (rc a k nest me)) (a k nest : Nat) (op : Int)
    (h0 : 0 ≤ op) (h1 : op ≤ 255) (hs : (frm op).isSome = true) (hn : nest ≤ 64) (hb : blk (fr op) = true → nest < 64) (hk : k ≤ 16384) : GoodI nest a k op (pI rc zs a k nest op) := by
  obtain ⟨f, hf⟩ : ∃ f, fr op = f := ⟨_, rfl⟩
  have hop : (0 ≤ op ∧ op ≤ 255) := ⟨h0, h1⟩
  have z64 : (-9223372036854775808 : Int) ≤ 0 ∧ (0 : Int) < 9223372036854775808 := by decide
  have z32 : (0 : Int) ≤ 0 ∧ (0 : Int) < 4294967296 := by decide
  have z8 : (0 : Int) ≤ 0 ∧ (0 : Int) ≤ 255 := by decide
  have znil : ∀ z ∈ ([] : List Int), 0 ≤ z ∧ z < 4294967296 := by simp
  unfold pI
  rw [hf]
  by_cases f1 : f = 1
  · subst f1
    rw [if_pos rfl]
    intro h
    obtain ⟨e1, q1⟩ := Part.on_e h
    rw [q1]
    obtain ⟨g1, g2, g3⟩ := pS_good (m := 31) (.inl rfl) hz e1
    have e31 : (2 : Int) ^ 31 = 2147483648 := by decide
    rw [e31] at g2 g3
    have c32 : (((31 + 1 : Nat) : Nat) : Int) = 32 := rfl
    rw [c32] at g1 g2 g3
    generalize pS zs a 32 = P at *
    exact flat_i hs hf (by decide) (by decide) ⟨hop, ⟨by omega, by omega⟩, z32, z32, z8, znil⟩ (by simp [bnd]; omega) (by simp [alo, plain]) hk (by simp [encF]; exact g1) rfl
  rw [if_neg f1]
  by_cases f2 : f = 2
  · subst f2
    rw [if_pos rfl]
    intro h
    obtain ⟨e1, q1⟩ := Part.on_e h
    rw [q1]
    obtain ⟨g1, g2, g3⟩ := pS_good (m := 63) (.inr rfl) hz e1
    have e63 : (2 : Int) ^ 63 = 9223372036854775808 := by decide
    rw [e63] at g2 g3
    have c64 : (((63 + 1 : Nat) : Nat) : Int) = 64 := rfl
    rw [c64] at g1 g2 g3
    generalize pS zs a 64 = P at *
    exact flat_i hs hf (by decide) (by decide) ⟨hop, ⟨by omega, by omega⟩, z32, z32, z8, znil⟩ (by simp [bnd]) (by simp [alo, plain]) hk (by simp [encF]; exact g1) rfl
  rw [if_neg f2]
  by_cases f3 : f = 3
  · subst f3
    rw [if_pos rfl]
    intro h
    obtain ⟨e1, q1⟩ := Part.on_e h
    rw [q1]
    obtain ⟨g1, g2, g3, _⟩ := pU_good hz e1
    generalize pU zs a 4294967295 = P at *
    exact flat_i hs hf (by decide) (by decide) ⟨hop, ⟨by omega, by omega⟩, z32, z32, z8, znil⟩ (by simp [bnd]; omega) (by simp [alo, plain]) hk (by simp [encF]; exact g1) rfl
  rw [if_neg f3]
  by_cases f4 : f = 4
  · subst f4
    rw [if_pos rfl]
    intro h
    obtain ⟨e1, q1⟩ := Part.on_e h
    rw [q1] at h ⊢
    obtain ⟨e2, q2⟩ := Part.on_e h
    rw [q2]
    obtain ⟨g1, g2, g3, _⟩ := pU_good hz e1
    obtain ⟨i1, i2, i3, _⟩ := pU_good hz e2
    generalize pU zs a 4294967295 = P at *
    generalize pU zs P.at_ 4294967295 = R at *
    exact flat_i hs hf (by decide) (by decide) ⟨hop, z64, ⟨g2, g3⟩, ⟨i2, i3⟩, z8, znil⟩ (by simp [bnd]) (by simp [alo, plain]) hk (by simp [encF]; omega) rfl
  rw [if_neg f4]
  by_cases f5 : f = 5
  · subst f5
    rw [if_pos rfl]
    intro h
    obtain ⟨e1, q1⟩ := Part.on_e h
    rw [q1]
    obtain ⟨_, g1, _, _⟩ := pB_good e1
    generalize pB zs a jZ = P at *
    exact flat_i hs hf (by decide) (by decide) ⟨hop, z64, z32, z32, z8, znil⟩ (by simp [bnd]) (by simp [alo, plain]) hk (by simp [encF]; omega) rfl
  rw [if_neg f5]
  by_cases f8 : f = 8
  · subst f8
    rw [if_pos rfl]
    intro h
    obtain ⟨e1, q1⟩ := Part.on_e h
    rw [q1] at h ⊢
    obtain ⟨e2, q2⟩ := Out.on_e h
    rw [q2]
    obtain ⟨g1, g2, g3, g4⟩ := pU_good hz e1
    obtain ⟨i1, i2, i3, i4⟩ := pL_good hz _ _ _ e2
    generalize pU zs a 256 = P at *
    generalize pL zs (P.v.toNat + 1) P.at_ k = R at *
    have hl : ((R.v.length : Int) - 1) = P.v := by omega
    rw [i2]
    exact flat_i hs hf (by decide) (by decide) ⟨hop, z64, z32, z32, z8, i3⟩ (by simp [bnd]; omega) (by simp [alo, plain]) hk (by
      have e : encF 8 0 0 0 0 [] [] 0 R.v = Leb.bU 10 P.v ++ R.v.flatMap (Leb.bU 10) := by simp only [encF, hl]; simp
      show a + (encF 8 0 0 0 0 [] [] 0 R.v).length ≤ R.at_
      rw [e, List.length_append]; omega) rfl
  rw [if_neg f8]
  by_cases f9 : f = 9
  · subst f9
    rw [if_pos rfl]
    intro h
    obtain ⟨e1, q1⟩ := Part.on_e h
    rw [q1] at h ⊢
    obtain ⟨e2, q2⟩ := Part.on_e h
    rw [q2]
    obtain ⟨g1, g2, g3, _⟩ := pU_good hz e1
    obtain ⟨_, i1, _, _⟩ := pB_good e2
    generalize pU zs a 4294967295 = P at *
    generalize pB zs P.at_ jZ = R at *
    exact flat_i hs hf (by decide) (by decide) ⟨hop, ⟨by omega, by omega⟩, z32, z32, z8, znil⟩ (by simp [bnd]; omega) (by simp [alo, plain]) hk (by simp [encF]; omega) rfl
  rw [if_neg f9]
  by_cases f67 : f = 6 ∨ f = 7
  · rw [if_pos f67]
    intro h
    obtain ⟨e1, q1⟩ := Part.on_e h
    rw [q1] at h ⊢
    obtain ⟨_, g1, g2, g3⟩ := pB_good e1
    have hre : kV (pB zs a jK).v = 0 ∨ kV (pB zs a jK).v = 127 ∨ kV (pB zs a jK).v = 126 := by
      rw [g2]
      unfold jK at g3
      by_cases hh : zs.getD a 0 = 64 ∨ zs.getD a 0 = 127 ∨ zs.getD a 0 = 126
      · unfold kV; rcases hh with hh | hh | hh <;> rw [hh] <;> decide
      · rw [if_neg hh] at g3
        split at g3 <;> exact absurd g3 (by decide)
    obtain ⟨re, hr⟩ : ∃ re, kV (pB zs a jK).v = re := ⟨_, rfl⟩
    rw [hr] at h hre ⊢
    rw [g1] at h ⊢
    unfold pK at h ⊢
    obtain ⟨e2, q2⟩ := Out.on_e h
    rw [q2] at h ⊢
    have hbl : blk (fr op) = true := by rw [hf]; unfold blk; exact decide_eq_true f67
    have hlt := hb hbl
    obtain ⟨b1, b2, b3, b4, b5, b6⟩ := hrc (a + 1) k (nest + 1) (decide (fr op = 7)) (by omega) hk e2
    generalize rc (a + 1) k (nest + 1) (decide (fr op = 7)) = R at *
    have hreb : (0 ≤ re ∧ re ≤ 255) := by omega
    by_cases h5 : R.v.2 = 5
    · rw [if_pos h5] at h ⊢
      have h7 : fr op = 7 := of_decide_eq_true (b6 h5)
      have f7 : f = 7 := by omega
      obtain ⟨e3, q3⟩ := Out.on_e h
      rw [q3] at h ⊢
      obtain ⟨d1, d2, d3, d4, d5, _⟩ := hrc R.at_ R.k (nest + 1) false (by omega) b4 e3
      generalize rc R.at_ R.k (nest + 1) false = T at *
      refine ⟨rfl, ⟨⟨hop, z64, z32, z32, hreb, znil⟩, b1, d1⟩, ?_, ?_, d4, ?_⟩
      · unfold mayI one
        simp only [plain, hs, hf, f7, b2, d2, hlt, Bool.true_and, Bool.and_true, decide_true, Bool.and_self, Bool.or_true]
        simp [bnd, alo, hre]
      · show T.k = k + cnt R.v.1 + cnt T.v.1
        omega
      · unfold encI
        simp only [plain, hf, f7]
        simp only [encF]
        simp
        split <;> simp <;> omega
    · rw [if_neg h5] at h ⊢
      refine ⟨rfl, ⟨⟨hop, z64, z32, z32, hreb, znil⟩, b1, Wf_nil⟩, ?_, ?_, b4, ?_⟩
      · unfold mayI one
        simp only [plain, hs, hf, b2, may_nil, hlt, Bool.true_and, Bool.and_true, decide_true, Bool.and_self, Bool.or_true]
        rcases f67 with rfl | rfl <;> simp [bnd, alo, hre]
      · show R.k = k + cnt R.v.1 + cnt []
        rw [cnt_nil]; omega
      · unfold encI
        simp only [plain, hf, enc_nil, List.length_nil]
        rcases f67 with rfl | rfl <;> (simp [encF]; omega)
  · rw [if_neg f67]
    exact flat_i hs hf (by omega) (by omega) ⟨hop, z64, z32, z32, z8, znil⟩ (by unfold bnd; rw [if_neg f1, if_neg (by omega), if_neg f67, if_neg f8]) (by unfold alo; exact decide_eq_true (by simp)) hk (by unfold encF; rw [if_neg (by omega), if_neg f3, if_neg f4, if_neg f5, if_neg f67, if_neg f8, if_neg f9]; simp)
theorem dec_good {zs : List Int} (hz : ∀ z ∈ zs, 0 ≤ z ∧ z ≤ 255) : ∀ (f a k nest : Nat) (me : Bool), nest ≤ 64 → k ≤ 16384 → GoodL nest a k me (dec f zs a k nest me)
  | 0, a, k, nest, me, _, _ => fun h => absurd h (show ¬ (4 : Int) = 0 by decide)
  | f + 1, a, k, nest, me, hn, hk => by
    have ih := dec_good hz f
    show GoodL nest a k me (step (dec f zs) zs a k nest me)
    intro h
    unfold step at h ⊢
    obtain ⟨e1, q1⟩ := Part.on_e h
    rw [q1] at h ⊢
    obtain ⟨g0, g1, g2, g3⟩ := pB_good e1
    have hc : 0 ≤ zs.getD a 0 ∧ zs.getD a 0 ≤ 255 := by
      have : zs.getD a 0 = zs[a]'g0 := by simp [List.getD, g0]
      rw [this]; exact hz _ (List.getElem_mem _)
    rw [g1, g2] at h ⊢
    generalize zs.getD a 0 = c at *
    by_cases hcc : c = 11 ∨ c = 5
    · rw [if_pos hcc]
      refine ⟨Wf_nil, may_nil _, by simp [cnt_nil], hk, by simp [enc_nil], fun h5 => ?_⟩
      have h5' : c = 5 := h5
      subst h5'
      cases me with
      | true => rfl
      | false =>
        have h5a : frm 5 = none := by kernel_rfl
        have h5b : flt 5 = false := by kernel_rfl
        unfold jO at g3
        rw [h5a, h5b] at g3
        simp at g3
    · rw [if_neg hcc] at h ⊢
      have hj : (frm c).isSome = true ∧ ¬ k = 16384 ∧ (blk (fr c) = true → ¬ nest = 64) := by
        unfold jO at g3
        rw [if_neg (fun hh => hcc (by rcases hh with hh | hh; exact .inl hh; exact .inr hh.1))] at g3
        by_cases hfl : flt c = true
        · rw [if_pos hfl] at g3; exact absurd g3 (by decide)
        · rw [if_neg hfl] at g3
          cases hfr : frm c with
          | none => rw [hfr] at g3; simp at g3
          | some f =>
            rw [hfr] at g3
            simp only at g3
            by_cases hh : k = 16384 ∨ (blk f = true ∧ nest = 64)
            · rw [if_pos hh] at g3; exact absurd g3 (by decide)
            · refine ⟨rfl, fun e => hh (.inl e), fun hb hn => hh (.inr ⟨?_, hn⟩)⟩
              unfold fr at hb; rw [hfr] at hb; exact hb
      obtain ⟨e2, q2⟩ := Out.on_e h
      rw [q2] at h ⊢
      obtain ⟨i1, i2, i3, i4, i5, i6⟩ := pI_good hz (fun a k nest me hn hk => ih a k nest me hn hk) (a + 1) (k + 1) nest c hc.1 hc.2 hj.1 hn (fun hb => by have := hj.2.2 hb; omega) (by omega) e2
      generalize pI (dec f zs) zs (a + 1) (k + 1) nest c = P at *
      obtain ⟨e3, q3⟩ := Out.on_e h
      rw [q3]
      obtain ⟨r1, r2, r3, r4, r5, r6⟩ := ih P.at_ P.k nest me hn i5 e3
      generalize dec f zs P.at_ P.k nest me = R at *
      refine ⟨(Wf_cons _ _).2 ⟨i2, r1⟩, by rw [may_cons, i3, r2]; rfl, ?_, r4, ?_, r6⟩
      · rw [cnt_cons]
        show R.k = _
        omega
      · rw [enc_cons]
        simp only [List.length_append, List.length_cons, List.length_nil]
        show _ ≤ R.at_
        omega
end Ex
end Go.Proofs.YtjhmglefejclpaaDoor

/- The document's rest: of the forms of blocks. -/
namespace Go.Proofs.YtjhmglefejclpaaDoor
open Go.RowKit
namespace Ex
set_option linter.unusedVariables false
set_option linter.unusedSimpArgs false

theorem D_k {zs : List Int} (hz : ∀ z ∈ zs, 0 ≤ z ∧ z ≤ 255) {a k nest : Nat} {me : Bool} (hn : nest ≤ 64) (hk : k ≤ 16384) (h : (D zs a k nest me).e = 0) : (D zs a k nest me).k ≤ 16384 :=
  (dec_good hz (zs.length + 1) a k nest me hn hk h).2.2.2.1
theorem kb_lt {N : Nat} {w w' : World} (h : Kb N w w') {q : Nat} (hq : N + 4 ≤ q) (hl : q < w.heap.size) : q < w'.heap.size := by
  have h6 := h q hq
  rw [Array.getElem?_eq_getElem hl] at h6
  exact (Array.getElem?_eq_some_iff.1 h6).1

set_option maxRecDepth 100000 in
set_option maxHeartbeats 3200000 in
theorem rest_6_kno (a : Option Addr) (len cap p k nest : Nat) (op : Int) (zs : List Int) (w : World) (hrow : Row w a len zs) (hl : len ≤ 3000) (hp : p ≤ len) (hc : len ≤ cap) (hf : fr op = 6) {m : Nat} (ih : ListR m) (hn : nest < 64) (hk : k ≤ 16384) (hm : len - p < m) (hK : ¬ (pB zs p jK).e = 0) :
    Calls Tryd.prog 51 #[RV a len cap p k 0, .agg #[.int .u8 op, .int .i64 0, .int .u32 0, .int .u32 0, .int .u8 0, .slice none 0 0, .slice none 0 0, .slice none 0 0], .int .i64 6, .int .i64 nest] w (RestPost w a len cap (pI (D zs) zs p k nest op)) := by
  obtain ⟨R, hR, hRe⟩ : ∃ R, pI (D zs) zs p k nest op = R ∧ R.e = (pB zs p jK).e ∧ R.at_ = (pB zs p jK).at_ ∧ R.k = k ∧ True := ⟨⟨(pB zs p jK).e, (pB zs p jK).at_, k, plain op⟩, by unfold pI; rw [hf, if_neg (by decide), if_neg (by decide), if_neg (by decide), if_neg (by decide), if_neg (by decide), if_neg (by decide), if_neg (by decide), if_pos (by decide), Part.on_no hK], rfl, rfl, rfl, trivial⟩
  rw [hR]
  have HE : Hid (R.e = (pB zs p jK).e) ∧ Hid (R.at_ = (pB zs p jK).at_) ∧ Hid (R.k = k) ∧ Hid True := hRe
  clear hRe hR hf
  have hq := fun (wx : World) (hb : Below w.heap.size w wx) => kind_any a len cap p k zs wx (hrow.below (Nat.le_refl _) hb) hl hc
  have HQ := hide hq; have HP := hide hK
  have t : ((pB zs p jK).e == 0) = false := by simpa using hK
  clear hq hK ih
  generalize kV (pB zs p jK).v = kk at *
  generalize (pB zs p jK) = P at *
  clear hrow
  have fx := fx_new w (.slice a len cap) (.int .i64 p) (.int .i64 k) (.int .i64 0) (.int .u8 op) (.int .i64 0) (.int .u32 0) (.int .u32 0) (.int .u8 0) (.slice none 0 0) (.slice none 0 0) (.slice none 0 0)
  obtain ⟨fx, hb⟩ := fx
  go_enter Tryd.func51, Tryd.ntmps51
  go_wp2_with fail
  generalize (((w.alloc (.cells #[.slice a len cap, .int .i64 p, .int .i64 k, .int .i64 0] 80)).alloc (.cells #[.int .u8 op, .int .i64 0, .int .u32 0, .int .u32 0, .int .u8 0, .slice none 0 0, .slice none 0 0, .slice none 0 0] 55)).alloc (.cells #[.slice none 0 0, .int .i64 0, .int .i64 0, .int .i64 0] 80)).alloc (.cells #[.int .u8 0, .int .i64 0, .int .u32 0, .int .u32 0, .int .u8 0, .slice none 0 0, .slice none 0 0, .slice none 0 0] 55) = w2 at *
  have FX := hide fx; have HB := hide hb
  clear fx hb
  generalize hN : w.heap.size = N at *
  have HN := hide hN; clear hN
  refine (unhide HQ _ (unhide HB)).mono ?_
  rintro e w3 ⟨rfl, hb3⟩
  have fx := (unhide FX).below hb3
  have hb := (unhide HB).trans (hb3.mono (by have := (unhide FX).lt; omega))
  clear FX HB
  have FX := hide fx; have HB := hide hb
  clear fx hb
  clear hb3
  obtain ⟨p0, p1, p2, p3⟩ := (unhide FX).cr
  obtain ⟨q0, q1, q2, q3, q4, q5, q6, q7⟩ := (unhide FX).cx
  have y0 := (unhide FX).f0; have y1 := (unhide FX).f1
  have yl := (unhide FX).lt
  have fx := (unhide FX).put4 (.slice a len cap) (.int .i64 P.at_) (.int .i64 k) (.int .i64 P.e)
  have hb := Fx.bput (unhide HB) (Nat.le_refl _) (.slice a len cap) (.int .i64 P.at_) (.int .i64 k) (.int .i64 P.e)
  have hk := (Kb.refl N w3).put (.slice a len cap) (.int .i64 P.at_) (.int .i64 k) (.int .i64 P.e)
  have fx2 := fx.set4 (.int .u8 kk)
  have hb2 := Fx.bset hb (Nat.le_refl _) 4 (.int .u8 kk)
  have hk2 := hk.set (b := N + 1) (by omega) 4 (.int .u8 kk)
  have FX' := hide fx2; have HB' := hide hb2; have HK3 := hide hk2
  clear fx hb hk fx2 hb2 hk2
  go_wp2_with fail
  generalize ((((w3.setCell ⟨N, 0, none⟩ (.slice a len cap)).setCell ⟨N, 1, none⟩ (.int .i64 P.at_)).setCell ⟨N, 2, none⟩ (.int .i64 k)).setCell ⟨N, 3, none⟩ (.int .i64 P.e)).setCell ⟨N + 1, 4, none⟩ (.int .u8 kk) = w4 at *
  clear p0 p1 p2 p3 q0 q1 q2 q3 q4 q5 q6 q7 y0 y1 yl
  clear FX HB
  have FX := FX'; have HB := HB'
  clear FX' HB'
  obtain ⟨p0, p1, p2, p3⟩ := (unhide FX).cr
  obtain ⟨q0, q1, q2, q3, q4, q5, q6, q7⟩ := (unhide FX).cx
  obtain ⟨a0, a1, a2, a3⟩ := (unhide FX).ca
  obtain ⟨b0, b1, b2, b3, b4, b5, b6, b7⟩ := (unhide FX).cb
  have y0 := (unhide FX).f0; have y1 := (unhide FX).f1; have y2 := (unhide FX).f2; have y3 := (unhide FX).f3
  have yl := (unhide FX).lt
  go_region
  go_wp2
  refine bodyPost_ret (v := .tuple #[.agg #[.slice a len cap, .int .i64 P.at_, .int .i64 k, .int .i64 P.e], .agg #[.int .u8 op, .int .i64 0, .int .u32 0, .int .u32 0, .int .u8 kk, .slice none 0 0, .slice none 0 0, .slice none 0 0]]) (by simp [results, Tryd.results51, go_sem, a0, a1, a2, a3, b0, b1, b2, b3, b4, b5, b6, b7]) rfl ?_
  refine ⟨k, ⟨op, 0, 0, 0, kk, [], [], []⟩, .slice none 0 0, .slice none 0 0, .slice none 0 0, ?_, ?_, ⟨⟨_, _, _, rfl⟩, ⟨_, _, _, rfl⟩, ⟨_, _, _, rfl⟩⟩, fun he => ?_⟩
  · rw [unhide HE.1, unhide HE.2.1]
  · rw [unhide HN]
    have h3 := unhide HB
    refine Below.drew ?_
    repeat' (with_reducible refine Below.setCell ?_ ?_ _)
    all_goals first | with_reducible assumption | (dsimp only; omega)
  · exact absurd (by rw [← unhide HE.1]; exact he) (unhide HP)

set_option maxRecDepth 100000 in
set_option maxHeartbeats 3200000 in
theorem rest_6_lno (a : Option Addr) (len cap p k nest : Nat) (op : Int) (zs : List Int) (w : World) (hrow : Row w a len zs) (hl : len ≤ 3000) (hp : p ≤ len) (hc : len ≤ cap) (hf : fr op = 6) {m : Nat} (ih : ListR m) (hn : nest < 64) (hk : k ≤ 16384) (hm : len - p < m) (hK : (pB zs p jK).e = 0) (hA : ¬ (D zs (pB zs p jK).at_ k (nest + 1) false).e = 0) :
    Calls Tryd.prog 51 #[RV a len cap p k 0, .agg #[.int .u8 op, .int .i64 0, .int .u32 0, .int .u32 0, .int .u8 0, .slice none 0 0, .slice none 0 0, .slice none 0 0], .int .i64 6, .int .i64 nest] w (RestPost w a len cap (pI (D zs) zs p k nest op)) := by
  obtain ⟨R, hR, hRe⟩ : ∃ R, pI (D zs) zs p k nest op = R ∧ R.e = (D zs (pB zs p jK).at_ k (nest + 1) false).e ∧ R.at_ = (D zs (pB zs p jK).at_ k (nest + 1) false).at_ ∧ True ∧ True := ⟨⟨(D zs (pB zs p jK).at_ k (nest + 1) false).e, (D zs (pB zs p jK).at_ k (nest + 1) false).at_, (D zs (pB zs p jK).at_ k (nest + 1) false).k, plain op⟩, by unfold pI; rw [hf, if_neg (by decide), if_neg (by decide), if_neg (by decide), if_neg (by decide), if_neg (by decide), if_neg (by decide), if_neg (by decide), if_pos (by decide), Part.on_ok hK]; unfold pK; rw [hf]; exact Out.on_no hA _ _, rfl, rfl, trivial, trivial⟩
  rw [hR]
  have HE : Hid (R.e = (D zs (pB zs p jK).at_ k (nest + 1) false).e) ∧ Hid (R.at_ = (D zs (pB zs p jK).at_ k (nest + 1) false).at_) ∧ Hid True ∧ Hid True := hRe
  clear hRe hR hf
  have hat := pB_bd zs p jK (by rw [hrow.1]; exact hp)
  rw [hrow.1] at hat
  have hat1 : (pB zs p jK).at_ ≤ len := hat.2.1
  have hat0 : p ≤ (pB zs p jK).at_ := hat.1
  clear hat
  have hq := fun (wx : World) (hb : Below w.heap.size w wx) => kind_any a len cap p k zs wx (hrow.below (Nat.le_refl _) hb) hl hc
  have hq1 := fun (wx : World) (hb : Below w.heap.size w wx) => ih a len cap (pB zs p jK).at_ k (nest + 1) false zs wx (hrow.below (Nat.le_refl _) hb) hl hat1 hc hk (by omega) (by omega)
  rw [show ((nest + 1 : Nat) : Int) = (nest : Int) + 1 by omega] at hq1
  rw [hK] at hq
  have HQ := hide hq; have HQ1 := hide hq1; have HP := hide hA
  have t : ((D zs (pB zs p jK).at_ k (nest + 1) false).e == 0) = false := by simpa using hA
  clear hq hq1 hK hA ih hat0 hat1
  generalize (D zs (pB zs p jK).at_ k (nest + 1) false) = A at *
  generalize kV (pB zs p jK).v = kk at *
  generalize (pB zs p jK) = P at *
  clear hrow
  have fx := fx_new w (.slice a len cap) (.int .i64 p) (.int .i64 k) (.int .i64 0) (.int .u8 op) (.int .i64 0) (.int .u32 0) (.int .u32 0) (.int .u8 0) (.slice none 0 0) (.slice none 0 0) (.slice none 0 0)
  obtain ⟨fx, hb⟩ := fx
  go_enter Tryd.func51, Tryd.ntmps51
  go_wp2_with fail
  generalize (((w.alloc (.cells #[.slice a len cap, .int .i64 p, .int .i64 k, .int .i64 0] 80)).alloc (.cells #[.int .u8 op, .int .i64 0, .int .u32 0, .int .u32 0, .int .u8 0, .slice none 0 0, .slice none 0 0, .slice none 0 0] 55)).alloc (.cells #[.slice none 0 0, .int .i64 0, .int .i64 0, .int .i64 0] 80)).alloc (.cells #[.int .u8 0, .int .i64 0, .int .u32 0, .int .u32 0, .int .u8 0, .slice none 0 0, .slice none 0 0, .slice none 0 0] 55) = w2 at *
  have FX := hide fx; have HB := hide hb
  clear fx hb
  generalize hN : w.heap.size = N at *
  have HN := hide hN; clear hN
  refine (unhide HQ _ (unhide HB)).mono ?_
  rintro e w3 ⟨rfl, hb3⟩
  have fx := (unhide FX).below hb3
  have hb := (unhide HB).trans (hb3.mono (by have := (unhide FX).lt; omega))
  clear FX HB
  have FX := hide fx; have HB := hide hb
  clear fx hb
  clear hb3
  obtain ⟨p0, p1, p2, p3⟩ := (unhide FX).cr
  obtain ⟨q0, q1, q2, q3, q4, q5, q6, q7⟩ := (unhide FX).cx
  have y0 := (unhide FX).f0; have y1 := (unhide FX).f1
  have yl := (unhide FX).lt
  have fx := (unhide FX).put4 (.slice a len cap) (.int .i64 P.at_) (.int .i64 k) (.int .i64 0)
  have hb := Fx.bput (unhide HB) (Nat.le_refl _) (.slice a len cap) (.int .i64 P.at_) (.int .i64 k) (.int .i64 0)
  have hk := (Kb.refl N w3).put (.slice a len cap) (.int .i64 P.at_) (.int .i64 k) (.int .i64 0)
  have fx2 := fx.set4 (.int .u8 kk)
  have hb2 := Fx.bset hb (Nat.le_refl _) 4 (.int .u8 kk)
  have hk2 := hk.set (b := N + 1) (by omega) 4 (.int .u8 kk)
  have FX' := hide fx2; have HB' := hide hb2; have HK3 := hide hk2
  clear fx hb hk fx2 hb2 hk2
  go_wp2_with fail
  generalize ((((w3.setCell ⟨N, 0, none⟩ (.slice a len cap)).setCell ⟨N, 1, none⟩ (.int .i64 P.at_)).setCell ⟨N, 2, none⟩ (.int .i64 k)).setCell ⟨N, 3, none⟩ (.int .i64 0)).setCell ⟨N + 1, 4, none⟩ (.int .u8 kk) = w4 at *
  clear p0 p1 p2 p3 q0 q1 q2 q3 q4 q5 q6 q7 y0 y1 yl
  clear FX HB
  have FX := FX'; have HB := HB'
  clear FX' HB'
  refine (unhide HQ1 _ (unhide HB)).mono ?_
  rintro e w5 ⟨k', v, c, rfl, ⟨va, vl, vc, rfl⟩, hb5, hok⟩
  have fx := (unhide FX).below hb5
  have hb := (unhide HB).trans (hb5.mono (by have := (unhide FX).lt; omega))
  clear FX HB
  have FX := hide fx; have HB := hide hb
  clear fx hb
  clear hb5 hok
  obtain ⟨p0, p1, p2, p3⟩ := (unhide FX).cr
  obtain ⟨q0, q1, q2, q3, q4, q5, q6, q7⟩ := (unhide FX).cx
  have y0 := (unhide FX).f0; have y1 := (unhide FX).f1
  have yl := (unhide FX).lt
  have fx := (unhide FX).put4 (.slice a len cap) (.int .i64 A.at_) (.int .i64 k') (.int .i64 A.e)
  have hb := Fx.bput (unhide HB) (Nat.le_refl _) (.slice a len cap) (.int .i64 A.at_) (.int .i64 k') (.int .i64 A.e)
  have hk := (Kb.refl N w5).put (.slice a len cap) (.int .i64 A.at_) (.int .i64 k') (.int .i64 A.e)
  have fx2 := fx.set5 (.slice va vl vc)
  have hb2 := Fx.bset hb (Nat.le_refl _) 5 (.slice va vl vc)
  have hk2 := hk.set (b := N + 1) (by omega) 5 (.slice va vl vc)
  have FX' := hide fx2; have HB' := hide hb2; have HK5 := hide hk2
  clear fx hb hk fx2 hb2 hk2
  go_wp2_with fail
  generalize ((((w5.setCell ⟨N, 0, none⟩ (.slice a len cap)).setCell ⟨N, 1, none⟩ (.int .i64 A.at_)).setCell ⟨N, 2, none⟩ (.int .i64 k')).setCell ⟨N, 3, none⟩ (.int .i64 A.e)).setCell ⟨N + 1, 5, none⟩ (.slice va vl vc) = w6 at *
  clear p0 p1 p2 p3 q0 q1 q2 q3 q4 q5 q6 q7 y0 y1 yl
  clear FX HB
  have FX := FX'; have HB := HB'
  clear FX' HB'
  obtain ⟨p0, p1, p2, p3⟩ := (unhide FX).cr
  obtain ⟨q0, q1, q2, q3, q4, q5, q6, q7⟩ := (unhide FX).cx
  obtain ⟨a0, a1, a2, a3⟩ := (unhide FX).ca
  obtain ⟨b0, b1, b2, b3, b4, b5, b6, b7⟩ := (unhide FX).cb
  have y0 := (unhide FX).f0; have y1 := (unhide FX).f1; have y2 := (unhide FX).f2; have y3 := (unhide FX).f3
  have yl := (unhide FX).lt
  go_region
  go_wp2
  refine bodyPost_ret (v := .tuple #[.agg #[.slice a len cap, .int .i64 A.at_, .int .i64 k', .int .i64 A.e], .agg #[.int .u8 op, .int .i64 0, .int .u32 0, .int .u32 0, .int .u8 kk, .slice va vl vc, .slice none 0 0, .slice none 0 0]]) (by simp [results, Tryd.results51, go_sem, a0, a1, a2, a3, b0, b1, b2, b3, b4, b5, b6, b7]) rfl ?_
  refine ⟨k', ⟨op, 0, 0, 0, kk, [], [], []⟩, .slice va vl vc, .slice none 0 0, .slice none 0 0, ?_, ?_, ⟨⟨_, _, _, rfl⟩, ⟨_, _, _, rfl⟩, ⟨_, _, _, rfl⟩⟩, fun he => ?_⟩
  · rw [unhide HE.1, unhide HE.2.1]
  · rw [unhide HN]
    have h3 := unhide HB
    refine Below.drew ?_
    repeat' (with_reducible refine Below.setCell ?_ ?_ _)
    all_goals first | with_reducible assumption | (dsimp only; omega)
  · exact absurd (by rw [← unhide HE.1]; exact he) (unhide HP)

set_option maxRecDepth 100000 in
set_option maxHeartbeats 3200000 in
theorem rest_6_one (a : Option Addr) (len cap p k nest : Nat) (op : Int) (zs : List Int) (w : World) (hrow : Row w a len zs) (hl : len ≤ 3000) (hp : p ≤ len) (hc : len ≤ cap) (hf : fr op = 6) {m : Nat} (ih : ListR m) (hn : nest < 64) (hk : k ≤ 16384) (hm : len - p < m) (hK : (pB zs p jK).e = 0) (hA : (D zs (pB zs p jK).at_ k (nest + 1) false).e = 0) (h5 : ¬ (D zs (pB zs p jK).at_ k (nest + 1) false).v.2 = 5) :
    Calls Tryd.prog 51 #[RV a len cap p k 0, .agg #[.int .u8 op, .int .i64 0, .int .u32 0, .int .u32 0, .int .u8 0, .slice none 0 0, .slice none 0 0, .slice none 0 0], .int .i64 6, .int .i64 nest] w (RestPost w a len cap (pI (D zs) zs p k nest op)) := by
  obtain ⟨R, hR, hRe⟩ : ∃ R, pI (D zs) zs p k nest op = R ∧ R.e = 0 ∧ R.at_ = (D zs (pB zs p jK).at_ k (nest + 1) false).at_ ∧ R.k = (D zs (pB zs p jK).at_ k (nest + 1) false).k ∧ R.v = { plain op with re := kV (pB zs p jK).v, body := (D zs (pB zs p jK).at_ k (nest + 1) false).v.1 } := ⟨⟨0, (D zs (pB zs p jK).at_ k (nest + 1) false).at_, (D zs (pB zs p jK).at_ k (nest + 1) false).k, { plain op with re := kV (pB zs p jK).v, body := (D zs (pB zs p jK).at_ k (nest + 1) false).v.1 }⟩, by unfold pI; rw [hf, if_neg (by decide), if_neg (by decide), if_neg (by decide), if_neg (by decide), if_neg (by decide), if_neg (by decide), if_neg (by decide), if_pos (by decide), Part.on_ok hK]; unfold pK; rw [hf]; exact (Out.on_ok hA _ _).trans (if_neg h5), rfl, rfl, rfl, rfl⟩
  rw [hR]
  have HE : Hid (R.e = 0) ∧ Hid (R.at_ = (D zs (pB zs p jK).at_ k (nest + 1) false).at_) ∧ Hid (R.k = (D zs (pB zs p jK).at_ k (nest + 1) false).k) ∧ Hid (R.v = { plain op with re := kV (pB zs p jK).v, body := (D zs (pB zs p jK).at_ k (nest + 1) false).v.1 }) := hRe
  clear hRe hR hf
  have hat := pB_bd zs p jK (by rw [hrow.1]; exact hp)
  rw [hrow.1] at hat
  have hat1 : (pB zs p jK).at_ ≤ len := hat.2.1
  have hat0 : p ≤ (pB zs p jK).at_ := hat.1
  clear hat
  have hq := fun (wx : World) (hb : Below w.heap.size w wx) => kind_any a len cap p k zs wx (hrow.below (Nat.le_refl _) hb) hl hc
  have hq1 := fun (wx : World) (hb : Below w.heap.size w wx) => ih a len cap (pB zs p jK).at_ k (nest + 1) false zs wx (hrow.below (Nat.le_refl _) hb) hl hat1 hc hk (by omega) (by omega)
  rw [show ((nest + 1 : Nat) : Int) = (nest : Int) + 1 by omega] at hq1
  rw [hK] at hq
  have HQ := hide hq; have HQ1 := hide hq1; have HP := hide hA
  have t5 : ((D zs (pB zs p jK).at_ k (nest + 1) false).v.2 == 5) = false := by simpa using h5
  clear hq hq1 hK hA ih hat0 hat1 h5
  generalize (D zs (pB zs p jK).at_ k (nest + 1) false) = A at *
  generalize kV (pB zs p jK).v = kk at *
  generalize (pB zs p jK) = P at *
  clear hrow
  have fx := fx_new w (.slice a len cap) (.int .i64 p) (.int .i64 k) (.int .i64 0) (.int .u8 op) (.int .i64 0) (.int .u32 0) (.int .u32 0) (.int .u8 0) (.slice none 0 0) (.slice none 0 0) (.slice none 0 0)
  obtain ⟨fx, hb⟩ := fx
  go_enter Tryd.func51, Tryd.ntmps51
  go_wp2_with fail
  generalize (((w.alloc (.cells #[.slice a len cap, .int .i64 p, .int .i64 k, .int .i64 0] 80)).alloc (.cells #[.int .u8 op, .int .i64 0, .int .u32 0, .int .u32 0, .int .u8 0, .slice none 0 0, .slice none 0 0, .slice none 0 0] 55)).alloc (.cells #[.slice none 0 0, .int .i64 0, .int .i64 0, .int .i64 0] 80)).alloc (.cells #[.int .u8 0, .int .i64 0, .int .u32 0, .int .u32 0, .int .u8 0, .slice none 0 0, .slice none 0 0, .slice none 0 0] 55) = w2 at *
  have FX := hide fx; have HB := hide hb
  clear fx hb
  generalize hN : w.heap.size = N at *
  have HN := hide hN; clear hN
  refine (unhide HQ _ (unhide HB)).mono ?_
  rintro e w3 ⟨rfl, hb3⟩
  have fx := (unhide FX).below hb3
  have hb := (unhide HB).trans (hb3.mono (by have := (unhide FX).lt; omega))
  clear FX HB
  have FX := hide fx; have HB := hide hb
  clear fx hb
  clear hb3
  obtain ⟨p0, p1, p2, p3⟩ := (unhide FX).cr
  obtain ⟨q0, q1, q2, q3, q4, q5, q6, q7⟩ := (unhide FX).cx
  have y0 := (unhide FX).f0; have y1 := (unhide FX).f1
  have yl := (unhide FX).lt
  have fx := (unhide FX).put4 (.slice a len cap) (.int .i64 P.at_) (.int .i64 k) (.int .i64 0)
  have hb := Fx.bput (unhide HB) (Nat.le_refl _) (.slice a len cap) (.int .i64 P.at_) (.int .i64 k) (.int .i64 0)
  have hk := (Kb.refl N w3).put (.slice a len cap) (.int .i64 P.at_) (.int .i64 k) (.int .i64 0)
  have fx2 := fx.set4 (.int .u8 kk)
  have hb2 := Fx.bset hb (Nat.le_refl _) 4 (.int .u8 kk)
  have hk2 := hk.set (b := N + 1) (by omega) 4 (.int .u8 kk)
  have FX' := hide fx2; have HB' := hide hb2; have HK3 := hide hk2
  clear fx hb hk fx2 hb2 hk2
  go_wp2_with fail
  generalize ((((w3.setCell ⟨N, 0, none⟩ (.slice a len cap)).setCell ⟨N, 1, none⟩ (.int .i64 P.at_)).setCell ⟨N, 2, none⟩ (.int .i64 k)).setCell ⟨N, 3, none⟩ (.int .i64 0)).setCell ⟨N + 1, 4, none⟩ (.int .u8 kk) = w4 at *
  clear p0 p1 p2 p3 q0 q1 q2 q3 q4 q5 q6 q7 y0 y1 yl
  clear FX HB
  have FX := FX'; have HB := HB'
  clear FX' HB'
  have HZ2 := hide (unhide FX).lt
  refine (unhide HQ1 _ (unhide HB)).mono ?_
  rintro e w5 ⟨k', v, c, rfl, ⟨va, vl, vc, rfl⟩, hb5, hok⟩
  have fx := (unhide FX).below hb5
  have hb := (unhide HB).trans (hb5.mono (by have := (unhide FX).lt; omega))
  clear FX HB
  have FX := hide fx; have HB := hide hb
  clear fx hb
  obtain ⟨rfl, rfl, hcd⟩ := hok (unhide HP)
  rw [unhide HP]
  have HCd := hide hcd
  clear hb5 hok hcd
  obtain ⟨p0, p1, p2, p3⟩ := (unhide FX).cr
  obtain ⟨q0, q1, q2, q3, q4, q5, q6, q7⟩ := (unhide FX).cx
  have y0 := (unhide FX).f0; have y1 := (unhide FX).f1
  have yl := (unhide FX).lt
  have fx := (unhide FX).put4 (.slice a len cap) (.int .i64 A.at_) (.int .i64 A.k) (.int .i64 0)
  have hb := Fx.bput (unhide HB) (Nat.le_refl _) (.slice a len cap) (.int .i64 A.at_) (.int .i64 A.k) (.int .i64 0)
  have hk := (Kb.refl N w5).put (.slice a len cap) (.int .i64 A.at_) (.int .i64 A.k) (.int .i64 0)
  have fx2 := fx.set5 (.slice va vl vc)
  have hb2 := Fx.bset hb (Nat.le_refl _) 5 (.slice va vl vc)
  have hk2 := hk.set (b := N + 1) (by omega) 5 (.slice va vl vc)
  have FX' := hide fx2; have HB' := hide hb2; have HK5 := hide hk2
  clear fx hb hk fx2 hb2 hk2
  go_wp2_with fail
  generalize ((((w5.setCell ⟨N, 0, none⟩ (.slice a len cap)).setCell ⟨N, 1, none⟩ (.int .i64 A.at_)).setCell ⟨N, 2, none⟩ (.int .i64 A.k)).setCell ⟨N, 3, none⟩ (.int .i64 0)).setCell ⟨N + 1, 5, none⟩ (.slice va vl vc) = w6 at *
  clear p0 p1 p2 p3 q0 q1 q2 q3 q4 q5 q6 q7 y0 y1 yl
  clear FX HB
  have FX := FX'; have HB := HB'
  clear FX' HB'
  obtain ⟨p0, p1, p2, p3⟩ := (unhide FX).cr
  obtain ⟨q0, q1, q2, q3, q4, q5, q6, q7⟩ := (unhide FX).cx
  obtain ⟨a0, a1, a2, a3⟩ := (unhide FX).ca
  obtain ⟨b0, b1, b2, b3, b4, b5, b6, b7⟩ := (unhide FX).cb
  have y0 := (unhide FX).f0; have y1 := (unhide FX).f1; have y2 := (unhide FX).f2; have y3 := (unhide FX).f3
  have yl := (unhide FX).lt
  go_region
  go_wp2
  refine bodyPost_ret (v := .tuple #[.agg #[.slice a len cap, .int .i64 A.at_, .int .i64 A.k, .int .i64 0], .agg #[.int .u8 op, .int .i64 0, .int .u32 0, .int .u32 0, .int .u8 kk, .slice va vl vc, .slice none 0 0, .slice none 0 0]]) (by simp [results, Tryd.results51, go_sem, a0, a1, a2, a3, b0, b1, b2, b3, b4, b5, b6, b7]) rfl ?_
  refine ⟨A.k, ⟨op, 0, 0, 0, kk, A.v.1, [], []⟩, .slice va vl vc, .slice none 0 0, .slice none 0 0, ?_, ?_, ⟨⟨_, _, _, rfl⟩, ⟨_, _, _, rfl⟩, ⟨_, _, _, rfl⟩⟩, fun he => ?_⟩
  · rw [unhide HE.1, unhide HE.2.1]
  · rw [unhide HN]
    have h3 := unhide HB
    refine Below.drew ?_
    repeat' (with_reducible refine Below.setCell ?_ ?_ _)
    all_goals first | with_reducible assumption | (dsimp only; omega)
  · refine ⟨by rw [unhide HE.2.2.1], (unhide HE.2.2.2).symm, ?_, Code_nil _ _, Labs_nil _ _⟩
    refine Code.move (fun q hq _ hg => ⟨by have := unhide HZ2; have : w4.heap.size ≤ q := hg; have := unhide HN; show w.heap.size ≤ q; omega, ?_⟩) (unhide HCd)
    have hg' : w4.heap.size ≤ q := hg
    have := unhide HZ2
    refine Eq.trans (?_ : _ = w6.heap[q]?) (unhide HK5 q (by omega))
    refine (show Kb N w6 _ from ?_) q (by omega)
    refine Kb.drew ?_
    repeat' (with_reducible refine Kb.set ?_ ?_ _ _)
    all_goals first | exact Kb.refl _ _ | omega

set_option maxRecDepth 100000 in
set_option maxHeartbeats 3200000 in
theorem rest_6_two (a : Option Addr) (len cap p k nest : Nat) (op : Int) (zs : List Int) (w : World) (hrow : Row w a len zs) (hl : len ≤ 3000) (hp : p ≤ len) (hc : len ≤ cap) (hf : fr op = 6) {m : Nat} (ih : ListR m) (hn : nest < 64) (hk : k ≤ 16384) (hm : len - p < m) (hK : (pB zs p jK).e = 0) (hA : (D zs (pB zs p jK).at_ k (nest + 1) false).e = 0) (h5 : (D zs (pB zs p jK).at_ k (nest + 1) false).v.2 = 5) :
    Calls Tryd.prog 51 #[RV a len cap p k 0, .agg #[.int .u8 op, .int .i64 0, .int .u32 0, .int .u32 0, .int .u8 0, .slice none 0 0, .slice none 0 0, .slice none 0 0], .int .i64 6, .int .i64 nest] w (RestPost w a len cap (pI (D zs) zs p k nest op)) := by
  have hI : pI (D zs) zs p k nest op = (D zs (D zs (pB zs p jK).at_ k (nest + 1) false).at_ (D zs (pB zs p jK).at_ k (nest + 1) false).k (nest + 1) false).on (plain op) fun a3 k3 y => ⟨0, a3, k3, { plain op with re := kV (pB zs p jK).v, body := (D zs (pB zs p jK).at_ k (nest + 1) false).v.1, els := y.1 }⟩ := by unfold pI; rw [hf, if_neg (by decide), if_neg (by decide), if_neg (by decide), if_neg (by decide), if_neg (by decide), if_neg (by decide), if_neg (by decide), if_pos (by decide), Part.on_ok hK]; unfold pK; rw [hf]; exact (Out.on_ok hA _ _).trans (if_pos h5)
  obtain ⟨R, hR, hRe⟩ : ∃ R, pI (D zs) zs p k nest op = R ∧ R.e = (D zs (D zs (pB zs p jK).at_ k (nest + 1) false).at_ (D zs (pB zs p jK).at_ k (nest + 1) false).k (nest + 1) false).e ∧ R.at_ = (D zs (D zs (pB zs p jK).at_ k (nest + 1) false).at_ (D zs (pB zs p jK).at_ k (nest + 1) false).k (nest + 1) false).at_ ∧ ((D zs (D zs (pB zs p jK).at_ k (nest + 1) false).at_ (D zs (pB zs p jK).at_ k (nest + 1) false).k (nest + 1) false).e = 0 → R.k = (D zs (D zs (pB zs p jK).at_ k (nest + 1) false).at_ (D zs (pB zs p jK).at_ k (nest + 1) false).k (nest + 1) false).k) ∧ ((D zs (D zs (pB zs p jK).at_ k (nest + 1) false).at_ (D zs (pB zs p jK).at_ k (nest + 1) false).k (nest + 1) false).e = 0 → R.v = { plain op with re := kV (pB zs p jK).v, body := (D zs (pB zs p jK).at_ k (nest + 1) false).v.1, els := (D zs (D zs (pB zs p jK).at_ k (nest + 1) false).at_ (D zs (pB zs p jK).at_ k (nest + 1) false).k (nest + 1) false).v.1 }) := by
    refine ⟨_, rfl, ?_⟩
    rw [hI]
    by_cases hB : (D zs (D zs (pB zs p jK).at_ k (nest + 1) false).at_ (D zs (pB zs p jK).at_ k (nest + 1) false).k (nest + 1) false).e = 0
    · rw [Out.on_ok hB]; exact ⟨hB.symm, rfl, fun _ => rfl, fun _ => rfl⟩
    · rw [Out.on_no hB]; exact ⟨rfl, rfl, fun e => absurd e hB, fun e => absurd e hB⟩
  rw [hR]
  have HE : Hid (R.e = (D zs (D zs (pB zs p jK).at_ k (nest + 1) false).at_ (D zs (pB zs p jK).at_ k (nest + 1) false).k (nest + 1) false).e) ∧ Hid (R.at_ = (D zs (D zs (pB zs p jK).at_ k (nest + 1) false).at_ (D zs (pB zs p jK).at_ k (nest + 1) false).k (nest + 1) false).at_) ∧ Hid ((D zs (D zs (pB zs p jK).at_ k (nest + 1) false).at_ (D zs (pB zs p jK).at_ k (nest + 1) false).k (nest + 1) false).e = 0 → R.k = (D zs (D zs (pB zs p jK).at_ k (nest + 1) false).at_ (D zs (pB zs p jK).at_ k (nest + 1) false).k (nest + 1) false).k) ∧ Hid ((D zs (D zs (pB zs p jK).at_ k (nest + 1) false).at_ (D zs (pB zs p jK).at_ k (nest + 1) false).k (nest + 1) false).e = 0 → R.v = { plain op with re := kV (pB zs p jK).v, body := (D zs (pB zs p jK).at_ k (nest + 1) false).v.1, els := (D zs (D zs (pB zs p jK).at_ k (nest + 1) false).at_ (D zs (pB zs p jK).at_ k (nest + 1) false).k (nest + 1) false).v.1 }) := hRe
  clear hRe hR hf hI
  have hat := pB_bd zs p jK (by rw [hrow.1]; exact hp)
  rw [hrow.1] at hat
  have hat1 : (pB zs p jK).at_ ≤ len := hat.2.1
  have hat0 : p ≤ (pB zs p jK).at_ := hat.1
  clear hat
  have haf := D_bd zs (pB zs p jK).at_ k (nest + 1) false (by rw [hrow.1]; exact hat1)
  have hat2 : (D zs (pB zs p jK).at_ k (nest + 1) false).at_ ≤ len := by have := haf.2; rw [hrow.1] at this; exact this
  have hat3 : (pB zs p jK).at_ ≤ (D zs (pB zs p jK).at_ k (nest + 1) false).at_ := haf.1
  have hk2 := D_k hrow.2.1 (a := (pB zs p jK).at_) (me := false) (show nest + 1 ≤ 64 by omega) hk hA
  clear haf
  have hq := fun (wx : World) (hb : Below w.heap.size w wx) => kind_any a len cap p k zs wx (hrow.below (Nat.le_refl _) hb) hl hc
  have hq1 := fun (wx : World) (hb : Below w.heap.size w wx) => ih a len cap (pB zs p jK).at_ k (nest + 1) false zs wx (hrow.below (Nat.le_refl _) hb) hl hat1 hc hk (by omega) (by omega)
  rw [show ((nest + 1 : Nat) : Int) = (nest : Int) + 1 by omega] at hq1
  have hq2 := fun (wx : World) (hb : Below w.heap.size w wx) => ih a len cap (D zs (pB zs p jK).at_ k (nest + 1) false).at_ (D zs (pB zs p jK).at_ k (nest + 1) false).k (nest + 1) false zs wx (hrow.below (Nat.le_refl _) hb) hl hat2 hc hk2 (by omega) (by omega)
  rw [show ((nest + 1 : Nat) : Int) = (nest : Int) + 1 by omega] at hq2
  rw [hK] at hq
  have HQ := hide hq; have HQ1 := hide hq1; have HQ2 := hide hq2; have HP := hide hA; have H5 := hide h5
  clear hq hq1 hq2 hK hA ih hat0 hat1 h5 hat2 hat3 hk2
  generalize (D zs (D zs (pB zs p jK).at_ k (nest + 1) false).at_ (D zs (pB zs p jK).at_ k (nest + 1) false).k (nest + 1) false) = B at *
  generalize (D zs (pB zs p jK).at_ k (nest + 1) false) = A at *
  generalize kV (pB zs p jK).v = kk at *
  generalize (pB zs p jK) = P at *
  clear hrow
  have fx := fx_new w (.slice a len cap) (.int .i64 p) (.int .i64 k) (.int .i64 0) (.int .u8 op) (.int .i64 0) (.int .u32 0) (.int .u32 0) (.int .u8 0) (.slice none 0 0) (.slice none 0 0) (.slice none 0 0)
  obtain ⟨fx, hb⟩ := fx
  go_enter Tryd.func51, Tryd.ntmps51
  go_wp2_with fail
  generalize (((w.alloc (.cells #[.slice a len cap, .int .i64 p, .int .i64 k, .int .i64 0] 80)).alloc (.cells #[.int .u8 op, .int .i64 0, .int .u32 0, .int .u32 0, .int .u8 0, .slice none 0 0, .slice none 0 0, .slice none 0 0] 55)).alloc (.cells #[.slice none 0 0, .int .i64 0, .int .i64 0, .int .i64 0] 80)).alloc (.cells #[.int .u8 0, .int .i64 0, .int .u32 0, .int .u32 0, .int .u8 0, .slice none 0 0, .slice none 0 0, .slice none 0 0] 55) = w2 at *
  have FX := hide fx; have HB := hide hb
  clear fx hb
  generalize hN : w.heap.size = N at *
  have HN := hide hN; clear hN
  refine (unhide HQ _ (unhide HB)).mono ?_
  rintro e w3 ⟨rfl, hb3⟩
  have fx := (unhide FX).below hb3
  have hb := (unhide HB).trans (hb3.mono (by have := (unhide FX).lt; omega))
  clear FX HB
  have FX := hide fx; have HB := hide hb
  clear fx hb
  clear hb3
  obtain ⟨p0, p1, p2, p3⟩ := (unhide FX).cr
  obtain ⟨q0, q1, q2, q3, q4, q5, q6, q7⟩ := (unhide FX).cx
  have y0 := (unhide FX).f0; have y1 := (unhide FX).f1
  have yl := (unhide FX).lt
  have fx := (unhide FX).put4 (.slice a len cap) (.int .i64 P.at_) (.int .i64 k) (.int .i64 0)
  have hb := Fx.bput (unhide HB) (Nat.le_refl _) (.slice a len cap) (.int .i64 P.at_) (.int .i64 k) (.int .i64 0)
  have hk := (Kb.refl N w3).put (.slice a len cap) (.int .i64 P.at_) (.int .i64 k) (.int .i64 0)
  have fx2 := fx.set4 (.int .u8 kk)
  have hb2 := Fx.bset hb (Nat.le_refl _) 4 (.int .u8 kk)
  have hk2 := hk.set (b := N + 1) (by omega) 4 (.int .u8 kk)
  have FX' := hide fx2; have HB' := hide hb2; have HK3 := hide hk2
  clear fx hb hk fx2 hb2 hk2
  go_wp2_with fail
  generalize ((((w3.setCell ⟨N, 0, none⟩ (.slice a len cap)).setCell ⟨N, 1, none⟩ (.int .i64 P.at_)).setCell ⟨N, 2, none⟩ (.int .i64 k)).setCell ⟨N, 3, none⟩ (.int .i64 0)).setCell ⟨N + 1, 4, none⟩ (.int .u8 kk) = w4 at *
  clear p0 p1 p2 p3 q0 q1 q2 q3 q4 q5 q6 q7 y0 y1 yl
  clear FX HB
  have FX := FX'; have HB := HB'
  clear FX' HB'
  have HZ2 := hide (unhide FX).lt
  refine (unhide HQ1 _ (unhide HB)).mono ?_
  rintro e w5 ⟨k', v, c, rfl, ⟨va, vl, vc, rfl⟩, hb5, hok⟩
  have fx := (unhide FX).below hb5
  have hb := (unhide HB).trans (hb5.mono (by have := (unhide FX).lt; omega))
  clear FX HB
  have FX := hide fx; have HB := hide hb
  clear fx hb
  obtain ⟨rfl, rfl, hcd⟩ := hok (unhide HP)
  rw [unhide HP, unhide H5]
  have HCd := hide hcd
  clear hb5 hok hcd
  obtain ⟨p0, p1, p2, p3⟩ := (unhide FX).cr
  obtain ⟨q0, q1, q2, q3, q4, q5, q6, q7⟩ := (unhide FX).cx
  have y0 := (unhide FX).f0; have y1 := (unhide FX).f1
  have yl := (unhide FX).lt
  have fx := (unhide FX).put4 (.slice a len cap) (.int .i64 A.at_) (.int .i64 A.k) (.int .i64 0)
  have hb := Fx.bput (unhide HB) (Nat.le_refl _) (.slice a len cap) (.int .i64 A.at_) (.int .i64 A.k) (.int .i64 0)
  have hk := (Kb.refl N w5).put (.slice a len cap) (.int .i64 A.at_) (.int .i64 A.k) (.int .i64 0)
  have fx2 := fx.set5 (.slice va vl vc)
  have hb2 := Fx.bset hb (Nat.le_refl _) 5 (.slice va vl vc)
  have hk2 := hk.set (b := N + 1) (by omega) 5 (.slice va vl vc)
  have FX' := hide fx2; have HB' := hide hb2; have HK5 := hide hk2
  clear fx hb hk fx2 hb2 hk2
  go_wp2_with fail
  generalize ((((w5.setCell ⟨N, 0, none⟩ (.slice a len cap)).setCell ⟨N, 1, none⟩ (.int .i64 A.at_)).setCell ⟨N, 2, none⟩ (.int .i64 A.k)).setCell ⟨N, 3, none⟩ (.int .i64 0)).setCell ⟨N + 1, 5, none⟩ (.slice va vl vc) = w6 at *
  clear p0 p1 p2 p3 q0 q1 q2 q3 q4 q5 q6 q7 y0 y1 yl
  clear FX HB
  have FX := FX'; have HB := HB'
  clear FX' HB'
  have HZ3 := hide (unhide FX).lt
  refine (unhide HQ2 _ (unhide HB)).mono ?_
  rintro e w7 ⟨k', v, c, rfl, ⟨ua, ul, uc, rfl⟩, hb7, hok⟩
  have fx := (unhide FX).below hb7
  have hb := (unhide HB).trans (hb7.mono (by have := (unhide FX).lt; omega))
  clear FX HB
  have FX := hide fx; have HB := hide hb
  clear fx hb
  have HOk := hide hok; have HB7 := hide hb7
  clear hb7 hok
  obtain ⟨p0, p1, p2, p3⟩ := (unhide FX).cr
  obtain ⟨q0, q1, q2, q3, q4, q5, q6, q7⟩ := (unhide FX).cx
  have y0 := (unhide FX).f0; have y1 := (unhide FX).f1
  have yl := (unhide FX).lt
  have fx := (unhide FX).put4 (.slice a len cap) (.int .i64 B.at_) (.int .i64 k') (.int .i64 B.e)
  have hb := Fx.bput (unhide HB) (Nat.le_refl _) (.slice a len cap) (.int .i64 B.at_) (.int .i64 k') (.int .i64 B.e)
  have hk := (Kb.refl N w7).put (.slice a len cap) (.int .i64 B.at_) (.int .i64 k') (.int .i64 B.e)
  have fx2 := fx.set6 (.slice ua ul uc)
  have hb2 := Fx.bset hb (Nat.le_refl _) 6 (.slice ua ul uc)
  have hk2 := hk.set (b := N + 1) (by omega) 6 (.slice ua ul uc)
  have FX' := hide fx2; have HB' := hide hb2; have HK7 := hide hk2
  clear fx hb hk fx2 hb2 hk2
  go_wp2_with fail
  generalize ((((w7.setCell ⟨N, 0, none⟩ (.slice a len cap)).setCell ⟨N, 1, none⟩ (.int .i64 B.at_)).setCell ⟨N, 2, none⟩ (.int .i64 k')).setCell ⟨N, 3, none⟩ (.int .i64 B.e)).setCell ⟨N + 1, 6, none⟩ (.slice ua ul uc) = w8 at *
  clear p0 p1 p2 p3 q0 q1 q2 q3 q4 q5 q6 q7 y0 y1 yl
  clear FX HB
  have FX := FX'; have HB := HB'
  clear FX' HB'
  obtain ⟨p0, p1, p2, p3⟩ := (unhide FX).cr
  obtain ⟨q0, q1, q2, q3, q4, q5, q6, q7⟩ := (unhide FX).cx
  obtain ⟨a0, a1, a2, a3⟩ := (unhide FX).ca
  obtain ⟨b0, b1, b2, b3, b4, b5, b6, b7⟩ := (unhide FX).cb
  have y0 := (unhide FX).f0; have y1 := (unhide FX).f1; have y2 := (unhide FX).f2; have y3 := (unhide FX).f3
  have yl := (unhide FX).lt
  go_region
  go_wp2
  refine bodyPost_ret (v := .tuple #[.agg #[.slice a len cap, .int .i64 B.at_, .int .i64 k', .int .i64 B.e], .agg #[.int .u8 op, .int .i64 0, .int .u32 0, .int .u32 0, .int .u8 kk, .slice va vl vc, .slice ua ul uc, .slice none 0 0]]) (by simp [results, Tryd.results51, go_sem, a0, a1, a2, a3, b0, b1, b2, b3, b4, b5, b6, b7]) rfl ?_
  refine ⟨k', ⟨op, 0, 0, 0, kk, A.v.1, B.v.1, []⟩, .slice va vl vc, .slice ua ul uc, .slice none 0 0, ?_, ?_, ⟨⟨_, _, _, rfl⟩, ⟨_, _, _, rfl⟩, ⟨_, _, _, rfl⟩⟩, fun he => ?_⟩
  · rw [unhide HE.1, unhide HE.2.1]
  · rw [unhide HN]
    have h3 := unhide HB
    refine Below.drew ?_
    repeat' (with_reducible refine Below.setCell ?_ ?_ _)
    all_goals first | with_reducible assumption | (dsimp only; omega)
  · have hB : B.e = 0 := by rw [← unhide HE.1]; exact he
    obtain ⟨e1, _, hcd⟩ := unhide HOk hB
    refine ⟨by rw [unhide HE.2.2.1 hB, e1], (unhide HE.2.2.2 hB).symm, ?_, ?_, Labs_nil _ _⟩
    · refine Code.move (fun q hq _ hg => ⟨by have := unhide HZ2; have : w4.heap.size ≤ q := hg; have := unhide HN; show w.heap.size ≤ q; omega, ?_⟩) (unhide HCd)
      have hg' : w4.heap.size ≤ q := hg
      have := unhide HZ2
      have hq6 := kb_lt (unhide HK5) (by omega) hq
      refine Eq.trans (?_ : _ = w8.heap[q]?) ((unhide HK7 q (by omega)).trans (((unhide HB7).block q hq6).trans (unhide HK5 q (by omega))))
      refine (show Kb N w8 _ from ?_) q (by omega)
      refine Kb.drew ?_
      repeat' (with_reducible refine Kb.set ?_ ?_ _ _)
      all_goals first | exact Kb.refl _ _ | omega
    · refine Code.move (fun q hq _ hg => ⟨by have := unhide HZ3; have : w6.heap.size ≤ q := hg; have := unhide HN; show w.heap.size ≤ q; omega, ?_⟩) hcd
      have hg' : w6.heap.size ≤ q := hg
      have := unhide HZ3
      refine Eq.trans (?_ : _ = w8.heap[q]?) (unhide HK7 q (by omega))
      refine (show Kb N w8 _ from ?_) q (by omega)
      refine Kb.drew ?_
      repeat' (with_reducible refine Kb.set ?_ ?_ _ _)
      all_goals first | exact Kb.refl _ _ | omega

set_option maxRecDepth 100000 in
set_option maxHeartbeats 3200000 in
theorem rest_7_kno (a : Option Addr) (len cap p k nest : Nat) (op : Int) (zs : List Int) (w : World) (hrow : Row w a len zs) (hl : len ≤ 3000) (hp : p ≤ len) (hc : len ≤ cap) (hf : fr op = 7) {m : Nat} (ih : ListR m) (hn : nest < 64) (hk : k ≤ 16384) (hm : len - p < m) (hK : ¬ (pB zs p jK).e = 0) :
    Calls Tryd.prog 51 #[RV a len cap p k 0, .agg #[.int .u8 op, .int .i64 0, .int .u32 0, .int .u32 0, .int .u8 0, .slice none 0 0, .slice none 0 0, .slice none 0 0], .int .i64 7, .int .i64 nest] w (RestPost w a len cap (pI (D zs) zs p k nest op)) := by
  obtain ⟨R, hR, hRe⟩ : ∃ R, pI (D zs) zs p k nest op = R ∧ R.e = (pB zs p jK).e ∧ R.at_ = (pB zs p jK).at_ ∧ R.k = k ∧ True := ⟨⟨(pB zs p jK).e, (pB zs p jK).at_, k, plain op⟩, by unfold pI; rw [hf, if_neg (by decide), if_neg (by decide), if_neg (by decide), if_neg (by decide), if_neg (by decide), if_neg (by decide), if_neg (by decide), if_pos (by decide), Part.on_no hK], rfl, rfl, rfl, trivial⟩
  rw [hR]
  have HE : Hid (R.e = (pB zs p jK).e) ∧ Hid (R.at_ = (pB zs p jK).at_) ∧ Hid (R.k = k) ∧ Hid True := hRe
  clear hRe hR hf
  have hq := fun (wx : World) (hb : Below w.heap.size w wx) => kind_any a len cap p k zs wx (hrow.below (Nat.le_refl _) hb) hl hc
  have HQ := hide hq; have HP := hide hK
  have t : ((pB zs p jK).e == 0) = false := by simpa using hK
  clear hq hK ih
  generalize kV (pB zs p jK).v = kk at *
  generalize (pB zs p jK) = P at *
  clear hrow
  have fx := fx_new w (.slice a len cap) (.int .i64 p) (.int .i64 k) (.int .i64 0) (.int .u8 op) (.int .i64 0) (.int .u32 0) (.int .u32 0) (.int .u8 0) (.slice none 0 0) (.slice none 0 0) (.slice none 0 0)
  obtain ⟨fx, hb⟩ := fx
  go_enter Tryd.func51, Tryd.ntmps51
  go_wp2_with fail
  generalize (((w.alloc (.cells #[.slice a len cap, .int .i64 p, .int .i64 k, .int .i64 0] 80)).alloc (.cells #[.int .u8 op, .int .i64 0, .int .u32 0, .int .u32 0, .int .u8 0, .slice none 0 0, .slice none 0 0, .slice none 0 0] 55)).alloc (.cells #[.slice none 0 0, .int .i64 0, .int .i64 0, .int .i64 0] 80)).alloc (.cells #[.int .u8 0, .int .i64 0, .int .u32 0, .int .u32 0, .int .u8 0, .slice none 0 0, .slice none 0 0, .slice none 0 0] 55) = w2 at *
  have FX := hide fx; have HB := hide hb
  clear fx hb
  generalize hN : w.heap.size = N at *
  have HN := hide hN; clear hN
  refine (unhide HQ _ (unhide HB)).mono ?_
  rintro e w3 ⟨rfl, hb3⟩
  have fx := (unhide FX).below hb3
  have hb := (unhide HB).trans (hb3.mono (by have := (unhide FX).lt; omega))
  clear FX HB
  have FX := hide fx; have HB := hide hb
  clear fx hb
  clear hb3
  obtain ⟨p0, p1, p2, p3⟩ := (unhide FX).cr
  obtain ⟨q0, q1, q2, q3, q4, q5, q6, q7⟩ := (unhide FX).cx
  have y0 := (unhide FX).f0; have y1 := (unhide FX).f1
  have yl := (unhide FX).lt
  have fx := (unhide FX).put4 (.slice a len cap) (.int .i64 P.at_) (.int .i64 k) (.int .i64 P.e)
  have hb := Fx.bput (unhide HB) (Nat.le_refl _) (.slice a len cap) (.int .i64 P.at_) (.int .i64 k) (.int .i64 P.e)
  have hk := (Kb.refl N w3).put (.slice a len cap) (.int .i64 P.at_) (.int .i64 k) (.int .i64 P.e)
  have fx2 := fx.set4 (.int .u8 kk)
  have hb2 := Fx.bset hb (Nat.le_refl _) 4 (.int .u8 kk)
  have hk2 := hk.set (b := N + 1) (by omega) 4 (.int .u8 kk)
  have FX' := hide fx2; have HB' := hide hb2; have HK3 := hide hk2
  clear fx hb hk fx2 hb2 hk2
  go_wp2_with fail
  generalize ((((w3.setCell ⟨N, 0, none⟩ (.slice a len cap)).setCell ⟨N, 1, none⟩ (.int .i64 P.at_)).setCell ⟨N, 2, none⟩ (.int .i64 k)).setCell ⟨N, 3, none⟩ (.int .i64 P.e)).setCell ⟨N + 1, 4, none⟩ (.int .u8 kk) = w4 at *
  clear p0 p1 p2 p3 q0 q1 q2 q3 q4 q5 q6 q7 y0 y1 yl
  clear FX HB
  have FX := FX'; have HB := HB'
  clear FX' HB'
  obtain ⟨p0, p1, p2, p3⟩ := (unhide FX).cr
  obtain ⟨q0, q1, q2, q3, q4, q5, q6, q7⟩ := (unhide FX).cx
  obtain ⟨a0, a1, a2, a3⟩ := (unhide FX).ca
  obtain ⟨b0, b1, b2, b3, b4, b5, b6, b7⟩ := (unhide FX).cb
  have y0 := (unhide FX).f0; have y1 := (unhide FX).f1; have y2 := (unhide FX).f2; have y3 := (unhide FX).f3
  have yl := (unhide FX).lt
  go_region
  go_wp2
  refine bodyPost_ret (v := .tuple #[.agg #[.slice a len cap, .int .i64 P.at_, .int .i64 k, .int .i64 P.e], .agg #[.int .u8 op, .int .i64 0, .int .u32 0, .int .u32 0, .int .u8 kk, .slice none 0 0, .slice none 0 0, .slice none 0 0]]) (by simp [results, Tryd.results51, go_sem, a0, a1, a2, a3, b0, b1, b2, b3, b4, b5, b6, b7]) rfl ?_
  refine ⟨k, ⟨op, 0, 0, 0, kk, [], [], []⟩, .slice none 0 0, .slice none 0 0, .slice none 0 0, ?_, ?_, ⟨⟨_, _, _, rfl⟩, ⟨_, _, _, rfl⟩, ⟨_, _, _, rfl⟩⟩, fun he => ?_⟩
  · rw [unhide HE.1, unhide HE.2.1]
  · rw [unhide HN]
    have h3 := unhide HB
    refine Below.drew ?_
    repeat' (with_reducible refine Below.setCell ?_ ?_ _)
    all_goals first | with_reducible assumption | (dsimp only; omega)
  · exact absurd (by rw [← unhide HE.1]; exact he) (unhide HP)

set_option maxRecDepth 100000 in
set_option maxHeartbeats 3200000 in
theorem rest_7_lno (a : Option Addr) (len cap p k nest : Nat) (op : Int) (zs : List Int) (w : World) (hrow : Row w a len zs) (hl : len ≤ 3000) (hp : p ≤ len) (hc : len ≤ cap) (hf : fr op = 7) {m : Nat} (ih : ListR m) (hn : nest < 64) (hk : k ≤ 16384) (hm : len - p < m) (hK : (pB zs p jK).e = 0) (hA : ¬ (D zs (pB zs p jK).at_ k (nest + 1) true).e = 0) :
    Calls Tryd.prog 51 #[RV a len cap p k 0, .agg #[.int .u8 op, .int .i64 0, .int .u32 0, .int .u32 0, .int .u8 0, .slice none 0 0, .slice none 0 0, .slice none 0 0], .int .i64 7, .int .i64 nest] w (RestPost w a len cap (pI (D zs) zs p k nest op)) := by
  obtain ⟨R, hR, hRe⟩ : ∃ R, pI (D zs) zs p k nest op = R ∧ R.e = (D zs (pB zs p jK).at_ k (nest + 1) true).e ∧ R.at_ = (D zs (pB zs p jK).at_ k (nest + 1) true).at_ ∧ True ∧ True := ⟨⟨(D zs (pB zs p jK).at_ k (nest + 1) true).e, (D zs (pB zs p jK).at_ k (nest + 1) true).at_, (D zs (pB zs p jK).at_ k (nest + 1) true).k, plain op⟩, by unfold pI; rw [hf, if_neg (by decide), if_neg (by decide), if_neg (by decide), if_neg (by decide), if_neg (by decide), if_neg (by decide), if_neg (by decide), if_pos (by decide), Part.on_ok hK]; unfold pK; rw [hf]; exact Out.on_no hA _ _, rfl, rfl, trivial, trivial⟩
  rw [hR]
  have HE : Hid (R.e = (D zs (pB zs p jK).at_ k (nest + 1) true).e) ∧ Hid (R.at_ = (D zs (pB zs p jK).at_ k (nest + 1) true).at_) ∧ Hid True ∧ Hid True := hRe
  clear hRe hR hf
  have hat := pB_bd zs p jK (by rw [hrow.1]; exact hp)
  rw [hrow.1] at hat
  have hat1 : (pB zs p jK).at_ ≤ len := hat.2.1
  have hat0 : p ≤ (pB zs p jK).at_ := hat.1
  clear hat
  have hq := fun (wx : World) (hb : Below w.heap.size w wx) => kind_any a len cap p k zs wx (hrow.below (Nat.le_refl _) hb) hl hc
  have hq1 := fun (wx : World) (hb : Below w.heap.size w wx) => ih a len cap (pB zs p jK).at_ k (nest + 1) true zs wx (hrow.below (Nat.le_refl _) hb) hl hat1 hc hk (by omega) (by omega)
  rw [show ((nest + 1 : Nat) : Int) = (nest : Int) + 1 by omega] at hq1
  rw [hK] at hq
  have HQ := hide hq; have HQ1 := hide hq1; have HP := hide hA
  have t : ((D zs (pB zs p jK).at_ k (nest + 1) true).e == 0) = false := by simpa using hA
  clear hq hq1 hK hA ih hat0 hat1
  generalize (D zs (pB zs p jK).at_ k (nest + 1) true) = A at *
  generalize kV (pB zs p jK).v = kk at *
  generalize (pB zs p jK) = P at *
  clear hrow
  have fx := fx_new w (.slice a len cap) (.int .i64 p) (.int .i64 k) (.int .i64 0) (.int .u8 op) (.int .i64 0) (.int .u32 0) (.int .u32 0) (.int .u8 0) (.slice none 0 0) (.slice none 0 0) (.slice none 0 0)
  obtain ⟨fx, hb⟩ := fx
  go_enter Tryd.func51, Tryd.ntmps51
  go_wp2_with fail
  generalize (((w.alloc (.cells #[.slice a len cap, .int .i64 p, .int .i64 k, .int .i64 0] 80)).alloc (.cells #[.int .u8 op, .int .i64 0, .int .u32 0, .int .u32 0, .int .u8 0, .slice none 0 0, .slice none 0 0, .slice none 0 0] 55)).alloc (.cells #[.slice none 0 0, .int .i64 0, .int .i64 0, .int .i64 0] 80)).alloc (.cells #[.int .u8 0, .int .i64 0, .int .u32 0, .int .u32 0, .int .u8 0, .slice none 0 0, .slice none 0 0, .slice none 0 0] 55) = w2 at *
  have FX := hide fx; have HB := hide hb
  clear fx hb
  generalize hN : w.heap.size = N at *
  have HN := hide hN; clear hN
  refine (unhide HQ _ (unhide HB)).mono ?_
  rintro e w3 ⟨rfl, hb3⟩
  have fx := (unhide FX).below hb3
  have hb := (unhide HB).trans (hb3.mono (by have := (unhide FX).lt; omega))
  clear FX HB
  have FX := hide fx; have HB := hide hb
  clear fx hb
  clear hb3
  obtain ⟨p0, p1, p2, p3⟩ := (unhide FX).cr
  obtain ⟨q0, q1, q2, q3, q4, q5, q6, q7⟩ := (unhide FX).cx
  have y0 := (unhide FX).f0; have y1 := (unhide FX).f1
  have yl := (unhide FX).lt
  have fx := (unhide FX).put4 (.slice a len cap) (.int .i64 P.at_) (.int .i64 k) (.int .i64 0)
  have hb := Fx.bput (unhide HB) (Nat.le_refl _) (.slice a len cap) (.int .i64 P.at_) (.int .i64 k) (.int .i64 0)
  have hk := (Kb.refl N w3).put (.slice a len cap) (.int .i64 P.at_) (.int .i64 k) (.int .i64 0)
  have fx2 := fx.set4 (.int .u8 kk)
  have hb2 := Fx.bset hb (Nat.le_refl _) 4 (.int .u8 kk)
  have hk2 := hk.set (b := N + 1) (by omega) 4 (.int .u8 kk)
  have FX' := hide fx2; have HB' := hide hb2; have HK3 := hide hk2
  clear fx hb hk fx2 hb2 hk2
  go_wp2_with fail
  generalize ((((w3.setCell ⟨N, 0, none⟩ (.slice a len cap)).setCell ⟨N, 1, none⟩ (.int .i64 P.at_)).setCell ⟨N, 2, none⟩ (.int .i64 k)).setCell ⟨N, 3, none⟩ (.int .i64 0)).setCell ⟨N + 1, 4, none⟩ (.int .u8 kk) = w4 at *
  clear p0 p1 p2 p3 q0 q1 q2 q3 q4 q5 q6 q7 y0 y1 yl
  clear FX HB
  have FX := FX'; have HB := HB'
  clear FX' HB'
  refine (unhide HQ1 _ (unhide HB)).mono ?_
  rintro e w5 ⟨k', v, c, rfl, ⟨va, vl, vc, rfl⟩, hb5, hok⟩
  have fx := (unhide FX).below hb5
  have hb := (unhide HB).trans (hb5.mono (by have := (unhide FX).lt; omega))
  clear FX HB
  have FX := hide fx; have HB := hide hb
  clear fx hb
  clear hb5 hok
  obtain ⟨p0, p1, p2, p3⟩ := (unhide FX).cr
  obtain ⟨q0, q1, q2, q3, q4, q5, q6, q7⟩ := (unhide FX).cx
  have y0 := (unhide FX).f0; have y1 := (unhide FX).f1
  have yl := (unhide FX).lt
  have fx := (unhide FX).put4 (.slice a len cap) (.int .i64 A.at_) (.int .i64 k') (.int .i64 A.e)
  have hb := Fx.bput (unhide HB) (Nat.le_refl _) (.slice a len cap) (.int .i64 A.at_) (.int .i64 k') (.int .i64 A.e)
  have hk := (Kb.refl N w5).put (.slice a len cap) (.int .i64 A.at_) (.int .i64 k') (.int .i64 A.e)
  have fx2 := fx.set5 (.slice va vl vc)
  have hb2 := Fx.bset hb (Nat.le_refl _) 5 (.slice va vl vc)
  have hk2 := hk.set (b := N + 1) (by omega) 5 (.slice va vl vc)
  have FX' := hide fx2; have HB' := hide hb2; have HK5 := hide hk2
  clear fx hb hk fx2 hb2 hk2
  go_wp2_with fail
  generalize ((((w5.setCell ⟨N, 0, none⟩ (.slice a len cap)).setCell ⟨N, 1, none⟩ (.int .i64 A.at_)).setCell ⟨N, 2, none⟩ (.int .i64 k')).setCell ⟨N, 3, none⟩ (.int .i64 A.e)).setCell ⟨N + 1, 5, none⟩ (.slice va vl vc) = w6 at *
  clear p0 p1 p2 p3 q0 q1 q2 q3 q4 q5 q6 q7 y0 y1 yl
  clear FX HB
  have FX := FX'; have HB := HB'
  clear FX' HB'
  obtain ⟨p0, p1, p2, p3⟩ := (unhide FX).cr
  obtain ⟨q0, q1, q2, q3, q4, q5, q6, q7⟩ := (unhide FX).cx
  obtain ⟨a0, a1, a2, a3⟩ := (unhide FX).ca
  obtain ⟨b0, b1, b2, b3, b4, b5, b6, b7⟩ := (unhide FX).cb
  have y0 := (unhide FX).f0; have y1 := (unhide FX).f1; have y2 := (unhide FX).f2; have y3 := (unhide FX).f3
  have yl := (unhide FX).lt
  go_region
  go_wp2
  refine bodyPost_ret (v := .tuple #[.agg #[.slice a len cap, .int .i64 A.at_, .int .i64 k', .int .i64 A.e], .agg #[.int .u8 op, .int .i64 0, .int .u32 0, .int .u32 0, .int .u8 kk, .slice va vl vc, .slice none 0 0, .slice none 0 0]]) (by simp [results, Tryd.results51, go_sem, a0, a1, a2, a3, b0, b1, b2, b3, b4, b5, b6, b7]) rfl ?_
  refine ⟨k', ⟨op, 0, 0, 0, kk, [], [], []⟩, .slice va vl vc, .slice none 0 0, .slice none 0 0, ?_, ?_, ⟨⟨_, _, _, rfl⟩, ⟨_, _, _, rfl⟩, ⟨_, _, _, rfl⟩⟩, fun he => ?_⟩
  · rw [unhide HE.1, unhide HE.2.1]
  · rw [unhide HN]
    have h3 := unhide HB
    refine Below.drew ?_
    repeat' (with_reducible refine Below.setCell ?_ ?_ _)
    all_goals first | with_reducible assumption | (dsimp only; omega)
  · exact absurd (by rw [← unhide HE.1]; exact he) (unhide HP)

set_option maxRecDepth 100000 in
set_option maxHeartbeats 3200000 in
theorem rest_7_one (a : Option Addr) (len cap p k nest : Nat) (op : Int) (zs : List Int) (w : World) (hrow : Row w a len zs) (hl : len ≤ 3000) (hp : p ≤ len) (hc : len ≤ cap) (hf : fr op = 7) {m : Nat} (ih : ListR m) (hn : nest < 64) (hk : k ≤ 16384) (hm : len - p < m) (hK : (pB zs p jK).e = 0) (hA : (D zs (pB zs p jK).at_ k (nest + 1) true).e = 0) (h5 : ¬ (D zs (pB zs p jK).at_ k (nest + 1) true).v.2 = 5) :
    Calls Tryd.prog 51 #[RV a len cap p k 0, .agg #[.int .u8 op, .int .i64 0, .int .u32 0, .int .u32 0, .int .u8 0, .slice none 0 0, .slice none 0 0, .slice none 0 0], .int .i64 7, .int .i64 nest] w (RestPost w a len cap (pI (D zs) zs p k nest op)) := by
  obtain ⟨R, hR, hRe⟩ : ∃ R, pI (D zs) zs p k nest op = R ∧ R.e = 0 ∧ R.at_ = (D zs (pB zs p jK).at_ k (nest + 1) true).at_ ∧ R.k = (D zs (pB zs p jK).at_ k (nest + 1) true).k ∧ R.v = { plain op with re := kV (pB zs p jK).v, body := (D zs (pB zs p jK).at_ k (nest + 1) true).v.1 } := ⟨⟨0, (D zs (pB zs p jK).at_ k (nest + 1) true).at_, (D zs (pB zs p jK).at_ k (nest + 1) true).k, { plain op with re := kV (pB zs p jK).v, body := (D zs (pB zs p jK).at_ k (nest + 1) true).v.1 }⟩, by unfold pI; rw [hf, if_neg (by decide), if_neg (by decide), if_neg (by decide), if_neg (by decide), if_neg (by decide), if_neg (by decide), if_neg (by decide), if_pos (by decide), Part.on_ok hK]; unfold pK; rw [hf]; exact (Out.on_ok hA _ _).trans (if_neg h5), rfl, rfl, rfl, rfl⟩
  rw [hR]
  have HE : Hid (R.e = 0) ∧ Hid (R.at_ = (D zs (pB zs p jK).at_ k (nest + 1) true).at_) ∧ Hid (R.k = (D zs (pB zs p jK).at_ k (nest + 1) true).k) ∧ Hid (R.v = { plain op with re := kV (pB zs p jK).v, body := (D zs (pB zs p jK).at_ k (nest + 1) true).v.1 }) := hRe
  clear hRe hR hf
  have hat := pB_bd zs p jK (by rw [hrow.1]; exact hp)
  rw [hrow.1] at hat
  have hat1 : (pB zs p jK).at_ ≤ len := hat.2.1
  have hat0 : p ≤ (pB zs p jK).at_ := hat.1
  clear hat
  have hq := fun (wx : World) (hb : Below w.heap.size w wx) => kind_any a len cap p k zs wx (hrow.below (Nat.le_refl _) hb) hl hc
  have hq1 := fun (wx : World) (hb : Below w.heap.size w wx) => ih a len cap (pB zs p jK).at_ k (nest + 1) true zs wx (hrow.below (Nat.le_refl _) hb) hl hat1 hc hk (by omega) (by omega)
  rw [show ((nest + 1 : Nat) : Int) = (nest : Int) + 1 by omega] at hq1
  rw [hK] at hq
  have HQ := hide hq; have HQ1 := hide hq1; have HP := hide hA
  have t5 : ((D zs (pB zs p jK).at_ k (nest + 1) true).v.2 == 5) = false := by simpa using h5
  clear hq hq1 hK hA ih hat0 hat1 h5
  generalize (D zs (pB zs p jK).at_ k (nest + 1) true) = A at *
  generalize kV (pB zs p jK).v = kk at *
  generalize (pB zs p jK) = P at *
  clear hrow
  have fx := fx_new w (.slice a len cap) (.int .i64 p) (.int .i64 k) (.int .i64 0) (.int .u8 op) (.int .i64 0) (.int .u32 0) (.int .u32 0) (.int .u8 0) (.slice none 0 0) (.slice none 0 0) (.slice none 0 0)
  obtain ⟨fx, hb⟩ := fx
  go_enter Tryd.func51, Tryd.ntmps51
  go_wp2_with fail
  generalize (((w.alloc (.cells #[.slice a len cap, .int .i64 p, .int .i64 k, .int .i64 0] 80)).alloc (.cells #[.int .u8 op, .int .i64 0, .int .u32 0, .int .u32 0, .int .u8 0, .slice none 0 0, .slice none 0 0, .slice none 0 0] 55)).alloc (.cells #[.slice none 0 0, .int .i64 0, .int .i64 0, .int .i64 0] 80)).alloc (.cells #[.int .u8 0, .int .i64 0, .int .u32 0, .int .u32 0, .int .u8 0, .slice none 0 0, .slice none 0 0, .slice none 0 0] 55) = w2 at *
  have FX := hide fx; have HB := hide hb
  clear fx hb
  generalize hN : w.heap.size = N at *
  have HN := hide hN; clear hN
  refine (unhide HQ _ (unhide HB)).mono ?_
  rintro e w3 ⟨rfl, hb3⟩
  have fx := (unhide FX).below hb3
  have hb := (unhide HB).trans (hb3.mono (by have := (unhide FX).lt; omega))
  clear FX HB
  have FX := hide fx; have HB := hide hb
  clear fx hb
  clear hb3
  obtain ⟨p0, p1, p2, p3⟩ := (unhide FX).cr
  obtain ⟨q0, q1, q2, q3, q4, q5, q6, q7⟩ := (unhide FX).cx
  have y0 := (unhide FX).f0; have y1 := (unhide FX).f1
  have yl := (unhide FX).lt
  have fx := (unhide FX).put4 (.slice a len cap) (.int .i64 P.at_) (.int .i64 k) (.int .i64 0)
  have hb := Fx.bput (unhide HB) (Nat.le_refl _) (.slice a len cap) (.int .i64 P.at_) (.int .i64 k) (.int .i64 0)
  have hk := (Kb.refl N w3).put (.slice a len cap) (.int .i64 P.at_) (.int .i64 k) (.int .i64 0)
  have fx2 := fx.set4 (.int .u8 kk)
  have hb2 := Fx.bset hb (Nat.le_refl _) 4 (.int .u8 kk)
  have hk2 := hk.set (b := N + 1) (by omega) 4 (.int .u8 kk)
  have FX' := hide fx2; have HB' := hide hb2; have HK3 := hide hk2
  clear fx hb hk fx2 hb2 hk2
  go_wp2_with fail
  generalize ((((w3.setCell ⟨N, 0, none⟩ (.slice a len cap)).setCell ⟨N, 1, none⟩ (.int .i64 P.at_)).setCell ⟨N, 2, none⟩ (.int .i64 k)).setCell ⟨N, 3, none⟩ (.int .i64 0)).setCell ⟨N + 1, 4, none⟩ (.int .u8 kk) = w4 at *
  clear p0 p1 p2 p3 q0 q1 q2 q3 q4 q5 q6 q7 y0 y1 yl
  clear FX HB
  have FX := FX'; have HB := HB'
  clear FX' HB'
  have HZ2 := hide (unhide FX).lt
  refine (unhide HQ1 _ (unhide HB)).mono ?_
  rintro e w5 ⟨k', v, c, rfl, ⟨va, vl, vc, rfl⟩, hb5, hok⟩
  have fx := (unhide FX).below hb5
  have hb := (unhide HB).trans (hb5.mono (by have := (unhide FX).lt; omega))
  clear FX HB
  have FX := hide fx; have HB := hide hb
  clear fx hb
  obtain ⟨rfl, rfl, hcd⟩ := hok (unhide HP)
  rw [unhide HP]
  have HCd := hide hcd
  clear hb5 hok hcd
  obtain ⟨p0, p1, p2, p3⟩ := (unhide FX).cr
  obtain ⟨q0, q1, q2, q3, q4, q5, q6, q7⟩ := (unhide FX).cx
  have y0 := (unhide FX).f0; have y1 := (unhide FX).f1
  have yl := (unhide FX).lt
  have fx := (unhide FX).put4 (.slice a len cap) (.int .i64 A.at_) (.int .i64 A.k) (.int .i64 0)
  have hb := Fx.bput (unhide HB) (Nat.le_refl _) (.slice a len cap) (.int .i64 A.at_) (.int .i64 A.k) (.int .i64 0)
  have hk := (Kb.refl N w5).put (.slice a len cap) (.int .i64 A.at_) (.int .i64 A.k) (.int .i64 0)
  have fx2 := fx.set5 (.slice va vl vc)
  have hb2 := Fx.bset hb (Nat.le_refl _) 5 (.slice va vl vc)
  have hk2 := hk.set (b := N + 1) (by omega) 5 (.slice va vl vc)
  have FX' := hide fx2; have HB' := hide hb2; have HK5 := hide hk2
  clear fx hb hk fx2 hb2 hk2
  go_wp2_with fail
  generalize ((((w5.setCell ⟨N, 0, none⟩ (.slice a len cap)).setCell ⟨N, 1, none⟩ (.int .i64 A.at_)).setCell ⟨N, 2, none⟩ (.int .i64 A.k)).setCell ⟨N, 3, none⟩ (.int .i64 0)).setCell ⟨N + 1, 5, none⟩ (.slice va vl vc) = w6 at *
  clear p0 p1 p2 p3 q0 q1 q2 q3 q4 q5 q6 q7 y0 y1 yl
  clear FX HB
  have FX := FX'; have HB := HB'
  clear FX' HB'
  obtain ⟨p0, p1, p2, p3⟩ := (unhide FX).cr
  obtain ⟨q0, q1, q2, q3, q4, q5, q6, q7⟩ := (unhide FX).cx
  obtain ⟨a0, a1, a2, a3⟩ := (unhide FX).ca
  obtain ⟨b0, b1, b2, b3, b4, b5, b6, b7⟩ := (unhide FX).cb
  have y0 := (unhide FX).f0; have y1 := (unhide FX).f1; have y2 := (unhide FX).f2; have y3 := (unhide FX).f3
  have yl := (unhide FX).lt
  go_region
  go_wp2
  refine bodyPost_ret (v := .tuple #[.agg #[.slice a len cap, .int .i64 A.at_, .int .i64 A.k, .int .i64 0], .agg #[.int .u8 op, .int .i64 0, .int .u32 0, .int .u32 0, .int .u8 kk, .slice va vl vc, .slice none 0 0, .slice none 0 0]]) (by simp [results, Tryd.results51, go_sem, a0, a1, a2, a3, b0, b1, b2, b3, b4, b5, b6, b7]) rfl ?_
  refine ⟨A.k, ⟨op, 0, 0, 0, kk, A.v.1, [], []⟩, .slice va vl vc, .slice none 0 0, .slice none 0 0, ?_, ?_, ⟨⟨_, _, _, rfl⟩, ⟨_, _, _, rfl⟩, ⟨_, _, _, rfl⟩⟩, fun he => ?_⟩
  · rw [unhide HE.1, unhide HE.2.1]
  · rw [unhide HN]
    have h3 := unhide HB
    refine Below.drew ?_
    repeat' (with_reducible refine Below.setCell ?_ ?_ _)
    all_goals first | with_reducible assumption | (dsimp only; omega)
  · refine ⟨by rw [unhide HE.2.2.1], (unhide HE.2.2.2).symm, ?_, Code_nil _ _, Labs_nil _ _⟩
    refine Code.move (fun q hq _ hg => ⟨by have := unhide HZ2; have : w4.heap.size ≤ q := hg; have := unhide HN; show w.heap.size ≤ q; omega, ?_⟩) (unhide HCd)
    have hg' : w4.heap.size ≤ q := hg
    have := unhide HZ2
    refine Eq.trans (?_ : _ = w6.heap[q]?) (unhide HK5 q (by omega))
    refine (show Kb N w6 _ from ?_) q (by omega)
    refine Kb.drew ?_
    repeat' (with_reducible refine Kb.set ?_ ?_ _ _)
    all_goals first | exact Kb.refl _ _ | omega

set_option maxRecDepth 100000 in
set_option maxHeartbeats 3200000 in
theorem rest_7_two (a : Option Addr) (len cap p k nest : Nat) (op : Int) (zs : List Int) (w : World) (hrow : Row w a len zs) (hl : len ≤ 3000) (hp : p ≤ len) (hc : len ≤ cap) (hf : fr op = 7) {m : Nat} (ih : ListR m) (hn : nest < 64) (hk : k ≤ 16384) (hm : len - p < m) (hK : (pB zs p jK).e = 0) (hA : (D zs (pB zs p jK).at_ k (nest + 1) true).e = 0) (h5 : (D zs (pB zs p jK).at_ k (nest + 1) true).v.2 = 5) :
    Calls Tryd.prog 51 #[RV a len cap p k 0, .agg #[.int .u8 op, .int .i64 0, .int .u32 0, .int .u32 0, .int .u8 0, .slice none 0 0, .slice none 0 0, .slice none 0 0], .int .i64 7, .int .i64 nest] w (RestPost w a len cap (pI (D zs) zs p k nest op)) := by
  have hI : pI (D zs) zs p k nest op = (D zs (D zs (pB zs p jK).at_ k (nest + 1) true).at_ (D zs (pB zs p jK).at_ k (nest + 1) true).k (nest + 1) false).on (plain op) fun a3 k3 y => ⟨0, a3, k3, { plain op with re := kV (pB zs p jK).v, body := (D zs (pB zs p jK).at_ k (nest + 1) true).v.1, els := y.1 }⟩ := by unfold pI; rw [hf, if_neg (by decide), if_neg (by decide), if_neg (by decide), if_neg (by decide), if_neg (by decide), if_neg (by decide), if_neg (by decide), if_pos (by decide), Part.on_ok hK]; unfold pK; rw [hf]; exact (Out.on_ok hA _ _).trans (if_pos h5)
  obtain ⟨R, hR, hRe⟩ : ∃ R, pI (D zs) zs p k nest op = R ∧ R.e = (D zs (D zs (pB zs p jK).at_ k (nest + 1) true).at_ (D zs (pB zs p jK).at_ k (nest + 1) true).k (nest + 1) false).e ∧ R.at_ = (D zs (D zs (pB zs p jK).at_ k (nest + 1) true).at_ (D zs (pB zs p jK).at_ k (nest + 1) true).k (nest + 1) false).at_ ∧ ((D zs (D zs (pB zs p jK).at_ k (nest + 1) true).at_ (D zs (pB zs p jK).at_ k (nest + 1) true).k (nest + 1) false).e = 0 → R.k = (D zs (D zs (pB zs p jK).at_ k (nest + 1) true).at_ (D zs (pB zs p jK).at_ k (nest + 1) true).k (nest + 1) false).k) ∧ ((D zs (D zs (pB zs p jK).at_ k (nest + 1) true).at_ (D zs (pB zs p jK).at_ k (nest + 1) true).k (nest + 1) false).e = 0 → R.v = { plain op with re := kV (pB zs p jK).v, body := (D zs (pB zs p jK).at_ k (nest + 1) true).v.1, els := (D zs (D zs (pB zs p jK).at_ k (nest + 1) true).at_ (D zs (pB zs p jK).at_ k (nest + 1) true).k (nest + 1) false).v.1 }) := by
    refine ⟨_, rfl, ?_⟩
    rw [hI]
    by_cases hB : (D zs (D zs (pB zs p jK).at_ k (nest + 1) true).at_ (D zs (pB zs p jK).at_ k (nest + 1) true).k (nest + 1) false).e = 0
    · rw [Out.on_ok hB]; exact ⟨hB.symm, rfl, fun _ => rfl, fun _ => rfl⟩
    · rw [Out.on_no hB]; exact ⟨rfl, rfl, fun e => absurd e hB, fun e => absurd e hB⟩
  rw [hR]
  have HE : Hid (R.e = (D zs (D zs (pB zs p jK).at_ k (nest + 1) true).at_ (D zs (pB zs p jK).at_ k (nest + 1) true).k (nest + 1) false).e) ∧ Hid (R.at_ = (D zs (D zs (pB zs p jK).at_ k (nest + 1) true).at_ (D zs (pB zs p jK).at_ k (nest + 1) true).k (nest + 1) false).at_) ∧ Hid ((D zs (D zs (pB zs p jK).at_ k (nest + 1) true).at_ (D zs (pB zs p jK).at_ k (nest + 1) true).k (nest + 1) false).e = 0 → R.k = (D zs (D zs (pB zs p jK).at_ k (nest + 1) true).at_ (D zs (pB zs p jK).at_ k (nest + 1) true).k (nest + 1) false).k) ∧ Hid ((D zs (D zs (pB zs p jK).at_ k (nest + 1) true).at_ (D zs (pB zs p jK).at_ k (nest + 1) true).k (nest + 1) false).e = 0 → R.v = { plain op with re := kV (pB zs p jK).v, body := (D zs (pB zs p jK).at_ k (nest + 1) true).v.1, els := (D zs (D zs (pB zs p jK).at_ k (nest + 1) true).at_ (D zs (pB zs p jK).at_ k (nest + 1) true).k (nest + 1) false).v.1 }) := hRe
  clear hRe hR hf hI
  have hat := pB_bd zs p jK (by rw [hrow.1]; exact hp)
  rw [hrow.1] at hat
  have hat1 : (pB zs p jK).at_ ≤ len := hat.2.1
  have hat0 : p ≤ (pB zs p jK).at_ := hat.1
  clear hat
  have haf := D_bd zs (pB zs p jK).at_ k (nest + 1) true (by rw [hrow.1]; exact hat1)
  have hat2 : (D zs (pB zs p jK).at_ k (nest + 1) true).at_ ≤ len := by have := haf.2; rw [hrow.1] at this; exact this
  have hat3 : (pB zs p jK).at_ ≤ (D zs (pB zs p jK).at_ k (nest + 1) true).at_ := haf.1
  have hk2 := D_k hrow.2.1 (a := (pB zs p jK).at_) (me := true) (show nest + 1 ≤ 64 by omega) hk hA
  clear haf
  have hq := fun (wx : World) (hb : Below w.heap.size w wx) => kind_any a len cap p k zs wx (hrow.below (Nat.le_refl _) hb) hl hc
  have hq1 := fun (wx : World) (hb : Below w.heap.size w wx) => ih a len cap (pB zs p jK).at_ k (nest + 1) true zs wx (hrow.below (Nat.le_refl _) hb) hl hat1 hc hk (by omega) (by omega)
  rw [show ((nest + 1 : Nat) : Int) = (nest : Int) + 1 by omega] at hq1
  have hq2 := fun (wx : World) (hb : Below w.heap.size w wx) => ih a len cap (D zs (pB zs p jK).at_ k (nest + 1) true).at_ (D zs (pB zs p jK).at_ k (nest + 1) true).k (nest + 1) false zs wx (hrow.below (Nat.le_refl _) hb) hl hat2 hc hk2 (by omega) (by omega)
  rw [show ((nest + 1 : Nat) : Int) = (nest : Int) + 1 by omega] at hq2
  rw [hK] at hq
  have HQ := hide hq; have HQ1 := hide hq1; have HQ2 := hide hq2; have HP := hide hA; have H5 := hide h5
  clear hq hq1 hq2 hK hA ih hat0 hat1 h5 hat2 hat3 hk2
  generalize (D zs (D zs (pB zs p jK).at_ k (nest + 1) true).at_ (D zs (pB zs p jK).at_ k (nest + 1) true).k (nest + 1) false) = B at *
  generalize (D zs (pB zs p jK).at_ k (nest + 1) true) = A at *
  generalize kV (pB zs p jK).v = kk at *
  generalize (pB zs p jK) = P at *
  clear hrow
  have fx := fx_new w (.slice a len cap) (.int .i64 p) (.int .i64 k) (.int .i64 0) (.int .u8 op) (.int .i64 0) (.int .u32 0) (.int .u32 0) (.int .u8 0) (.slice none 0 0) (.slice none 0 0) (.slice none 0 0)
  obtain ⟨fx, hb⟩ := fx
  go_enter Tryd.func51, Tryd.ntmps51
  go_wp2_with fail
  generalize (((w.alloc (.cells #[.slice a len cap, .int .i64 p, .int .i64 k, .int .i64 0] 80)).alloc (.cells #[.int .u8 op, .int .i64 0, .int .u32 0, .int .u32 0, .int .u8 0, .slice none 0 0, .slice none 0 0, .slice none 0 0] 55)).alloc (.cells #[.slice none 0 0, .int .i64 0, .int .i64 0, .int .i64 0] 80)).alloc (.cells #[.int .u8 0, .int .i64 0, .int .u32 0, .int .u32 0, .int .u8 0, .slice none 0 0, .slice none 0 0, .slice none 0 0] 55) = w2 at *
  have FX := hide fx; have HB := hide hb
  clear fx hb
  generalize hN : w.heap.size = N at *
  have HN := hide hN; clear hN
  refine (unhide HQ _ (unhide HB)).mono ?_
  rintro e w3 ⟨rfl, hb3⟩
  have fx := (unhide FX).below hb3
  have hb := (unhide HB).trans (hb3.mono (by have := (unhide FX).lt; omega))
  clear FX HB
  have FX := hide fx; have HB := hide hb
  clear fx hb
  clear hb3
  obtain ⟨p0, p1, p2, p3⟩ := (unhide FX).cr
  obtain ⟨q0, q1, q2, q3, q4, q5, q6, q7⟩ := (unhide FX).cx
  have y0 := (unhide FX).f0; have y1 := (unhide FX).f1
  have yl := (unhide FX).lt
  have fx := (unhide FX).put4 (.slice a len cap) (.int .i64 P.at_) (.int .i64 k) (.int .i64 0)
  have hb := Fx.bput (unhide HB) (Nat.le_refl _) (.slice a len cap) (.int .i64 P.at_) (.int .i64 k) (.int .i64 0)
  have hk := (Kb.refl N w3).put (.slice a len cap) (.int .i64 P.at_) (.int .i64 k) (.int .i64 0)
  have fx2 := fx.set4 (.int .u8 kk)
  have hb2 := Fx.bset hb (Nat.le_refl _) 4 (.int .u8 kk)
  have hk2 := hk.set (b := N + 1) (by omega) 4 (.int .u8 kk)
  have FX' := hide fx2; have HB' := hide hb2; have HK3 := hide hk2
  clear fx hb hk fx2 hb2 hk2
  go_wp2_with fail
  generalize ((((w3.setCell ⟨N, 0, none⟩ (.slice a len cap)).setCell ⟨N, 1, none⟩ (.int .i64 P.at_)).setCell ⟨N, 2, none⟩ (.int .i64 k)).setCell ⟨N, 3, none⟩ (.int .i64 0)).setCell ⟨N + 1, 4, none⟩ (.int .u8 kk) = w4 at *
  clear p0 p1 p2 p3 q0 q1 q2 q3 q4 q5 q6 q7 y0 y1 yl
  clear FX HB
  have FX := FX'; have HB := HB'
  clear FX' HB'
  have HZ2 := hide (unhide FX).lt
  refine (unhide HQ1 _ (unhide HB)).mono ?_
  rintro e w5 ⟨k', v, c, rfl, ⟨va, vl, vc, rfl⟩, hb5, hok⟩
  have fx := (unhide FX).below hb5
  have hb := (unhide HB).trans (hb5.mono (by have := (unhide FX).lt; omega))
  clear FX HB
  have FX := hide fx; have HB := hide hb
  clear fx hb
  obtain ⟨rfl, rfl, hcd⟩ := hok (unhide HP)
  rw [unhide HP, unhide H5]
  have HCd := hide hcd
  clear hb5 hok hcd
  obtain ⟨p0, p1, p2, p3⟩ := (unhide FX).cr
  obtain ⟨q0, q1, q2, q3, q4, q5, q6, q7⟩ := (unhide FX).cx
  have y0 := (unhide FX).f0; have y1 := (unhide FX).f1
  have yl := (unhide FX).lt
  have fx := (unhide FX).put4 (.slice a len cap) (.int .i64 A.at_) (.int .i64 A.k) (.int .i64 0)
  have hb := Fx.bput (unhide HB) (Nat.le_refl _) (.slice a len cap) (.int .i64 A.at_) (.int .i64 A.k) (.int .i64 0)
  have hk := (Kb.refl N w5).put (.slice a len cap) (.int .i64 A.at_) (.int .i64 A.k) (.int .i64 0)
  have fx2 := fx.set5 (.slice va vl vc)
  have hb2 := Fx.bset hb (Nat.le_refl _) 5 (.slice va vl vc)
  have hk2 := hk.set (b := N + 1) (by omega) 5 (.slice va vl vc)
  have FX' := hide fx2; have HB' := hide hb2; have HK5 := hide hk2
  clear fx hb hk fx2 hb2 hk2
  go_wp2_with fail
  generalize ((((w5.setCell ⟨N, 0, none⟩ (.slice a len cap)).setCell ⟨N, 1, none⟩ (.int .i64 A.at_)).setCell ⟨N, 2, none⟩ (.int .i64 A.k)).setCell ⟨N, 3, none⟩ (.int .i64 0)).setCell ⟨N + 1, 5, none⟩ (.slice va vl vc) = w6 at *
  clear p0 p1 p2 p3 q0 q1 q2 q3 q4 q5 q6 q7 y0 y1 yl
  clear FX HB
  have FX := FX'; have HB := HB'
  clear FX' HB'
  have HZ3 := hide (unhide FX).lt
  refine (unhide HQ2 _ (unhide HB)).mono ?_
  rintro e w7 ⟨k', v, c, rfl, ⟨ua, ul, uc, rfl⟩, hb7, hok⟩
  have fx := (unhide FX).below hb7
  have hb := (unhide HB).trans (hb7.mono (by have := (unhide FX).lt; omega))
  clear FX HB
  have FX := hide fx; have HB := hide hb
  clear fx hb
  have HOk := hide hok; have HB7 := hide hb7
  clear hb7 hok
  obtain ⟨p0, p1, p2, p3⟩ := (unhide FX).cr
  obtain ⟨q0, q1, q2, q3, q4, q5, q6, q7⟩ := (unhide FX).cx
  have y0 := (unhide FX).f0; have y1 := (unhide FX).f1
  have yl := (unhide FX).lt
  have fx := (unhide FX).put4 (.slice a len cap) (.int .i64 B.at_) (.int .i64 k') (.int .i64 B.e)
  have hb := Fx.bput (unhide HB) (Nat.le_refl _) (.slice a len cap) (.int .i64 B.at_) (.int .i64 k') (.int .i64 B.e)
  have hk := (Kb.refl N w7).put (.slice a len cap) (.int .i64 B.at_) (.int .i64 k') (.int .i64 B.e)
  have fx2 := fx.set6 (.slice ua ul uc)
  have hb2 := Fx.bset hb (Nat.le_refl _) 6 (.slice ua ul uc)
  have hk2 := hk.set (b := N + 1) (by omega) 6 (.slice ua ul uc)
  have FX' := hide fx2; have HB' := hide hb2; have HK7 := hide hk2
  clear fx hb hk fx2 hb2 hk2
  go_wp2_with fail
  generalize ((((w7.setCell ⟨N, 0, none⟩ (.slice a len cap)).setCell ⟨N, 1, none⟩ (.int .i64 B.at_)).setCell ⟨N, 2, none⟩ (.int .i64 k')).setCell ⟨N, 3, none⟩ (.int .i64 B.e)).setCell ⟨N + 1, 6, none⟩ (.slice ua ul uc) = w8 at *
  clear p0 p1 p2 p3 q0 q1 q2 q3 q4 q5 q6 q7 y0 y1 yl
  clear FX HB
  have FX := FX'; have HB := HB'
  clear FX' HB'
  obtain ⟨p0, p1, p2, p3⟩ := (unhide FX).cr
  obtain ⟨q0, q1, q2, q3, q4, q5, q6, q7⟩ := (unhide FX).cx
  obtain ⟨a0, a1, a2, a3⟩ := (unhide FX).ca
  obtain ⟨b0, b1, b2, b3, b4, b5, b6, b7⟩ := (unhide FX).cb
  have y0 := (unhide FX).f0; have y1 := (unhide FX).f1; have y2 := (unhide FX).f2; have y3 := (unhide FX).f3
  have yl := (unhide FX).lt
  go_region
  go_wp2
  refine bodyPost_ret (v := .tuple #[.agg #[.slice a len cap, .int .i64 B.at_, .int .i64 k', .int .i64 B.e], .agg #[.int .u8 op, .int .i64 0, .int .u32 0, .int .u32 0, .int .u8 kk, .slice va vl vc, .slice ua ul uc, .slice none 0 0]]) (by simp [results, Tryd.results51, go_sem, a0, a1, a2, a3, b0, b1, b2, b3, b4, b5, b6, b7]) rfl ?_
  refine ⟨k', ⟨op, 0, 0, 0, kk, A.v.1, B.v.1, []⟩, .slice va vl vc, .slice ua ul uc, .slice none 0 0, ?_, ?_, ⟨⟨_, _, _, rfl⟩, ⟨_, _, _, rfl⟩, ⟨_, _, _, rfl⟩⟩, fun he => ?_⟩
  · rw [unhide HE.1, unhide HE.2.1]
  · rw [unhide HN]
    have h3 := unhide HB
    refine Below.drew ?_
    repeat' (with_reducible refine Below.setCell ?_ ?_ _)
    all_goals first | with_reducible assumption | (dsimp only; omega)
  · have hB : B.e = 0 := by rw [← unhide HE.1]; exact he
    obtain ⟨e1, _, hcd⟩ := unhide HOk hB
    refine ⟨by rw [unhide HE.2.2.1 hB, e1], (unhide HE.2.2.2 hB).symm, ?_, ?_, Labs_nil _ _⟩
    · refine Code.move (fun q hq _ hg => ⟨by have := unhide HZ2; have : w4.heap.size ≤ q := hg; have := unhide HN; show w.heap.size ≤ q; omega, ?_⟩) (unhide HCd)
      have hg' : w4.heap.size ≤ q := hg
      have := unhide HZ2
      have hq6 := kb_lt (unhide HK5) (by omega) hq
      refine Eq.trans (?_ : _ = w8.heap[q]?) ((unhide HK7 q (by omega)).trans (((unhide HB7).block q hq6).trans (unhide HK5 q (by omega))))
      refine (show Kb N w8 _ from ?_) q (by omega)
      refine Kb.drew ?_
      repeat' (with_reducible refine Kb.set ?_ ?_ _ _)
      all_goals first | exact Kb.refl _ _ | omega
    · refine Code.move (fun q hq _ hg => ⟨by have := unhide HZ3; have : w6.heap.size ≤ q := hg; have := unhide HN; show w.heap.size ≤ q; omega, ?_⟩) hcd
      have hg' : w6.heap.size ≤ q := hg
      have := unhide HZ3
      refine Eq.trans (?_ : _ = w8.heap[q]?) (unhide HK7 q (by omega))
      refine (show Kb N w8 _ from ?_) q (by omega)
      refine Kb.drew ?_
      repeat' (with_reducible refine Kb.set ?_ ?_ _ _)
      all_goals first | exact Kb.refl _ _ | omega
end Ex
end Go.Proofs.YtjhmglefejclpaaDoor
