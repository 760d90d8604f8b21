/- What was told is read as itself. Plain mathematics. -/
import Derived.Test.YtjhmglefejclpaaDoorEyA
namespace Go.Proofs.YtjhmglefejclpaaDoor
open Go.RowKit
namespace Ex
set_option linter.unusedVariables false
set_option linter.unusedSimpArgs false

theorem drop_add {zs a r : List Int} {p : Nat} (h : zs.drop p = a ++ r) : zs.drop (p + a.length) = r := by
  rw [← List.drop_drop, h, List.drop_left]
theorem drop_len {zs : List Int} {p : Nat} {c : Int} {r : List Int} (h : zs.drop p = c :: r) : p < zs.length ∧ zs.getD p 0 = c := by
  have hl : p < zs.length := by
    by_cases hl : p < zs.length
    · exact hl
    · rw [List.drop_eq_nil_of_le (by omega)] at h; cases h
  refine ⟨hl, ?_⟩
  rw [List.drop_eq_getElem_cons hl] at h
  have := (List.cons.inj h).1
  simp [List.getD, hl, this]
theorem pB_back {zs : List Int} {p : Nat} {c : Int} {r : List Int} {J : Int → Int} (h : zs.drop p = c :: r) (hJ : J c = 0) : pB zs p J = ⟨0, p + 1, c⟩ := by
  obtain ⟨h1, h2⟩ := drop_len h
  unfold pB
  rw [if_neg (by omega), h2, if_pos hJ]
theorem pU_back {zs : List Int} {p : Nat} {v most : Int} {r : List Int} (h : zs.drop p = Leb.bU 10 v ++ r) (h0 : 0 ≤ v) (h1 : v < 4294967296) (hm : v ≤ most) : pU zs p most = ⟨0, p + (Leb.bU 10 v).length, v⟩ := by
  obtain ⟨e1, e2⟩ := (Leb.back_U32 v r h0 (by omega)).1 h1
  obtain ⟨k, _, k2, k3, _⟩ := Leb.bU_form 10 v r h0 (by omega)
  have e3 : (Leb.tuN (Leb.bU 10 v ++ r) 32).toNat = (Leb.bU 10 v).length := by unfold Leb.tuN; rw [if_pos e1, k3, k2]; omega
  rw [pU_ok (by rw [h]; exact e1) (by rw [h, e2]; omega), h, e2, e3]
theorem pS_back {zs : List Int} {p : Nat} {v n : Int} {r : List Int} (h : zs.drop p = Leb.bS 10 v ++ r) (h0 : -9223372036854775808 ≤ v) (h1 : v < 9223372036854775808) (hn : n = 64 ∨ (n = 32 ∧ -2147483648 ≤ v ∧ v < 2147483648)) : pS zs p n = ⟨0, p + (Leb.bS 10 v).length, v⟩ := by
  obtain ⟨e1, e2⟩ : Leb.tsE (Leb.bS 10 v ++ r) n = 0 ∧ Leb.tsV (Leb.bS 10 v ++ r) n = v := by
    rcases hn with rfl | ⟨rfl, h2⟩
    · have := Leb.back_S64 v r h0 h1; exact ⟨this.1, this.2.1⟩
    · exact (Leb.back_S32 v r h0 h1).1 h2
  obtain ⟨k, _, k2, k3, _⟩ := Leb.bS_form 10 v r (by omega) (by omega)
  have e3 : (Leb.tsN (Leb.bS 10 v ++ r) n).toNat = (Leb.bS 10 v).length := by unfold Leb.tsN; rw [if_pos e1, k3, k2]; omega
  rw [pS_ok (by rw [h]; exact e1), h, e2, e3]
theorem pL_back {zs : List Int} {k : Nat} : ∀ (ls : List Int) (p : Nat) (r : List Int), zs.drop p = ls.flatMap (Leb.bU 10) ++ r → (∀ z ∈ ls, 0 ≤ z ∧ z < 4294967296) → pL zs ls.length p k = ⟨0, p + (ls.flatMap (Leb.bU 10)).length, k, ls⟩
  | [], p, r, _, _ => by simp [pL]
  | x :: ls, p, r, h, hb => by
    rw [List.flatMap_cons, List.append_assoc] at h
    have hx := hb x (by simp)
    have h1 := pU_back (most := 4294967295) h hx.1 hx.2 (by omega)
    have h2 := pL_back (k := k) ls _ r (drop_add h) fun z hz => hb z (by simp [hz])
    rw [List.length_cons, pL, h1, Part.on_ok rfl]
    simp only
    rw [h2, Out.on_ok rfl]
    simp only [List.flatMap_cons, List.length_append, Out.mk.injEq, true_and, and_true]
    omega
theorem op_facts : ((List.range 256).all fun n => !(fam n).isSome || (!(flt n) && n != 11 && n != 5)) = true := by kernel_rfl
theorem op_fact {op : Int} (h0 : 0 ≤ op) (h1 : op ≤ 255) {x : Fam} (h : fam op = some x) : flt op = false ∧ ¬ op = 11 ∧ ¬ op = 5 := by
  obtain ⟨n, rfl⟩ := Int.eq_ofNat_of_zero_le h0
  have := List.all_eq_true.1 op_facts n (List.mem_range.2 (by omega))
  rw [h] at this
  simp at this
  exact ⟨this.1.1, by omega, by omega⟩
theorem jO_ok {k nest : Nat} {me : Bool} {i : Ins} (hm : mayI nest i = true) (h0 : 0 ≤ i.op) (h1 : i.op ≤ 255) (hk : k < 16384) : jO k nest me i.op = 0 ∧ ¬ (i.op = 11 ∨ i.op = 5) := by
  obtain ⟨x, hx⟩ := (may_one hm).2
  obtain ⟨f1, f2, f3⟩ := op_fact h0 h1 hx
  refine ⟨?_, by rintro (e | e); exact f2 e; exact f3 e⟩
  rw [jO_gen (by rintro (e | e); exact f2 e; exact f3 e.1), f1]
  have hfr : frm i.op = some x.o := by unfold frm; rw [hx]; rfl
  simp only [Bool.false_eq_true, if_false, hfr]
  rw [if_neg]
  rintro (e | ⟨e, e2⟩)
  · omega
  · unfold mayI at hm
    rw [show blk (fr i.op) = true by unfold fr; rw [hfr]; exact e] at hm
    simp only [Bool.and_eq_true, Bool.not_true, Bool.false_or, decide_eq_true_eq] at hm
    omega

/-- read as itself -/
def BackP (l : List Ins) : Prop := ∀ (zs : List Int) (p k nest : Nat) (me : Bool) (c : Int) (r : List Int), may nest l = true → k + cnt l ≤ 16384 → Wf l → zs.drop p = enc l ++ c :: r → (c = 11 ∨ (c = 5 ∧ me = true)) →
  D zs p k nest me = ⟨0, p + (enc l).length + 1, k + cnt l, (l, c)⟩
theorem kV_kB {re : Int} (h : re = 0 ∨ re = 127 ∨ re = 126) : kV (kB re) = re ∧ jK (kB re) = 0 := by rcases h with rfl | rfl | rfl <;> decide
theorem pI_back {i : Ins} (hib : BackP i.body) (hie : BackP i.els) {zs : List Int} {p k nest : Nat} {r : List Int} (hm : mayI nest i = true) (hk : k + cnt i.body + cnt i.els ≤ 16384) (hw : WfI i) (h : zs.drop p = encI i ++ r) :
    pI (D zs) zs p k nest i.op = ⟨0, p + (encI i).length, k + cnt i.body + cnt i.els, i⟩ := by
  obtain ⟨hbd, x, hx⟩ := may_one hm
  have hal : alo (fr i.op) i.n i.al i.of i.re i.body.length i.els.length i.ls.length = true := by unfold mayI one at hm; simp only [Bool.and_eq_true] at hm; exact hm.1.2
  have hmb := fun h => may_blk hm h
  obtain ⟨op, n, al, of, re, b, e, ls⟩ := i
  obtain ⟨⟨⟨o0, o1⟩, ⟨n0, n1⟩, ⟨a0, a1⟩, ⟨f0, f1⟩, ⟨r0, r1⟩, hls⟩, wb, we⟩ := hw
  simp only at *
  have hfo : fr op = x.o := by unfold fr frm; rw [hx]; rfl
  have hfo2 := fam_o hx
  rw [← hfo] at hfo2
  unfold encI at h ⊢
  simp only at h ⊢
  generalize hf : fr op = f at *
  have plainOf : ∀ (n' al' of' : Int) (ls' : List Int), blk f = false → n' = n → al' = al → of' = of → ls' = ls → re = 0 → ({ plain op with n := n', al := al', of := of', ls := ls' } : Ins) = ⟨op, n, al, of, re, b, e, ls⟩ ∧ cnt b = 0 ∧ cnt e = 0 := by
    rintro n' al' of' ls' hb rfl rfl rfl rfl hre
    have := alo_nil hal hb
    have hbn := List.eq_nil_of_length_eq_zero this.1
    have hen := List.eq_nil_of_length_eq_zero this.2
    subst hbn hen hre
    exact ⟨rfl, cnt_nil, cnt_nil⟩
  have halo := hal
  unfold alo at halo
  simp only [decide_eq_true_eq] at halo
  have lnil : ¬ f = 8 → ls = [] := fun hh => List.eq_nil_of_length_eq_zero (by omega)
  unfold bnd at hbd
  rcases hfo2 with rfl | rfl | rfl | rfl | rfl | rfl | rfl | rfl | rfl | rfl
  · -- 0
    obtain ⟨q1, q2, q3⟩ := plainOf n al of ls rfl rfl rfl rfl rfl (by omega)
    have : pI (D zs) zs p k nest op = ⟨0, p, k, plain op⟩ := by unfold pI; rw [hf]; rfl
    rw [this, show encF 0 n al of re (enc b) (enc e) e.length ls = [] from rfl, q2, q3]
    have hn : n = 0 := by omega
    have ha : al = 0 := by omega
    have ho : of = 0 := by omega
    have hl := lnil (by omega)
    subst hn ha ho hl
    rw [← q1]; rfl
  · -- 1
    have he : encF 1 n al of re (enc b) (enc e) e.length ls = Leb.bS 10 n := rfl
    rw [he] at h ⊢
    have hr : -2147483648 ≤ n ∧ n ≤ 2147483647 := by simpa using hbd
    obtain ⟨q1, q2, q3⟩ := plainOf n 0 0 [] rfl rfl (by omega) (by omega) (lnil (by omega)).symm (by omega)
    have : pI (D zs) zs p k nest op = (pS zs p 32).on k (plain op) fun a1 v => ⟨0, a1, k, { plain op with n := v }⟩ := by unfold pI; rw [hf]; rfl
    rw [this, pS_back h n0 n1 (.inr ⟨rfl, by omega, by omega⟩), Part.on_ok rfl, q2, q3, ← q1]; rfl
  · -- 2
    have he : encF 2 n al of re (enc b) (enc e) e.length ls = Leb.bS 10 n := rfl
    rw [he] at h ⊢
    obtain ⟨q1, q2, q3⟩ := plainOf n 0 0 [] rfl rfl (by omega) (by omega) (lnil (by omega)).symm (by omega)
    have : pI (D zs) zs p k nest op = (pS zs p 64).on k (plain op) fun a1 v => ⟨0, a1, k, { plain op with n := v }⟩ := by unfold pI; rw [hf]; rfl
    rw [this, pS_back h n0 n1 (.inl rfl), Part.on_ok rfl, q2, q3, ← q1]; rfl
  · -- 3
    have he : encF 3 n al of re (enc b) (enc e) e.length ls = Leb.bU 10 n := rfl
    rw [he] at h ⊢
    have hr : 0 ≤ n ∧ n ≤ 4294967295 := by simpa using hbd
    obtain ⟨q1, q2, q3⟩ := plainOf n 0 0 [] rfl rfl (by omega) (by omega) (lnil (by omega)).symm (by omega)
    have : pI (D zs) zs p k nest op = (pU zs p 4294967295).on k (plain op) fun a1 v => ⟨0, a1, k, { plain op with n := v }⟩ := by unfold pI; rw [hf]; rfl
    rw [this, pU_back h hr.1 (by omega) hr.2, Part.on_ok rfl, q2, q3, ← q1]; rfl
  · -- 4
    have he : encF 4 n al of re (enc b) (enc e) e.length ls = Leb.bU 10 al ++ Leb.bU 10 of := rfl
    rw [he] at h ⊢
    rw [List.append_assoc] at h
    obtain ⟨q1, q2, q3⟩ := plainOf 0 al of [] rfl (by omega) rfl rfl (lnil (by omega)).symm (by omega)
    have : pI (D zs) zs p k nest op = (pU zs p 4294967295).on k (plain op) fun a1 v => (pU zs a1 4294967295).on k (plain op) fun a2 u => ⟨0, a2, k, { plain op with al := v, of := u }⟩ := by unfold pI; rw [hf]; rfl
    rw [this, pU_back h a0 a1 (by omega), Part.on_ok rfl]
    simp only
    rw [pU_back (drop_add h) f0 f1 (by omega), Part.on_ok rfl, q2, q3, ← q1, List.length_append]
    simp only [Out.mk.injEq, true_and, Nat.add_zero]
    exact ⟨by omega, rfl⟩
  · -- 5
    have he : encF 5 n al of re (enc b) (enc e) e.length ls = [0] := rfl
    rw [he] at h ⊢
    obtain ⟨q1, q2, q3⟩ := plainOf 0 0 0 [] rfl (by omega) (by omega) (by omega) (lnil (by omega)).symm (by omega)
    have : pI (D zs) zs p k nest op = (pB zs p jZ).on k (plain op) fun a1 _ => ⟨0, a1, k, plain op⟩ := by unfold pI; rw [hf]; rfl
    rw [this, pB_back h rfl, Part.on_ok rfl, q2, q3, ← q1]; rfl
  · -- 6
    have he : encF 6 n al of re (enc b) (enc e) e.length ls = [kB re] ++ enc b ++ (if 0 < e.length then [5] ++ enc e else []) ++ [11] := rfl
    have hen : e = [] := List.eq_nil_of_length_eq_zero (by omega)
    subst hen
    rw [he] at h ⊢
    simp only [List.length_nil, Nat.lt_irrefl, if_false, List.append_nil, List.append_assoc, List.singleton_append] at h ⊢
    have hr : re = 0 ∨ re = 127 ∨ re = 126 := by simpa using hbd
    obtain ⟨y1, y2⟩ := kV_kB hr
    have hd : zs.drop (p + 1) = enc b ++ 11 :: r := by have := drop_add (a := [kB re]) (by simpa using h); simpa using this
    have hB := hib zs (p + 1) k (nest + 1) false 11 r (hmb rfl).1 (by omega) wb hd (.inl rfl)
    have : pI (D zs) zs p k nest op = (pB zs p jK).on k (plain op) fun a1 c => pK (D zs) a1 k nest op (kV c) := by unfold pI; rw [hf]; rfl
    rw [this, pB_back (by simpa using h) y2, Part.on_ok rfl]
    unfold pK
    simp only
    rw [hf, show decide ((6 : Int) = 7) = false from rfl, hB, Out.on_ok rfl]
    have hn : n = 0 := by omega
    have ha : al = 0 := by omega
    have ho : of = 0 := by omega
    have hl := lnil (by omega)
    subst hn ha ho hl
    rw [y1, cnt_nil]
    simp [plain]; omega
  · -- 7
    have he : encF 7 n al of re (enc b) (enc e) e.length ls = [kB re] ++ enc b ++ (if 0 < e.length then [5] ++ enc e else []) ++ [11] := rfl
    rw [he] at h ⊢
    have hr : re = 0 ∨ re = 127 ∨ re = 126 := by simpa using hbd
    obtain ⟨y1, y2⟩ := kV_kB hr
    have : pI (D zs) zs p k nest op = (pB zs p jK).on k (plain op) fun a1 c => pK (D zs) a1 k nest op (kV c) := by unfold pI; rw [hf]; rfl
    have hn : n = 0 := by omega
    have ha : al = 0 := by omega
    have ho : of = 0 := by omega
    have hl := lnil (by omega)
    subst hn ha ho hl
    by_cases hel : 0 < e.length
    · rw [if_pos hel] at h ⊢
      simp only [List.append_assoc, List.singleton_append, List.cons_append] at h ⊢
      have hd : zs.drop (p + 1) = enc b ++ 5 :: (enc e ++ 11 :: r) := by have := drop_add (a := [kB re]) (by simpa using h); simpa using this
      have hB := hib zs (p + 1) k (nest + 1) true 5 _ (hmb rfl).1 (by omega) wb hd (.inr ⟨rfl, rfl⟩)
      have hd2 : zs.drop (p + 1 + (enc b).length + 1) = enc e ++ 11 :: r := by
        have := drop_add (a := enc b ++ [5]) (r := enc e ++ 11 :: r) (by simpa using hd)
        simpa [Nat.add_assoc] using this
      have hE := hie zs _ (k + cnt b) (nest + 1) false 11 r (hmb rfl).2 (by omega) we hd2 (.inl rfl)
      rw [this, pB_back (by simpa using h) y2, Part.on_ok rfl]
      unfold pK
      simp only
      rw [hf, show decide ((7 : Int) = 7) = true from rfl, hB, Out.on_ok rfl]
      simp only [if_true]
      rw [hE, Out.on_ok rfl, y1]
      simp [plain]; omega
    · have hen : e = [] := List.eq_nil_of_length_eq_zero (by omega)
      subst hen
      simp only [List.length_nil, Nat.lt_irrefl, if_false, List.append_nil, List.append_assoc, List.singleton_append] at h ⊢
      have hd : zs.drop (p + 1) = enc b ++ 11 :: r := by have := drop_add (a := [kB re]) (by simpa using h); simpa using this
      have hB := hib zs (p + 1) k (nest + 1) true 11 r (hmb rfl).1 (by omega) wb hd (.inl rfl)
      rw [this, pB_back (by simpa using h) y2, Part.on_ok rfl]
      unfold pK
      simp only
      rw [hf, show decide ((7 : Int) = 7) = true from rfl, hB, Out.on_ok rfl, y1, cnt_nil]
      simp [plain]; omega
  · -- 8
    have he : encF 8 n al of re (enc b) (enc e) e.length ls = Leb.bU 10 ((ls.length : Int) - 1) ++ ls.flatMap (Leb.bU 10) := rfl
    rw [he] at h ⊢
    rw [List.append_assoc] at h
    have hr : 1 ≤ ls.length ∧ ls.length ≤ 257 := by simpa using hbd
    obtain ⟨q1, q2, q3⟩ := plainOf 0 0 0 ls rfl (by omega) (by omega) (by omega) rfl (by omega)
    have : pI (D zs) zs p k nest op = (pU zs p 256).on k (plain op) fun a1 v => (pL zs (v.toNat + 1) a1 k).on (plain op) fun a2 k2 ls => ⟨0, a2, k2, { plain op with ls := ls }⟩ := by unfold pI; rw [hf]; rfl
    rw [this, pU_back h (by omega) (by omega) (by omega), Part.on_ok rfl]
    simp only
    rw [show ((ls.length : Int) - 1).toNat + 1 = ls.length by omega, pL_back ls _ r (drop_add h) hls, Out.on_ok rfl, q2, q3, ← q1, List.length_append]
    simp only [Out.mk.injEq, true_and, Nat.add_zero]
    exact ⟨by omega, rfl⟩
  · -- 9
    have he : encF 9 n al of re (enc b) (enc e) e.length ls = Leb.bU 10 n ++ [0] := rfl
    rw [he] at h ⊢
    rw [List.append_assoc] at h
    have hr : 0 ≤ n ∧ n ≤ 4294967295 := by simpa using hbd
    obtain ⟨q1, q2, q3⟩ := plainOf n 0 0 [] rfl rfl (by omega) (by omega) (lnil (by omega)).symm (by omega)
    have : pI (D zs) zs p k nest op = (pU zs p 4294967295).on k (plain op) fun a1 v => (pB zs a1 jZ).on k (plain op) fun a2 _ => ⟨0, a2, k, { plain op with n := v }⟩ := by unfold pI; rw [hf]; rfl
    rw [this, pU_back h hr.1 (by omega) hr.2, Part.on_ok rfl]
    simp only
    rw [pB_back (drop_add h) rfl, Part.on_ok rfl, q2, q3, ← q1, List.length_append]
    simp only [Out.mk.injEq, true_and, Nat.add_zero]
    exact ⟨by simp; omega, rfl⟩
theorem back_any (l : List Ins) : BackP l := by
  refine ind (P := BackP) ?_ ?_ l
  · intro zs p k nest me c r hm hk hw h hc
    rw [enc_nil, List.nil_append] at h
    obtain ⟨h1, h2⟩ := drop_len h
    have hJ : jO k nest me c = 0 := by unfold jO; rw [if_pos hc]
    rw [D_eq zs p k nest me (by omega)]
    unfold step
    rw [pB_back h hJ, Part.on_ok rfl, if_pos (by rcases hc with e | e; exact .inl e; exact .inr e.1), cnt_nil, enc_nil]
    rfl
  · intro op n al of re b e ls rest hb he hr zs p k nest me c r hm hk hw h hc
    rw [may_cons, Bool.and_eq_true] at hm
    rw [Wf_cons] at hw
    rw [cnt_cons] at hk ⊢
    rw [enc_cons] at h ⊢
    simp only [List.append_assoc, List.singleton_append] at h
    have hcl := drop_len h
    have hj := jO_ok (k := k) (me := me) hm.1 hw.1.1.1.1 hw.1.1.1.2 (by omega)
    have h1 : zs.drop (p + 1) = encI ⟨op, n, al, of, re, b, e, ls⟩ ++ (enc rest ++ c :: r) := by have := drop_add (a := [op]) (by simpa using h); simpa using this
    have hI := pI_back (i := ⟨op, n, al, of, re, b, e, ls⟩) hb he (p := p + 1) (k := k + 1) hm.1 (by simp only at hk ⊢; omega) hw.1 h1
    have hR := hr zs _ (k + 1 + cnt b + cnt e) nest me c r hm.2 (by simp only at hk; omega) hw.2 (drop_add h1) hc
    rw [D_eq zs p k nest me (by omega)]
    unfold step
    rw [pB_back h hj.1, Part.on_ok rfl, if_neg hj.2]
    simp only at hI ⊢
    rw [hI, Out.on_ok rfl]
    simp only
    rw [hR, Out.on_ok rfl]
    simp only [Out.mk.injEq, true_and, List.length_append, List.length_cons, List.length_nil, and_true]
    omega
end Ex
end Go.Proofs.YtjhmglefejclpaaDoor
