/- What is joined is split as itself. Plain mathematics. -/
import Derived.Test.YtcmidegffpehoaaDoorScK
namespace Go.Proofs.YtcmidegffpehoaaDoor
open Go.RowKit
namespace Sc
set_option linter.unusedVariables false

theorem drop_add {zs a r : List Int} {p : Nat} (h : zs.drop p = a ++ r) : zs.drop (p + a.length) = r := by
  rw [← List.drop_drop, h]; simp
theorem drop_len {zs : List Int} {p : Nat} {c : Int} {r : List Int} (h : zs.drop p = c :: r) : p < zs.length ∧ zs.getD p 0 = c := by
  have hp : p < zs.length := by
    rcases Nat.lt_or_ge p zs.length with h1 | h1
    · exact h1
    · rw [List.drop_eq_nil_of_le h1] at h; cases h
  refine ⟨hp, ?_⟩
  rw [List.drop_eq_getElem_cons hp] at h
  have := (List.cons.inj h).1
  simp [List.getD, hp, this]
theorem tu_back {v : Int} {r : List Int} (h0 : 0 ≤ v) (h1 : v < 4294967296) : Leb.tuE (Leb.bU 10 v ++ r) 32 = 0 ∧ Leb.tuV (Leb.bU 10 v ++ r) 32 = v ∧ Leb.tuN (Leb.bU 10 v ++ r) 32 = ((Leb.bU 10 v).length : Int) := by
  obtain ⟨e1, e2⟩ := (Leb.back_U32 v r h0 (by omega)).1 h1
  refine ⟨e1, e2, ?_⟩
  unfold Leb.tuN
  rw [if_pos e1]
  obtain ⟨k, h1, h2, h3, _⟩ := Leb.bU_form 10 v r h0 (by have e : (128 : Int) ^ (10 + 1) = 151115727451828646838272 := by decide
                                                         omega)
  rw [h3, h2]; simp
/-- a section that stands here -/
theorem one_back {zs : List Int} {p : Nat} {top : Int} {s : Sec} {r : List Int} (h : zs.drop p = encS s ++ r) (hl : s.bs.length ≤ 50000) :
    one zs p top = if mf s.id top = true then (if judge s.id s.bs = 0 then ⟨0, p + (encS s).length, ⟨s.id, p + 1 + (Leb.bU 10 s.bs.length).length, s.bs⟩⟩ else ⟨judge s.id s.bs, p + 1 + (Leb.bU 10 s.bs.length).length, no⟩) else ⟨6, p, no⟩ := by
  have hc : zs.drop p = s.id :: (Leb.bU 10 s.bs.length ++ (s.bs ++ r)) := by rw [h]; simp [encS]
  obtain ⟨hp, hg⟩ := drop_len hc
  have hd1 : zs.drop (p + 1) = Leb.bU 10 s.bs.length ++ (s.bs ++ r) := by
    have := drop_add (a := [s.id]) (show zs.drop p = [s.id] ++ _ by rw [hc]; rfl)
    simpa using this
  obtain ⟨t1, t2, t3⟩ := tu_back (v := (s.bs.length : Int)) (r := s.bs ++ r) (by omega) (by omega)
  rw [← hd1] at t1 t2 t3
  have hd2 := drop_add hd1
  have hlen : zs.length = p + 1 + (Leb.bU 10 s.bs.length).length + s.bs.length + r.length := by
    have h1 : (zs.drop p).length = zs.length - p := List.length_drop
    rw [h] at h1
    simp [encS] at h1
    omega
  unfold one
  rw [hg]
  by_cases hm : mf s.id top = true
  · rw [if_pos hm, if_pos hm, if_pos t1, if_neg (by rw [t2, t3]; omega)]
    rw [t2, t3, Int.toNat_natCast, Int.toNat_natCast, hd2, List.take_left' rfl]
    by_cases hj : judge s.id s.bs = 0
    · rw [if_pos hj, if_pos hj]
      have e : (encS s).length = 1 + (Leb.bU 10 s.bs.length).length + s.bs.length := by simp [encS]; omega
      rw [e, show p + (1 + (Leb.bU 10 s.bs.length).length + s.bs.length) = p + 1 + (Leb.bU 10 s.bs.length).length + s.bs.length by omega]
    · rw [if_neg hj, if_neg hj]
  · rw [if_neg hm, if_neg hm]
/-- where each one's contents stand -/
def placed : List Sec → Nat → List Sec
  | [], _ => []
  | s :: r, p => ⟨s.id, p + 1 + (Leb.bU 10 s.bs.length).length, s.bs⟩ :: placed r (p + (encS s).length)
theorem placed_len : ∀ (l : List Sec) (p : Nat), (placed l p).length = l.length
  | [], _ => rfl
  | s :: r, p => by simp [placed, placed_len r]
theorem SE_join : ∀ (l : List Sec) (zs : List Int) (p : Nat) (top : Int), zs.drop p = l.flatMap encS → p ≤ zs.length → (∀ s ∈ l, s.bs.length ≤ 50000) → (jok l top = true → SE zs p top = ⟨0, zs.length, placed l p⟩) ∧ (jok l top = false → ¬ (SE zs p top).e = 0)
  | [], zs, p, top, h, hp, _ => by
    have e : zs.length ≤ p := by
      have := congrArg List.length h
      simp at this; omega
    refine ⟨fun _ => ?_, fun h => absurd h (by simp [jok])⟩
    rw [SE_end e]
    have : p = zs.length := by omega
    rw [this]; rfl
  | s :: r, zs, p, top, h, hp, hl => by
    have h1 : zs.drop p = encS s ++ r.flatMap encS := by rw [h]; rfl
    have ho := one_back (top := top) h1 (hl s (List.mem_cons_self))
    have hlt : p < zs.length := by
      have := congrArg List.length h1
      simp [encS] at this; omega
    have hd2 := drop_add h1
    have hp2 : p + (encS s).length ≤ zs.length := by
      have := congrArg List.length h1
      rw [List.length_drop, List.length_append] at this
      omega
    have ih := SE_join r zs (p + (encS s).length) (max top s.id) hd2 hp2 (fun x hx => hl x (List.mem_cons_of_mem _ hx))
    by_cases hm : mf s.id top = true
    · by_cases hj : judge s.id s.bs = 0
      · rw [if_pos hm, if_pos hj] at ho
        have hon := SE_on hlt (show (one zs p top).e = 0 by rw [ho])
        rw [ho] at hon
        simp only at hon
        refine ⟨fun hk => ?_, fun hk => ?_⟩
        · have hk2 : jok r (max top s.id) = true := by simpa [jok, hm, hj] using hk
          rw [hon, ih.1 hk2]
          rfl
        · have hk2 : jok r (max top s.id) = false := by simpa [jok, hm, hj] using hk
          have := ih.2 hk2
          rw [hon]
          unfold Out.cons
          rw [if_neg this]
          exact this
      · rw [if_pos hm, if_neg hj] at ho
        have hno := SE_no hlt (show ¬ (one zs p top).e = 0 by rw [ho]; exact hj)
        refine ⟨fun hk => ?_, fun _ => ?_⟩
        · simp [jok, hj] at hk
        · rw [hno, ho]; exact hj
    · rw [if_neg hm] at ho
      have hno := SE_no hlt (show ¬ (one zs p top).e = 0 by rw [ho]; show ¬ (6 : Int) = 0; decide)
      refine ⟨fun hk => ?_, fun _ => ?_⟩
      · simp [jok, hm] at hk
      · rw [hno, ho]; show ¬ (6 : Int) = 0; decide
theorem head_hd (r : List Int) : head 8 (hd ++ r) 0 = (0, 8) := by
  have hl : (hd ++ r).length = 8 + r.length := by simp [hd]; omega
  have g : ∀ i, i < 8 → (hd ++ r).getD i 0 = hd.getD i 0 := fun i hi => by
    simp [List.getD, List.getElem?_append_left (show i < hd.length from hi)]
  rw [head_on (by omega) (g 0 (by omega)), head_on (by omega) (g 1 (by omega)), head_on (by omega) (g 2 (by omega)), head_on (by omega) (g 3 (by omega)), head_on (by omega) (g 4 (by omega)), head_on (by omega) (g 5 (by omega)), head_on (by omega) (g 6 (by omega)), head_on (by omega) (g 7 (by omega))]
  rfl
theorem S_hd (r : List Int) : S (hd ++ r) = SE (hd ++ r) 8 0 := by
  unfold S; rw [head_hd, if_pos rfl]
theorem S_join {l : List Sec} (hl : (JB l).length ≤ 50000) : (jok l 0 = true → S (JB l) = ⟨0, (JB l).length, placed l 8⟩) ∧ (jok l 0 = false → ¬ (S (JB l)).e = 0) := by
  unfold JB at *
  rw [S_hd]
  exact SE_join l (hd ++ l.flatMap encS) 8 0 (List.drop_left' rfl) (by simp [hd]) (fun s hs => mem_len hs (by unfold JB; exact hl))
/-- a section of its own name -/
theorem judge_named {nm c : List Int} (hn : nm.length ≤ 256) (hv : vd nm = true) : judge 0 (Leb.bU 10 nm.length ++ nm ++ c) = 0 := by
  obtain ⟨t1, t2, t3⟩ := tu_back (v := (nm.length : Int)) (r := nm ++ c) (by omega) (by omega)
  rw [List.append_assoc]
  unfold judge
  rw [if_pos rfl, if_pos t1, t2, t3, Int.toNat_natCast, Int.toNat_natCast, if_neg (by simp; omega)]
  rw [List.drop_left' rfl, List.take_left' rfl, hv, if_pos rfl]
end Sc
end Go.Proofs.YtcmidegffpehoaaDoor
