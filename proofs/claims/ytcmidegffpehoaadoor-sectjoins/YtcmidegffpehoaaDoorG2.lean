/- G2: what follows, part by part: each part tells what it holds. -/
import Derived.Test.YtcmidegffpehoaaDoorScK
import Derived.Test.YtcmidegffpehoaaDoorScS
import Derived.WalkKit
import Derived.ProofKit
import Derived.OpenShut
import Derived.ShutString
import Derived.Deep.Slices
import Derived.Test.YtcmidegffpehoaaDoorScJ
import Derived.Test.YtcmidegffpehoaaDoorAppRow
import Derived.RegionTactic

/- What is joined is split as itself. Plain mathematics. -/
namespace Go.Proofs.YtcmidegffpehoaaDoor
open Go.RowKit
namespace Sc
set_option linter.unusedVariables false

theorem drop_add {zs a r : List Int} {p : Nat} (h : zs.drop p = a ++ r) : zs.drop (p + a.length) = r := by
  rw [← List.drop_drop, h]; simp
theorem drop_len {zs : List Int} {p : Nat} {c : Int} {r : List Int} (h : zs.drop p = c :: r) : p < zs.length ∧ zs.getD p 0 = c := by
  have hp : p < zs.length := by
    rcases Nat.lt_or_ge p zs.length with h1 | h1
    · exact h1
    · rw [List.drop_eq_nil_of_le h1] at h; cases h
  refine ⟨hp, ?_⟩
  rw [List.drop_eq_getElem_cons hp] at h
  have := (List.cons.inj h).1
  simp [List.getD, hp, this]
theorem tu_back {v : Int} {r : List Int} (h0 : 0 ≤ v) (h1 : v < 4294967296) : Leb.tuE (Leb.bU 10 v ++ r) 32 = 0 ∧ Leb.tuV (Leb.bU 10 v ++ r) 32 = v ∧ Leb.tuN (Leb.bU 10 v ++ r) 32 = ((Leb.bU 10 v).length : Int) := by
  obtain ⟨e1, e2⟩ := (Leb.back_U32 v r h0 (by omega)).1 h1
  refine ⟨e1, e2, ?_⟩
  unfold Leb.tuN
  rw [if_pos e1]
  obtain ⟨k, h1, h2, h3, _⟩ := Leb.bU_form 10 v r h0 (by have e : (128 : Int) ^ (10 + 1) = 151115727451828646838272 := by decide
                                                         omega)
  rw [h3, h2]; simp
/-- a section that stands here -/
theorem one_back {zs : List Int} {p : Nat} {top : Int} {s : Sec} {r : List Int} (h : zs.drop p = encS s ++ r) (hl : s.bs.length ≤ 50000) :
    one zs p top = if mf s.id top = true then (if judge s.id s.bs = 0 then ⟨0, p + (encS s).length, ⟨s.id, p + 1 + (Leb.bU 10 s.bs.length).length, s.bs⟩⟩ else ⟨judge s.id s.bs, p + 1 + (Leb.bU 10 s.bs.length).length, no⟩) else ⟨6, p, no⟩ := by
  have hc : zs.drop p = s.id :: (Leb.bU 10 s.bs.length ++ (s.bs ++ r)) := by rw [h]; simp [encS]
  obtain ⟨hp, hg⟩ := drop_len hc
  have hd1 : zs.drop (p + 1) = Leb.bU 10 s.bs.length ++ (s.bs ++ r) := by
    have := drop_add (a := [s.id]) (show zs.drop p = [s.id] ++ _ by rw [hc]; rfl)
    simpa using this
  obtain ⟨t1, t2, t3⟩ := tu_back (v := (s.bs.length : Int)) (r := s.bs ++ r) (by omega) (by omega)
  rw [← hd1] at t1 t2 t3
  have hd2 := drop_add hd1
  have hlen : zs.length = p + 1 + (Leb.bU 10 s.bs.length).length + s.bs.length + r.length := by
    have h1 : (zs.drop p).length = zs.length - p := List.length_drop
    rw [h] at h1
    simp [encS] at h1
    omega
  unfold one
  rw [hg]
  by_cases hm : mf s.id top = true
  · rw [if_pos hm, if_pos hm, if_pos t1, if_neg (by rw [t2, t3]; omega)]
    rw [t2, t3, Int.toNat_natCast, Int.toNat_natCast, hd2, List.take_left' rfl]
    by_cases hj : judge s.id s.bs = 0
    · rw [if_pos hj, if_pos hj]
      have e : (encS s).length = 1 + (Leb.bU 10 s.bs.length).length + s.bs.length := by simp [encS]; omega
      rw [e, show p + (1 + (Leb.bU 10 s.bs.length).length + s.bs.length) = p + 1 + (Leb.bU 10 s.bs.length).length + s.bs.length by omega]
    · rw [if_neg hj, if_neg hj]
  · rw [if_neg hm, if_neg hm]
/-- where each one's contents stand -/
def placed : List Sec → Nat → List Sec
  | [], _ => []
  | s :: r, p => ⟨s.id, p + 1 + (Leb.bU 10 s.bs.length).length, s.bs⟩ :: placed r (p + (encS s).length)
theorem placed_len : ∀ (l : List Sec) (p : Nat), (placed l p).length = l.length
  | [], _ => rfl
  | s :: r, p => by simp [placed, placed_len r]
theorem SE_join : ∀ (l : List Sec) (zs : List Int) (p : Nat) (top : Int), zs.drop p = l.flatMap encS → p ≤ zs.length → (∀ s ∈ l, s.bs.length ≤ 50000) → (jok l top = true → SE zs p top = ⟨0, zs.length, placed l p⟩) ∧ (jok l top = false → ¬ (SE zs p top).e = 0)
  | [], zs, p, top, h, hp, _ => by
    have e : zs.length ≤ p := by
      have := congrArg List.length h
      simp at this; omega
    refine ⟨fun _ => ?_, fun h => absurd h (by simp [jok])⟩
    rw [SE_end e]
    have : p = zs.length := by omega
    rw [this]; rfl
  | s :: r, zs, p, top, h, hp, hl => by
    have h1 : zs.drop p = encS s ++ r.flatMap encS := by rw [h]; rfl
    have ho := one_back (top := top) h1 (hl s (List.mem_cons_self))
    have hlt : p < zs.length := by
      have := congrArg List.length h1
      simp [encS] at this; omega
    have hd2 := drop_add h1
    have hp2 : p + (encS s).length ≤ zs.length := by
      have := congrArg List.length h1
      rw [List.length_drop, List.length_append] at this
      omega
    have ih := SE_join r zs (p + (encS s).length) (max top s.id) hd2 hp2 (fun x hx => hl x (List.mem_cons_of_mem _ hx))
    by_cases hm : mf s.id top = true
    · by_cases hj : judge s.id s.bs = 0
      · rw [if_pos hm, if_pos hj] at ho
        have hon := SE_on hlt (show (one zs p top).e = 0 by rw [ho])
        rw [ho] at hon
        simp only at hon
        refine ⟨fun hk => ?_, fun hk => ?_⟩
        · have hk2 : jok r (max top s.id) = true := by simpa [jok, hm, hj] using hk
          rw [hon, ih.1 hk2]
          rfl
        · have hk2 : jok r (max top s.id) = false := by simpa [jok, hm, hj] using hk
          have := ih.2 hk2
          rw [hon]
          unfold Out.cons
          rw [if_neg this]
          exact this
      · rw [if_pos hm, if_neg hj] at ho
        have hno := SE_no hlt (show ¬ (one zs p top).e = 0 by rw [ho]; exact hj)
        refine ⟨fun hk => ?_, fun _ => ?_⟩
        · simp [jok, hj] at hk
        · rw [hno, ho]; exact hj
    · rw [if_neg hm] at ho
      have hno := SE_no hlt (show ¬ (one zs p top).e = 0 by rw [ho]; show ¬ (6 : Int) = 0; decide)
      refine ⟨fun hk => ?_, fun _ => ?_⟩
      · simp [jok, hm] at hk
      · rw [hno, ho]; show ¬ (6 : Int) = 0; decide
theorem head_hd (r : List Int) : head 8 (hd ++ r) 0 = (0, 8) := by
  have hl : (hd ++ r).length = 8 + r.length := by simp [hd]; omega
  have g : ∀ i, i < 8 → (hd ++ r).getD i 0 = hd.getD i 0 := fun i hi => by
    simp [List.getD, List.getElem?_append_left (show i < hd.length from hi)]
  rw [head_on (by omega) (g 0 (by omega)), head_on (by omega) (g 1 (by omega)), head_on (by omega) (g 2 (by omega)), head_on (by omega) (g 3 (by omega)), head_on (by omega) (g 4 (by omega)), head_on (by omega) (g 5 (by omega)), head_on (by omega) (g 6 (by omega)), head_on (by omega) (g 7 (by omega))]
  rfl
theorem S_hd (r : List Int) : S (hd ++ r) = SE (hd ++ r) 8 0 := by
  unfold S; rw [head_hd, if_pos rfl]
theorem S_join {l : List Sec} (hl : (JB l).length ≤ 50000) : (jok l 0 = true → S (JB l) = ⟨0, (JB l).length, placed l 8⟩) ∧ (jok l 0 = false → ¬ (S (JB l)).e = 0) := by
  unfold JB at *
  rw [S_hd]
  exact SE_join l (hd ++ l.flatMap encS) 8 0 (List.drop_left' rfl) (by simp [hd]) (fun s hs => mem_len hs (by unfold JB; exact hl))
/-- a section of its own name -/
theorem judge_named {nm c : List Int} (hn : nm.length ≤ 256) (hv : vd nm = true) : judge 0 (Leb.bU 10 nm.length ++ nm ++ c) = 0 := by
  obtain ⟨t1, t2, t3⟩ := tu_back (v := (nm.length : Int)) (r := nm ++ c) (by omega) (by omega)
  rw [List.append_assoc]
  unfold judge
  rw [if_pos rfl, if_pos t1, t2, t3, Int.toNat_natCast, Int.toNat_natCast, if_neg (by simp; omega)]
  rw [List.drop_left' rfl, List.take_left' rfl, hv, if_pos rfl]
end Sc
end Go.Proofs.YtcmidegffpehoaaDoor

/- Sections that are joined: where they stand; one more of the top ID; the last one cut off. Plain mathematics. -/
namespace Go.Proofs.YtcmidegffpehoaaDoor
open Go.RowKit
namespace Sc
set_option linter.unusedVariables false

theorem placed_at : ∀ (l : List Sec) (zs : List Int) (p : Nat), zs.drop p = l.flatMap encS → ∀ i (hi : i < l.length) (hj : i < (placed l p).length), ∃ q : Nat, p + 2 ≤ q ∧ (placed l p)[i] = ⟨l[i].id, (q : Int), l[i].bs⟩ ∧ q + l[i].bs.length ≤ zs.length ∧ (zs.drop q).take l[i].bs.length = l[i].bs
  | [], _, _, _, i, hi, _ => by simp at hi
  | s :: r, zs, p, h, i, hi, hj => by
    have h1 : zs.drop p = encS s ++ r.flatMap encS := by rw [h]; rfl
    have hlen := congrArg List.length h1
    have hes : (encS s).length = 1 + (Leb.bU 10 s.bs.length).length + s.bs.length := by simp [encS]; omega
    have hpos := Leb.bU_pos 10 (s.bs.length : Int)
    rw [List.length_drop, List.length_append, hes] at hlen
    cases i with
    | zero =>
      refine ⟨p + 1 + (Leb.bU 10 s.bs.length).length, by omega, by simp [placed], by simp; omega, ?_⟩
      have h2 : zs.drop p = ([s.id] ++ Leb.bU 10 s.bs.length) ++ (s.bs ++ r.flatMap encS) := by rw [h1]; simp [encS]
      have h3 := drop_add h2
      have e : p + ([s.id] ++ Leb.bU 10 s.bs.length).length = p + 1 + (Leb.bU 10 s.bs.length).length := by simp; omega
      rw [e] at h3
      rw [h3]
      simp
    | succ i =>
      have hi' : i < r.length := by simpa using hi
      obtain ⟨q, q1, q2, q3, q4⟩ := placed_at r zs (p + (encS s).length) (drop_add h1) i hi' (by rw [placed_len]; exact hi')
      refine ⟨q, by omega, ?_, by simpa using q3, by simpa using q4⟩
      simpa [placed] using q2
theorem jok_more {m : Int} (hm : 0 < m) : ∀ (l : List Sec) (top : Int), (m ≤ top ∨ ∃ s ∈ l, m ≤ s.id) → jok (l ++ [⟨m, 0, []⟩]) top = false
  | [], top, h => by
    have h1 : m ≤ top := by
      rcases h with h | ⟨s, hs, _⟩
      · exact h
      · simp at hs
    have : mf m top = false := by unfold mf; exact decide_eq_false (by omega)
    simp [jok, this]
  | s :: r, top, h => by
    have := jok_more hm r (max top s.id) (by
      rcases h with h | ⟨x, hx, h⟩
      · exact .inl (by omega)
      · rcases List.mem_cons.1 hx with rfl | hx
        · exact .inl (by omega)
        · exact .inr ⟨x, hx, h⟩)
    show (mf s.id top && decide (judge s.id s.bs = 0) && jok (r ++ [⟨m, 0, []⟩]) (max top s.id)) = false
    rw [this]; simp
theorem SE_cut : ∀ (r : List Sec) (s : Sec) (cs : List Int) (zs : List Int) (p : Nat) (top : Int), zs.drop p = r.flatMap encS ++ ([s.id] ++ Leb.bU 10 s.bs.length ++ cs) → cs.length < s.bs.length → (∀ x ∈ r ++ [s], x.bs.length ≤ 50000) → jok (r ++ [s]) top = true → (SE zs p top).e = 4
  | [], s, cs, zs, p, top, h, hc, hl, hj => by
    have h0 : zs.drop p = s.id :: (Leb.bU 10 s.bs.length ++ cs) := by rw [h]; simp
    obtain ⟨hp, hg⟩ := drop_len h0
    have hd1 : zs.drop (p + 1) = Leb.bU 10 s.bs.length ++ cs := by
      have := drop_add (a := [s.id]) (show zs.drop p = [s.id] ++ _ by rw [h0]; rfl)
      simpa using this
    have hls := hl s (by simp)
    obtain ⟨t1, t2, t3⟩ := tu_back (v := (s.bs.length : Int)) (r := cs) (by omega) (by omega)
    rw [← hd1] at t1 t2 t3
    have hlen : zs.length = p + 1 + (Leb.bU 10 s.bs.length).length + cs.length := by
      have h1 : (zs.drop p).length = zs.length - p := List.length_drop
      rw [h0] at h1
      simp at h1
      omega
    have hm : mf s.id top = true := by
      have : (mf s.id top && decide (judge s.id s.bs = 0) && jok [] (max top s.id)) = true := hj
      simp at this
      exact this.1.1
    have ho : one zs p top = ⟨4, p + 1, no⟩ := by
      unfold one
      rw [hg, if_pos hm, if_pos t1, if_pos (by rw [t2, t3]; omega)]
    rw [SE_no hp (by rw [ho]; show ¬ (4 : Int) = 0; decide), ho]
  | x :: r, s, cs, zs, p, top, h, hc, hl, hj => by
    have h1 : zs.drop p = encS x ++ (r.flatMap encS ++ ([s.id] ++ Leb.bU 10 s.bs.length ++ cs)) := by rw [h]; simp
    have ho := one_back (top := top) h1 (hl x (by simp))
    have hj2 : (mf x.id top && decide (judge x.id x.bs = 0) && jok (r ++ [s]) (max top x.id)) = true := hj
    simp only [Bool.and_eq_true, decide_eq_true_eq] at hj2
    obtain ⟨⟨j1, j2⟩, j3⟩ := hj2
    rw [if_pos j1, if_pos j2] at ho
    have hlt : p < zs.length := by
      have := congrArg List.length h1
      simp [encS] at this; omega
    have hon := SE_on hlt (show (one zs p top).e = 0 by rw [ho])
    rw [ho] at hon
    simp only at hon
    have ih := SE_cut r s cs zs (p + (encS x).length) (max top x.id) (drop_add h1) hc (fun y hy => hl y (by simp at hy ⊢; exact .inr hy)) j3
    rw [hon]
    unfold Out.cons
    rw [if_neg (by rw [ih]; decide)]
    exact ih
/-- the last one's contents, cut off by some -/
theorem S_cut {r : List Sec} {s : Sec} {k : Nat} (hk : 0 < k) (hk2 : k ≤ s.bs.length) (hl : (JB (r ++ [s])).length ≤ 50000) (hj : jok (r ++ [s]) 0 = true) : (S ((JB (r ++ [s])).take ((JB (r ++ [s])).length - k))).e = 4 := by
  have e : (JB (r ++ [s])).take ((JB (r ++ [s])).length - k) = hd ++ (r.flatMap encS ++ ([s.id] ++ Leb.bU 10 s.bs.length ++ s.bs.take (s.bs.length - k))) := by
    have h1 : JB (r ++ [s]) = (hd ++ (r.flatMap encS ++ ([s.id] ++ Leb.bU 10 s.bs.length))) ++ s.bs := by simp [JB, encS]
    rw [h1, List.take_append, List.take_of_length_le (by simp; omega)]
    have h2 : (hd ++ (r.flatMap encS ++ ([s.id] ++ Leb.bU 10 s.bs.length)) ++ s.bs).length - k - (hd ++ (r.flatMap encS ++ ([s.id] ++ Leb.bU 10 s.bs.length))).length = s.bs.length - k := by simp; omega
    rw [h2]
    simp
  rw [e, S_hd]
  exact SE_cut r s _ _ 8 0 (List.drop_left' rfl) (by simp; omega) (fun x hx => mem_len hx hl) hj
end Sc
end Go.Proofs.YtcmidegffpehoaaDoor

/- A list of the document's sections that comes in: opened into a list that is read; how many bytes it has. -/
namespace Go.Proofs.YtcmidegffpehoaaDoor
open Go.ChangeShapes Go.WideShapes Go.ChangeAt Go.RowKit
namespace Sc
set_option linter.unusedVariables false

theorem cell_of {cs : List Value} {k n : Nat} {x : Value} (hl : cs.length = n) (hk : k < n) (h : (cs.drop k).take 1 = [x]) : cs[k]? = some x := by
  have h1 : ((cs.drop k).take 1)[0]? = some x := by rw [h]; rfl
  rw [List.getElem?_take_of_lt (by omega), List.getElem?_drop] at h1
  simpa using h1
/-- bytes that came in -/
theorem open_byt {H : Type} {enc : TypeId × Value → H} {w : World} {base fuel : Nat} {cs : List Value} {x : DataW H × List MemPlace}
    (h : DataW.trod enc Tryd.prog w base (fun _ => true) true fuel 22 cs = some x) : ∃ (bs : List Int) (v : Value), cs = [v] ∧ Byt w (fun _ => True) bs v := by
  rcases open_ints Tryd.underlying22 Tryd.underlying5 (by kernel_rfl) h with ⟨hcs, _⟩ | ⟨a, len, cap, zs, hcs, _, hl, hm, hz, _, hc, hw⟩
  · exact ⟨[], _, hcs, Byt.nil _ _⟩
  · have hzl : zs.length = cap := by simpa using hz
    have hlt : (zs.take len).length = len := by simp; omega
    refine ⟨zs.take len, .slice (some a) len cap, hcs, some a, cap, by rw [hlt], by omega, by simp, ?_, fun h0 => ?_⟩
    · rw [hlt]
      refine ⟨hlt, fun z hzm => ?_, fun h0 => ?_⟩
      · have := bounds_u8 (hw z (List.mem_of_mem_take hzm)); omega
      · obtain ⟨b, off, spot⟩ := a
        have h00 := hc 0 (by omega)
        have hspot : spot = none := by simpa [Addr.add] using World.cell?_spot h00
        subst hspot
        have hlt : b < w.heap.size := by
          have h1 : w.cell? ⟨b, off, none⟩ = some (.int .u8 (zs.getD 0 0)) := by simpa [Addr.add] using h00
          exact block_lt_of_cell h1
        refine ⟨b, off, rfl, hlt, fun i hi => ?_⟩
        have := hc i (by omega)
        rw [addr_add] at this
        rw [this]; simp [List.getD, hi]
    · obtain ⟨b, off, spot⟩ := a
      have h00 := hc 0 (by omega)
      have hspot : spot = none := by simpa [Addr.add] using World.cell?_spot h00
      subst hspot
      exact ⟨b, off, rfl, trivial⟩
/-- one section, of its three cells -/
theorem open_sec {H : Type} {enc : TypeId × Value → H} {w : World} {base fuel : Nat} {cs : List Value} {x : DataW H × List MemPlace}
    (h : DataW.trod enc Tryd.prog w base (fun _ => true) true fuel 36 cs = some x) :
    ∃ (s : Sec) (v : Value), cs.length = 3 ∧ cs[0]? = some (.int .u8 s.id) ∧ cs[1]? = some (.int .i64 s.at_) ∧ cs[2]? = some v ∧ (0 ≤ s.id ∧ s.id ≤ 255) ∧ Byt w (fun _ => True) s.bs v := by
  obtain ⟨xs, n, _, _, hl, hlen, hf⟩ := DataW.trod_struct Tryd.underlying36 h
  have hl3 : cs.length = 3 := hl.trans (by kernel_rfl)
  have hxl : xs.length = 3 := hlen
  have g0 := hf 0 _ rfl
  have g1 := hf 1 _ rfl
  have g2 := hf 2 _ rfl
  rw [List.getElem?_eq_getElem (by omega)] at g0 g1 g2
  obtain ⟨q, e0, _, w0⟩ := DataW.trod_int Tryd.underlying5 g0
  obtain ⟨ta, e1, _, w1⟩ := DataW.trod_int Tryd.underlying3 g1
  obtain ⟨bs, v, e2, hby⟩ := open_byt g2
  have c0 : Tryd.prog.cellsOf 5 = 1 := by kernel_rfl
  have c1 : Tryd.prog.cellsOf 3 = 1 := by kernel_rfl
  have c2 : Tryd.prog.cellsOf 22 = 1 := by kernel_rfl
  have f0 : (cs.drop 0).take (Tryd.prog.cellsOf 5) = [.int .u8 q] := e0
  have f1 : (cs.drop 1).take (Tryd.prog.cellsOf 3) = [.int .i64 ta] := e1
  have f2 : (cs.drop 2).take (Tryd.prog.cellsOf 22) = [v] := e2
  rw [c0] at f0
  rw [c1] at f1
  rw [c2] at f2
  have b0 := bounds_u8 w0
  exact ⟨⟨q, ta, bs⟩, v, hl3, cell_of hl3 (by omega) f0, cell_of hl3 (by omega) f1, cell_of hl3 (by omega) f2, ⟨b0.1, by show q ≤ 255; omega⟩, hby⟩
theorem list_of {α : Type} (A : Nat → α) : ∀ n : Nat, ∃ l : List α, l.length = n ∧ ∀ j (hj : j < l.length), l[j] = A j := fun n => ⟨(List.range n).map A, by simp, fun j hj => by simp⟩
theorem open_secs {H : Type} {enc : TypeId × Value → H} {w : World} {al : Option Addr} {ll cl : Nat} {d : DataW H} {p : List MemPlace}
    (h : DataW.Trod enc Tryd.prog w 0 (fun _ => true) true 29 (.slice al ll cl) d p) : ∃ l : List Sec, l.length = ll ∧ SecL w l (.slice al ll cl) ∧ (∀ s ∈ l, 0 ≤ s.id ∧ s.id ≤ 255) ∧ (∀ s ∈ l, ∀ z ∈ s.bs, 0 ≤ z ∧ z ≤ 255) := by
  obtain ⟨fuel, hf⟩ := h
  rcases Go.Deep.open_slice Tryd.underlying29 hf with ⟨hcs, _⟩ | ⟨a, len, cap, m, n, D, Pl, hcs, _, hlc, hcm, hm, _, hx⟩
  · simp [Value.cells] at hcs
    obtain ⟨rfl, rfl, rfl⟩ := hcs
    exact ⟨[], rfl, SecL.nil _, by simp, by simp⟩
  · simp [Value.cells] at hcs
    obtain ⟨rfl, rfl, rfl⟩ := hcs
    have c3 : Tryd.prog.cellsOf 36 = 3 := by kernel_rfl
    rw [c3] at hx
    simp only [if_true] at hm
    subst hm
    haveI : Inhabited Sec := ⟨no⟩
    obtain ⟨A, hA⟩ := Go.Deep.choose_lt (α := Sec) (n := ll) (p := fun i s =>
        (w.cell? ((a.add (i * 3)).add 0) = some (.int .u8 s.id) ∧ w.cell? ((a.add (i * 3)).add 1) = some (.int .i64 s.at_) ∧ ∃ v, w.cell? ((a.add (i * 3)).add 2) = some v ∧ Byt w (fun _ => True) s.bs v) ∧ (0 ≤ s.id ∧ s.id ≤ 255)) (fun i hi => by
      obtain ⟨cs', h1, h2⟩ := hx i (by omega)
      obtain ⟨_, _, hc⟩ := World.cells?_some h1
      obtain ⟨s, v, hl, e0, e1, e2, b0, hby⟩ := open_sec h2
      exact ⟨s, ⟨(hc 0 (by omega)).trans e0, (hc 1 (by omega)).trans e1, v, (hc 2 (by omega)).trans e2, hby⟩, b0⟩)
    obtain ⟨l, hll, hl⟩ := list_of A ll
    refine ⟨l, hll, ⟨some a, _, by rw [hll], by omega, by simp, fun j hj => ?_⟩, fun s hs => ?_, fun s hs => ?_⟩
    · obtain ⟨⟨d0, d1, v, d2, hby⟩, _⟩ := hA j (by omega)
      obtain ⟨b, off, spot⟩ := a
      have hsp : spot = none := by
        have h0 := (hA 0 (by omega)).1.1
        simpa [Addr.add] using World.cell?_spot h0
      subst hsp
      have hb := World.block_lt_of_cell? w _ d0
      refine ⟨b, off, rfl, by simpa [addr_add] using hb, ?_⟩
      rw [hl j hj]
      simp only [addr_add, Nat.add_zero] at d0 d1 d2
      exact ⟨d0, d1, v, d2, hby⟩
    · obtain ⟨j, hj, rfl⟩ := List.getElem_of_mem hs
      rw [hl j hj]; exact (hA j (by omega)).2
    · obtain ⟨j, hj, rfl⟩ := List.getElem_of_mem hs
      rw [hl j hj]
      obtain ⟨⟨d0, d1, v, d2, a', cap', _, _, _, hr, _⟩, _⟩ := hA j (by omega)
      exact hr.2.1
/-- bytes, as the statements count them -/
def sm : List Sec → Int
  | [] => 0
  | s :: r => min (s.bs.length : Int) 4000 + sm r
theorem sm_app : ∀ (a b : List Sec), sm (a ++ b) = sm a + sm b
  | [], b => by simp [sm]
  | s :: r, b => by simp only [List.cons_append, sm, sm_app r b]; omega
theorem sm_take (l : List Sec) (k : Nat) (h : k < l.length) : sm (l.take (k + 1)) = sm (l.take k) + min (l[k].bs.length : Int) 4000 := by
  rw [← List.take_append_getElem h, sm_app]; simp [sm]
theorem sm_bd : ∀ l : List Sec, 0 ≤ sm l ∧ sm l ≤ 4000 * l.length
  | [] => by simp [sm]
  | s :: r => by
    have := sm_bd r
    simp only [sm, List.length_cons]
    omega
theorem sm_len : ∀ l : List Sec, sm l ≤ 3000 → ((l.flatMap encS).length : Int) ≤ 12 * l.length + sm l
  | [], _ => by simp [sm]
  | s :: r, h => by
    have hb := sm_bd r
    simp only [sm] at h
    have ih := sm_len r (by omega)
    have h1 := Leb.bU_len 10 (s.bs.length : Int)
    have h2 : (encS s).length = 1 + (Leb.bU 10 s.bs.length).length + s.bs.length := by simp [encS]; omega
    rw [List.flatMap_cons, List.length_append, h2]
    simp only [sm, List.length_cons]
    omega
theorem jb_len {l : List Sec} (h : sm l ≤ 3000) (hl : l.length ≤ 50) : (JB l).length ≤ 3608 := by
  have := sm_len l h
  have e : (JB l).length = 8 + (l.flatMap encS).length := by simp [JB, hd]; omega
  omega
end Sc
end Go.Proofs.YtcmidegffpehoaaDoor

/- append to a builder of bytes, as a step of a region that draws its order. -/
namespace Go.Proofs.YtcmidegffpehoaaDoor
open Go.RowKit
namespace Sc
set_option linter.unusedVariables false

theorem step_append_lay {ops : Array Oper} {o : Oper} {a : Act} {K : Act → World → Prop} {Q : Exit → Act → World → Prop} {E : Prop} (w : World) (hgd : o.guard = none) (s x : Operand)
    (ho : o.op = .call { callee := .builtin .append, args := #[s, x], argTypes := #[22, 22] })
    (B : Nat) (v : Value) (xs : List Int) (hs : a.eval s = v) (hown : Bld w B v xs) (h0 : 0 < xs.length)
    (ad : Addr) (m c : Nat) (zs : List Int) (hx : a.eval x = .slice (some ad) m c) (hrow : Row w (some ad) m zs) (hb : xs.length + m ≤ 100000) (hm : 0 < m) (hB : B ≤ w.heap.size)
    (h : ∀ g cap w', w'.ownsRow B 5 1 (.slice (some ⟨g, 0, none⟩) (xs.length + m) cap) (xs.length + m) ((xs ++ zs).map (Value.int .u8)) → Below B w w' → K (a.put o.dst (.slice (some ⟨g, 0, none⟩) (xs.length + m) cap)) w') :
    if Region.wanted o (yielded ops a.tmps) = true then Oper.wp Tryd.prog o a w K Q else E := by
  have hw : Region.wanted o (yielded ops a.tmps) = true := by simp [Region.wanted, hgd]
  rw [if_pos hw]
  obtain ⟨i0, hi, hz0, hz1, hz2⟩ := info_parts Tryd.info5
  have hml : zs.length = m := hrow.1
  have hnews : ∀ j u, (zs.map (Value.int .u8))[j]? = some u → w.cell? (ad.add j) = some u := fun j u hj => by
    simp at hj
    obtain ⟨z, hz, rfl⟩ := hj
    have hj2 : j < m := by have := (List.getElem?_eq_some_iff.1 hz).1; omega
    obtain ⟨b, off, he, _, hcell⟩ := hrow.2.2 (by omega)
    simp at he; subst he
    rw [addr_add, hcell j hj2]; simp [List.getD, hz]
  have hblk := hown.blk h0
  rcases hown with hown | ⟨g, rfl, hg, hr⟩
  · refine wp_append_lies w s x 22 ho B 5 i0 (.int .u8 0) 1 1 Tryd.underlying22 hi hz0 hz1 hz2 rfl (by decide) v xs.length (xs.map (Value.int .u8)) hs hown ad m c (zs.map (Value.int .u8)) hx (by simp [hml]) hnews (ints_oneCell _ _) hm (by unfold maxLen; omega) (by omega) hB w.heap.size rfl ?_
    intro g cap w' h1 h2 h3 _
    exact h g cap w' (by simpa using h1) ((Below.refl B w).grown h2 hB (fun k hk => (hblk k hk).1))
  · have hrun := run_append_grow (P := Tryd.prog) w 22 o.type 5 i0 (.int .u8 0) Tryd.underlying22 hi hz0 ⟨g, 0, none⟩ xs.length xs.length (xs.map (Value.int .u8)) (by simp [hz1])
      (fun j u hj => by
        simp at hj
        obtain ⟨z, hz, rfl⟩ := hj
        have hj2 : j < xs.length := (List.getElem?_eq_some_iff.1 hz).1
        rw [addr_add, (row_at hr hj2).1]; simp [List.getD, hz])
      ad m c (zs.map (Value.int .u8)) (by simp [hz1, hml]) hnews
      (by omega) (by omega) (by rw [hz2]; have := nextslicecap_le (need := xs.length + m) (old := xs.length) (by omega); omega)
    unfold Oper.wp execOp
    simp only [ho, resolve, invoke, builtin, Sem.run_bind, Sem.run_pure, Result.andThen_ok, List.map_toArray, List.map_cons, List.map_nil, hs, hx, hrun]
    refine h _ _ _ ?_ ?_
    · subst hml
      exact grow_own hB hb (grownCap_le_maxLen w _ _ _ (by unfold maxLen; omega))
    · exact ((Below.refl w.heap.size w).drew.alloc (Nat.le_refl _) _).mono hB
theorem step_append_row {ops : Array Oper} {o : Oper} {a : Act} {K : Act → World → Prop} {Q : Exit → Act → World → Prop} {E : Prop} (w : World) (hgd : o.guard = none) (s x : Operand)
    (ho : o.op = .call { callee := .builtin .append, args := #[s, x], argTypes := #[22, 22] })
    (B : Nat) (v : Value) (n : Nat) (xs : List Int) (hs : a.eval s = v) (hown : w.ownsRow B 5 1 v n (xs.map (Value.int .u8)))
    (ao : Option Addr) (m c : Nat) (zs : List Int) (hx : a.eval x = .slice ao m c) (hrow : Row w ao m zs) (hnil : ao = none → c = 0) (hb : n + m ≤ 100000) (hB : B ≤ w.heap.size)
    (h : ∀ v' w', w'.ownsRow B 5 1 v' (n + m) ((xs ++ zs).map (Value.int .u8)) → Below B w w' → K (a.put o.dst v') w') :
    if Region.wanted o (yielded ops a.tmps) = true then Oper.wp Tryd.prog o a w K Q else E := by
  have hw : Region.wanted o (yielded ops a.tmps) = true := by simp [Region.wanted, hgd]
  rw [if_pos hw]
  obtain ⟨i0, hi, hz0, hz1, hz2⟩ := info_parts Tryd.info5
  cases ao with
  | none =>
    have hm : m = 0 := by
      rcases Nat.eq_zero_or_pos m with h1 | h1
      · exact h1
      · obtain ⟨b, off, hc, _⟩ := hrow.2.2 h1; simp at hc
    subst hm
    have hzs : zs = [] := List.eq_nil_of_length_eq_zero hrow.1
    subst hzs
    have hc0 := hnil rfl
    subst hc0
    have hrun := run_append_owned_none (P := Tryd.prog) (w := w) B 22 o.type 5 i0 1 Tryd.underlying22 hi v n (xs.map (Value.int .u8)) hown
    unfold Oper.wp
    simp [execOp, ho, resolve, invoke, builtin, hs, hx, hrun, Result.andThen]
    exact h v w (by simpa using hown) (Below.refl _ _)
  | some ad =>
    obtain ⟨v', w', hrun, h1, h2, _⟩ := run_append_own (P := Tryd.prog) w B 22 o.type 5 i0 (.int .u8 0) 1 1 Tryd.underlying22 hi hz0 hz1 hz2 rfl (by decide) v n (xs.map (Value.int .u8)) hown ad m c (zs.map (Value.int .u8)) (by simp [hrow.1]) (by
      intro j u hj
      simp at hj
      obtain ⟨z, hz, rfl⟩ := hj
      have hj2 : j < m := by have := (List.getElem?_eq_some_iff.1 hz).1; have := hrow.1; omega
      obtain ⟨b, off, he, _, hcell⟩ := hrow.2.2 (by omega)
      simp at he; subst he
      rw [addr_add, hcell j hj2]; simp [List.getD, hz]) (ints_oneCell _ _) (by unfold maxLen; omega) (by omega) hB
    unfold Oper.wp
    simp [execOp, ho, resolve, invoke, builtin, hs, hx, hrun, Result.andThen]
    exact h v' w' (by simpa using h1) ((Below.refl B w).grown h2 hB (fun k hk => (hown.lt k hk).1))
end Sc
end Go.Proofs.YtcmidegffpehoaaDoor
