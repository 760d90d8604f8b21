/- WG: what follows, part by part: each part tells what it holds. -/
import Derived.Test.YtcpknafaocdjdaaGreatDoorWF
import Derived.Test.YtcpknafaocdjdaaGreatDoorWE
import Derived.Deep.RegionHeld3

/- valid: what instructions do to heights (plain mathematics). -/
namespace Go.Proofs.YtcpknafaocdjdaaGreatDoor
open Go.RowKit
namespace Vw
set_option linter.unusedVariables false
set_option linter.unusedSimpArgs false
open Ex (Ins)
open Gm (Mod Typ)
/-- labels and what is beneath stay -/
def Kk (s s' : St) : Prop := s'.la = s.la ∧ s'.ben = s.ben ∧ s'.ben ≤ s'.st.length
theorem Kk.refl {s : St} (h : s.ben ≤ s.st.length) : Kk s s := ⟨rfl, rfl, h⟩
theorem Kk.on {a b c : St} (h : Kk a b) (h2 : Kk b c) : Kk a c := ⟨h2.1.trans h.1, h2.2.1.trans h.2.1, h2.2.2⟩
theorem tkA_k (s : St) (h : s.ben ≤ s.st.length) : (tkA s).2.2.st.length ≤ s.st.length ∧ Kk s (tkA s).2.2 := by
  unfold tkA; split
  · exact ⟨Nat.le_refl _, Kk.refl h⟩
  · refine ⟨?_, rfl, rfl, ?_⟩ <;> simp <;> omega
theorem tk_k {s s' : St} {k : Int} (hs : s.ben ≤ s.st.length) (h : tk s k = some s') : s'.st.length ≤ s.st.length ∧ Kk s s' := by
  unfold tk at h; split at h
  · cases h; exact ⟨Nat.le_refl _, Kk.refl hs⟩
  · split at h
    · cases h; exact tkA_k s hs
    · cases h
theorem ly_k (s : St) (k : Int) (hs : s.ben ≤ s.st.length) : (ly s k).st.length ≤ s.st.length + 1 ∧ Kk s (ly s k) := by
  unfold ly; split
  · exact ⟨Nat.le_succ _, Kk.refl hs⟩
  · refine ⟨?_, rfl, rfl, ?_⟩ <;> simp <;> omega
theorem tks_k : ∀ (l : List Int) (s s' : St), s.ben ≤ s.st.length → tks l s = some s' → s'.st.length ≤ s.st.length ∧ Kk s s'
  | [], s, s', hs, h => by cases h; exact ⟨Nat.le_refl _, Kk.refl hs⟩
  | k :: r, s, s', hs, h => by
    unfold tks at h
    cases h1 : tk s k with
    | none => rw [h1] at h; cases h
    | some s1 =>
      rw [h1, Option.bind_some] at h
      have a := tk_k hs h1
      have b := tks_k r s1 s' a.2.2.2 h
      exact ⟨by omega, a.2.on b.2⟩
theorem app_k {t : Typ} {s s' : St} (hs : s.ben ≤ s.st.length) (h : app t s = some s') : s'.st.length ≤ s.st.length + 1 ∧ Kk s s' := by
  unfold app at h
  cases h1 : tks t.ps.reverse s with
  | none => rw [h1] at h; cases h
  | some s1 =>
    rw [h1] at h
    cases h
    have a := tks_k _ _ _ hs h1
    have b := ly_k s1 t.re a.2.2.2
    exact ⟨Nat.le_trans b.1 (by omega), a.2.on b.2⟩
theorem flat_k {M : Mod} {lo : List Int} {i : Ins} {s s' : St} (hs : s.ben ≤ s.st.length) (h : flat M lo i s = some s') : s'.st.length ≤ s.st.length + 1 ∧ Kk s s' := by
  unfold flat at h
  cases h1 : sig M lo s.la i with
  | none => rw [h1] at h; cases h
  | some t =>
    rw [h1, Option.bind_some] at h
    cases h2 : app t s with
    | none => rw [h2] at h; cases h
    | some s1 =>
      rw [h2, Option.map_some] at h
      have a := app_k hs h2
      split at h
      · cases h
        refine ⟨?_, a.2.1, a.2.2.1, ?_⟩
        · simp only [List.length_take]; omega
        · have := a.2.2.2; simp only [List.length_take]; omega
      · cases h; exact a
/-- a list with a label of its own -/
theorem blk_k {f : St → Option St} (hf : ∀ s s', s.ben ≤ s.st.length → f s = some s' → Kk s s') {label result : Int} {s s' : St} (hs : s.ben ≤ s.st.length) (h : blk f label result s = some s') : s'.st.length = s.st.length ∧ Kk s s' := by
  unfold blk at h
  cases h1 : f (opn s label) with
  | none => rw [h1] at h; cases h
  | some s1 =>
    rw [h1, Option.bind_some] at h
    have a := hf _ _ (by simp [opn]) h1
    unfold cls at h
    cases h2 : tk s1 result with
    | none => rw [h2] at h; cases h
    | some s2 =>
      rw [h2, Option.bind_some] at h
      have b := tk_k a.2.2 h2
      split at h
      · cases h
      · rename_i h3
        cases h
        have l1 : s1.ben = s.st.length := a.2.1.trans rfl
        have l2 : s1.la = s.la ++ [label] := a.1
        have l3 := b.2.2.1; have l4 := b.2.2.2
        have l5 : s2.la = s1.la := b.2.1
        refine ⟨?_, ?_, rfl, ?_⟩
        · simp only; omega
        · simp only [l5, l2]; simp
        · simp only; omega
theorem sel_k {s s' : St} (hs : s.ben ≤ s.st.length) (h : sel s = some s') : s'.st.length ≤ s.st.length + 1 ∧ Kk s s' := by
  unfold sel at h
  cases h1 : tk s 127 with
  | none => rw [h1] at h; cases h
  | some s1 =>
    rw [h1, Option.bind_some] at h
    have a := tk_k hs h1
    have b := tkA_k s1 a.2.2.2
    unfold sel2 at h
    split at h
    · cases h
      have c := tkA_k _ b.2.2.2
      have d := ly_k (tkA (tkA s1).2.2).2.2 (tkA s1).1 c.2.2.2
      exact ⟨by omega, ((a.2.on b.2).on c.2).on d.2⟩
    · cases h
def K1 (M : Mod) (lo : List Int) (i : Ins) : Prop := ∀ s s', s.ben ≤ s.st.length → ins1 M lo i s = some s' → s'.st.length ≤ s.st.length + 1 ∧ Kk s s'
theorem K1.keeps {M : Mod} {lo : List Int} {i : Ins} (h : K1 M lo i) : Keeps M lo i := fun s s' hs hi => let q := h s s' hs hi; ⟨q.1, q.2.1, q.2.2.1⟩
theorem ins_k {M : Mod} {lo : List Int} : ∀ (l : List Ins), (∀ i ∈ l, K1 M lo i) → ∀ s s', s.ben ≤ s.st.length → ins M lo l s = some s' → Kk s s'
  | [], _, s, s', hs, h => by rw [ins_nil] at h; cases h; exact Kk.refl hs
  | i :: r, hl, s, s', hs, h => by
    rw [ins_cons] at h
    cases h1 : ins1 M lo i s with
    | none => rw [h1] at h; cases h
    | some s1 =>
      rw [h1, Option.bind_some] at h
      have a := hl i (by simp) s s1 hs h1
      have b := ins_k r (fun j hj => hl j (by simp [hj])) s1 s' a.2.2.2 h
      exact a.2.on b
theorem blkl_k {f : St → Option St} (hf : ∀ s s', s.ben ≤ s.st.length → f s = some s' → Kk s s') {label result : Int} {s s' : St} (hs : s.ben ≤ s.st.length) (h : (blk f label result s).map (fun s => ly s result) = some s') : s'.st.length ≤ s.st.length + 1 ∧ Kk s s' := by
  cases h1 : blk f label result s with
  | none => rw [h1] at h; cases h
  | some s1 =>
    rw [h1] at h; cases h
    have a := blk_k hf hs h1
    have b := ly_k s1 result a.2.2.2
    exact ⟨Nat.le_trans b.1 (by omega), a.2.on b.2⟩
theorem k1_all (M : Mod) (lo : List Int) (l : List Ins) : ∀ i ∈ l, K1 M lo i := by
  refine Ex.ind2 (P := fun l => ∀ i ∈ l, K1 M lo i) (fun l ih i hi s s' hs h => ?_) l
  have hb := ins_k i.body (ih i hi).1
  have he := ins_k i.els (ih i hi).2
  unfold ins1 at h
  split at h
  · unfold drp at h; split at h
    · cases h; have a := tkA_k s hs; exact ⟨by omega, a.2⟩
    · cases h
  split at h
  · exact sel_k hs h
  split at h
  · split at h
    · exact blkl_k hb hs h
    · cases h
  split at h
  · split at h
    · exact blkl_k hb hs h
    · cases h
  split at h
  · cases h1 : tk s 127 with
    | none => rw [h1] at h; cases h
    | some s1 =>
      rw [h1, Option.bind_some] at h
      have a := tk_k hs h1
      split at h
      · cases h2 : blk (fun s => ins M lo i.body s) i.re i.re s1 with
        | none => rw [h2] at h; cases h
        | some s2 =>
          rw [h2, Option.bind_some] at h
          have b := blk_k hb a.2.2.2 h2
          have c := blkl_k he b.2.2.2 h
          exact ⟨by omega, (a.2.on b.2).on c.2⟩
      · cases h
  · exact flat_k hs h
/-- lists one after another, each with a label of its own -/
def blks (M : Mod) (lo : List Int) (label result : Int) : List (List Ins) → St → Option St
  | [], s => some s
  | l :: r, s => (blk (fun s => ins M lo l s) label result s).bind (blks M lo label result r)
theorem blks_app (M : Mod) (lo : List Int) (label result : Int) : ∀ (a b : List (List Ins)) (s : St), blks M lo label result (a ++ b) s = (blks M lo label result a s).bind (blks M lo label result b)
  | [], b, s => rfl
  | l :: r, b, s => by
    rw [List.cons_append, blks, blks]
    cases h : blk (fun s => ins M lo l s) label result s with
    | none => rfl
    | some s1 => rw [Option.bind_some, Option.bind_some, blks_app]
theorem blks_k {M : Mod} {lo : List Int} {label result : Int} : ∀ (a : List (List Ins)) (s s' : St), s.ben ≤ s.st.length → blks M lo label result a s = some s' → s'.st.length = s.st.length ∧ Kk s s'
  | [], s, s', hs, h => by cases h; exact ⟨rfl, Kk.refl hs⟩
  | l :: r, s, s', hs, h => by
    rw [blks] at h
    cases h1 : blk (fun s => ins M lo l s) label result s with
    | none => rw [h1] at h; cases h
    | some s1 =>
      rw [h1, Option.bind_some] at h
      have a := blk_k (ins_k l (k1_all M lo l)) hs h1
      have b := blks_k r s1 s' a.2.2.2 h
      exact ⟨b.1.trans a.1, a.2.on b.2⟩
end Vw
end Go.Proofs.YtcpknafaocdjdaaGreatDoor

/- valid: block: lists with a label of their own each, and what they lay. -/
namespace Go.Proofs.YtcpknafaocdjdaaGreatDoor
open Go.RowKit Go.Shelf
namespace Vw
set_option linter.unusedVariables false
set_option linter.unusedSimpArgs false
open Ex (Ins Lies Lab cnt)
open Gm (Mod Typ Byts ModL WfM)
theorem take_succ_at {α : Type} (l : List α) (k : Nat) (h : k < l.length) : l.take (k + 1) = l.take k ++ [l[k]] := by
  exact List.take_succ_eq_append_getElem h
theorem blks_take {M : Mod} {lo : List Int} {label result : Int} {ls : List (List Ins)} {k : Nat} (h : k < ls.length) {s sk : St} (hs : blks M lo label result (ls.take k) s = some sk) :
    blks M lo label result (ls.take (k + 1)) s = blk (fun s => ins M lo ls[k] s) label result sk := by
  rw [take_succ_at ls k h, blks_app, hs, Option.bind_some]
  simp only [blks]
  cases blk (fun s => ins M lo ls[k] s) label result sk with
  | none => rfl
  | some s1 => rfl
theorem blks_stop {M : Mod} {lo : List Int} {label result : Int} {ls : List (List Ins)} {k : Nat} {s : St} (hs : blks M lo label result (ls.take k) s = none) : blks M lo label result ls s = none := by
  have := blks_app M lo label result (ls.take k) (ls.drop k) s
  rw [List.take_append_drop, hs] at this; exact this

set_option maxRecDepth 100000 in
set_option maxHeartbeats 3200000 in
theorem block_any {w0 w : World} {N : Nat} {M : Mod} {m : M8} {vl va vt : Value} {lo : List Int} {s : St} {ls : List (List Ins)} {vs : List Value} {g cp : Nat}
    (hw : Below N w0 w) (h : Wk w N m vl lo va vt s) (hl : ∀ l ∈ ls, s.st.length + cnt l + 1 < 1099511627776) (hla : ∀ l ∈ ls, s.la.length + cnt l + 1 < 1099511627776) (hst : s.st.length < 1099511627776) (hn : ls.length ≤ 2) (hcp : ls.length ≤ cp)
    (hg : w.heap[g]? = some (.cells vs.toArray 58 (0, 0))) (hgN : g ≠ N)
    (hC : ∀ j (hj : j < ls.length), ∃ a c, vs[j]? = some (.slice a ls[j].length c) ∧ Ex.Code w0 (fun b => b < N) ls[j] (.slice a ls[j].length c))
    (hI : ∀ l ∈ ls, ∀ i ∈ l, InOk w0 N M m vl lo i) (hNw : N < w0.heap.size) (label result : Int) :
    Calls Tryz.prog 120 #[.pointer (some ⟨N, 0, none⟩), .int .u8 label, .int .u8 result, .slice (some ⟨g, 0, none⟩) ls.length cp] w fun e w' => Res N m vl lo w (if isR result then (blks M lo label result ls s).map (fun s => ly s result) else none) e w' := by
  have hR := hide (fun W => isResult_any result W)
  cases hr : isR result with
  | false =>
    rw [hr] at hR
    clear hr hC hI hl hla h hg hw hcp hn
    simp only [Bool.false_eq_true, if_false]
    go_enter Tryz.func120, Tryz.ntmps120
    go_wp2_with fail
    refine (unhide hR _).mono ?_
    rintro e w1 ⟨rfl, rfl⟩
    go_wp2
    go_ret
    exact ⟨rfl, nofun, (Fb.refl _ _).fw⟩
  | true =>
  rw [hr] at hR
  simp only [if_true]
  have hlt := h.lt
  have HC := hide hC; have HI := hide hI; have HL := hide hl; have HLa := hide hla; have HW := hide hw; have HG := hide hg; have HWk := hide h; have HSt := hide hst; have HHb := hide h.hb
  obtain ⟨n, hn2⟩ : ∃ n, ls.length = n := ⟨_, rfl⟩
  have HN := hide hn2
  rw [hn2] at hn hcp
  rw [hn2]
  clear hC hI hl hla hw hg h hr hst hn2
  go_enter Tryz.func120, Tryz.ntmps120
  go_wp2_with fail
  refine (unhide hR _).mono ?_
  rintro e w1 ⟨rfl, rfl⟩
  go_wp2_with fail
  go_loopw [16] (fun v wr => ∃ k : Nat, k ≤ n ∧ v = .int .i64 k ∧ ∃ sk, blks M lo label result (ls.take k) s = some sk ∧ Wx wr N m vl lo sk ∧ Fw N w1 wr) (fun v _ => ((n : Int) - intOf v).toNat)
  case atStart => exact ⟨0, Nat.zero_le _, rfl, s, rfl, ⟨va, vt, unhide HWk⟩, (Fb.refl _ _).fw⟩
  case round =>
    obtain ⟨k, hk, rfl, sk, hbk, ⟨vak, vtk, hwk⟩, hfk⟩ := hrel
    have hkk := blks_k _ _ _ (unhide HHb) hbk
    have hwr : Below N w0 wr := (unhide HW).trans hfk.lo
    have hgr := (hfk.hi g (Array.getElem?_eq_some_iff.1 (unhide HG)).1 hgN (fun c fr e => by have := (unhide HG).symm.trans e; simp at this)).trans (unhide HG)
    have hglt := (Array.getElem?_eq_some_iff.1 hgr).1
    by_cases hlt2 : k < n
    · have hkl : k < ls.length := by rw [unhide HN]; exact hlt2
      obtain ⟨a, c, hv, hcode⟩ := unhide HC k hkl
      have hcell : wr.cell? ⟨g, k, none⟩ = some (.slice a ls[k].length c) := by rw [cell_of_row wr _ k _ _ _ hgr]; simpa using hv
      have hmem := List.getElem_mem hkl
      have hcall := list_any hwr hwk (by rw [hkk.1]; exact unhide HL _ hmem) (by rw [hkk.2.1]; exact unhide HLa _ hmem) hcode (fun i hi => ⟨unhide HI _ hmem i hi, (k1_all M lo ls[k] i hi).keeps⟩) hNw label result
      have HCall := hide hcall; have HFk := hide hfk; have HBk := hide hbk; have HT := hide (blks_take hkl hbk); have HK := hide hlt2
      have hlt2' : (k : Int) < n := by omega
      clear hcall hfk hbk hv hcode hmem hwr hwk hgr hkk hk hlt2
      go_wp2_with fail
      refine (unhide HCall).mono ?_
      rintro e w5 ⟨rfl, hx5, hf5⟩
      have HF5 := hide (Fw.on (unhide HFk) hf5)
      clear hf5 HCall HFk hcell
      cases ho : blk (fun s => ins M lo ls[k] s) label result sk with
      | none =>
        have hno : blks M lo label result ls s = none := blks_stop (k := k + 1) (by rw [unhide HT]; exact ho)
        have HNo := hide hno
        clear ho hno hx5
        go_wp2
        go_ret
        rw [unhide HNo]
        exact ⟨rfl, nofun, unhide HF5⟩
      | some sk2 =>
        have hw5 := hx5 sk2 ho
        have HW5 := hide hw5; have HO := hide ho
        clear ho hx5 hw5
        go_wp2
        go_roundw
        case rel => exact ⟨k + 1, unhide HK, rfl, sk2, (unhide HT).trans (unhide HO), unhide HW5, unhide HF5⟩
        case measure => have := unhide HK; simp [intOf]; omega
    · have hkn : n = k := by omega
      subst hkn
      have hall : blks M lo label result ls s = some sk := by rw [← hbk, List.take_of_length_le (by rw [unhide HN]; exact Nat.le_refl _)]
      have hcall := lay_any hwk (by rw [hkk.1]; exact Nat.le_of_lt (unhide HSt)) result
      have HCall := hide hcall; have HFk := hide hfk; have HAll := hide hall
      have hlt2' : ¬ ((n : Int) < n) := by omega
      clear hcall hfk hbk hwr hwk hgr hkk hk hlt2 hall
      go_wp2_with fail
      refine (unhide HCall).mono ?_
      rintro e w5 ⟨rfl, hx5, hf5⟩
      have HF5 := hide (Fw.on (unhide HFk) hf5); have HX5 := hide hx5
      clear hf5 HCall HFk hx5
      go_wp2
      go_ret
      rw [unhide HAll, Option.map_some]
      exact ⟨rfl, fun s' e => by cases e; exact unhide HX5, unhide HF5⟩
end Vw
end Go.Proofs.YtcpknafaocdjdaaGreatDoor

/- valid: sign, what global.get and global.set lean on. -/
namespace Go.Proofs.YtcpknafaocdjdaaGreatDoor
open Go.RowKit Go.Shelf
namespace Vw
set_option linter.unusedVariables false
set_option linter.unusedSimpArgs false
open Ex (Ins Lies Lab)
open Gm (Mod Typ Byts ModL WfM)
theorem set10 (w : World) (b : Nat) (t : TypeId) (x0 x1 x2 x3 x4 x5 x6 x7 x8 x9 u0 u1 u2 u3 u4 u5 u6 u7 u8 u9 : Value) (h : w.heap[b]? = some (.cells #[x0, x1, x2, x3, x4, x5, x6, x7, x8, x9] t (0, 0))) :
    ((((((((((w.setCell ⟨b, 0, none⟩ u0).setCell ⟨b, 1, none⟩ u1).setCell ⟨b, 2, none⟩ u2).setCell ⟨b, 3, none⟩ u3).setCell ⟨b, 4, none⟩ u4).setCell ⟨b, 5, none⟩ u5).setCell ⟨b, 6, none⟩ u6).setCell ⟨b, 7, none⟩ u7).setCell ⟨b, 8, none⟩ u8).setCell ⟨b, 9, none⟩ u9).heap[b]? = some (.cells #[u0, u1, u2, u3, u4, u5, u6, u7, u8, u9] t (0, 0)) := by
  have h0 : (w.setCell ⟨b, 0, none⟩ u0).heap[b]? = some (.cells #[u0, x1, x2, x3, x4, x5, x6, x7, x8, x9] t (0, 0)) := (heap_setCell_same _ b 0 _ _ u0 h).trans rfl
  have h1 : ((w.setCell ⟨b, 0, none⟩ u0).setCell ⟨b, 1, none⟩ u1).heap[b]? = some (.cells #[u0, u1, x2, x3, x4, x5, x6, x7, x8, x9] t (0, 0)) := (heap_setCell_same _ b 1 _ _ u1 h0).trans rfl
  have h2 : (((w.setCell ⟨b, 0, none⟩ u0).setCell ⟨b, 1, none⟩ u1).setCell ⟨b, 2, none⟩ u2).heap[b]? = some (.cells #[u0, u1, u2, x3, x4, x5, x6, x7, x8, x9] t (0, 0)) := (heap_setCell_same _ b 2 _ _ u2 h1).trans rfl
  have h3 : ((((w.setCell ⟨b, 0, none⟩ u0).setCell ⟨b, 1, none⟩ u1).setCell ⟨b, 2, none⟩ u2).setCell ⟨b, 3, none⟩ u3).heap[b]? = some (.cells #[u0, u1, u2, u3, x4, x5, x6, x7, x8, x9] t (0, 0)) := (heap_setCell_same _ b 3 _ _ u3 h2).trans rfl
  have h4 : (((((w.setCell ⟨b, 0, none⟩ u0).setCell ⟨b, 1, none⟩ u1).setCell ⟨b, 2, none⟩ u2).setCell ⟨b, 3, none⟩ u3).setCell ⟨b, 4, none⟩ u4).heap[b]? = some (.cells #[u0, u1, u2, u3, u4, x5, x6, x7, x8, x9] t (0, 0)) := (heap_setCell_same _ b 4 _ _ u4 h3).trans rfl
  have h5 : ((((((w.setCell ⟨b, 0, none⟩ u0).setCell ⟨b, 1, none⟩ u1).setCell ⟨b, 2, none⟩ u2).setCell ⟨b, 3, none⟩ u3).setCell ⟨b, 4, none⟩ u4).setCell ⟨b, 5, none⟩ u5).heap[b]? = some (.cells #[u0, u1, u2, u3, u4, u5, x6, x7, x8, x9] t (0, 0)) := (heap_setCell_same _ b 5 _ _ u5 h4).trans rfl
  have h6 : (((((((w.setCell ⟨b, 0, none⟩ u0).setCell ⟨b, 1, none⟩ u1).setCell ⟨b, 2, none⟩ u2).setCell ⟨b, 3, none⟩ u3).setCell ⟨b, 4, none⟩ u4).setCell ⟨b, 5, none⟩ u5).setCell ⟨b, 6, none⟩ u6).heap[b]? = some (.cells #[u0, u1, u2, u3, u4, u5, u6, x7, x8, x9] t (0, 0)) := (heap_setCell_same _ b 6 _ _ u6 h5).trans rfl
  have h7 : ((((((((w.setCell ⟨b, 0, none⟩ u0).setCell ⟨b, 1, none⟩ u1).setCell ⟨b, 2, none⟩ u2).setCell ⟨b, 3, none⟩ u3).setCell ⟨b, 4, none⟩ u4).setCell ⟨b, 5, none⟩ u5).setCell ⟨b, 6, none⟩ u6).setCell ⟨b, 7, none⟩ u7).heap[b]? = some (.cells #[u0, u1, u2, u3, u4, u5, u6, u7, x8, x9] t (0, 0)) := (heap_setCell_same _ b 7 _ _ u7 h6).trans rfl
  have h8 : (((((((((w.setCell ⟨b, 0, none⟩ u0).setCell ⟨b, 1, none⟩ u1).setCell ⟨b, 2, none⟩ u2).setCell ⟨b, 3, none⟩ u3).setCell ⟨b, 4, none⟩ u4).setCell ⟨b, 5, none⟩ u5).setCell ⟨b, 6, none⟩ u6).setCell ⟨b, 7, none⟩ u7).setCell ⟨b, 8, none⟩ u8).heap[b]? = some (.cells #[u0, u1, u2, u3, u4, u5, u6, u7, u8, x9] t (0, 0)) := (heap_setCell_same _ b 8 _ _ u8 h7).trans rfl
  have h9 : ((((((((((w.setCell ⟨b, 0, none⟩ u0).setCell ⟨b, 1, none⟩ u1).setCell ⟨b, 2, none⟩ u2).setCell ⟨b, 3, none⟩ u3).setCell ⟨b, 4, none⟩ u4).setCell ⟨b, 5, none⟩ u5).setCell ⟨b, 6, none⟩ u6).setCell ⟨b, 7, none⟩ u7).setCell ⟨b, 8, none⟩ u8).setCell ⟨b, 9, none⟩ u9).heap[b]? = some (.cells #[u0, u1, u2, u3, u4, u5, u6, u7, u8, u9] t (0, 0)) := (heap_setCell_same _ b 9 _ _ u9 h8).trans rfl
  exact h9
theorem bel10 {B : Nat} {a w : World} (h : Below B a w) (b : Nat) (hb : B ≤ b) (u0 u1 u2 u3 u4 u5 u6 u7 u8 u9 : Value) : Below B a ((((((((((w.setCell ⟨b, 0, none⟩ u0).setCell ⟨b, 1, none⟩ u1).setCell ⟨b, 2, none⟩ u2).setCell ⟨b, 3, none⟩ u3).setCell ⟨b, 4, none⟩ u4).setCell ⟨b, 5, none⟩ u5).setCell ⟨b, 6, none⟩ u6).setCell ⟨b, 7, none⟩ u7).setCell ⟨b, 8, none⟩ u8).setCell ⟨b, 9, none⟩ u9) := by
  have h0 := h.setCell (p := ⟨b, 0, none⟩) hb u0
  have h1 := h0.setCell (p := ⟨b, 1, none⟩) hb u1
  have h2 := h1.setCell (p := ⟨b, 2, none⟩) hb u2
  have h3 := h2.setCell (p := ⟨b, 3, none⟩) hb u3
  have h4 := h3.setCell (p := ⟨b, 4, none⟩) hb u4
  have h5 := h4.setCell (p := ⟨b, 5, none⟩) hb u5
  have h6 := h5.setCell (p := ⟨b, 6, none⟩) hb u6
  have h7 := h6.setCell (p := ⟨b, 7, none⟩) hb u7
  have h8 := h7.setCell (p := ⟨b, 8, none⟩) hb u8
  have h9 := h8.setCell (p := ⟨b, 9, none⟩) hb u9
  exact h9
theorem keep10 (w : World) (b k : Nat) (hk : k ≠ b) (u0 u1 u2 u3 u4 u5 u6 u7 u8 u9 : Value) : ((((((((((w.setCell ⟨b, 0, none⟩ u0).setCell ⟨b, 1, none⟩ u1).setCell ⟨b, 2, none⟩ u2).setCell ⟨b, 3, none⟩ u3).setCell ⟨b, 4, none⟩ u4).setCell ⟨b, 5, none⟩ u5).setCell ⟨b, 6, none⟩ u6).setCell ⟨b, 7, none⟩ u7).setCell ⟨b, 8, none⟩ u8).setCell ⟨b, 9, none⟩ u9).heap[k]? = w.heap[k]? := by
  simp only [heap_setCell_other _ ⟨b, _, none⟩ k _ hk]
def gAg (kd : Int) (mu : Bool) (y2 y3 y4 y5 y6 : Int) (v7 v8 v9 : Value) : Array Value := #[.int .u8 kd, .bool mu, .int .u8 y2, .int .i64 y3, .int .u32 y4, .int .u32 y5, .int .u8 y6, v7, v8, v9]
/-- an item of the globals, or none -/
def ItG (w : World) (fv : Value) (n : Int) (ok : Bool) (kd : Int) (mu : Bool) : Prop := ∃ y2 y3 y4 y5 y6 s7 l7 d7 s8 l8 d8 s9 l9 d9, ∀ W, Below w.heap.size w W →
  Calls Tryz.prog 129 #[fv, .int .i64 n] W fun e w' => e = .returned (.tuple #[.agg #[.int .u8 kd, .bool mu, .int .u8 y2, .int .i64 y3, .int .u32 y4, .int .u32 y5, .int .u8 y6, .slice s7 l7 d7, .slice s8 l8 d8, .slice s9 l9 d9], .bool ok]) ∧ Below W.heap.size W w'
theorem itG_yes {w : World} {N : Nat} {M : Mod} {m : M8} (hM : MdL w N M m) {n : Int} {g : Gm.Glo} (hk : at? M.globs n = some g) : ItG w m.v4 n true g.kd g.mu := by
  have hlt : 0 ≤ n ∧ n < M.globs.length := by
    unfold at? at hk; split at hk
    · cases hk
    · have := (List.getElem?_eq_some_iff.1 hk).1; omega
  obtain ⟨j, rfl⟩ : ∃ j : Nat, n = j := ⟨n.toNat, by omega⟩
  have hj : j < M.globs.length := by omega
  rw [at_yes hj] at hk
  cases hk
  obtain ⟨b, o, cp, hv, _, hb, _, cs, _, ⟨ds, rfl, vb, ve, vx, rfl, h1, h2, h3⟩, hcs⟩ := hM.l.l4.at hj
  obtain ⟨s7, d7, rfl, -⟩ := h1
  obtain ⟨s8, d8, rfl, -⟩ := h2
  obtain ⟨s9, d9, rfl, -⟩ := h3
  rw [hv]
  refine ⟨M.globs[j].ini.op, M.globs[j].ini.n, M.globs[j].ini.al, M.globs[j].ini.of, M.globs[j].ini.re, s7, M.globs[j].ini.body.length, d7, s8, M.globs[j].ini.els.length, d8, s9, M.globs[j].ini.ls.length, d9, fun W hW => ?_⟩
  have hc : ∀ k u, _ → W.cell? ⟨b, o + j * 10 + k, none⟩ = some u := fun k u hu => (hW.cell (p := ⟨b, o + j * 10 + k, none⟩) hb).trans (hcs k u hu)
  exact it_G_yes b o M.globs.length cp j _ _ _ _ _ _ _ s7 _ d7 s8 _ d8 s9 _ d9 W (Nat.lt_of_lt_of_le hb hW.size) (by omega) (hc 0 _ rfl) (hc 1 _ rfl) (hc 2 _ rfl) (hc 3 _ rfl) (hc 4 _ rfl) (hc 5 _ rfl) (hc 6 _ rfl) (hc 7 _ rfl) (hc 8 _ rfl) (hc 9 _ rfl)
theorem itG_no {w : World} {N : Nat} {M : Mod} {m : M8} (hM : MdL w N M m) {n : Int} (hk : at? M.globs n = none) : ItG w m.v4 n false 0 false := by
  have hlt : n < 0 ∨ (M.globs.length : Int) ≤ n := by
    unfold at? at hk; split at hk
    · left; assumption
    · have := List.getElem?_eq_none_iff.1 hk; omega
  obtain ⟨a, c, hv⟩ := hM.l.l4.sl
  rw [hv]
  exact ⟨0, 0, 0, 0, 0, none, 0, 0, none, 0, 0, none, 0, 0, fun W hW => it_G_no a M.globs.length c n W hlt⟩
end Vw
end Go.Proofs.YtcpknafaocdjdaaGreatDoor

/- valid: sign, way by way (4): global.get, global.set. By mksg5.py. -/
namespace Go.Proofs.YtcpknafaocdjdaaGreatDoor
open Go.RowKit Go.Shelf
namespace Vw
set_option linter.unusedVariables false
set_option linter.unusedSimpArgs false
open Ex (Ins Lies Lab)
open Gm (Mod Typ Byts ModL WfM)
theorem cel10 {w : World} {B : Nat} {t : TypeId} {x0 x1 x2 x3 x4 x5 x6 x7 x8 x9 : Value} (h : w.heap[B]? = some (.cells #[x0, x1, x2, x3, x4, x5, x6, x7, x8, x9] t (0, 0))) :
    w.cell? ⟨B, 0, none⟩ = some x0 ∧ w.cell? ⟨B, 1, none⟩ = some x1 ∧ w.cell? ⟨B, 2, none⟩ = some x2 ∧ w.cell? ⟨B, 3, none⟩ = some x3 ∧ w.cell? ⟨B, 4, none⟩ = some x4 ∧ w.cell? ⟨B, 5, none⟩ = some x5 ∧ w.cell? ⟨B, 6, none⟩ = some x6 ∧ w.cell? ⟨B, 7, none⟩ = some x7 ∧ w.cell? ⟨B, 8, none⟩ = some x8 ∧ w.cell? ⟨B, 9, none⟩ = some x9 ∧ (∀ j, w.frozen? ⟨B, j, none⟩ = false) ∧ B < w.heap.size := by
  refine ⟨?_, ?_, ?_, ?_, ?_, ?_, ?_, ?_, ?_, ?_, fun j => frozen_of_row w _ j _ _ h, (Array.getElem?_eq_some_iff.1 h).1⟩ <;> (rw [cell_of_row w B _ _ _ _ h]; rfl)
theorem setc10 (w : World) (b : Nat) (u0 u1 u2 u3 u4 u5 u6 u7 u8 u9 : Value) : w.setCells b 0 [u0, u1, u2, u3, u4, u5, u6, u7, u8, u9] = ((((((((((w.setCell ⟨b, 0, none⟩ u0).setCell ⟨b, 1, none⟩ u1).setCell ⟨b, 2, none⟩ u2).setCell ⟨b, 3, none⟩ u3).setCell ⟨b, 4, none⟩ u4).setCell ⟨b, 5, none⟩ u5).setCell ⟨b, 6, none⟩ u6).setCell ⟨b, 7, none⟩ u7).setCell ⟨b, 8, none⟩ u8).setCell ⟨b, 9, none⟩ u9) := rfl
theorem there10 {w : World} {B : Nat} {t : TypeId} {x0 x1 x2 x3 x4 x5 x6 x7 x8 x9 : Value} (h : w.heap[B]? = some (.cells #[x0, x1, x2, x3, x4, x5, x6, x7, x8, x9] t (0, 0))) : w.there B 0 10 := by
  intro j hj
  refine ⟨?_, frozen_of_row w _ _ _ _ h⟩
  rw [cell_of_row w B _ _ _ _ h]
  match j, hj with
  | 0, _ => rfl
  | 1, _ => rfl
  | 2, _ => rfl
  | 3, _ => rfl
  | 4, _ => rfl
  | 5, _ => rfl
  | 6, _ => rfl
  | 7, _ => rfl
  | 8, _ => rfl
  | 9, _ => rfl
theorem one10 {kd y2 y3 y4 y5 y6 : Int} {mu : Bool} {s7 s8 s9 : Option Addr} {l7 l8 l9 d7 d8 d9 : Nat} : (#[.int .u8 kd, .bool mu, .int .u8 y2, .int .i64 y3, .int .u32 y4, .int .u32 y5, .int .u8 y6, .slice s7 l7 d7, .slice s8 l8 d8, .slice s9 l9 d9] : Array Value).all (·.oneCell') = true :=
  all_oneCell_toArray (cs := [.int .u8 kd, .bool mu, .int .u8 y2, .int .i64 y3, .int .u32 y4, .int .u32 y5, .int .u8 y6, .slice s7 l7 d7, .slice s8 l8 d8, .slice s9 l9 d9]) (by
    intro v hv
    simp only [List.mem_cons, List.not_mem_nil, or_false] at hv
    rcases hv with rfl | rfl | rfl | rfl | rfl | rfl | rfl | rfl | rfl | rfl <;> rfl)
def ggO (ok : Bool) (kd : Int) : Option Typ := if ok then some ⟨[], kd⟩ else none
def gsO (ok : Bool) (kd : Int) (mu : Bool) : Option Typ := if ok && mu then some ⟨[kd], 0⟩ else none
theorem one2 {a : Option Addr} {l c : Nat} {r : Int} : (#[.slice a l c, .int .u8 r] : Array Value).all (·.oneCell') = true :=
  all_oneCell_toArray (cs := [.slice a l c, .int .u8 r]) (by
    intro v hv
    simp only [List.mem_cons, List.not_mem_nil, or_false] at hv
    rcases hv with rfl | rfl <;> rfl)
theorem al_lt (W : World) (o : Obj) : W.heap.size < (W.alloc o).heap.size := by simp
set_option maxRecDepth 100000 in
set_option maxHeartbeats 3200000 in
theorem sg_gg0 {w : World} {N : Nat} {m : M8} {vl va vt : Value} {lo : List Int} {s : St} (h : Wk w N m vl lo va vt s) (hl : s.la.length ≤ 1099511627776) (n al of re : Int) (vb ve vx : Value) {ga : Option Addr} {gl gc : Nat} (hv4 : m.v4 = .slice ga gl gc) (ok : Bool) (kd : Int) (mu : Bool) (hI : ItG w m.v4 n ok kd mu) :
    Calls Tryz.prog 121 #[.pointer (some ⟨N, 0, none⟩), .agg #[.int .u8 35, .int .i64 n, .int .u32 al, .int .u32 of, .int .u8 re, vb, ve, vx]] w fun e w' => SgP N (ggO ok kd) e w' ∧ Below w.heap.size w w' := by
  have hlt := h.lt
  obtain ⟨W0, hW0, b1, b2, b3, b4⟩ := Gm.start2m (w := w) (ms := #[.int .u8 35, .int .i64 n, .int .u32 al, .int .u32 of, .int .u8 re, vb, ve, vx]) (ss := #[.slice none 0 0, .int .u8 0]) (t := 63) (t2 := 96)
  obtain ⟨c0, c1, c2, c3, c4, c5, c6, c7⟩ := Ex.cel8 b1
  have h0 := h.below b4
  rw [hv4] at hI
  obtain ⟨y2, y3, y4, y5, y6, s7, l7, d7, s8, l8, d8, s9, l9, d9, hI⟩ := hI
  have hI0 := fun W (hW : Below W0.heap.size W0 W) => hI W (Below.on0 b4 hW b4.size)
  have x4 := h0.box.mods.2.2.2.2.1
  rw [hv4] at x4
  have lN : N < W0.heap.size := by omega
  have lW : w.heap.size < W0.heap.size := by omega
  have HI := hide hI0; have HW := hide hW0; have HB := hide b4; have HR := hide b2
  clear h h0 hI hI0 hl hW0 b1 b2 b4 hv4 c2 c3 c4 c5 c6 c7
  go_enter Tryz.func121, Tryz.ntmps121
  go_upto_region 28 with fail
  rw [unhide HW]
  clear HW
  go_cut [16, 17] (fun va vb wx => ∃ B, va = .pointer (some ⟨B, 0, none⟩) ∧ vb = .bool ok ∧ Below W0.heap.size W0 wx ∧ W0.heap.size ≤ B ∧ wx.heap[B]? = some (.cells #[.int .u8 kd, .bool mu, .int .u8 y2, .int .i64 y3, .int .u32 y4, .int .u32 y5, .int .u8 y6, .slice s7 l7 d7, .slice s8 l8 d8, .slice s9 l9 d9] 77 (0, 0)))
  case first =>
    have hS0 : W0.drew.cell? ⟨N, 4, none⟩ = some (.slice ga gl gc) ∧ W0.drew.cell? ⟨w.heap.size, 1, none⟩ = some (.int .i64 n) := ⟨x4, c1⟩
    refine wp_region_held_drew (S := fun w' => w'.cell? ⟨N, 4, none⟩ = some (.slice ga gl gc) ∧ w'.cell? ⟨w.heap.size, 1, none⟩ = some (.int .i64 n)) (by kernel_rfl) hS0 (fun _ => ?_)
    refine wpAnyH_take (i := 0) (oi := _) (v := ?v0_1) rfl (by kernel_rfl) (by kernel_rfl) (by kernel_rfl) (fun _ _ _ h => h) (Or.inl ⟨by kernel_rfl, ?y0_1⟩) hS0 ?_
    case y0_1 => intro wx hSw; obtain ⟨e1, e2⟩ := hSw; go_simp; first | done | rfl
    simp only [List.getElem_toArray, List.getElem_cons_succ, List.getElem_cons_zero, Act.put, List.setIfInBounds_toArray, List.set_cons_zero, List.set_cons_succ]
    refine wpAnyH_take (i := 1) (oi := _) (v := ?v1_2) rfl (by kernel_rfl) (by kernel_rfl) (by kernel_rfl) (fun _ _ _ h => h) (Or.inl ⟨by kernel_rfl, ?y1_2⟩) hS0 ?_
    case y1_2 => intro wx hSw; obtain ⟨e1, e2⟩ := hSw; go_simp; first | done | rfl
    simp only [List.getElem_toArray, List.getElem_cons_succ, List.getElem_cons_zero, Act.put, List.setIfInBounds_toArray, List.set_cons_zero, List.set_cons_succ]
    refine wpAnyH_take (i := 2) (oi := _) (v := ?v2_3) rfl (by kernel_rfl) (by kernel_rfl) (by kernel_rfl) (fun _ _ _ h => h) (Or.inl ⟨by kernel_rfl, ?y2_3⟩) hS0 ?_
    case y2_3 => intro wx hSw; obtain ⟨e1, e2⟩ := hSw; go_simp; first | done | rfl
    simp only [List.getElem_toArray, List.getElem_cons_succ, List.getElem_cons_zero, Act.put, List.setIfInBounds_toArray, List.set_cons_zero, List.set_cons_succ]
    refine wpAnyH_take (i := 3) (oi := _) (v := ?v3_4) rfl (by kernel_rfl) (by kernel_rfl) (by kernel_rfl) (fun _ _ _ h => h) (Or.inl ⟨by kernel_rfl, ?y3_4⟩) hS0 ?_
    case y3_4 => intro wx hSw; obtain ⟨e1, e2⟩ := hSw; go_simp; first | done | rfl
    simp only [List.getElem_toArray, List.getElem_cons_succ, List.getElem_cons_zero, Act.put, List.setIfInBounds_toArray, List.set_cons_zero, List.set_cons_succ]
    refine wpAnyH_take (i := 4) (oi := _) (v := ?v4_5) rfl (by kernel_rfl) (by kernel_rfl) (by kernel_rfl) (fun _ _ _ h => h) (Or.inl ⟨by kernel_rfl, ?y4_5⟩) hS0 ?_
    case y4_5 => intro wx hSw; obtain ⟨e1, e2⟩ := hSw; go_simp; first | done | rfl
    simp only [List.getElem_toArray, List.getElem_cons_succ, List.getElem_cons_zero, Act.put, List.setIfInBounds_toArray, List.set_cons_zero, List.set_cons_succ]
    refine wpAnyH_take (i := 5) (oi := _) (v := ?v5_6) rfl (by kernel_rfl) (by kernel_rfl) (by kernel_rfl) (fun _ _ _ h => h) (Or.inl ⟨by kernel_rfl, ?y5_6⟩) hS0 ?_
    case y5_6 => intro wx hSw; obtain ⟨e1, e2⟩ := hSw; go_simp; first | done | rfl
    simp only [List.getElem_toArray, List.getElem_cons_succ, List.getElem_cons_zero, Act.put, List.setIfInBounds_toArray, List.set_cons_zero, List.set_cons_succ]
    refine wpAnyH_take (i := 6) (oi := _) (v := ?v6_7) rfl (by kernel_rfl) (by kernel_rfl) (by kernel_rfl) (fun _ _ _ h => h) (Or.inl ⟨by kernel_rfl, ?y6_7⟩) hS0 ?_
    case y6_7 => intro wx hSw; obtain ⟨e1, e2⟩ := hSw; go_simp; first | done | rfl
    simp only [List.getElem_toArray, List.getElem_cons_succ, List.getElem_cons_zero, Act.put, List.setIfInBounds_toArray, List.set_cons_zero, List.set_cons_succ]
    refine wpAnyH_ready (rs := [7, 11]) (by kernel_rfl) (by simp) ?_
    refine AllReadyH.cons rfl (fun K hK => ?_) (AllReadyH.cons rfl (fun K hK => ?_) AllReadyH.nil)
    · skip
      go_simp
      go_at_call 129
      refine (unhide HI _ (drew_b W0)).mono ?_
      rintro e w4 ⟨rfl, hb4⟩
      have hB4 := Below.on (drew_b W0) hb4
      have hS4 : w4.cell? ⟨N, 4, none⟩ = some (.slice ga gl gc) ∧ w4.cell? ⟨w.heap.size, 1, none⟩ = some (.int .i64 n) := ⟨(hB4.cell (p := ⟨N, 4, none⟩) lN).trans x4, (hB4.cell (p := ⟨w.heap.size, 1, none⟩) lW).trans c1⟩
      clear hb4
      go_wp2_with fail
      refine hK.out _ _ hS4 (fun _ => ?_)
      refine wpAnyH_take (i := 8) (oi := _) (v := ?v8_8) rfl (by kernel_rfl) (by kernel_rfl) (by kernel_rfl) (fun _ _ _ h => h) (Or.inl ⟨by kernel_rfl, ?y8_8⟩) hS4 ?_
      case y8_8 => intro wx hSw; obtain ⟨e1, e2⟩ := hSw; go_simp; first | done | rfl
      simp only [List.getElem_toArray, List.getElem_cons_succ, List.getElem_cons_zero, Act.put, List.setIfInBounds_toArray, List.set_cons_zero, List.set_cons_succ]
      refine wpAnyH_take (i := 9) (oi := _) (v := ?v9_9) rfl (by kernel_rfl) (by kernel_rfl) (by kernel_rfl) (fun _ _ _ h => h) (Or.inl ⟨by kernel_rfl, ?y9_9⟩) hS4 ?_
      case y9_9 => intro wx hSw; obtain ⟨e1, e2⟩ := hSw; go_simp; first | done | rfl
      simp only [List.getElem_toArray, List.getElem_cons_succ, List.getElem_cons_zero, Act.put, List.setIfInBounds_toArray, List.set_cons_zero, List.set_cons_succ]
      refine wpAnyH_take (i := 10) (oi := _) (v := ?v10_10) rfl (by kernel_rfl) (by kernel_rfl) (by kernel_rfl) (fun _ _ _ h => h) (Or.inl ⟨by kernel_rfl, ?y10_10⟩) hS4 ?_
      case y10_10 => intro wx hSw; obtain ⟨e1, e2⟩ := hSw; go_simp; first | done | rfl
      simp only [List.getElem_toArray, List.getElem_cons_succ, List.getElem_cons_zero, Act.put, List.setIfInBounds_toArray, List.set_cons_zero, List.set_cons_succ]
      refine wpAnyH_ready (rs := [11]) (by kernel_rfl) (by simp) ?_
      refine AllReadyH.cons rfl (fun K hK => ?_) AllReadyH.nil
      have hal := one_al w4 (.cells #[.int .u8 0, .bool false, .int .u8 0, .int .i64 0, .int .u32 0, .int .u32 0, .int .u8 0, .slice none 0 0, .slice none 0 0, .slice none 0 0] 77)
      have hr5 := heap_alloc_new w4 (.cells #[.int .u8 0, .bool false, .int .u8 0, .int .i64 0, .int .u32 0, .int .u32 0, .int .u8 0, .slice none 0 0, .slice none 0 0, .slice none 0 0] 77)
      have hB5 := Below.on0 hB4 hal hB4.size
      have hsz := hB4.size
      have hS5 := (⟨(hal.cell (p := ⟨N, 4, none⟩) (show N < w4.heap.size by omega)).trans hS4.1, (hal.cell (p := ⟨w.heap.size, 1, none⟩) (show w.heap.size < w4.heap.size by omega)).trans hS4.2⟩ : _ ∧ _)
      have HS5 := hide hS5; have HB5 := hide hB5; have HR5 := hide hr5
      clear hal hr5 hB5 hS5
      go_wp2_with fail
      refine hK.out _ _ (unhide HS5) (fun _ => ?_)
      generalize w4.alloc (.cells #[.int .u8 0, .bool false, .int .u8 0, .int .i64 0, .int .u32 0, .int .u32 0, .int .u8 0, .slice none 0 0, .slice none 0 0, .slice none 0 0] 77) = W5 at *
      have hfin := set10 W5 w4.heap.size 77 _ _ _ _ _ _ _ _ _ _ (.int .u8 kd) (.bool mu) (.int .u8 y2) (.int .i64 y3) (.int .u32 y4) (.int .u32 y5) (.int .u8 y6) (.slice s7 l7 d7) (.slice s8 l8 d8) (.slice s9 l9 d9) (unhide HR5)
      have hbel := bel10 (unhide HB5) w4.heap.size (by omega) (.int .u8 kd) (.bool mu) (.int .u8 y2) (.int .i64 y3) (.int .u32 y4) (.int .u32 y5) (.int .u8 y6) (.slice s7 l7 d7) (.slice s8 l8 d8) (.slice s9 l9 d9)
      have hS6 := (⟨(World.cell?_of_block (a := ⟨N, 4, none⟩) (keep10 W5 w4.heap.size N (by omega) (.int .u8 kd) (.bool mu) (.int .u8 y2) (.int .i64 y3) (.int .u32 y4) (.int .u32 y5) (.int .u8 y6) (.slice s7 l7 d7) (.slice s8 l8 d8) (.slice s9 l9 d9))).trans (unhide HS5).1, (World.cell?_of_block (a := ⟨w.heap.size, 1, none⟩) (keep10 W5 w4.heap.size w.heap.size (by omega) (.int .u8 kd) (.bool mu) (.int .u8 y2) (.int .i64 y3) (.int .u32 y4) (.int .u32 y5) (.int .u8 y6) (.slice s7 l7 d7) (.slice s8 l8 d8) (.slice s9 l9 d9))).trans (unhide HS5).2⟩ : _ ∧ _)
      have hth := there10 (unhide HR5)
      refine wpAnyH_ready (rs := [12]) (by kernel_rfl) (by simp) ?_
      refine AllReadyH.cons rfl (fun K hK => ?_) AllReadyH.nil
      rw [if_pos (show Region.wanted _ _ = true from rfl)]
      refine wp_store_mid 77 (.tmp 16) (.tmp 147) rfl w4.heap.size 0 #[.int .u8 kd, .bool mu, .int .u8 y2, .int .i64 y3, .int .u32 y4, .int .u32 y5, .int .u8 y6, .slice s7 l7 d7, .slice s8 l8 d8, .slice s9 l9 d9] rfl rfl hth (by kernel_rfl) one10 ?_
      simp only [Act.put]
      rw [show W5.setCells w4.heap.size 0 (#[.int .u8 kd, .bool mu, .int .u8 y2, .int .i64 y3, .int .u32 y4, .int .u32 y5, .int .u8 y6, .slice s7 l7 d7, .slice s8 l8 d8, .slice s9 l9 d9] : Array Value).toList = _ from setc10 W5 w4.heap.size (.int .u8 kd) (.bool mu) (.int .u8 y2) (.int .i64 y3) (.int .u32 y4) (.int .u32 y5) (.int .u8 y6) (.slice s7 l7 d7) (.slice s8 l8 d8) (.slice s9 l9 d9)]
      refine hK.out _ _ hS6 (fun _ => ?_)
      refine wpAnyH_take (i := 13) (oi := _) (v := ?v13_11) rfl (by kernel_rfl) (by kernel_rfl) (by kernel_rfl) (fun _ _ _ h => h) (Or.inl ⟨by kernel_rfl, ?y13_11⟩) hS6 ?_
      case y13_11 => intro wx hSw; obtain ⟨e1, e2⟩ := hSw; go_simp; first | done | rfl
      simp only [List.getElem_toArray, List.getElem_cons_succ, List.getElem_cons_zero, Act.put, List.setIfInBounds_toArray, List.set_cons_zero, List.set_cons_succ]
      refine wpAnyH_done (by kernel_rfl) ?_ _
      clear hK
      have HFin := hide hfin; have HBel := hide hbel
      clear hfin hbel hS6 hth
      go_wp2_with fail
      go_meet
      exact ⟨w4.heap.size, rfl, rfl, unhide HBel, by omega, unhide HFin⟩
    · skip
      have hr5 : (W0.alloc (.cells #[.int .u8 0, .bool false, .int .u8 0, .int .i64 0, .int .u32 0, .int .u32 0, .int .u8 0, .slice none 0 0, .slice none 0 0, .slice none 0 0] 77)).drew.heap[W0.heap.size]? = some (.cells #[.int .u8 0, .bool false, .int .u8 0, .int .i64 0, .int .u32 0, .int .u32 0, .int .u8 0, .slice none 0 0, .slice none 0 0, .slice none 0 0] 77 (0, 0)) := heap_alloc_new W0 (.cells #[.int .u8 0, .bool false, .int .u8 0, .int .i64 0, .int .u32 0, .int .u32 0, .int .u8 0, .slice none 0 0, .slice none 0 0, .slice none 0 0] 77)
      have hB5 : Below W0.heap.size W0 (W0.alloc (.cells #[.int .u8 0, .bool false, .int .u8 0, .int .i64 0, .int .u32 0, .int .u32 0, .int .u8 0, .slice none 0 0, .slice none 0 0, .slice none 0 0] 77)).drew := Gm.ad_below9 W0 _
      have hS5 : (W0.alloc (.cells #[.int .u8 0, .bool false, .int .u8 0, .int .i64 0, .int .u32 0, .int .u32 0, .int .u8 0, .slice none 0 0, .slice none 0 0, .slice none 0 0] 77)).drew.cell? ⟨N, 4, none⟩ = some (.slice ga gl gc) ∧ (W0.alloc (.cells #[.int .u8 0, .bool false, .int .u8 0, .int .i64 0, .int .u32 0, .int .u32 0, .int .u8 0, .slice none 0 0, .slice none 0 0, .slice none 0 0] 77)).drew.cell? ⟨w.heap.size, 1, none⟩ = some (.int .i64 n) := ⟨(hB5.cell (p := ⟨N, 4, none⟩) lN).trans x4, (hB5.cell (p := ⟨w.heap.size, 1, none⟩) lW).trans c1⟩
      have HS5 := hide hS5; have HB5 := hide hB5; have HR5 := hide hr5
      clear hr5 hB5 hS5
      go_wp2_with fail
      refine hK.out _ _ (unhide HS5) (fun _ => ?_)
      generalize (W0.alloc (.cells #[.int .u8 0, .bool false, .int .u8 0, .int .i64 0, .int .u32 0, .int .u32 0, .int .u8 0, .slice none 0 0, .slice none 0 0, .slice none 0 0] 77)).drew = W5 at *
      refine wpAnyH_ready (rs := [7]) (by kernel_rfl) (by simp) ?_
      refine AllReadyH.cons rfl (fun K hK => ?_) AllReadyH.nil
      go_simp
      go_at_call 129
      refine (unhide HI _ (unhide HB5)).mono ?_
      rintro e w4 ⟨rfl, hb4⟩
      have hB4 := Below.on0 (unhide HB5) hb4 (unhide HB5).size
      have hS4 : w4.cell? ⟨N, 4, none⟩ = some (.slice ga gl gc) ∧ w4.cell? ⟨w.heap.size, 1, none⟩ = some (.int .i64 n) := ⟨(hB4.cell (p := ⟨N, 4, none⟩) lN).trans x4, (hB4.cell (p := ⟨w.heap.size, 1, none⟩) lW).trans c1⟩
      have hr6 := (hb4.block _ (Array.getElem?_eq_some_iff.1 (unhide HR5)).1).trans (unhide HR5)
      clear hb4
      go_wp2_with fail
      refine hK.out _ _ hS4 (fun _ => ?_)
      refine wpAnyH_take (i := 8) (oi := _) (v := ?v8_12) rfl (by kernel_rfl) (by kernel_rfl) (by kernel_rfl) (fun _ _ _ h => h) (Or.inl ⟨by kernel_rfl, ?y8_12⟩) hS4 ?_
      case y8_12 => intro wx hSw; obtain ⟨e1, e2⟩ := hSw; go_simp; first | done | rfl
      simp only [List.getElem_toArray, List.getElem_cons_succ, List.getElem_cons_zero, Act.put, List.setIfInBounds_toArray, List.set_cons_zero, List.set_cons_succ]
      refine wpAnyH_take (i := 9) (oi := _) (v := ?v9_13) rfl (by kernel_rfl) (by kernel_rfl) (by kernel_rfl) (fun _ _ _ h => h) (Or.inl ⟨by kernel_rfl, ?y9_13⟩) hS4 ?_
      case y9_13 => intro wx hSw; obtain ⟨e1, e2⟩ := hSw; go_simp; first | done | rfl
      simp only [List.getElem_toArray, List.getElem_cons_succ, List.getElem_cons_zero, Act.put, List.setIfInBounds_toArray, List.set_cons_zero, List.set_cons_succ]
      refine wpAnyH_take (i := 10) (oi := _) (v := ?v10_14) rfl (by kernel_rfl) (by kernel_rfl) (by kernel_rfl) (fun _ _ _ h => h) (Or.inl ⟨by kernel_rfl, ?y10_14⟩) hS4 ?_
      case y10_14 => intro wx hSw; obtain ⟨e1, e2⟩ := hSw; go_simp; first | done | rfl
      simp only [List.getElem_toArray, List.getElem_cons_succ, List.getElem_cons_zero, Act.put, List.setIfInBounds_toArray, List.set_cons_zero, List.set_cons_succ]
      have hfin := set10 w4 W0.heap.size 77 _ _ _ _ _ _ _ _ _ _ (.int .u8 kd) (.bool mu) (.int .u8 y2) (.int .i64 y3) (.int .u32 y4) (.int .u32 y5) (.int .u8 y6) (.slice s7 l7 d7) (.slice s8 l8 d8) (.slice s9 l9 d9) hr6
      have hbel := bel10 hB4 W0.heap.size (by omega) (.int .u8 kd) (.bool mu) (.int .u8 y2) (.int .i64 y3) (.int .u32 y4) (.int .u32 y5) (.int .u8 y6) (.slice s7 l7 d7) (.slice s8 l8 d8) (.slice s9 l9 d9)
      have hS6 := (⟨(World.cell?_of_block (a := ⟨N, 4, none⟩) (keep10 w4 W0.heap.size N (by omega) (.int .u8 kd) (.bool mu) (.int .u8 y2) (.int .i64 y3) (.int .u32 y4) (.int .u32 y5) (.int .u8 y6) (.slice s7 l7 d7) (.slice s8 l8 d8) (.slice s9 l9 d9))).trans hS4.1, (World.cell?_of_block (a := ⟨w.heap.size, 1, none⟩) (keep10 w4 W0.heap.size w.heap.size (by omega) (.int .u8 kd) (.bool mu) (.int .u8 y2) (.int .i64 y3) (.int .u32 y4) (.int .u32 y5) (.int .u8 y6) (.slice s7 l7 d7) (.slice s8 l8 d8) (.slice s9 l9 d9))).trans hS4.2⟩ : _ ∧ _)
      have hth := there10 hr6
      refine wpAnyH_ready (rs := [12]) (by kernel_rfl) (by simp) ?_
      refine AllReadyH.cons rfl (fun K hK => ?_) AllReadyH.nil
      rw [if_pos (show Region.wanted _ _ = true from rfl)]
      refine wp_store_mid 77 (.tmp 16) (.tmp 147) rfl W0.heap.size 0 #[.int .u8 kd, .bool mu, .int .u8 y2, .int .i64 y3, .int .u32 y4, .int .u32 y5, .int .u8 y6, .slice s7 l7 d7, .slice s8 l8 d8, .slice s9 l9 d9] rfl rfl hth (by kernel_rfl) one10 ?_
      simp only [Act.put]
      rw [show w4.setCells W0.heap.size 0 (#[.int .u8 kd, .bool mu, .int .u8 y2, .int .i64 y3, .int .u32 y4, .int .u32 y5, .int .u8 y6, .slice s7 l7 d7, .slice s8 l8 d8, .slice s9 l9 d9] : Array Value).toList = _ from setc10 w4 W0.heap.size (.int .u8 kd) (.bool mu) (.int .u8 y2) (.int .i64 y3) (.int .u32 y4) (.int .u32 y5) (.int .u8 y6) (.slice s7 l7 d7) (.slice s8 l8 d8) (.slice s9 l9 d9)]
      refine hK.out _ _ hS6 (fun _ => ?_)
      refine wpAnyH_take (i := 13) (oi := _) (v := ?v13_15) rfl (by kernel_rfl) (by kernel_rfl) (by kernel_rfl) (fun _ _ _ h => h) (Or.inl ⟨by kernel_rfl, ?y13_15⟩) hS6 ?_
      case y13_15 => intro wx hSw; obtain ⟨e1, e2⟩ := hSw; go_simp; first | done | rfl
      simp only [List.getElem_toArray, List.getElem_cons_succ, List.getElem_cons_zero, Act.put, List.setIfInBounds_toArray, List.set_cons_zero, List.set_cons_succ]
      refine wpAnyH_done (by kernel_rfl) ?_ _
      clear hK
      have HFin := hide hfin; have HBel := hide hbel
      clear hfin hbel hS6 hth
      go_wp2_with fail
      go_meet
      exact ⟨W0.heap.size, rfl, rfl, unhide HBel, by omega, unhide HFin⟩
  case rest =>
    obtain ⟨B, rfl, rfl, hbx, hge, hrow⟩ := hcut
    obtain ⟨k0, k1, k2, k3, k4, k5, k6, k7, k8, k9, fzB, kl⟩ := cel10 hrow
    have hR4 := (hbx.block (w.heap.size + 1) b3).trans (unhide HR)
    have hB4 := Below.on0 (unhide HB) hbx (unhide HB).size
    have hnB : ¬ w.heap.size + 1 = B := by omega
    have hnB' : ¬ B = w.heap.size + 1 := by omega
    clear k2 k3 k4 k5 k6 k7 k8 k9 hrow
    obtain ⟨z0, z1⟩ := Gm.cel2 hR4
    have fz : ∀ j, wc.frozen? ⟨w.heap.size + 1, j, none⟩ = false := fun j => frozen_of_row wc _ j _ _ hR4
    obtain ⟨q0, q1, q2⟩ := Gm.fin2 hR4 hB4 (by omega) (.slice none 0 0) (.int .u8 kd)
    have HQ2 := hide q2
    clear hR4 hB4 q2 hbx HI HB HR
    go_wp2
    have q2 := unhide HQ2
    cases ok with
    | false => refine bodyPost_ret (v := .tuple #[.agg #[.slice none 0 0, .int .u8 kd], .bool false]) (by simp [results, Tryz.results121, go_sem, q0, q1]) rfl ⟨SgP.no, q2⟩
    | true => refine bodyPost_ret (v := .tuple #[.agg #[.slice none 0 0, .int .u8 kd], .bool true]) (by simp [results, Tryz.results121, go_sem, q0, q1]) rfl ⟨SgP.yes ⟨none, 0, rfl, ⟨none, 0, rfl, Nat.le_refl _, fun _ => rfl, fun h => absurd h (by simp)⟩⟩, q2⟩
end Vw
end Go.Proofs.YtcpknafaocdjdaaGreatDoor

/- valid: sign, way by way (4): global.set. By mksg5.py. -/
namespace Go.Proofs.YtcpknafaocdjdaaGreatDoor
open Go.RowKit Go.Shelf
namespace Vw
set_option linter.unusedVariables false
set_option linter.unusedSimpArgs false
open Ex (Ins Lies Lab)
open Gm (Mod Typ Byts ModL WfM)
set_option maxRecDepth 100000 in
set_option maxHeartbeats 3200000 in
theorem sg_gs0 {w : World} {N : Nat} {m : M8} {vl va vt : Value} {lo : List Int} {s : St} (h : Wk w N m vl lo va vt s) (hl : s.la.length ≤ 1099511627776) (n al of re : Int) (vb ve vx : Value) {ga : Option Addr} {gl gc : Nat} (hv4 : m.v4 = .slice ga gl gc) (ok : Bool) (kd : Int) (mu : Bool) (hI : ItG w m.v4 n ok kd mu) :
    Calls Tryz.prog 121 #[.pointer (some ⟨N, 0, none⟩), .agg #[.int .u8 36, .int .i64 n, .int .u32 al, .int .u32 of, .int .u8 re, vb, ve, vx]] w fun e w' => SgP N (gsO ok kd mu) e w' ∧ Below w.heap.size w w' := by
  have hlt := h.lt
  obtain ⟨W0, hW0, b1, b2, b3, b4⟩ := Gm.start2m (w := w) (ms := #[.int .u8 36, .int .i64 n, .int .u32 al, .int .u32 of, .int .u8 re, vb, ve, vx]) (ss := #[.slice none 0 0, .int .u8 0]) (t := 63) (t2 := 96)
  obtain ⟨c0, c1, c2, c3, c4, c5, c6, c7⟩ := Ex.cel8 b1
  have h0 := h.below b4
  rw [hv4] at hI
  obtain ⟨y2, y3, y4, y5, y6, s7, l7, d7, s8, l8, d8, s9, l9, d9, hI⟩ := hI
  have hI0 := fun W (hW : Below W0.heap.size W0 W) => hI W (Below.on0 b4 hW b4.size)
  have x4 := h0.box.mods.2.2.2.2.1
  rw [hv4] at x4
  have lN : N < W0.heap.size := by omega
  have lW : w.heap.size < W0.heap.size := by omega
  have HI := hide hI0; have HW := hide hW0; have HB := hide b4; have HR := hide b2
  clear h h0 hI hI0 hl hW0 b1 b2 b4 hv4 c2 c3 c4 c5 c6 c7
  go_enter Tryz.func121, Tryz.ntmps121
  go_upto_region 31 with fail
  rw [unhide HW]
  clear HW
  go_cut [18, 19] (fun va vb wx => ∃ B, va = .pointer (some ⟨B, 0, none⟩) ∧ vb = .bool ok ∧ Below W0.heap.size W0 wx ∧ W0.heap.size ≤ B ∧ wx.heap[B]? = some (.cells #[.int .u8 kd, .bool mu, .int .u8 y2, .int .i64 y3, .int .u32 y4, .int .u32 y5, .int .u8 y6, .slice s7 l7 d7, .slice s8 l8 d8, .slice s9 l9 d9] 77 (0, 0)))
  case first =>
    have hS0 : W0.drew.cell? ⟨N, 4, none⟩ = some (.slice ga gl gc) ∧ W0.drew.cell? ⟨w.heap.size, 1, none⟩ = some (.int .i64 n) := ⟨x4, c1⟩
    refine wp_region_held_drew (S := fun w' => w'.cell? ⟨N, 4, none⟩ = some (.slice ga gl gc) ∧ w'.cell? ⟨w.heap.size, 1, none⟩ = some (.int .i64 n)) (by kernel_rfl) hS0 (fun _ => ?_)
    refine wpAnyH_take (i := 0) (oi := _) (v := ?v0_101) rfl (by kernel_rfl) (by kernel_rfl) (by kernel_rfl) (fun _ _ _ h => h) (Or.inl ⟨by kernel_rfl, ?y0_101⟩) hS0 ?_
    case y0_101 => intro wx hSw; obtain ⟨e1, e2⟩ := hSw; go_simp; first | done | rfl
    simp only [List.getElem_toArray, List.getElem_cons_succ, List.getElem_cons_zero, Act.put, List.setIfInBounds_toArray, List.set_cons_zero, List.set_cons_succ]
    refine wpAnyH_take (i := 1) (oi := _) (v := ?v1_102) rfl (by kernel_rfl) (by kernel_rfl) (by kernel_rfl) (fun _ _ _ h => h) (Or.inl ⟨by kernel_rfl, ?y1_102⟩) hS0 ?_
    case y1_102 => intro wx hSw; obtain ⟨e1, e2⟩ := hSw; go_simp; first | done | rfl
    simp only [List.getElem_toArray, List.getElem_cons_succ, List.getElem_cons_zero, Act.put, List.setIfInBounds_toArray, List.set_cons_zero, List.set_cons_succ]
    refine wpAnyH_take (i := 2) (oi := _) (v := ?v2_103) rfl (by kernel_rfl) (by kernel_rfl) (by kernel_rfl) (fun _ _ _ h => h) (Or.inl ⟨by kernel_rfl, ?y2_103⟩) hS0 ?_
    case y2_103 => intro wx hSw; obtain ⟨e1, e2⟩ := hSw; go_simp; first | done | rfl
    simp only [List.getElem_toArray, List.getElem_cons_succ, List.getElem_cons_zero, Act.put, List.setIfInBounds_toArray, List.set_cons_zero, List.set_cons_succ]
    refine wpAnyH_take (i := 3) (oi := _) (v := ?v3_104) rfl (by kernel_rfl) (by kernel_rfl) (by kernel_rfl) (fun _ _ _ h => h) (Or.inl ⟨by kernel_rfl, ?y3_104⟩) hS0 ?_
    case y3_104 => intro wx hSw; obtain ⟨e1, e2⟩ := hSw; go_simp; first | done | rfl
    simp only [List.getElem_toArray, List.getElem_cons_succ, List.getElem_cons_zero, Act.put, List.setIfInBounds_toArray, List.set_cons_zero, List.set_cons_succ]
    refine wpAnyH_take (i := 4) (oi := _) (v := ?v4_105) rfl (by kernel_rfl) (by kernel_rfl) (by kernel_rfl) (fun _ _ _ h => h) (Or.inl ⟨by kernel_rfl, ?y4_105⟩) hS0 ?_
    case y4_105 => intro wx hSw; obtain ⟨e1, e2⟩ := hSw; go_simp; first | done | rfl
    simp only [List.getElem_toArray, List.getElem_cons_succ, List.getElem_cons_zero, Act.put, List.setIfInBounds_toArray, List.set_cons_zero, List.set_cons_succ]
    refine wpAnyH_take (i := 5) (oi := _) (v := ?v5_106) rfl (by kernel_rfl) (by kernel_rfl) (by kernel_rfl) (fun _ _ _ h => h) (Or.inl ⟨by kernel_rfl, ?y5_106⟩) hS0 ?_
    case y5_106 => intro wx hSw; obtain ⟨e1, e2⟩ := hSw; go_simp; first | done | rfl
    simp only [List.getElem_toArray, List.getElem_cons_succ, List.getElem_cons_zero, Act.put, List.setIfInBounds_toArray, List.set_cons_zero, List.set_cons_succ]
    refine wpAnyH_take (i := 6) (oi := _) (v := ?v6_107) rfl (by kernel_rfl) (by kernel_rfl) (by kernel_rfl) (fun _ _ _ h => h) (Or.inl ⟨by kernel_rfl, ?y6_107⟩) hS0 ?_
    case y6_107 => intro wx hSw; obtain ⟨e1, e2⟩ := hSw; go_simp; first | done | rfl
    simp only [List.getElem_toArray, List.getElem_cons_succ, List.getElem_cons_zero, Act.put, List.setIfInBounds_toArray, List.set_cons_zero, List.set_cons_succ]
    refine wpAnyH_ready (rs := [7, 11]) (by kernel_rfl) (by simp) ?_
    refine AllReadyH.cons rfl (fun K hK => ?_) (AllReadyH.cons rfl (fun K hK => ?_) AllReadyH.nil)
    · skip
      go_simp
      go_at_call 129
      refine (unhide HI _ (drew_b W0)).mono ?_
      rintro e w4 ⟨rfl, hb4⟩
      have hB4 := Below.on (drew_b W0) hb4
      have hS4 : w4.cell? ⟨N, 4, none⟩ = some (.slice ga gl gc) ∧ w4.cell? ⟨w.heap.size, 1, none⟩ = some (.int .i64 n) := ⟨(hB4.cell (p := ⟨N, 4, none⟩) lN).trans x4, (hB4.cell (p := ⟨w.heap.size, 1, none⟩) lW).trans c1⟩
      clear hb4
      go_wp2_with fail
      refine hK.out _ _ hS4 (fun _ => ?_)
      refine wpAnyH_take (i := 8) (oi := _) (v := ?v8_108) rfl (by kernel_rfl) (by kernel_rfl) (by kernel_rfl) (fun _ _ _ h => h) (Or.inl ⟨by kernel_rfl, ?y8_108⟩) hS4 ?_
      case y8_108 => intro wx hSw; obtain ⟨e1, e2⟩ := hSw; go_simp; first | done | rfl
      simp only [List.getElem_toArray, List.getElem_cons_succ, List.getElem_cons_zero, Act.put, List.setIfInBounds_toArray, List.set_cons_zero, List.set_cons_succ]
      refine wpAnyH_take (i := 9) (oi := _) (v := ?v9_109) rfl (by kernel_rfl) (by kernel_rfl) (by kernel_rfl) (fun _ _ _ h => h) (Or.inl ⟨by kernel_rfl, ?y9_109⟩) hS4 ?_
      case y9_109 => intro wx hSw; obtain ⟨e1, e2⟩ := hSw; go_simp; first | done | rfl
      simp only [List.getElem_toArray, List.getElem_cons_succ, List.getElem_cons_zero, Act.put, List.setIfInBounds_toArray, List.set_cons_zero, List.set_cons_succ]
      refine wpAnyH_take (i := 10) (oi := _) (v := ?v10_110) rfl (by kernel_rfl) (by kernel_rfl) (by kernel_rfl) (fun _ _ _ h => h) (Or.inl ⟨by kernel_rfl, ?y10_110⟩) hS4 ?_
      case y10_110 => intro wx hSw; obtain ⟨e1, e2⟩ := hSw; go_simp; first | done | rfl
      simp only [List.getElem_toArray, List.getElem_cons_succ, List.getElem_cons_zero, Act.put, List.setIfInBounds_toArray, List.set_cons_zero, List.set_cons_succ]
      refine wpAnyH_ready (rs := [11]) (by kernel_rfl) (by simp) ?_
      refine AllReadyH.cons rfl (fun K hK => ?_) AllReadyH.nil
      have hal := one_al w4 (.cells #[.int .u8 0, .bool false, .int .u8 0, .int .i64 0, .int .u32 0, .int .u32 0, .int .u8 0, .slice none 0 0, .slice none 0 0, .slice none 0 0] 77)
      have hr5 := heap_alloc_new w4 (.cells #[.int .u8 0, .bool false, .int .u8 0, .int .i64 0, .int .u32 0, .int .u32 0, .int .u8 0, .slice none 0 0, .slice none 0 0, .slice none 0 0] 77)
      have hB5 := Below.on0 hB4 hal hB4.size
      have hsz := hB4.size
      have hS5 := (⟨(hal.cell (p := ⟨N, 4, none⟩) (show N < w4.heap.size by omega)).trans hS4.1, (hal.cell (p := ⟨w.heap.size, 1, none⟩) (show w.heap.size < w4.heap.size by omega)).trans hS4.2⟩ : _ ∧ _)
      have HS5 := hide hS5; have HB5 := hide hB5; have HR5 := hide hr5
      clear hal hr5 hB5 hS5
      go_wp2_with fail
      refine hK.out _ _ (unhide HS5) (fun _ => ?_)
      generalize w4.alloc (.cells #[.int .u8 0, .bool false, .int .u8 0, .int .i64 0, .int .u32 0, .int .u32 0, .int .u8 0, .slice none 0 0, .slice none 0 0, .slice none 0 0] 77) = W5 at *
      have hfin := set10 W5 w4.heap.size 77 _ _ _ _ _ _ _ _ _ _ (.int .u8 kd) (.bool mu) (.int .u8 y2) (.int .i64 y3) (.int .u32 y4) (.int .u32 y5) (.int .u8 y6) (.slice s7 l7 d7) (.slice s8 l8 d8) (.slice s9 l9 d9) (unhide HR5)
      have hbel := bel10 (unhide HB5) w4.heap.size (by omega) (.int .u8 kd) (.bool mu) (.int .u8 y2) (.int .i64 y3) (.int .u32 y4) (.int .u32 y5) (.int .u8 y6) (.slice s7 l7 d7) (.slice s8 l8 d8) (.slice s9 l9 d9)
      have hS6 := (⟨(World.cell?_of_block (a := ⟨N, 4, none⟩) (keep10 W5 w4.heap.size N (by omega) (.int .u8 kd) (.bool mu) (.int .u8 y2) (.int .i64 y3) (.int .u32 y4) (.int .u32 y5) (.int .u8 y6) (.slice s7 l7 d7) (.slice s8 l8 d8) (.slice s9 l9 d9))).trans (unhide HS5).1, (World.cell?_of_block (a := ⟨w.heap.size, 1, none⟩) (keep10 W5 w4.heap.size w.heap.size (by omega) (.int .u8 kd) (.bool mu) (.int .u8 y2) (.int .i64 y3) (.int .u32 y4) (.int .u32 y5) (.int .u8 y6) (.slice s7 l7 d7) (.slice s8 l8 d8) (.slice s9 l9 d9))).trans (unhide HS5).2⟩ : _ ∧ _)
      have hth := there10 (unhide HR5)
      refine wpAnyH_ready (rs := [12]) (by kernel_rfl) (by simp) ?_
      refine AllReadyH.cons rfl (fun K hK => ?_) AllReadyH.nil
      rw [if_pos (show Region.wanted _ _ = true from rfl)]
      refine wp_store_mid 77 (.tmp 18) (.tmp 164) rfl w4.heap.size 0 #[.int .u8 kd, .bool mu, .int .u8 y2, .int .i64 y3, .int .u32 y4, .int .u32 y5, .int .u8 y6, .slice s7 l7 d7, .slice s8 l8 d8, .slice s9 l9 d9] rfl rfl hth (by kernel_rfl) one10 ?_
      simp only [Act.put]
      rw [show W5.setCells w4.heap.size 0 (#[.int .u8 kd, .bool mu, .int .u8 y2, .int .i64 y3, .int .u32 y4, .int .u32 y5, .int .u8 y6, .slice s7 l7 d7, .slice s8 l8 d8, .slice s9 l9 d9] : Array Value).toList = _ from setc10 W5 w4.heap.size (.int .u8 kd) (.bool mu) (.int .u8 y2) (.int .i64 y3) (.int .u32 y4) (.int .u32 y5) (.int .u8 y6) (.slice s7 l7 d7) (.slice s8 l8 d8) (.slice s9 l9 d9)]
      refine hK.out _ _ hS6 (fun _ => ?_)
      refine wpAnyH_take (i := 13) (oi := _) (v := ?v13_111) rfl (by kernel_rfl) (by kernel_rfl) (by kernel_rfl) (fun _ _ _ h => h) (Or.inl ⟨by kernel_rfl, ?y13_111⟩) hS6 ?_
      case y13_111 => intro wx hSw; obtain ⟨e1, e2⟩ := hSw; go_simp; first | done | rfl
      simp only [List.getElem_toArray, List.getElem_cons_succ, List.getElem_cons_zero, Act.put, List.setIfInBounds_toArray, List.set_cons_zero, List.set_cons_succ]
      refine wpAnyH_done (by kernel_rfl) ?_ _
      clear hK
      have HFin := hide hfin; have HBel := hide hbel
      clear hfin hbel hS6 hth
      go_wp2_with fail
      go_meet
      exact ⟨w4.heap.size, rfl, rfl, unhide HBel, by omega, unhide HFin⟩
    · skip
      have hr5 : (W0.alloc (.cells #[.int .u8 0, .bool false, .int .u8 0, .int .i64 0, .int .u32 0, .int .u32 0, .int .u8 0, .slice none 0 0, .slice none 0 0, .slice none 0 0] 77)).drew.heap[W0.heap.size]? = some (.cells #[.int .u8 0, .bool false, .int .u8 0, .int .i64 0, .int .u32 0, .int .u32 0, .int .u8 0, .slice none 0 0, .slice none 0 0, .slice none 0 0] 77 (0, 0)) := heap_alloc_new W0 (.cells #[.int .u8 0, .bool false, .int .u8 0, .int .i64 0, .int .u32 0, .int .u32 0, .int .u8 0, .slice none 0 0, .slice none 0 0, .slice none 0 0] 77)
      have hB5 : Below W0.heap.size W0 (W0.alloc (.cells #[.int .u8 0, .bool false, .int .u8 0, .int .i64 0, .int .u32 0, .int .u32 0, .int .u8 0, .slice none 0 0, .slice none 0 0, .slice none 0 0] 77)).drew := Gm.ad_below9 W0 _
      have hS5 : (W0.alloc (.cells #[.int .u8 0, .bool false, .int .u8 0, .int .i64 0, .int .u32 0, .int .u32 0, .int .u8 0, .slice none 0 0, .slice none 0 0, .slice none 0 0] 77)).drew.cell? ⟨N, 4, none⟩ = some (.slice ga gl gc) ∧ (W0.alloc (.cells #[.int .u8 0, .bool false, .int .u8 0, .int .i64 0, .int .u32 0, .int .u32 0, .int .u8 0, .slice none 0 0, .slice none 0 0, .slice none 0 0] 77)).drew.cell? ⟨w.heap.size, 1, none⟩ = some (.int .i64 n) := ⟨(hB5.cell (p := ⟨N, 4, none⟩) lN).trans x4, (hB5.cell (p := ⟨w.heap.size, 1, none⟩) lW).trans c1⟩
      have HS5 := hide hS5; have HB5 := hide hB5; have HR5 := hide hr5
      clear hr5 hB5 hS5
      go_wp2_with fail
      refine hK.out _ _ (unhide HS5) (fun _ => ?_)
      generalize (W0.alloc (.cells #[.int .u8 0, .bool false, .int .u8 0, .int .i64 0, .int .u32 0, .int .u32 0, .int .u8 0, .slice none 0 0, .slice none 0 0, .slice none 0 0] 77)).drew = W5 at *
      refine wpAnyH_ready (rs := [7]) (by kernel_rfl) (by simp) ?_
      refine AllReadyH.cons rfl (fun K hK => ?_) AllReadyH.nil
      go_simp
      go_at_call 129
      refine (unhide HI _ (unhide HB5)).mono ?_
      rintro e w4 ⟨rfl, hb4⟩
      have hB4 := Below.on0 (unhide HB5) hb4 (unhide HB5).size
      have hS4 : w4.cell? ⟨N, 4, none⟩ = some (.slice ga gl gc) ∧ w4.cell? ⟨w.heap.size, 1, none⟩ = some (.int .i64 n) := ⟨(hB4.cell (p := ⟨N, 4, none⟩) lN).trans x4, (hB4.cell (p := ⟨w.heap.size, 1, none⟩) lW).trans c1⟩
      have hr6 := (hb4.block _ (Array.getElem?_eq_some_iff.1 (unhide HR5)).1).trans (unhide HR5)
      clear hb4
      go_wp2_with fail
      refine hK.out _ _ hS4 (fun _ => ?_)
      refine wpAnyH_take (i := 8) (oi := _) (v := ?v8_112) rfl (by kernel_rfl) (by kernel_rfl) (by kernel_rfl) (fun _ _ _ h => h) (Or.inl ⟨by kernel_rfl, ?y8_112⟩) hS4 ?_
      case y8_112 => intro wx hSw; obtain ⟨e1, e2⟩ := hSw; go_simp; first | done | rfl
      simp only [List.getElem_toArray, List.getElem_cons_succ, List.getElem_cons_zero, Act.put, List.setIfInBounds_toArray, List.set_cons_zero, List.set_cons_succ]
      refine wpAnyH_take (i := 9) (oi := _) (v := ?v9_113) rfl (by kernel_rfl) (by kernel_rfl) (by kernel_rfl) (fun _ _ _ h => h) (Or.inl ⟨by kernel_rfl, ?y9_113⟩) hS4 ?_
      case y9_113 => intro wx hSw; obtain ⟨e1, e2⟩ := hSw; go_simp; first | done | rfl
      simp only [List.getElem_toArray, List.getElem_cons_succ, List.getElem_cons_zero, Act.put, List.setIfInBounds_toArray, List.set_cons_zero, List.set_cons_succ]
      refine wpAnyH_take (i := 10) (oi := _) (v := ?v10_114) rfl (by kernel_rfl) (by kernel_rfl) (by kernel_rfl) (fun _ _ _ h => h) (Or.inl ⟨by kernel_rfl, ?y10_114⟩) hS4 ?_
      case y10_114 => intro wx hSw; obtain ⟨e1, e2⟩ := hSw; go_simp; first | done | rfl
      simp only [List.getElem_toArray, List.getElem_cons_succ, List.getElem_cons_zero, Act.put, List.setIfInBounds_toArray, List.set_cons_zero, List.set_cons_succ]
      have hfin := set10 w4 W0.heap.size 77 _ _ _ _ _ _ _ _ _ _ (.int .u8 kd) (.bool mu) (.int .u8 y2) (.int .i64 y3) (.int .u32 y4) (.int .u32 y5) (.int .u8 y6) (.slice s7 l7 d7) (.slice s8 l8 d8) (.slice s9 l9 d9) hr6
      have hbel := bel10 hB4 W0.heap.size (by omega) (.int .u8 kd) (.bool mu) (.int .u8 y2) (.int .i64 y3) (.int .u32 y4) (.int .u32 y5) (.int .u8 y6) (.slice s7 l7 d7) (.slice s8 l8 d8) (.slice s9 l9 d9)
      have hS6 := (⟨(World.cell?_of_block (a := ⟨N, 4, none⟩) (keep10 w4 W0.heap.size N (by omega) (.int .u8 kd) (.bool mu) (.int .u8 y2) (.int .i64 y3) (.int .u32 y4) (.int .u32 y5) (.int .u8 y6) (.slice s7 l7 d7) (.slice s8 l8 d8) (.slice s9 l9 d9))).trans hS4.1, (World.cell?_of_block (a := ⟨w.heap.size, 1, none⟩) (keep10 w4 W0.heap.size w.heap.size (by omega) (.int .u8 kd) (.bool mu) (.int .u8 y2) (.int .i64 y3) (.int .u32 y4) (.int .u32 y5) (.int .u8 y6) (.slice s7 l7 d7) (.slice s8 l8 d8) (.slice s9 l9 d9))).trans hS4.2⟩ : _ ∧ _)
      have hth := there10 hr6
      refine wpAnyH_ready (rs := [12]) (by kernel_rfl) (by simp) ?_
      refine AllReadyH.cons rfl (fun K hK => ?_) AllReadyH.nil
      rw [if_pos (show Region.wanted _ _ = true from rfl)]
      refine wp_store_mid 77 (.tmp 18) (.tmp 164) rfl W0.heap.size 0 #[.int .u8 kd, .bool mu, .int .u8 y2, .int .i64 y3, .int .u32 y4, .int .u32 y5, .int .u8 y6, .slice s7 l7 d7, .slice s8 l8 d8, .slice s9 l9 d9] rfl rfl hth (by kernel_rfl) one10 ?_
      simp only [Act.put]
      rw [show w4.setCells W0.heap.size 0 (#[.int .u8 kd, .bool mu, .int .u8 y2, .int .i64 y3, .int .u32 y4, .int .u32 y5, .int .u8 y6, .slice s7 l7 d7, .slice s8 l8 d8, .slice s9 l9 d9] : Array Value).toList = _ from setc10 w4 W0.heap.size (.int .u8 kd) (.bool mu) (.int .u8 y2) (.int .i64 y3) (.int .u32 y4) (.int .u32 y5) (.int .u8 y6) (.slice s7 l7 d7) (.slice s8 l8 d8) (.slice s9 l9 d9)]
      refine hK.out _ _ hS6 (fun _ => ?_)
      refine wpAnyH_take (i := 13) (oi := _) (v := ?v13_115) rfl (by kernel_rfl) (by kernel_rfl) (by kernel_rfl) (fun _ _ _ h => h) (Or.inl ⟨by kernel_rfl, ?y13_115⟩) hS6 ?_
      case y13_115 => intro wx hSw; obtain ⟨e1, e2⟩ := hSw; go_simp; first | done | rfl
      simp only [List.getElem_toArray, List.getElem_cons_succ, List.getElem_cons_zero, Act.put, List.setIfInBounds_toArray, List.set_cons_zero, List.set_cons_succ]
      refine wpAnyH_done (by kernel_rfl) ?_ _
      clear hK
      have HFin := hide hfin; have HBel := hide hbel
      clear hfin hbel hS6 hth
      go_wp2_with fail
      go_meet
      exact ⟨W0.heap.size, rfl, rfl, unhide HBel, by omega, unhide HFin⟩
  case rest =>
    obtain ⟨B, rfl, rfl, hbx, hge, hrow⟩ := hcut
    obtain ⟨k0, k1, k2, k3, k4, k5, k6, k7, k8, k9, fzB, kl⟩ := cel10 hrow
    have hR4 := (hbx.block (w.heap.size + 1) b3).trans (unhide HR)
    have hB4 := Below.on0 (unhide HB) hbx (unhide HB).size
    have hnB : ¬ w.heap.size + 1 = B := by omega
    have hnB' : ¬ B = w.heap.size + 1 := by omega
    clear k2 k3 k4 k5 k6 k7 k8 k9 hrow
    clear HI HB HR
    go_upto_region 32 with fail
    cases ok with
    | false =>
      have hS0 : wc.drew.cell? ⟨B, 0, none⟩ = some (.int .u8 kd) ∧ wc.drew.cell? ⟨B, 1, none⟩ = some (.bool mu) := ⟨k0, k1⟩
      refine wp_region_held_drew (S := fun w' => w'.cell? ⟨B, 0, none⟩ = some (.int .u8 kd) ∧ w'.cell? ⟨B, 1, none⟩ = some (.bool mu)) (by kernel_rfl) hS0 (fun _ => ?_)
      refine wpAnyH_take (i := 0) (oi := _) (v := ?v0_116) rfl (by kernel_rfl) (by kernel_rfl) (by kernel_rfl) (fun _ _ _ h => h) (Or.inl ⟨by kernel_rfl, ?y0_116⟩) hS0 ?_
      case y0_116 => intro wx hSw; obtain ⟨e1, e2⟩ := hSw; go_simp; first | done | rfl
      simp only [List.getElem_toArray, List.getElem_cons_succ, List.getElem_cons_zero, Act.put, List.setIfInBounds_toArray, List.set_cons_zero, List.set_cons_succ]
      refine wpAnyH_take (i := 1) (oi := _) (v := ?v1_117) rfl (by kernel_rfl) (by kernel_rfl) (by kernel_rfl) (fun _ _ _ h => h) (Or.inl ⟨by kernel_rfl, ?y1_117⟩) hS0 ?_
      case y1_117 => intro wx hSw; obtain ⟨e1, e2⟩ := hSw; go_simp; first | done | rfl
      simp only [List.getElem_toArray, List.getElem_cons_succ, List.getElem_cons_zero, Act.put, List.setIfInBounds_toArray, List.set_cons_zero, List.set_cons_succ]
      refine wpAnyH_take (i := 4) (oi := _) (v := ?v4_118) rfl (by kernel_rfl) (by kernel_rfl) (by kernel_rfl) (fun _ _ _ h => h) (Or.inl ⟨by kernel_rfl, ?y4_118⟩) hS0 ?_
      case y4_118 => intro wx hSw; obtain ⟨e1, e2⟩ := hSw; go_simp; first | done | rfl
      simp only [List.getElem_toArray, List.getElem_cons_succ, List.getElem_cons_zero, Act.put, List.setIfInBounds_toArray, List.set_cons_zero, List.set_cons_succ]
      have hr3 : (wc.alloc (.cells #[.int .u8 kd] 60)).drew.heap[wc.heap.size]? = some (.cells #[.int .u8 kd] 60 (0, 0)) := heap_alloc_new wc (.cells #[.int .u8 kd] 60)
      have hb3 : Below wc.heap.size wc (wc.alloc (.cells #[.int .u8 kd] 60)).drew := Gm.ad_below9 wc _
      have hS3 : (wc.alloc (.cells #[.int .u8 kd] 60)).drew.cell? ⟨B, 0, none⟩ = some (.int .u8 kd) ∧ (wc.alloc (.cells #[.int .u8 kd] 60)).drew.cell? ⟨B, 1, none⟩ = some (.bool mu) := ⟨(hb3.cell (p := ⟨B, 0, none⟩) kl).trans k0, (hb3.cell (p := ⟨B, 1, none⟩) kl).trans k1⟩
      have Hr3 := hide hr3; have Hb3 := hide hb3; have HS3 := hide hS3
      clear hr3 hb3 hS3
      refine wpAnyH_ready (rs := [2]) (by kernel_rfl) (by simp) ?_
      refine AllReadyH.cons rfl (fun K hK => ?_) AllReadyH.nil
      go_wp2_with fail
      refine hK.out _ _ (unhide HS3) (fun _ => ?_)
      generalize hW3 : (wc.alloc (.cells #[.int .u8 kd] 60)).drew = W3 at *
      clear hW3 hK
      have hl3 : wc.heap.size < W3.heap.size := (Array.getElem?_eq_some_iff.1 (unhide Hr3)).1
      refine wpAnyH_ready (rs := [3]) (by kernel_rfl) (by simp) ?_
      refine AllReadyH.cons rfl (fun K hK => ?_) AllReadyH.nil
      go_simp
      go_at_call 132
      refine (takes_any (some ⟨wc.heap.size, 0, none⟩) 1 1 W3).mono ?_
      rintro e w4 ⟨rfl, hb4⟩
      have hb34 := Below.on0 (unhide Hb3) hb4 (unhide Hb3).size
      have hr4 := (hb4.block _ hl3).trans (unhide Hr3)
      have hR5 := (hb34.block (w.heap.size + 1) (by have := hbx.size; omega)).trans hR4
      have hB5 := Below.on0 hB4 hb34 hB4.size
      have hS4 : w4.cell? ⟨B, 0, none⟩ = some (.int .u8 kd) ∧ w4.cell? ⟨B, 1, none⟩ = some (.bool mu) := ⟨(hb34.cell (p := ⟨B, 0, none⟩) kl).trans k0, (hb34.cell (p := ⟨B, 1, none⟩) kl).trans k1⟩
      have hgB : wc.heap.size ≠ w.heap.size + 1 := by have := hbx.size; omega
      have hgN : wc.heap.size ≠ N := by have := hbx.size; omega
      obtain ⟨z0, z1⟩ := Gm.cel2 hR5
      have fz : ∀ j, w4.frozen? ⟨w.heap.size + 1, j, none⟩ = false := fun j => frozen_of_row w4 _ j _ _ hR5
      obtain ⟨q0, q1, q2⟩ := Gm.fin2 hR5 hB5 (by omega) (.slice (some ⟨wc.heap.size, 0, none⟩) 1 1) (.int .u8 0)
      have hrow := (heap_setCell_other _ ⟨w.heap.size + 1, 1, none⟩ wc.heap.size (.int .u8 0) hgB).trans ((heap_setCell_other w4 ⟨w.heap.size + 1, 0, none⟩ wc.heap.size (.slice (some ⟨wc.heap.size, 0, none⟩) 1 1) hgB).trans hr4)
      have hSX : ((w4.setCell ⟨w.heap.size + 1, 0, none⟩ (.slice (some ⟨wc.heap.size, 0, none⟩) 1 1)).setCell ⟨w.heap.size + 1, 1, none⟩ (.int .u8 0)).cell? ⟨B, 0, none⟩ = some (.int .u8 kd) ∧ ((w4.setCell ⟨w.heap.size + 1, 0, none⟩ (.slice (some ⟨wc.heap.size, 0, none⟩) 1 1)).setCell ⟨w.heap.size + 1, 1, none⟩ (.int .u8 0)).cell? ⟨B, 1, none⟩ = some (.bool mu) :=
        ⟨(World.cell?_of_block (a := ⟨B, 0, none⟩) ((heap_setCell_other _ ⟨w.heap.size + 1, 1, none⟩ B (.int .u8 0) hnB').trans (heap_setCell_other w4 ⟨w.heap.size + 1, 0, none⟩ B (.slice (some ⟨wc.heap.size, 0, none⟩) 1 1) hnB'))).trans hS4.1, (World.cell?_of_block (a := ⟨B, 1, none⟩) ((heap_setCell_other _ ⟨w.heap.size + 1, 1, none⟩ B (.int .u8 0) hnB').trans (heap_setCell_other w4 ⟨w.heap.size + 1, 0, none⟩ B (.slice (some ⟨wc.heap.size, 0, none⟩) 1 1) hnB'))).trans hS4.2⟩
      have HQ2 := hide q2; have HRow := hide hrow; have HSX := hide hSX
      have hth : w4.there (w.heap.size + 1) 0 2 := fun j hj => ⟨by match j, hj with
                                                                | 0, _ => rw [z0]; rfl
                                                                | 1, _ => rw [z1]; rfl, fz _⟩
      clear hb4 hb34 hr4 hR5 hB5 q2 hrow hSX hR4 hB4 hbx
      go_wp2_with fail
      refine hK.out _ _ hS4 (fun _ => ?_)
      clear hK
      refine wpAnyH_take (i := 5) (oi := _) (v := ?v5_120) rfl (by kernel_rfl) (by kernel_rfl) (by kernel_rfl) (fun _ _ _ h => h) (Or.inl ⟨by kernel_rfl, ?y5_120⟩) hS4 ?_
      case y5_120 => intro wx hSw; obtain ⟨e1, e2⟩ := hSw; go_simp; first | done | rfl
      simp only [List.getElem_toArray, List.getElem_cons_succ, List.getElem_cons_zero, Act.put, List.setIfInBounds_toArray, List.set_cons_zero, List.set_cons_succ]
      refine wpAnyH_take (i := 6) (oi := _) (v := undef) rfl (by kernel_rfl) (by kernel_rfl) (by kernel_rfl) (fun _ _ _ h => h) (Or.inr ⟨by kernel_rfl, rfl⟩) hS4 ?_
      simp only [List.getElem_toArray, List.getElem_cons_succ, List.getElem_cons_zero, Act.put, List.setIfInBounds_toArray, List.set_cons_zero, List.set_cons_succ]
      refine wpAnyH_take (i := 7) (oi := _) (v := undef) rfl (by kernel_rfl) (by kernel_rfl) (by kernel_rfl) (fun _ _ _ h => h) (Or.inr ⟨by kernel_rfl, rfl⟩) hS4 ?_
      simp only [List.getElem_toArray, List.getElem_cons_succ, List.getElem_cons_zero, Act.put, List.setIfInBounds_toArray, List.set_cons_zero, List.set_cons_succ]
      refine wpAnyH_take (i := 8) (oi := _) (v := ?v8_121) rfl (by kernel_rfl) (by kernel_rfl) (by kernel_rfl) (fun _ _ _ h => h) (Or.inl ⟨by kernel_rfl, ?y8_121⟩) hS4 ?_
      case y8_121 => intro wx hSw; obtain ⟨e1, e2⟩ := hSw; go_simp; first | done | rfl
      simp only [List.getElem_toArray, List.getElem_cons_succ, List.getElem_cons_zero, Act.put, List.setIfInBounds_toArray, List.set_cons_zero, List.set_cons_succ]
      refine wpAnyH_ready (rs := [9]) (by kernel_rfl) (by simp) ?_
      refine AllReadyH.cons rfl (fun K hK => ?_) AllReadyH.nil
      rw [if_pos (show Region.wanted _ _ = true from rfl)]
      refine wp_store_mid 96 (.tmp 4) (.tmp 169) rfl (w.heap.size + 1) 0 #[.slice (some ⟨wc.heap.size, 0, none⟩) 1 1, .int .u8 0] rfl rfl hth (by kernel_rfl) one2 ?_
      simp only [Act.put]
      rw [show w4.setCells (w.heap.size + 1) 0 (#[.slice (some ⟨wc.heap.size, 0, none⟩) 1 1, .int .u8 0] : Array Value).toList = ((w4.setCell ⟨w.heap.size + 1, 0, none⟩ (.slice (some ⟨wc.heap.size, 0, none⟩) 1 1)).setCell ⟨w.heap.size + 1, 1, none⟩ (.int .u8 0)) from rfl]
      refine hK.out _ _ (unhide HSX) (fun _ => ?_)
      clear hK hth
      refine wpAnyH_take (i := 10) (oi := _) (v := ?v10_119) rfl (by kernel_rfl) (by kernel_rfl) (by kernel_rfl) (fun _ _ _ h => h) (Or.inl ⟨by kernel_rfl, ?y10_119⟩) (unhide HSX) ?_
      case y10_119 => intro wx hSw; obtain ⟨e1, e2⟩ := hSw; go_simp; first | done | rfl
      simp only [List.getElem_toArray, List.getElem_cons_succ, List.getElem_cons_zero, Act.put, List.setIfInBounds_toArray, List.set_cons_zero, List.set_cons_succ]
      refine wpAnyH_done (by kernel_rfl) ?_ _
      go_wp2
      have q2 := unhide HQ2
      refine bodyPost_ret (v := .tuple #[.agg #[.slice (some ⟨wc.heap.size, 0, none⟩) 1 1, .int .u8 0], .bool false]) (by simp [results, Tryz.results121, go_sem, q0, q1]) rfl ⟨SgP.no, q2⟩
    | true =>
      have hS0 : wc.drew.cell? ⟨B, 0, none⟩ = some (.int .u8 kd) ∧ wc.drew.cell? ⟨B, 1, none⟩ = some (.bool mu) := ⟨k0, k1⟩
      refine wp_region_held_drew (S := fun w' => w'.cell? ⟨B, 0, none⟩ = some (.int .u8 kd) ∧ w'.cell? ⟨B, 1, none⟩ = some (.bool mu)) (by kernel_rfl) hS0 (fun _ => ?_)
      refine wpAnyH_take (i := 0) (oi := _) (v := ?v0_122) rfl (by kernel_rfl) (by kernel_rfl) (by kernel_rfl) (fun _ _ _ h => h) (Or.inl ⟨by kernel_rfl, ?y0_122⟩) hS0 ?_
      case y0_122 => intro wx hSw; obtain ⟨e1, e2⟩ := hSw; go_simp; first | done | rfl
      simp only [List.getElem_toArray, List.getElem_cons_succ, List.getElem_cons_zero, Act.put, List.setIfInBounds_toArray, List.set_cons_zero, List.set_cons_succ]
      refine wpAnyH_take (i := 1) (oi := _) (v := ?v1_123) rfl (by kernel_rfl) (by kernel_rfl) (by kernel_rfl) (fun _ _ _ h => h) (Or.inl ⟨by kernel_rfl, ?y1_123⟩) hS0 ?_
      case y1_123 => intro wx hSw; obtain ⟨e1, e2⟩ := hSw; go_simp; first | done | rfl
      simp only [List.getElem_toArray, List.getElem_cons_succ, List.getElem_cons_zero, Act.put, List.setIfInBounds_toArray, List.set_cons_zero, List.set_cons_succ]
      refine wpAnyH_take (i := 4) (oi := _) (v := ?v4_124) rfl (by kernel_rfl) (by kernel_rfl) (by kernel_rfl) (fun _ _ _ h => h) (Or.inl ⟨by kernel_rfl, ?y4_124⟩) hS0 ?_
      case y4_124 => intro wx hSw; obtain ⟨e1, e2⟩ := hSw; go_simp; first | done | rfl
      simp only [List.getElem_toArray, List.getElem_cons_succ, List.getElem_cons_zero, Act.put, List.setIfInBounds_toArray, List.set_cons_zero, List.set_cons_succ]
      have hr3 : (wc.alloc (.cells #[.int .u8 kd] 60)).drew.heap[wc.heap.size]? = some (.cells #[.int .u8 kd] 60 (0, 0)) := heap_alloc_new wc (.cells #[.int .u8 kd] 60)
      have hb3 : Below wc.heap.size wc (wc.alloc (.cells #[.int .u8 kd] 60)).drew := Gm.ad_below9 wc _
      have hS3 : (wc.alloc (.cells #[.int .u8 kd] 60)).drew.cell? ⟨B, 0, none⟩ = some (.int .u8 kd) ∧ (wc.alloc (.cells #[.int .u8 kd] 60)).drew.cell? ⟨B, 1, none⟩ = some (.bool mu) := ⟨(hb3.cell (p := ⟨B, 0, none⟩) kl).trans k0, (hb3.cell (p := ⟨B, 1, none⟩) kl).trans k1⟩
      have Hr3 := hide hr3; have Hb3 := hide hb3; have HS3 := hide hS3
      clear hr3 hb3 hS3
      refine wpAnyH_ready (rs := [2]) (by kernel_rfl) (by simp) ?_
      refine AllReadyH.cons rfl (fun K hK => ?_) AllReadyH.nil
      go_wp2_with fail
      refine hK.out _ _ (unhide HS3) (fun _ => ?_)
      generalize hW3 : (wc.alloc (.cells #[.int .u8 kd] 60)).drew = W3 at *
      clear hW3 hK
      have hl3 : wc.heap.size < W3.heap.size := (Array.getElem?_eq_some_iff.1 (unhide Hr3)).1
      refine wpAnyH_ready (rs := [3]) (by kernel_rfl) (by simp) ?_
      refine AllReadyH.cons rfl (fun K hK => ?_) AllReadyH.nil
      go_simp
      go_at_call 132
      refine (takes_any (some ⟨wc.heap.size, 0, none⟩) 1 1 W3).mono ?_
      rintro e w4 ⟨rfl, hb4⟩
      have hb34 := Below.on0 (unhide Hb3) hb4 (unhide Hb3).size
      have hr4 := (hb4.block _ hl3).trans (unhide Hr3)
      have hR5 := (hb34.block (w.heap.size + 1) (by have := hbx.size; omega)).trans hR4
      have hB5 := Below.on0 hB4 hb34 hB4.size
      have hS4 : w4.cell? ⟨B, 0, none⟩ = some (.int .u8 kd) ∧ w4.cell? ⟨B, 1, none⟩ = some (.bool mu) := ⟨(hb34.cell (p := ⟨B, 0, none⟩) kl).trans k0, (hb34.cell (p := ⟨B, 1, none⟩) kl).trans k1⟩
      have hgB : wc.heap.size ≠ w.heap.size + 1 := by have := hbx.size; omega
      have hgN : wc.heap.size ≠ N := by have := hbx.size; omega
      obtain ⟨z0, z1⟩ := Gm.cel2 hR5
      have fz : ∀ j, w4.frozen? ⟨w.heap.size + 1, j, none⟩ = false := fun j => frozen_of_row w4 _ j _ _ hR5
      obtain ⟨q0, q1, q2⟩ := Gm.fin2 hR5 hB5 (by omega) (.slice (some ⟨wc.heap.size, 0, none⟩) 1 1) (.int .u8 0)
      have hrow := (heap_setCell_other _ ⟨w.heap.size + 1, 1, none⟩ wc.heap.size (.int .u8 0) hgB).trans ((heap_setCell_other w4 ⟨w.heap.size + 1, 0, none⟩ wc.heap.size (.slice (some ⟨wc.heap.size, 0, none⟩) 1 1) hgB).trans hr4)
      have hSX : ((w4.setCell ⟨w.heap.size + 1, 0, none⟩ (.slice (some ⟨wc.heap.size, 0, none⟩) 1 1)).setCell ⟨w.heap.size + 1, 1, none⟩ (.int .u8 0)).cell? ⟨B, 0, none⟩ = some (.int .u8 kd) ∧ ((w4.setCell ⟨w.heap.size + 1, 0, none⟩ (.slice (some ⟨wc.heap.size, 0, none⟩) 1 1)).setCell ⟨w.heap.size + 1, 1, none⟩ (.int .u8 0)).cell? ⟨B, 1, none⟩ = some (.bool mu) :=
        ⟨(World.cell?_of_block (a := ⟨B, 0, none⟩) ((heap_setCell_other _ ⟨w.heap.size + 1, 1, none⟩ B (.int .u8 0) hnB').trans (heap_setCell_other w4 ⟨w.heap.size + 1, 0, none⟩ B (.slice (some ⟨wc.heap.size, 0, none⟩) 1 1) hnB'))).trans hS4.1, (World.cell?_of_block (a := ⟨B, 1, none⟩) ((heap_setCell_other _ ⟨w.heap.size + 1, 1, none⟩ B (.int .u8 0) hnB').trans (heap_setCell_other w4 ⟨w.heap.size + 1, 0, none⟩ B (.slice (some ⟨wc.heap.size, 0, none⟩) 1 1) hnB'))).trans hS4.2⟩
      have HQ2 := hide q2; have HRow := hide hrow; have HSX := hide hSX
      have hth : w4.there (w.heap.size + 1) 0 2 := fun j hj => ⟨by match j, hj with
                                                                | 0, _ => rw [z0]; rfl
                                                                | 1, _ => rw [z1]; rfl, fz _⟩
      clear hb4 hb34 hr4 hR5 hB5 q2 hrow hSX hR4 hB4 hbx
      go_wp2_with fail
      refine hK.out _ _ hS4 (fun _ => ?_)
      clear hK
      refine wpAnyH_take (i := 5) (oi := _) (v := ?v5_126) rfl (by kernel_rfl) (by kernel_rfl) (by kernel_rfl) (fun _ _ _ h => h) (Or.inl ⟨by kernel_rfl, ?y5_126⟩) hS4 ?_
      case y5_126 => intro wx hSw; obtain ⟨e1, e2⟩ := hSw; go_simp; first | done | rfl
      simp only [List.getElem_toArray, List.getElem_cons_succ, List.getElem_cons_zero, Act.put, List.setIfInBounds_toArray, List.set_cons_zero, List.set_cons_succ]
      refine wpAnyH_take (i := 6) (oi := _) (v := ?v6_127) rfl (by kernel_rfl) (by kernel_rfl) (by kernel_rfl) (fun _ _ _ h => h) (Or.inl ⟨by kernel_rfl, ?y6_127⟩) hS4 ?_
      case y6_127 => intro wx hSw; obtain ⟨e1, e2⟩ := hSw; go_simp; first | done | rfl
      simp only [List.getElem_toArray, List.getElem_cons_succ, List.getElem_cons_zero, Act.put, List.setIfInBounds_toArray, List.set_cons_zero, List.set_cons_succ]
      refine wpAnyH_take (i := 7) (oi := _) (v := ?v7_128) rfl (by kernel_rfl) (by kernel_rfl) (by kernel_rfl) (fun _ _ _ h => h) (Or.inl ⟨by kernel_rfl, ?y7_128⟩) hS4 ?_
      case y7_128 => intro wx hSw; obtain ⟨e1, e2⟩ := hSw; go_simp; first | done | rfl
      simp only [List.getElem_toArray, List.getElem_cons_succ, List.getElem_cons_zero, Act.put, List.setIfInBounds_toArray, List.set_cons_zero, List.set_cons_succ]
      refine wpAnyH_take (i := 8) (oi := _) (v := ?v8_129) rfl (by kernel_rfl) (by kernel_rfl) (by kernel_rfl) (fun _ _ _ h => h) (Or.inl ⟨by kernel_rfl, ?y8_129⟩) hS4 ?_
      case y8_129 => intro wx hSw; obtain ⟨e1, e2⟩ := hSw; go_simp; first | done | rfl
      simp only [List.getElem_toArray, List.getElem_cons_succ, List.getElem_cons_zero, Act.put, List.setIfInBounds_toArray, List.set_cons_zero, List.set_cons_succ]
      refine wpAnyH_ready (rs := [9]) (by kernel_rfl) (by simp) ?_
      refine AllReadyH.cons rfl (fun K hK => ?_) AllReadyH.nil
      rw [if_pos (show Region.wanted _ _ = true from rfl)]
      refine wp_store_mid 96 (.tmp 4) (.tmp 169) rfl (w.heap.size + 1) 0 #[.slice (some ⟨wc.heap.size, 0, none⟩) 1 1, .int .u8 0] rfl rfl hth (by kernel_rfl) one2 ?_
      simp only [Act.put]
      rw [show w4.setCells (w.heap.size + 1) 0 (#[.slice (some ⟨wc.heap.size, 0, none⟩) 1 1, .int .u8 0] : Array Value).toList = ((w4.setCell ⟨w.heap.size + 1, 0, none⟩ (.slice (some ⟨wc.heap.size, 0, none⟩) 1 1)).setCell ⟨w.heap.size + 1, 1, none⟩ (.int .u8 0)) from rfl]
      refine hK.out _ _ (unhide HSX) (fun _ => ?_)
      clear hK hth
      refine wpAnyH_take (i := 10) (oi := _) (v := ?v10_125) rfl (by kernel_rfl) (by kernel_rfl) (by kernel_rfl) (fun _ _ _ h => h) (Or.inl ⟨by kernel_rfl, ?y10_125⟩) (unhide HSX) ?_
      case y10_125 => intro wx hSw; obtain ⟨e1, e2⟩ := hSw; go_simp; first | done | rfl
      simp only [List.getElem_toArray, List.getElem_cons_succ, List.getElem_cons_zero, Act.put, List.setIfInBounds_toArray, List.set_cons_zero, List.set_cons_succ]
      refine wpAnyH_done (by kernel_rfl) ?_ _
      go_wp2
      have q2 := unhide HQ2
      cases mu with
      | false => refine bodyPost_ret (v := .tuple #[.agg #[.slice (some ⟨wc.heap.size, 0, none⟩) 1 1, .int .u8 0], .bool false]) (by simp [results, Tryz.results121, go_sem, q0, q1]) rfl ⟨SgP.no, q2⟩
      | true => refine bodyPost_ret (v := .tuple #[.agg #[.slice (some ⟨wc.heap.size, 0, none⟩) 1 1, .int .u8 0], .bool true]) (by simp [results, Tryz.results121, go_sem, q0, q1]) rfl ⟨SgP.yes (TP.one (unhide HRow) hgN _), q2⟩

theorem sg_gg {w : World} {N : Nat} {m : M8} {vl va vt : Value} {lo : List Int} {s : St} (h : Wk w N m vl lo va vt s) (hl : s.la.length ≤ 1099511627776) (n al of re : Int) (vb ve vx : Value) {M : Mod} (hM : MdL w N M m) :
    Calls Tryz.prog 121 #[.pointer (some ⟨N, 0, none⟩), .agg #[.int .u8 35, .int .i64 n, .int .u32 al, .int .u32 of, .int .u8 re, vb, ve, vx]] w fun e w' => SgP N ((at? M.globs n).map fun g => ⟨[], g.kd⟩) e w' ∧ Below w.heap.size w w' := by
  obtain ⟨ga, gc, hv4⟩ := hM.l.l4.sl
  cases hk : at? M.globs n with
  | none => exact sg_gg0 h hl n al of re vb ve vx hv4 false 0 false (itG_no hM hk)
  | some g => exact sg_gg0 h hl n al of re vb ve vx hv4 true g.kd g.mu (itG_yes hM hk)
theorem sg_gs {w : World} {N : Nat} {m : M8} {vl va vt : Value} {lo : List Int} {s : St} (h : Wk w N m vl lo va vt s) (hl : s.la.length ≤ 1099511627776) (n al of re : Int) (vb ve vx : Value) {M : Mod} (hM : MdL w N M m) :
    Calls Tryz.prog 121 #[.pointer (some ⟨N, 0, none⟩), .agg #[.int .u8 36, .int .i64 n, .int .u32 al, .int .u32 of, .int .u8 re, vb, ve, vx]] w fun e w' => SgP N ((at? M.globs n).bind fun g => if g.mu then some ⟨[g.kd], 0⟩ else none) e w' ∧ Below w.heap.size w w' := by
  obtain ⟨ga, gc, hv4⟩ := hM.l.l4.sl
  cases hk : at? M.globs n with
  | none => exact sg_gs0 h hl n al of re vb ve vx hv4 false 0 false (itG_no hM hk)
  | some g => exact sg_gs0 h hl n al of re vb ve vx hv4 true g.kd g.mu (itG_yes hM hk)
end Vw
end Go.Proofs.YtcpknafaocdjdaaGreatDoor
