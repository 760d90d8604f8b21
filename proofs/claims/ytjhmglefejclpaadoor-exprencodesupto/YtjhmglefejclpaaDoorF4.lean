/- What the document's Form tells, of any number. -/
import Derived.Test.YtjhmglefejclpaaDoorE1
import Derived.Test.YtjhmglefejclpaaDoorF3
import Derived.Test.YtjhmglefejclpaaDoorE4

/- The document's Count. -/
namespace Go.Proofs.YtjhmglefejclpaaDoor
open Go.RowKit
namespace Ex
set_option linter.unusedVariables false
attribute [local go_sem ↓] Go.wp_at_zero Go.wp_at_succ

def RcP (l : List Ins) : Prop := ∀ (g : Nat → Prop) (v : Value) (w : World), Code w g l v → cnt l ≤ 1099511627776 →
  Calls Tryd.prog 14 #[v] w fun e w' => e = .returned (.int .i64 (cnt l : Nat)) ∧ Below w.heap.size w w'

set_option maxRecDepth 100000 in
set_option maxHeartbeats 3200000 in
theorem rc_any (l : List Ins) : RcP l := by
  refine ind2 (P := RcP) (fun l ih => ?_) l
  intro g v w hv hm
  obtain ⟨a, ca, rfl, hca, _, hA⟩ := hv
  have hlen := cnt_len l
  have HA := hide hA; have HIh := hide ih
  clear hA ih
  generalize hn : l.length = n at *
  have HN := hide hn; clear hn
  go_enter Tryd.func14, Tryd.ntmps14
  go_wp2_with fail
  go_loopw [3, 4] (fun s c wr => ∃ j : Nat, c = .int .i64 j ∧ (j : Int) ≤ n ∧ s = .int .i64 (cnt (l.take j) : Nat) ∧ Below w.heap.size w wr) (fun _ c _ => n - (intOf c).toNat)
  case atStart => exact ⟨0, rfl, by omega, by simp [cnt_nil], Below.refl _ _⟩
  case round =>
    obtain ⟨j, rfl, hj, rfl, hbel⟩ := hrel
    have HBel := hide hbel
    by_cases hlt : (j : Int) < n
    · have ja : j < l.length := by have := unhide HN; omega
      obtain ⟨ba, oa, rfl, hga, hla⟩ := unhide HA (by have := unhide HN; omega)
      have hmA : Moves w wr g g := moves_below hbel (fun _ _ h => h)
      have hba : ba < wr.heap.size := by have := Items_lt hla (by omega); have := hbel.size; omega
      have iA := ItemAt.move hmA (hbel.block ba (Items_lt hla (by omega))) (Items_get hla j ja)
      have hI := unhide HIh l[j] (List.getElem_mem ja)
      have hT := cnt_take ja
      have hL2 := cnt_take_le l (j + 1)
      have hS := cnt_sub (List.getElem_mem ja)
      rw [unhide HN] at hL2
      generalize l[j] = x at *
      obtain ⟨vb, ve, vl, hc, h1, h2, h3⟩ := iA
      have H1 := hide h1; have H2 := hide h2
      obtain ⟨c1, cb1, rfl, _⟩ := h1
      obtain ⟨c2, cb2, rfl, _⟩ := h2
      obtain ⟨e0, e1, e2, e3, e4, e5, e6, e7⟩ := hc
      have qb : ∀ wx, Below wr.heap.size wr wx → Calls Tryd.prog 14 #[.slice c1 x.body.length cb1] wx fun e w' => e = .returned (.int .i64 (cnt x.body : Nat)) ∧ Below wx.heap.size wx w' := fun wx hwx =>
        hI.1 g _ wx ((unhide H1).below hwx) (by omega)
      have qe : ∀ wx, Below wr.heap.size wr wx → Calls Tryd.prog 14 #[.slice c2 x.els.length cb2] wx fun e w' => e = .returned (.int .i64 (cnt x.els : Nat)) ∧ Below wx.heap.size wx w' := fun wx hwx =>
        hI.2 g _ wx ((unhide H2).below hwx) (by omega)
      have QB := hide qb; have QE := hide qe; have HBa := hide hba
      generalize cnt x.body = kb at *
      generalize cnt x.els = ke at *
      generalize x.body.length = lb at *
      generalize x.els.length = le at *
      generalize cnt (l.take j) = ct at *
      have HT := hide hT
      have hsum : (ct : Int) + 1 + kb + ke ≤ 1099511627776 := by omega
      have hs0 : (0 : Int) ≤ kb ∧ (0 : Int) ≤ ke ∧ (0 : Int) ≤ ct := by omega
      clear hmA hla hga hI hbel qb qe hba e0 e1 e2 e3 e4 e7 H1 H2 hT hL2 hS h3
      go_wp2_with fail
      go_region_held3 (fun w' => w'.cell? ⟨ba, oa + j * 8 + 5, none⟩ = some (.slice c1 lb cb1) ∧ w'.cell? ⟨ba, oa + j * 8 + 6, none⟩ = some (.slice c2 le cb2))
        (first | go_keep | exact ⟨(hk2 _).trans e5, (hk2 _).trans e6⟩)
        (first
          | (go_at_call_of 14 (Value.slice c1 lb cb1); refine (unhide QB _ (below_drew wr)).mono ?_; rintro e w3 ⟨rfl, hb3⟩; have HB3 := hide (Below.on (below_drew wr) hb3); clear hb3; have hk2 : ∀ o, w3.cell? ⟨ba, o, none⟩ = wr.cell? ⟨ba, o, none⟩ := fun o => fin_cell (unhide HB3) (unhide HBa) o)
          | (go_at_call_of 14 (Value.slice c2 le cb2); refine (unhide QE _ (unhide HB3)).mono ?_; rintro e w4 ⟨rfl, hb4⟩; have HB4 := hide (Below.on (unhide HB3) hb4); clear hb4; have hk2 : ∀ o, w4.cell? ⟨ba, o, none⟩ = wr.cell? ⟨ba, o, none⟩ := fun o => fin_cell (unhide HB4) (unhide HBa) o))
      have HBB := hide (Below.on (unhide HBel) (unhide HB4))
      clear hk2 e5 e6 HB3 HB4
      go_wp2
      go_roundw
      case rel => exact ⟨j + 1, by go_num, by omega, congrArg (Value.int .i64) (by have := unhide HT; rw [wr64 ((ct : Int) + 1) (by omega), wr64 ((ct : Int) + 1 + kb) (by omega), wr64 _ (by omega)]; omega), unhide HBB⟩
      case measure => simp [intOf]; omega
    · obtain rfl : j = n := by omega
      clear hj hlt hbel
      go_wp2
      go_ret
      have : l.take j = l := by rw [← unhide HN]; exact List.take_length
      exact ⟨ret_int (by rw [this]), unhide HBel⟩
end Ex
end Go.Proofs.YtjhmglefejclpaaDoor

/- The document's May. -/
namespace Go.Proofs.YtjhmglefejclpaaDoor
open Go.RowKit
namespace Ex
set_option linter.unusedVariables false
set_option linter.unusedSimpArgs false
attribute [local go_sem ↓] Go.wp_at_zero Go.wp_at_succ

set_option maxRecDepth 100000 in
set_option maxHeartbeats 1600000 in
theorem mayr_any (l : List Ins) (g : Nat → Prop) (v : Value) (w : World) (hv : Code w g l v) (hc : cnt l ≤ 1099511627776) (hll : l.length ≤ 1099511627776) (hsz : Sz 1099511627776 l) (hwf : Wf l) (hF : FormH) :
    Calls Tryd.prog 17 #[v] w fun e w' => e = .returned (.bool (decide (cnt l ≤ 16384) && may 0 l)) ∧ Below w.heap.size w w' := by
  have q1 := rc_any l g v w hv hc
  have q2 := fun wx (hb : Below w.heap.size w wx) => each_any l g v 0 wx (hv.below hb) hll hsz hwf (by omega) hF
  have Q1 := hide q1; have Q2 := hide q2
  obtain ⟨a, ca, rfl, _⟩ := hv
  clear q1 q2 hsz hwf hF
  by_cases h : cnt l ≤ 16384
  · have hz : ((cnt l : Nat) : Int) ≤ 16384 := by omega
    rw [decide_eq_true h, Bool.true_and]
    go_enter Tryd.func17, Tryd.ntmps17
    go_wp2_with fail
    refine (unhide Q1).mono ?_
    rintro e w1 ⟨rfl, hb1⟩
    have HB1 := hide hb1; clear hb1
    go_wp2_with fail
    refine (unhide Q2 _ (unhide HB1)).mono ?_
    rintro e w2 ⟨rfl, hb2⟩
    have HB2 := hide (Below.on (unhide HB1) hb2); clear hb2
    go_wp2
    go_ret
    exact ⟨rfl, unhide HB2⟩
  · have hz : ¬ ((cnt l : Nat) : Int) ≤ 16384 := by omega
    rw [decide_eq_false h, Bool.false_and]
    go_enter Tryd.func17, Tryd.ntmps17
    go_wp2_with fail
    refine (unhide Q1).mono ?_
    rintro e w1 ⟨rfl, hb1⟩
    have HB1 := hide hb1; clear hb1
    go_wp2
    go_ret
    exact ⟨rfl, unhide HB1⟩
end Ex
end Go.Proofs.YtjhmglefejclpaaDoor

/- What the document's Form tells, of any number. -/
namespace Go.Proofs.YtjhmglefejclpaaDoor
open Go.RowKit
namespace Ex
theorem formH : FormH := by
  intro op w h0 h1
  obtain ⟨n, rfl⟩ := Int.eq_ofNat_of_zero_le h0
  have h := formr_all n (by omega)
  have e : (frm (n : Int)).isSome = (fam n).isSome := by unfold frm; cases fam (n : Int) <;> rfl
  rw [e]
  exact h w
end Ex
end Go.Proofs.YtjhmglefejclpaaDoor
