/- expr.Count. -/
import Derived.Test.YtjhmglefejclpaaDoorExU
import Derived.Deep.RegionHeld3
import Derived.Deep.DrawnRows
namespace Go.Proofs.YtjhmglefejclpaaDoor
open Go.RowKit
namespace Ex
set_option linter.unusedVariables false
attribute [local go_sem ↓] Go.wp_at_zero Go.wp_at_succ

def CountP (l : List Ins) : Prop := ∀ (g : Nat → Prop) (v : Value) (w : World), Code w g l v → cnt l ≤ 1099511627776 →
  Calls Tryd.prog 13 #[v] w fun e w' => e = .returned (.int .i64 (cnt l : Nat)) ∧ Below w.heap.size w w'

theorem cnt_take {l : List Ins} {j : Nat} (h : j < l.length) : cnt (l.take (j + 1)) = cnt (l.take j) + 1 + cnt l[j].body + cnt l[j].els := by
  rw [List.take_succ_eq_append_getElem h, cnt_app, cnt_cons, cnt_nil]; omega
theorem cnt_take_le (l : List Ins) (j : Nat) : cnt (l.take j) + l.length ≤ cnt l + j := by
  have h := List.take_append_drop j l
  have h2 : cnt l = cnt (l.take j) + cnt (l.drop j) := by rw [← cnt_app, h]
  have := cnt_len (l.drop j)
  rw [List.length_drop] at this
  omega
theorem cnt_sub {l : List Ins} {i : Ins} (h : i ∈ l) : cnt i.body + cnt i.els + 1 ≤ cnt l := by
  induction l with
  | nil => simp at h
  | cons x r ih =>
    rw [cnt_cons]
    rcases List.mem_cons.1 h with rfl | h
    · omega
    · have := ih h; omega
theorem wr64 (x : Int) (h : -9223372036854775808 ≤ x ∧ x < 9223372036854775808) : IntKind.i64.wrap x = x := by rw [IntKind.wrap_i64]; omega
theorem below_drew (w : World) : Below w.heap.size w w.drew := ⟨rfl, rfl, rfl, Nat.le_refl _, fun _ _ => rfl⟩

set_option maxRecDepth 100000 in
set_option maxHeartbeats 3200000 in
theorem count_any (l : List Ins) : CountP l := by
  refine ind2 (P := CountP) (fun l ih => ?_) l
  intro g v w hv hm
  obtain ⟨a, ca, rfl, hca, _, hA⟩ := hv
  have hlen := cnt_len l
  by_cases h0 : 0 < l.length
  · obtain ⟨ba, oa, rfl, _, hla⟩ := hA h0
    have HLa := hide hla; have HIh := hide ih
    clear hA hla ih
    generalize hn : l.length = n at *
    have HN := hide hn; clear hn
    go_enter Tryd.func13, Tryd.ntmps13
    go_wp2_with fail
    go_loopw [3, 10] (fun s c wr => ∃ j : Nat, c = .int .i64 j ∧ (j : Int) ≤ n ∧ s = .int .i64 ((cnt (l.take j) : Int) + ((n : Int) - j)) ∧ Below w.heap.size w wr) (fun _ c _ => n - (intOf c).toNat)
    case atStart => exact ⟨0, rfl, by omega, by simp [cnt_nil], Below.refl _ _⟩
    case round =>
      obtain ⟨j, rfl, hj, rfl, hbel⟩ := hrel
      have HBel := hide hbel; clear hbel
      by_cases hlt : (j : Int) < n
      · have ja : j < l.length := by have := unhide HN; omega
        have hmA : Moves w wr g g := moves_below (unhide HBel) (fun _ _ h => h)
        have iA := ItemAt.move hmA ((unhide HBel).block ba (Items_lt (unhide HLa) (by omega))) (Items_get (unhide HLa) j ja)
        have hI := unhide HIh l[j] (List.getElem_mem ja)
        have hT := cnt_take ja
        have hL := cnt_take_le l j
        have hL2 := cnt_take_le l (j + 1)
        have hS := cnt_sub (List.getElem_mem ja)
        rw [unhide HN] at hL hL2
        generalize hx : l[j] = x at *
        have HX := hide hx
        obtain ⟨vb, ve, vl, hc, h1, h2, h3⟩ := iA
        have H1 := hide h1; have H2 := hide h2
        obtain ⟨c1, cb1, rfl, _⟩ := h1
        obtain ⟨c2, cb2, rfl, _⟩ := h2
        obtain ⟨c3, cb3, rfl, _⟩ := h3
        obtain ⟨e0, e1, e2, e3, e4, e5, e6, e7⟩ := hc
        have hb0 := one_alloc wr (.cells #[.int .u8 x.op, .int .i64 x.n, .int .u32 x.al, .int .u32 x.of, .int .u8 x.re, .slice c1 x.body.length cb1, .slice c2 x.els.length cb2, .slice c3 x.ls.length cb3] 50)
        have qb : ∀ wx, Below (wr.heap.size + 1) (wr.alloc (.cells #[.int .u8 x.op, .int .i64 x.n, .int .u32 x.al, .int .u32 x.of, .int .u8 x.re, .slice c1 x.body.length cb1, .slice c2 x.els.length cb2, .slice c3 x.ls.length cb3] 50)) wx →
            Calls Tryd.prog 13 #[.slice c1 x.body.length cb1] wx fun e w' => e = .returned (.int .i64 (cnt x.body : Nat)) ∧ Below wx.heap.size wx w' := fun wx hwx =>
          hI.1 g _ wx ((unhide H1).below (hb0.trans (hwx.mono (by omega)))) (by omega)
        have qe : ∀ wx, Below (wr.heap.size + 1) (wr.alloc (.cells #[.int .u8 x.op, .int .i64 x.n, .int .u32 x.al, .int .u32 x.of, .int .u8 x.re, .slice c1 x.body.length cb1, .slice c2 x.els.length cb2, .slice c3 x.ls.length cb3] 50)) wx →
            Calls Tryd.prog 13 #[.slice c2 x.els.length cb2] wx fun e w' => e = .returned (.int .i64 (cnt x.els : Nat)) ∧ Below wx.heap.size wx w' := fun wx hwx =>
          hI.2 g _ wx ((unhide H2).below (hb0.trans (hwx.mono (by omega)))) (by omega)
        have QB := hide qb; have QE := hide qe; have HB0 := hide hb0
        generalize hkb : cnt x.body = kb at *
        generalize hke : cnt x.els = ke at *
        generalize x.body.length = lb at *
        generalize x.els.length = le at *
        generalize hct : cnt (l.take j) = ct at *
        have HT := hide hT
        have hsum : (ct : Int) + ((n : Int) - j) + kb + ke ≤ 1099511627776 := by omega
        have hs0 : (0 : Int) ≤ kb ∧ (0 : Int) ≤ ke ∧ (0 : Int) ≤ ct := by omega
        clear hL hL2 hS
        clear qb qe hb0 hI hx hmA hj H1 H2 hkb hke hct hT
        go_wp2_with fail
        generalize hw2 : wr.alloc (.cells #[.int .u8 x.op, .int .i64 x.n, .int .u32 x.al, .int .u32 x.of, .int .u8 x.re, .slice c1 lb cb1, .slice c2 le cb2, .slice c3 x.ls.length cb3] 50) = w2 at *
        have g5 : w2.cell? ⟨wr.heap.size, 5, none⟩ = some (.slice c1 lb cb1) := by rw [← hw2]; simp
        have g6 : w2.cell? ⟨wr.heap.size, 6, none⟩ = some (.slice c2 le cb2) := by rw [← hw2]; simp
        have hz : w2.heap.size = wr.heap.size + 1 := by rw [← hw2]; simp
        have HZ := hide hz
        have HB1 := hide (Below.on (unhide HBel) (unhide HB0))
        clear HB0 HBel
        generalize wr.heap.size = N at *
        clear hw2 e0 e1 e2 e3 e4 e5 e6 e7 hz
        go_region_held3 (fun w' => w'.cell? ⟨N, 5, none⟩ = some (.slice c1 lb cb1) ∧ w'.cell? ⟨N, 6, none⟩ = some (.slice c2 le cb2)) (first | go_keep | exact ⟨r5, r6⟩)
          (first
            | (go_at_call_of 13 (Value.slice c1 lb cb1); refine (unhide QB _ ?_).mono ?_; (exact (below_drew _).mono (by rw [unhide HZ]; omega)); rintro e w3 ⟨rfl, hb3⟩; have r5 := (hb3.cell (p := ⟨N, 5, none⟩) (by show N < w2.heap.size; rw [unhide HZ]; omega)).trans g5; have r6 := (hb3.cell (p := ⟨N, 6, none⟩) (by show N < w2.heap.size; rw [unhide HZ]; omega)).trans g6)
            | (go_at_call_of 13 (Value.slice c2 le cb2); refine (unhide QE _ ?_).mono ?_; (exact ((below_drew w2).mono (by rw [unhide HZ]; omega)).trans (hb3.mono (by show N + 1 ≤ w2.heap.size; rw [unhide HZ]; omega))); have z3 : w2.heap.size ≤ w3.heap.size := hb3.size; rintro e w4 ⟨rfl, hb4⟩; have r5 := (hb4.cell (p := ⟨N, 5, none⟩) (by have := unhide HZ; show N < w3.heap.size; omega)).trans r5; have r6 := (hb4.cell (p := ⟨N, 6, none⟩) (by have := unhide HZ; show N < w3.heap.size; omega)).trans r6))
        have hbb := Below.on (unhide HB1) (Below.on (below_drew w2) (Below.on hb3 hb4))
        have HBB := hide hbb
        clear hbb hb3 hb4 r5 r6 g5 g6 z3
        go_wp2
        go_roundw
        case rel => exact ⟨j + 1, by go_num, by omega, congrArg (Value.int .i64) (by have := unhide HT; rw [wr64 (↑kb + ↑ke) (by omega), wr64 _ (by omega)]; omega), unhide HBB⟩
        case measure => simp [intOf]; omega
      · obtain rfl : j = n := by omega
        clear hj hlt
        go_wp2
        go_ret
        have : l.take j = l := by rw [← unhide HN]; exact List.take_length
        exact ⟨ret_int (by rw [this]; omega), unhide HBel⟩
  · have hl : l = [] := List.eq_nil_of_length_eq_zero (by omega)
    subst hl
    rw [cnt_nil]
    simp only [List.length_nil] at *
    clear hA hca h0 hlen hm ih
    go_enter Tryd.func13, Tryd.ntmps13
    go_wp2_with fail
    go_loopw [3, 10] (fun s c wr => s = .int .i64 0 ∧ c = .int .i64 0 ∧ wr = w) (fun _ c _ => 0)
    case atStart => exact ⟨rfl, rfl, rfl⟩
    case round =>
      obtain ⟨rfl, rfl, rfl⟩ := hrel
      go_wp2
      go_ret
      exact ⟨rfl, Below.refl _ _⟩
end Ex
end Go.Proofs.YtjhmglefejclpaaDoor
