/- ops.familyOf: what it returns. -/
import Derived.Test.YtpecnljcgiicaaaDoorOpD
namespace Go.Proofs.YtpecnljcgiicaaaDoor
open Go.RowKit
set_option linter.unusedVariables false

def fmC (x : Fam) : List Value := [.int .u8 x.f, .int .u8 x.l, .int .i64 x.o, .int .u8 x.x, .int .u8 x.y, .int .u8 x.g]
def fmV : List Value := fms.flatMap fmC
def inX (n : Int) (x : Fam) : Bool := decide (x.f ≤ n) && decide (n ≤ x.l)
def fam (n : Int) : Option Fam := fms.find? (inX n)
def zf : Fam := ⟨0, 0, 0, 0, 0, 0⟩

/-- the j-th of the families, as cells -/
theorem fm_at : ∀ j : Nat, j < 32 → ∃ x, fms[j]? = some x ∧ (∀ wx, (Instr.index 144 (.agg fmV.toArray) (.int .i64 (j : Int))).run Tryd.prog wx = .ok (.agg #[.int .u8 x.f, .int .u8 x.l, .int .i64 x.o, .int .u8 x.x, .int .u8 x.y, .int .u8 x.g]) wx) ∧ 0 ≤ x.f ∧ x.f ≤ 255 ∧ 0 ≤ x.l ∧ x.l ≤ 255 := by
  intro j hj
  match j, hj with
  | 0, _ => exact ⟨_, rfl, fun _ => by kernel_rfl, by decide⟩
  | 1, _ => exact ⟨_, rfl, fun _ => by kernel_rfl, by decide⟩
  | 2, _ => exact ⟨_, rfl, fun _ => by kernel_rfl, by decide⟩
  | 3, _ => exact ⟨_, rfl, fun _ => by kernel_rfl, by decide⟩
  | 4, _ => exact ⟨_, rfl, fun _ => by kernel_rfl, by decide⟩
  | 5, _ => exact ⟨_, rfl, fun _ => by kernel_rfl, by decide⟩
  | 6, _ => exact ⟨_, rfl, fun _ => by kernel_rfl, by decide⟩
  | 7, _ => exact ⟨_, rfl, fun _ => by kernel_rfl, by decide⟩
  | 8, _ => exact ⟨_, rfl, fun _ => by kernel_rfl, by decide⟩
  | 9, _ => exact ⟨_, rfl, fun _ => by kernel_rfl, by decide⟩
  | 10, _ => exact ⟨_, rfl, fun _ => by kernel_rfl, by decide⟩
  | 11, _ => exact ⟨_, rfl, fun _ => by kernel_rfl, by decide⟩
  | 12, _ => exact ⟨_, rfl, fun _ => by kernel_rfl, by decide⟩
  | 13, _ => exact ⟨_, rfl, fun _ => by kernel_rfl, by decide⟩
  | 14, _ => exact ⟨_, rfl, fun _ => by kernel_rfl, by decide⟩
  | 15, _ => exact ⟨_, rfl, fun _ => by kernel_rfl, by decide⟩
  | 16, _ => exact ⟨_, rfl, fun _ => by kernel_rfl, by decide⟩
  | 17, _ => exact ⟨_, rfl, fun _ => by kernel_rfl, by decide⟩
  | 18, _ => exact ⟨_, rfl, fun _ => by kernel_rfl, by decide⟩
  | 19, _ => exact ⟨_, rfl, fun _ => by kernel_rfl, by decide⟩
  | 20, _ => exact ⟨_, rfl, fun _ => by kernel_rfl, by decide⟩
  | 21, _ => exact ⟨_, rfl, fun _ => by kernel_rfl, by decide⟩
  | 22, _ => exact ⟨_, rfl, fun _ => by kernel_rfl, by decide⟩
  | 23, _ => exact ⟨_, rfl, fun _ => by kernel_rfl, by decide⟩
  | 24, _ => exact ⟨_, rfl, fun _ => by kernel_rfl, by decide⟩
  | 25, _ => exact ⟨_, rfl, fun _ => by kernel_rfl, by decide⟩
  | 26, _ => exact ⟨_, rfl, fun _ => by kernel_rfl, by decide⟩
  | 27, _ => exact ⟨_, rfl, fun _ => by kernel_rfl, by decide⟩
  | 28, _ => exact ⟨_, rfl, fun _ => by kernel_rfl, by decide⟩
  | 29, _ => exact ⟨_, rfl, fun _ => by kernel_rfl, by decide⟩
  | 30, _ => exact ⟨_, rfl, fun _ => by kernel_rfl, by decide⟩
  | 31, _ => exact ⟨_, rfl, fun _ => by kernel_rfl, by decide⟩
  | j + 32, h => omega
theorem fam_yes {n : Int} {j : Nat} {x : Fam} (h : fms[j]? = some x) (h2 : inX n x = true) (hno : ∀ i y, i < j → fms[i]? = some y → inX n y = false) : fam n = some x := by
  obtain ⟨hl, rfl⟩ := List.getElem?_eq_some_iff.1 h
  refine List.find?_eq_some_iff_getElem.2 ⟨h2, j, hl, rfl, fun i hi => ?_⟩
  rw [hno i _ hi (List.getElem?_eq_getElem (by omega))]
  rfl
theorem fam_no {n : Int} (h : ∀ i y, i < 32 → fms[i]? = some y → inX n y = false) : fam n = none := by
  refine List.find?_eq_none.2 fun x hx h2 => ?_
  obtain ⟨i, hi⟩ := List.getElem?_of_mem hx
  have hl : i < fms.length := (List.getElem?_eq_some_iff.1 hi).1
  rw [h i x hl hi] at h2
  exact absurd h2 (by decide)
/-- what familyOf hands back -/
def famR (o : Option Fam) : Value := match o with
  | some x => .tuple #[.agg #[.int .u8 x.f, .int .u8 x.l, .int .i64 x.o, .int .u8 x.x, .int .u8 x.y, .int .u8 x.g], errV 0]
  | none => .tuple #[.agg #[.int .u8 0, .int .u8 0, .int .i64 0, .int .u8 0, .int .u8 0, .int .u8 0], errV 1]

/-- six cells written -/
theorem set6 (w : World) (b : Nat) (t : TypeId) (x0 x1 x2 x3 x4 x5 v0 v1 v2 v3 v4 v5 : Value) (h : w.heap[b]? = some (.cells #[x0, x1, x2, x3, x4, x5] t (0, 0))) :
    ((((((w.setCell ⟨b, 0, none⟩ v0).setCell ⟨b, 1, none⟩ v1).setCell ⟨b, 2, none⟩ v2).setCell ⟨b, 3, none⟩ v3).setCell ⟨b, 4, none⟩ v4).setCell ⟨b, 5, none⟩ v5).heap[b]? = some (.cells #[v0, v1, v2, v3, v4, v5] t (0, 0)) := by
  have h0 := heap_setCell_same w b 0 _ _ v0 h
  have h1 := heap_setCell_same _ b 1 _ _ v1 h0
  have h2 := heap_setCell_same _ b 2 _ _ v2 h1
  have h3 := heap_setCell_same _ b 3 _ _ v3 h2
  have h4 := heap_setCell_same _ b 4 _ _ v4 h3
  have h5 := heap_setCell_same _ b 5 _ _ v5 h4
  rw [h5]; rfl
theorem bel6 {B : Nat} {a w : World} (h : Below B a w) (b : Nat) (hb : B ≤ b) (v0 v1 v2 v3 v4 v5 : Value) :
    Below B a ((((((w.setCell ⟨b, 0, none⟩ v0).setCell ⟨b, 1, none⟩ v1).setCell ⟨b, 2, none⟩ v2).setCell ⟨b, 3, none⟩ v3).setCell ⟨b, 4, none⟩ v4).setCell ⟨b, 5, none⟩ v5) :=
  (((((h.setCell (p := ⟨b, 0, none⟩) hb v0).setCell (p := ⟨b, 1, none⟩) hb v1).setCell (p := ⟨b, 2, none⟩) hb v2).setCell (p := ⟨b, 3, none⟩) hb v3).setCell (p := ⟨b, 4, none⟩) hb v4).setCell (p := ⟨b, 5, none⟩) hb v5

set_option maxRecDepth 100000 in
set_option maxHeartbeats 1600000 in
theorem family_any (n : Nat) (hn : n < 256) (w : World) (hT : TC w 0 fmV) :
    Calls Tryd.prog 90 #[.int .u8 n] w fun e w' => e = .returned (famR (fam n)) ∧ Below w.heap.size w w' := by
  obtain ⟨hgl, tt, fr, hg0⟩ := hT
  have hla : fmV.toArray.size = 192 := rfl
  have hat := fm_at
  generalize hA : fmV.toArray = vs at *
  have HA := hide hat; clear hA hat
  have hg : (w.alloc (.cells #[.int .u8 0, .int .u8 0, .int .i64 0, .int .u8 0, .int .u8 0, .int .u8 0] 140)).heap[0]? = some (.cells vs tt fr) := by
    exact (((Below.refl w.heap.size w).alloc (Nat.le_refl _) _).block _ hgl).trans hg0
  clear hg0
  go_enter Tryd.func90, Tryd.ntmps90
  go_wp2_with (refine wpList_load_row rfl 144 _ rfl 0 rfl tt _ fr _ hg Tryd.underlying144 rfl (by rw [hla]; kernel_rfl) ?_)
  clear hg hgl
  have h0 : Below w.heap.size w (w.alloc (.cells #[.int .u8 0, .int .u8 0, .int .i64 0, .int .u8 0, .int .u8 0, .int .u8 0] 140)) := (Below.refl _ _).alloc (Nat.le_refl _) _
  have r0 : (w.alloc (.cells #[.int .u8 0, .int .u8 0, .int .i64 0, .int .u8 0, .int .u8 0, .int .u8 0] 140)).heap[w.heap.size]? = some (.cells #[.int .u8 0, .int .u8 0, .int .i64 0, .int .u8 0, .int .u8 0, .int .u8 0] 140 (0, 0)) := by show (w.heap.push _)[w.heap.size]? = _; rw [Array.getElem?_push_size]
  have s0 : (w.alloc (.cells #[.int .u8 0, .int .u8 0, .int .i64 0, .int .u8 0, .int .u8 0, .int .u8 0] 140)).heap.size = w.heap.size + 1 := by show (w.heap.push _).size = _; rw [Array.size_push]
  generalize w.alloc (.cells #[.int .u8 0, .int .u8 0, .int .i64 0, .int .u8 0, .int .u8 0, .int .u8 0] 140) = w1 at *
  have H0 := hide h0; have R0 := hide r0; have S0 := hide s0
  clear h0 r0 s0
  generalize hB : w.heap.size = B at *
  have HB := hide hB; clear hB
  go_loopw [7] (fun c wr => ∃ (j : Nat), c = .int .i64 j ∧ (j : Int) ≤ 32 ∧ (∀ i x, i < j → fms[i]? = some x → inX n x = false) ∧ Below (B + 1) w1 wr) (fun c _ => (32 - intOf c).toNat)
  case atStart => exact ⟨0, rfl, by omega, fun i x hi => absurd hi (by omega), Below.refl _ _⟩
  case round =>
    obtain ⟨j, rfl, hj, hno, hbel⟩ := hrel
    have hB : B < wr.heap.size := by have := hbel.size; have := unhide S0; omega
    have hrow := (hbel.block B (by omega)).trans (unhide R0)
    have cc : ∀ i v, #[Value.int .u8 0, .int .u8 0, .int .i64 0, .int .u8 0, .int .u8 0, .int .u8 0][i]? = some v → wr.cell? ⟨B, i, none⟩ = some v := fun i v h => by rw [cell_of_row wr B i _ _ _ hrow]; exact h
    have c0 := cc 0 _ rfl; have c1 := cc 1 _ rfl; have c2 := cc 2 _ rfl; have c3 := cc 3 _ rfl; have c4 := cc 4 _ rfl; have c5 := cc 5 _ rfl
    have ff : ∀ i, wr.frozen? ⟨B, i, none⟩ = false := fun i => by simp [World.frozen?, hrow]
    clear cc
    have HN := hide hno; have HBe := hide hbel; have HR := hide hrow
    clear hno hbel hrow
    by_cases hlt : (j : Int) < 32
    · obtain ⟨x, hx, he, x0, x1, x2, x3⟩ := unhide HA j (by omega)
      obtain ⟨a, b, o, y, z, g⟩ := x
      simp only at he x0 x1 x2 x3
      have HX := hide hx; clear hx hj
      by_cases t1 : a ≤ (n : Int)
      · by_cases t2 : (n : Int) ≤ b
        · have hy := fam_yes (n := n) (unhide HX) (by simp [inX, t1, t2]) (unhide HN)
          have HY := hide hy; clear hy
          go_wp2
          have hr := set6 wr B _ _ _ _ _ _ _ (.int .u8 a) (.int .u8 b) (.int .i64 o) (.int .u8 y) (.int .u8 z) (.int .u8 g) (unhide HR)
          have hb := bel6 (unhide H0 |>.trans ((unhide HBe).mono (by omega))) B (Nat.le_refl _) (.int .u8 a) (.int .u8 b) (.int .i64 o) (.int .u8 y) (.int .u8 z) (.int .u8 g)
          have hz : B < ((((((wr.setCell ⟨B, 0, none⟩ (.int .u8 a)).setCell ⟨B, 1, none⟩ (.int .u8 b)).setCell ⟨B, 2, none⟩ (.int .i64 o)).setCell ⟨B, 3, none⟩ (.int .u8 y)).setCell ⟨B, 4, none⟩ (.int .u8 z)).setCell ⟨B, 5, none⟩ (.int .u8 g)).heap.size := (Array.getElem?_eq_some_iff.1 hr).1
          rw [unhide HY, famR, errV_0]
          clear c0 c1 c2 c3 c4 c5 ff he HR
          generalize (((((wr.setCell ⟨B, 0, none⟩ (.int .u8 a)).setCell ⟨B, 1, none⟩ (.int .u8 b)).setCell ⟨B, 2, none⟩ (.int .i64 o)).setCell ⟨B, 3, none⟩ (.int .u8 y)).setCell ⟨B, 4, none⟩ (.int .u8 z)).setCell ⟨B, 5, none⟩ (.int .u8 g) = W2 at *
          have c0 := cell_of_row W2 B 0 _ _ _ hr; have c1 := cell_of_row W2 B 1 _ _ _ hr; have c2 := cell_of_row W2 B 2 _ _ _ hr; have c3 := cell_of_row W2 B 3 _ _ _ hr; have c4 := cell_of_row W2 B 4 _ _ _ hr; have c5 := cell_of_row W2 B 5 _ _ _ hr
          simp only [List.getElem?_toArray, List.getElem?_cons_zero, List.getElem?_cons_succ] at c0 c1 c2 c3 c4 c5
          refine bodyPost_ret (v := .tuple #[.agg #[.int .u8 a, .int .u8 b, .int .i64 o, .int .u8 y, .int .u8 z, .int .u8 g], .nilIface]) (by simp [results, Tryd.results90, go_sem, c0, c1, c2, c3, c4, c5, hz]) rfl ⟨rfl, ?_⟩
          rw [unhide HB]
          exact hb.alloc (by omega) _
        · have hno : inX (n : Int) ⟨a, b, o, y, z, g⟩ = false := by simp [inX, t2]
          have HF := hide hno; clear hno
          go_wp2
          go_roundw
          case rel => exact ⟨j + 1, by go_num, by omega, fun i x hi hx => by
            by_cases e : i = j
            · subst e
              obtain rfl := Option.some.inj ((unhide HX).symm.trans hx)
              exact unhide HF
            · exact unhide HN i x (by omega) hx, (unhide HBe).alloc (by omega) _⟩
          case measure => simp [intOf]; omega
      · have hno : inX (n : Int) ⟨a, b, o, y, z, g⟩ = false := by simp [inX, t1]
        have HF := hide hno; clear hno
        go_wp2
        go_roundw
        case rel => exact ⟨j + 1, by go_num, by omega, fun i x hi hx => by
          by_cases e : i = j
          · subst e
            obtain rfl := Option.some.inj ((unhide HX).symm.trans hx)
            exact unhide HF
          · exact unhide HN i x (by omega) hx, (unhide HBe).alloc (by omega) _⟩
        case measure => simp [intOf]; omega
    · obtain rfl : j = 32 := by omega
      clear hj hlt
      go_wp2
      have hr := set6 wr B _ _ _ _ _ _ _ (.int .u8 0) (.int .u8 0) (.int .i64 0) (.int .u8 0) (.int .u8 0) (.int .u8 0) (unhide HR)
      have hb := bel6 (unhide H0 |>.trans ((unhide HBe).mono (by omega))) B (Nat.le_refl _) (.int .u8 0) (.int .u8 0) (.int .i64 0) (.int .u8 0) (.int .u8 0) (.int .u8 0)
      rw [fam_no (unhide HN), famR, errV_1]
      clear c0 c1 c2 c3 c4 c5 ff HR
      generalize (((((wr.setCell ⟨B, 0, none⟩ (.int .u8 0)).setCell ⟨B, 1, none⟩ (.int .u8 0)).setCell ⟨B, 2, none⟩ (.int .i64 0)).setCell ⟨B, 3, none⟩ (.int .u8 0)).setCell ⟨B, 4, none⟩ (.int .u8 0)).setCell ⟨B, 5, none⟩ (.int .u8 0) = W2 at *
      have c0 := cell_of_row W2 B 0 _ _ _ hr; have c1 := cell_of_row W2 B 1 _ _ _ hr; have c2 := cell_of_row W2 B 2 _ _ _ hr; have c3 := cell_of_row W2 B 3 _ _ _ hr; have c4 := cell_of_row W2 B 4 _ _ _ hr; have c5 := cell_of_row W2 B 5 _ _ _ hr
      simp only [List.getElem?_toArray, List.getElem?_cons_zero, List.getElem?_cons_succ] at c0 c1 c2 c3 c4 c5
      refine bodyPost_ret (v := .tuple #[.agg #[.int .u8 0, .int .u8 0, .int .i64 0, .int .u8 0, .int .u8 0, .int .u8 0], .iface 64 (.int .i64 1)]) (by simp [results, Tryd.results90, go_sem, c0, c1, c2, c3, c4, c5]) rfl ⟨rfl, ?_⟩
      rw [unhide HB]
      exact hb
end Go.Proofs.YtpecnljcgiicaaaDoor
