/- The document's Load. -/
import Derived.Test.YtdeblcbdapggnaaMemP
namespace Go.Proofs.Ytdeblcbdapggnaa
open Go.RowKit Mm
set_option linter.unusedVariables false

theorem bytes_at {zs : List Int} (h : ∀ z ∈ zs, 0 ≤ z ∧ z ≤ 255) (i : Nat) : 0 ≤ zs[i]?.getD 0 ∧ zs[i]?.getD 0 ≤ 255 := by
  by_cases hi : i < zs.length
  · have := h zs[i] (List.getElem_mem hi)
    simpa [hi] using this
  · simp [hi]

set_option maxHeartbeats 2000000 in
theorem refLoad_yes {w : World} {B P : Nat} {v : Value} {zs : List Int} (h : LRow w B v (nz zs 0)) (hby : ∀ z ∈ zs, 0 ≤ z ∧ z ≤ 255) (k a o s : Int) (hP : P ≤ 16) (ha : U64 a) (ho : U64 o) (hf : fits (P * 4096) a o s = true) :
    Calls Try.prog 12 #[.agg #[.int .i64 P, .int .i64 k, v], .int .u64 a, .int .u64 o, .int .i64 s] w fun e w' =>
      e = .returned (.tuple #[.int .u64 (ldZ zs (a + o).toNat s.toNat), .bool true]) ∧ Below w.heap.size w w' := by
  obtain ⟨ad, cap, rfl, hc1, hc2, _⟩ := h.shape
  obtain ⟨h1, h2⟩ := fits_iff.1 hf
  have hhas := fun wx => has_any P cap (nz zs 0).length ad k a o s wx hP ha ho
  rw [hf] at hhas
  obtain ⟨a0, a1⟩ := ha
  obtain ⟨o0, o1⟩ := ho
  obtain ⟨f, hfe⟩ := Int.eq_ofNat_of_zero_le (show 0 ≤ a + o by omega)
  obtain ⟨s', rfl⟩ := Int.eq_ofNat_of_zero_le (show 0 ≤ s by omega)
  rw [hfe]
  simp only [Int.toNat_natCast]
  have hs8 : s' ≤ 8 := by omega
  have hs1 : 1 ≤ s' := by omega
  have hfn : f + s' ≤ 65536 := by omega
  have hw1 : Below w.heap.size w (w.alloc (.cells #[.int .i64 P, .int .i64 k, .slice ad (nz zs 0).length cap] 31)) := (Below.refl _ _).alloc (Nat.le_refl _) _
  have hbox : (w.alloc (.cells #[.int .i64 P, .int .i64 k, .slice ad (nz zs 0).length cap] 31)).heap[w.heap.size]? = some (.cells #[.int .i64 P, .int .i64 k, .slice ad (nz zs 0).length cap] 31 (0, 0)) := heap_alloc_new _ _
  have hnz := fun i : Nat => nz_get zs 0 i (Nat.zero_le _)
  simp only [Nat.sub_zero] at hnz
  generalize nz zs 0 = L at *
  have H := hide h; have HW := hide hw1; have HBX := hide hbox; have HH := hide hhas; have HE := hide hfe; have HNZ := hide hnz
  clear h hw1 hf hhas h1 h2 hbox hfe hc2 hnz
  go_enter Try.func12, Try.ntmps12
  go_wp2_with fail
  refine (unhide HH _).mono ?_
  rintro e w1 ⟨rfl, hb1⟩
  have hb1' : Below (w.heap.size + 1) (w.alloc (.cells #[.int .i64 P, .int .i64 k, .slice ad L.length cap] 31)) w1 := by simpa using hb1
  have hbx1 := (hb1'.block w.heap.size (by omega)).trans (unhide HBX)
  have hB1 := (unhide HW).trans (hb1'.mono (by omega))
  have HB := hide hB1; have HX := hide hbx1
  clear hb1 hb1' hB1 hbx1 HBX HW HH
  go_wp2_with fail
  go_loopw [10, 11] (fun x i wr => ∃ j : Nat, j ≤ s' ∧ i = .int .i64 ((j : Int) - 1) ∧ x = .int .u64 (ldZ zs (f + j) (s' - j)) ∧ Below w.heap.size w wr ∧ wr.heap[w.heap.size]? = some (.cells #[.int .i64 P, .int .i64 k, .slice ad L.length cap] 31 (0, 0))) (fun _ i _ => (intOf i + 1).toNat)
  case atStart => exact ⟨s', by omega, rfl, by rw [Nat.sub_self]; rfl, unhide HB, unhide HX⟩
  case round =>
    obtain ⟨j, hj, rfl, rfl, hbr, hxr⟩ := hrel
    clear HB HX
    cases j with
    | zero =>
      have HB := hide hbr
      clear hbr hxr
      simp only [Nat.add_zero, Nat.sub_zero]
      go_wp2
      go_ret2
      exact ⟨rfl, unhide HB⟩
    | succ j =>
      have hLr := (unhide H).below (w' := wr) hbr
      have hget := get_any hLr P k ((f + j : Nat) : Int)
      rw [unhide HNZ (f + j)] at hget
      have hld : ldZ zs (f + j) (s' - j) = zs[f + j]?.getD 0 + 256 * ldZ zs (f + (j + 1)) (s' - (j + 1)) := by
        rw [show s' - j = (s' - (j + 1)) + 1 from by omega, ldZ]; rfl
      have hbd := ldZ_bd (s' - (j + 1)) zs (f + (j + 1)) (bytes_at hby)
      have hbz := bytes_at hby (f + j)
      have hp : (256 : Int) ^ (s' - (j + 1)) ≤ 72057594037927936 := by
        rcases (show s' - (j + 1) = 0 ∨ s' - (j + 1) = 1 ∨ s' - (j + 1) = 2 ∨ s' - (j + 1) = 3 ∨ s' - (j + 1) = 4 ∨ s' - (j + 1) = 5 ∨ s' - (j + 1) = 6 ∨ s' - (j + 1) = 7 from by omega) with h | h | h | h | h | h | h | h <;> rw [h] <;> decide
      have hv1 : ldZ zs (f + (j + 1)) (s' - (j + 1)) < 72057594037927936 := by omega
      have hv0 := hbd.1
      have hc0 : wr.cell? ⟨w.heap.size, 0, none⟩ = some (.int .i64 P) := by rw [cell_of_row wr _ 0 _ _ _ hxr]; rfl
      have hc1' : wr.cell? ⟨w.heap.size, 1, none⟩ = some (.int .i64 k) := by rw [cell_of_row wr _ 1 _ _ _ hxr]; rfl
      have hc2' : wr.cell? ⟨w.heap.size, 2, none⟩ = some (.slice ad L.length cap) := by rw [cell_of_row wr _ 2 _ _ _ hxr]; rfl
      have hfe := unhide HE
      have eadd : a + o + (j : Int) = ((f + j : Nat) : Int) := by omega
      have e1 : ((j + 1 : Nat) : Int) - 1 = (j : Int) := by omega
      rw [e1]
      generalize ldZ zs (f + (j + 1)) (s' - (j + 1)) = V at *
      generalize zs[f + j]?.getD 0 = z at *
      have hw' : w.heap.size < wr.heap.size := (Array.getElem?_eq_some_iff.1 hxr).1
      have hao : a + o ≤ 65536 := by omega
      have hj8 : (j : Int) ≤ 7 := by omega
      have HB := hide hbr; have HX := hide hxr; have HG := hide hget; have HLD := hide hld; have HA := hide eadd
      clear hbr hxr hget hld hbd hp hLr e1 hfe eadd
      go_wp2_with fail
      rw [unhide HA]
      refine (unhide HG).mono ?_
      rintro e w2 ⟨rfl, hb2⟩
      have hB2 := Below.on (unhide HB) hb2
      have hx2 := (hb2.block w.heap.size hw').trans (unhide HX)
      have HB2 := hide hB2; have HX2 := hide hx2
      clear HB HX HG hb2 hB2 hx2
      go_wp2
      go_roundw
      case rel => exact ⟨j, by omega, by go_num, by rw [unhide HLD]; go_num, unhide HB2, unhide HX2⟩
      case measure => simp [intOf]; try omega

set_option maxHeartbeats 1000000 in
theorem refLoad_no (P cap m : Nat) (ad : Option Addr) (k a o s : Int) (w : World) (hP : P ≤ 16) (ha : U64 a) (ho : U64 o) (hf : fits (P * 4096) a o s = false) :
    Calls Try.prog 12 #[.agg #[.int .i64 P, .int .i64 k, .slice ad m cap], .int .u64 a, .int .u64 o, .int .i64 s] w fun e w' => e = .returned (.tuple #[.int .u64 0, .bool false]) ∧ Below w.heap.size w w' := by
  have hhas := fun wx => has_any P cap m ad k a o s wx hP ha ho
  rw [hf] at hhas
  have HH := hide hhas
  clear hhas hf ha ho
  go_enter Try.func12, Try.ntmps12
  go_wp2_with fail
  refine (unhide HH _).mono ?_
  rintro e w1 ⟨rfl, hb1⟩
  have HB := hide (Below.on ((Below.refl _ _).alloc (Nat.le_refl _) _) hb1)
  clear hb1
  go_wp2
  go_ret2
  exact ⟨rfl, unhide HB⟩
end Go.Proofs.Ytdeblcbdapggnaa
