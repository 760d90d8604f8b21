/- copyWithRoom: a row of its own, with the bytes that were handed in, and room behind them. -/
import Derived.Test.YtjhmglefejclpaaDoorSizes
import Derived.Laws.CopyOwn
namespace Go.Proofs.YtjhmglefejclpaaDoor
open Go.RowKit

/-- A slice of bytes: its elements are zs. Of an empty one nothing is asked of the address. -/
def Row (w : World) (a : Option Addr) (len : Nat) (zs : List Int) : Prop :=
  zs.length = len ∧ (∀ z ∈ zs, 0 ≤ z ∧ z ≤ 255) ∧
  (0 < len → ∃ b off, a = some ⟨b, off, none⟩ ∧ b < w.heap.size ∧ ∀ i, i < len → w.cell? ⟨b, off + i, none⟩ = some (.int .u8 (zs.getD i 0)))

theorem Row.below {w w' : World} {a : Option Addr} {len : Nat} {zs : List Int} (h : Row w a len zs) {B : Nat} (hB : w.heap.size ≤ B) (hb : Below B w w') : Row w' a len zs := by
  refine ⟨h.1, h.2.1, fun hl => ?_⟩
  obtain ⟨b, off, rfl, hlt, hc⟩ := h.2.2 hl
  exact ⟨b, off, rfl, Nat.lt_of_lt_of_le hlt hb.size, fun i hi => (hb.cell (p := ⟨b, off + i, none⟩) (by simp; omega)).trans (hc i hi)⟩

theorem Row.nil (w : World) : Row w none 0 [] := ⟨rfl, by simp, by simp⟩

/-- An owned row, read as a slice. -/
theorem Row.own {w : World} {base g n cap : Nat} {zs : List Int} (h : w.ownsRow base 5 1 (.slice (some ⟨g, 0, none⟩) n cap) n (zs.map (Value.int .u8))) (hz : ∀ z ∈ zs, 0 ≤ z ∧ z ≤ 255) : Row w (some ⟨g, 0, none⟩) n zs := by
  have hl : zs.length = n := by have := h.1; simpa using this
  refine ⟨hl, hz, fun _ => ⟨g, 0, rfl, (h.lt g rfl).2, fun i hi => ?_⟩⟩
  have := h.cellAt i (by omega)
  rw [show (0 + i) = i from by omega, this]
  simp [List.getD, List.getElem?_eq_getElem (show i < zs.length by omega)]

theorem Tryd.info5 : (Tryd.prog.info? 5).map (fun i => (i.zero, i.size, i.bytes)) = some (some (.int .u8 0), 1, 1) := by kernel_rfl

theorem addr_add (b off j : Nat) : (⟨b, off, none⟩ : Addr).add j = ⟨b, off + j, none⟩ := by
  by_cases h : j = 0 <;> simp [Addr.add, h]
theorem splice0 (L cs : List Value) (n : Nat) (h : cs.length = n) : (splice L 0 cs).take n = cs := by
  subst h; simp [splice]

set_option maxHeartbeats 400000 in
theorem copy_any (a : Option Addr) (len cap r : Nat) (zs : List Int) (w : World) (hrow : Row w a len zs) (hr : r ≤ 100) (hreach : len ≤ 140737488351232) :
    Calls Tryd.prog 85 #[.slice a len cap, .int .i64 r] w fun e w' => e = .returned (.slice (some ⟨w.heap.size, 0, none⟩) len (len + r)) ∧
      w'.ownsRow w.heap.size 5 1 (.slice (some ⟨w.heap.size, 0, none⟩) len (len + r)) len (zs.map (Value.int .u8)) ∧ Below w.heap.size w w' ∧ w.heap.size < w'.heap.size := by
  obtain ⟨i0, hi, hz0, hz1, hz2⟩ := info_parts Tryd.info5
  have hmk := fun wx => run_make (P := Tryd.prog) wx 27 5 i0 (.int .u8 0) Tryd.underlying27 hi hz0 .i64 .i64 (len : Int) ((len : Int) + r) (by omega) (by omega) (by rw [hz2]; omega) (by omega)
  rw [hz1] at hmk
  have e1 : ((len : Int) + (r : Int)).toNat = len + r := by omega
  rw [e1] at hmk
  simp only [Int.toNat_natCast, Nat.mul_one] at hmk
  obtain ⟨C, hC⟩ : ∃ C : List Value, (madeCells (Value.int .u8 0).cells (len + r)) = C.toArray := ⟨(madeCells (Value.int .u8 0).cells (len + r)).toList, by simp⟩
  have hCl : C.length = len + r := by have := size_madeCells (Value.int .u8 0).cells (len + r); rw [hC] at this; simpa using this
  rw [hC] at hmk
  clear hC e1
  have HC := hide hCl; clear hCl
  have hw1 : Below w.heap.size w (w.alloc (.cells C.toArray 5)) := (Below.refl _ _).alloc (Nat.le_refl _) _
  have hrow1 := hrow.below (Nat.le_refl _) hw1
  obtain ⟨hlen, hby, hcells⟩ := hrow1
  have HL := hide hlen; clear hlen hrow hby
  have HCe := hide hcells; clear hcells
  go_enter Tryd.func85, Tryd.ntmps85
  have hsz : (Tryd.prog.info? 5).map (·.size) = some 1 := by rw [hi]; simp [hz1]
  go_wp2_with (refine wpList_copy_splice rfl (.tmp 13) (.tmp 14) 27 27 rfl 5 Tryd.underlying27 hsz _ _ _ _ _ _ rfl rfl w.heap.size 0 C 5 ?hg (zs.map (Value.int .u8)) ?hn ?hpos ?hfit ?h1 w.heap.size w hw1 (Nat.le_refl _) ?_)
  case hg => exact heap_alloc_new _ _
  case hn => have := unhide HL; simp [this]
  case hpos =>
    intro hp
    have hl := unhide HL
    obtain ⟨b, off, ha, hb, hc⟩ := unhide HCe (by simpa [hl] using hp)
    refine ⟨_, ha, fun j z hj => ?_⟩
    have hj2 : j < len := by
      have := (List.getElem?_eq_some_iff.1 hj).1; omega
    have := hc j hj2
    rw [addr_add, this]; simp [List.getD, hj]
  case hfit => have := unhide HL; have := unhide HC; simp; omega
  case h1 => exact ints_oneCell _ _
  intro w2 HG hb2
  have hfin : w2.ownsRow w.heap.size 5 1 (.slice (some ⟨w.heap.size, 0, none⟩) len (len + r)) len (zs.map (Value.int .u8)) := by
    refine ⟨by have := unhide HL; simp [this], .inr ⟨w.heap.size, len + r, _, rfl, Nat.le_refl _, HG.out, by omega, by unfold maxLen; omega, ?_, ?_⟩⟩
    · have := length_splice C 0 (zs.map (Value.int .u8)) (by have := unhide HL; have := unhide HC; simp; omega)
      have h2 := unhide HC
      simp [this, h2]
    · have := splice0 C (zs.map (Value.int .u8)) len (by have := unhide HL; simp [this])
      simpa using this
  have hsz2 : w.heap.size < w2.heap.size := by
    have := (hfin.lt w.heap.size rfl).2
    exact this
  have HF := hide hfin; have HB := hide hb2; have HZ := hide hsz2
  clear hfin hb2 hsz2 HG hmk hw1
  go_wp2
  go_ret
  exact ⟨rfl, unhide HF, unhide HB, unhide HZ⟩
end Go.Proofs.YtjhmglefejclpaaDoor
