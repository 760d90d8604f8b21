/- skipBegin: the first eight bytes. -/
import Derived.Test.YtcmidegffpehoaaDoorScA
import Derived.Laws.RangeString
import Derived.Deep.LoopGhost
namespace Go.Proofs.YtcmidegffpehoaaDoor
open Go.RowKit
namespace Sc
set_option linter.unusedVariables false

def beg : ByteArray := ⟨#[0, 97, 115, 109, 1, 0, 0, 0]⟩
theorem beg_asc : ∀ i : Fin 8, (beg[i.val]'(show i.val < 8 from i.isLt)).toNat < 128 ∧ ((beg[i.val]'(show i.val < 8 from i.isLt)).toNat : Int) = hd.getD i.val 0 := by decide
theorem beg_iter (w : World) (p : Nat) : Below w.heap.size w (w.iter beg p) := (Below.refl _ _).alloc (Nat.le_refl _) _
theorem head_end (zs : List Int) (f : Nat) : head (f + 1) zs zs.length = (4, zs.length) := by unfold head; rw [if_pos rfl]
theorem head_on {zs : List Int} {f i : Nat} (h : ¬ i = zs.length) (he : zs.getD i 0 = hd.getD i 0) : head (f + 1) zs i = head f zs (i + 1) := by
  conv => lhs; unfold head
  rw [if_neg h, if_pos he]
theorem head_no {zs : List Int} {f i : Nat} (h : ¬ i = zs.length) (he : ¬ zs.getD i 0 = hd.getD i 0) : head (f + 1) zs i = (6, i) := by unfold head; rw [if_neg h, if_neg he]
theorem head_go {zs : List Int} : ∀ (f i : Nat), i ≤ zs.length → (head f zs i).1 = 0 → (head f zs i).2 = i + f ∧ i + f ≤ zs.length
  | 0, i, hi, _ => ⟨rfl, hi⟩
  | f + 1, i, hi, h => by
    by_cases h0 : i = zs.length
    · rw [h0, head_end] at h; exact absurd (show (4 : Int) = 0 from h) (by decide)
    · by_cases h1 : zs.getD i 0 = hd.getD i 0
      · rw [head_on h0 h1] at h ⊢
        have := head_go f (i + 1) (by omega) h
        omega
      · rw [head_no h0 h1] at h; exact absurd (show (6 : Int) = 0 from h) (by decide)
theorem head_8 {zs : List Int} {n : Nat} (h : (head 8 zs 0).1 = 0) (hl : zs.length = n) : (head 8 zs 0).2 = 8 ∧ 8 ≤ n := by
  have := head_go 8 0 (Nat.zero_le _) h
  omega
set_option maxRecDepth 100000 in
set_option maxHeartbeats 1600000 in
theorem skip_any {a : Option Addr} {n cap : Nat} {zs : List Int} {w : World} (h : Row w a n zs) (hn : n ≤ 50000) :
    Calls Tryd.prog 19 #[.slice a n cap] w fun e w' => e = .returned (.tuple #[.int .i64 (head 8 zs 0).2, errV (head 8 zs 0).1]) ∧ Below w.heap.size w w' := by
  have hl := h.1
  have HH := hide h; have HL := hide hl
  clear h hl
  go_enter Tryd.func19, Tryd.ntmps19
  go_wp2
  go_loopg [4] 9 (fun gk _ wr => ∃ pos : Nat, wr = w.iter beg pos ∧ pos ≤ 8 ∧ pos ≤ n ∧ 8 - pos < gk ∧ Hid (head 8 zs 0 = head (8 - pos) zs pos))
  case atStart => exact ⟨0, rfl, by omega, by omega, by omega, hide rfl⟩
  case round =>
    obtain ⟨pos, rfl, h8, hpn, hgk, HE⟩ := hrel
    by_cases hp : pos < 8
    · obtain ⟨g', rfl⟩ : ∃ g', gk = g' + 1 := ⟨gk - 1, by omega⟩
      obtain ⟨C, hC⟩ : ∃ C, (beg[pos]'(show pos < 8 from hp)).toNat = C := ⟨_, rfl⟩
      obtain ⟨f, hf⟩ : ∃ f, 8 - pos = f + 1 := ⟨7 - pos, by omega⟩
      have ha := beg_asc ⟨pos, hp⟩
      have hnx := fun ty => run_next_ascii (P := Tryd.prog) w beg pos ty hp ha.1
      have hC2 := ha.2
      simp only at hC2
      rw [hC] at hnx hC2
      rw [hf] at HE
      have HC := hide hC2
      clear ha hC hC2
      by_cases hpe : pos = n
      · subst hpe
        have hz := hide (show head 8 zs 0 = (4, pos) by have := unhide HL; have e := unhide HE; rw [e, ← this]; exact head_end zs f)
        clear HE
        go_wp2
        go_ret2
        exact ⟨by rw [unhide hz, errV_4]; rfl, beg_iter _ _⟩
      · have hpz : ¬ (pos : Int) = (n : Int) := by omega
        have hpl : (pos : Int) < (n : Int) := by omega
        obtain ⟨b, o, rfl, hb, hc⟩ := row_byte (unhide HH) (show pos < n by omega)
        have hz := (row_at (unhide HH) (show pos < n by omega)).2.2
        have hc2 : (w.iter beg pos).cell? ⟨b, o + pos, none⟩ = some (.int .u8 (zs.getD pos 0)) := (World.cell?_of_block (a := ⟨b, o + pos, none⟩) ((beg_iter w pos).block b hb)).trans hc
        have hc3 : (w.iter beg (pos + 1)).cell? ⟨b, o + pos, none⟩ = some (.int .u8 (zs.getD pos 0)) := (World.cell?_of_block (a := ⟨b, o + pos, none⟩) ((beg_iter w (pos + 1)).block b hb)).trans hc
        obtain ⟨z, hzz⟩ : ∃ z, zs.getD pos 0 = z := ⟨_, rfl⟩
        rw [hzz] at hz hc2 hc3
        clear hc
        by_cases he : z = (C : Int)
        · have hz2 : Hid (head 8 zs 0 = head (8 - (pos + 1)) zs (pos + 1)) := by
            have e := unhide HE
            rw [show 8 - (pos + 1) = f by omega]
            exact hide (e.trans (head_on (by rw [unhide HL]; exact hpe) (by rw [hzz, he]; exact unhide HC)))
          subst he
          clear HE
          go_wp2
          go_roundg g'
          case measure => omega
          case rel => exact ⟨pos + 1, rfl, by omega, by omega, by omega, hz2⟩
        · have hz2 := hide <| show head 8 zs 0 = (6, pos) from (unhide HE).trans (head_no (by rw [unhide HL]; exact hpe) (by rw [hzz, ← unhide HC]; exact he))
          have heb : (z == (C : Int)) = false := by simp [he]
          clear HE
          go_wp2
          go_ret2
          exact ⟨by rw [unhide hz2, errV_6]; rfl, beg_iter _ _⟩
    · obtain rfl : pos = 8 := by omega
      have hnx := fun ty => run_next_end (P := Tryd.prog) w beg 8 ty (by decide)
      have e := hide (show head 8 zs 0 = (0, 8) from unhide HE)
      clear HE
      go_wp2
      go_ret2
      exact ⟨by rw [unhide e, errV_0]; rfl, beg_iter _ _⟩
end Sc
end Go.Proofs.YtcmidegffpehoaaDoor
