/- flow: slices.Repeat of one number; a row made of noughts. -/
import Derived.Test.YtpecnljcgiicaaaDoorFwA
import Derived.Test.YtpecnljcgiicaaaDoorShelf
import Derived.Laws.CopyOwn
import Derived.Deep.RegionLaw
import Derived.Deep.Cut
namespace Go.Proofs.YtpecnljcgiicaaaDoor
open Go.RowKit
namespace Fw
set_option linter.unusedVariables false
set_option linter.unusedSimpArgs false
open Vc (infoN)

theorem addr_add0 (b o j : Nat) : (⟨b, o, none⟩ : Addr).add j = ⟨b, o + j, none⟩ := by by_cases h : j = 0 <;> simp [Addr.add, h]
def mn (m : Nat) : List Value := List.replicate m (Value.int .i64 (-1))
theorem mn_len (m : Nat) : (mn m).length = m := by simp [mn]
theorem mn_at {m j : Nat} {v : Value} (h : (mn m)[j]? = some v) : j < m ∧ v = .int .i64 (-1) := by
  have h1 := (List.getElem?_eq_some_iff.1 h).1
  rw [mn_len] at h1
  refine ⟨h1, ?_⟩
  unfold mn at h
  rw [List.getElem?_replicate, if_pos h1] at h
  exact (Option.some.inj h).symm
theorem mn_one (m : Nat) : ∀ v ∈ mn m, v.oneCell' = true := fun v hv => by rw [(List.mem_replicate.1 hv).2]; rfl
/-- so many are told, the others are noughts -/
def fil (n k : Nat) : List Value := List.replicate k (Value.int .i64 (-1)) ++ List.replicate (n - k) (Value.int .i64 0)
theorem fil_len (n k : Nat) (h : k ≤ n) : (fil n k).length = n := by simp [fil]; omega
theorem fil_more (n k m : Nat) (h : k + m ≤ n) : splice (fil n k) k (mn m) = fil n (k + m) := by
  unfold splice fil mn
  rw [List.take_append_of_le_length (by simp), List.take_of_length_le (by simp), ← List.append_assoc, List.replicate_append_replicate]
  congr 1
  simp only [List.length_replicate]
  rw [List.drop_append, List.drop_of_length_le (by simp), List.length_replicate, List.nil_append, List.drop_replicate]
  congr 1; omega
theorem fil_all (n : Nat) : fil n n = List.replicate n (Value.int .i64 (-1)) := by simp [fil]
theorem fil_at (n k j : Nat) (h : k ≤ n) (hj : j < k) : (fil n k)[j]? = some (.int .i64 (-1)) := by
  unfold fil; rw [List.getElem?_append_left (by simpa using hj)]; simp [hj]
theorem made_0 (n : Nat) : madeCells (Value.int .i64 0).cells n = (List.replicate n (Value.int .i64 0)).toArray := by
  apply Array.ext'
  have := toList_madeCells_one (Value.int .i64 0) n
  rw [show (Value.int IntKind.i64 0).cells = #[Value.int IntKind.i64 0] from rfl, this]
/-- a row of noughts, made by the call -/
theorem Ro.made (w : World) (n : Nat) (hn : n ≤ 1048576) : Ro (w.alloc (.cells (madeCells (Value.int .i64 0).cells n) 3)) w.heap.size (.slice (some ⟨w.heap.size, 0, none⟩) n n) (List.replicate n 0) := by
  refine ⟨by simp [iv], .inr ⟨w.heap.size, n, madeCells (Value.int .i64 0).cells n, by simp, Nat.le_refl _, heap_alloc_new _ _, by simp, by unfold maxLen; omega, by rw [size_madeCells]; omega, ?_⟩⟩
  rw [made_0]; simp [iv]
theorem Ro.fil {w : World} {g n cap : Nat} (h : w.heap[g]? = some (.cells (fil n n).toArray 3 (0, 0))) (hn : n ≤ 1048576) (N : Nat) (hN : N ≤ g) : Ro w N (.slice (some ⟨g, 0, none⟩) n n) (List.replicate n (-1)) := by
  refine ⟨by simp [iv], .inr ⟨g, n, _, by simp, hN, h, by simp, by unfold maxLen; omega, by simp [fil_len n n (Nat.le_refl _)], ?_⟩⟩
  rw [fil_all]; simp [iv]

set_option maxRecDepth 100000 in
set_option maxHeartbeats 300000 in
theorem repeat_any (n : Nat) (h0 : 1 ≤ n) (hn : n ≤ 1048576) (xb xo : Nat) (w : World) (hx : w.cell? ⟨xb, xo, none⟩ = some (.int .i64 (-1))) :
    Calls Tryd.prog 30 #[.slice (some ⟨xb, xo, none⟩) 1 1, .int .i64 (n : Int)] w fun e w' => ∃ v, e = .returned v ∧ Ro w' w.heap.size v (List.replicate n (-1)) ∧ Below w.heap.size w w' := by
  obtain ⟨i0, hi, hz0, hz1, hz2⟩ := info_parts infoN
  have hsz : (Tryd.prog.info? 3).map (·.size) = some 1 := by rw [hi]; simp [hz1]
  have hmk := fun wx => run_make (P := Tryd.prog) wx 26 3 i0 (.int .i64 0) Tryd.underlying26 hi hz0 .i64 .i64 (n : Int) (n : Int) (by omega) (by omega) (by rw [hz2]; omega) (by omega)
  rw [hz1] at hmk
  simp only [Int.toNat_natCast, Nat.mul_one] at hmk
  have hw1 : Below w.heap.size w (w.alloc (.cells (madeCells (Value.int .i64 0).cells n) 3)) := (Below.refl _ _).alloc (Nat.le_refl _) _
  have hxl := World.block_lt_of_cell? w _ hx
  have hx1 : (w.alloc (.cells (madeCells (Value.int .i64 0).cells n) 3)).cell? ⟨xb, xo, none⟩ = some (.int .i64 (-1)) := (hw1.cell (p := ⟨xb, xo, none⟩) hxl).trans hx
  have hrow1 : (w.alloc (.cells (madeCells (Value.int .i64 0).cells n) 3)).heap[w.heap.size]? = some (.cells (fil n 0).toArray 3 (0, 0)) := by
    rw [made_0]; exact heap_alloc_new _ _
  have hni : (n : Int) ≤ 1048576 := by omega
  have hni0 : (1 : Int) ≤ n := by omega
  have hm1 : 1 * n / 18446744073709551616 = 0 := by omega
  have hm2 : 1 * n % 18446744073709551616 = n := by omega
  have hcm : ∀ W, Calls Tryd.prog 52 #[.int .u64 (1 : Nat), .int .u64 (n : Int)] W fun e w' => e = .returned (.tuple #[.int .u64 (0 : Nat), .int .u64 (n : Int)]) ∧ W = w' := fun W => (Tryd.bits_Mul 1 n (by omega) (by omega) W).mono fun e w' h => by rw [hm1, hm2] at h; exact ⟨h.1, h.2.symm⟩
  have HX := hide hx1; have HR := hide hrow1; have HW := hide hw1; have HN := hide hn; have H0 := hide h0
  have HXl := hide hxl
  clear hx hxl hx1 hrow1 hw1 hn h0 hm1 hm2
  go_enter Tryd.func30, Tryd.ntmps30
  go_wp2_with (first
    | (go_at_call 52; refine (hcm _).mono ?_; rintro e w1 ⟨rfl, rfl⟩)
    | (refine wpList_copy_splice rfl (.tmp 31) (.tmp 32) 26 26 rfl 3 Tryd.underlying26 hsz _ _ _ _ _ _ rfl rfl w.heap.size 0 (fil n 0) 3 (unhide HR) (mn 1) ?hn ?hpos ?hfit ?h1 w.heap.size w (unhide HW) (Nat.le_refl _) ?_))
  case hn => rw [mn_len]; have := unhide H0; show 1 = min 1 n; omega
  case hpos =>
    have H : ∀ j v, (mn 1)[j]? = some v → (w.alloc (.cells (madeCells (Value.int .i64 0).cells n) 3)).cell? ⟨xb, xo + j, none⟩ = some v := fun j v hj => by
      obtain ⟨h1, rfl⟩ := mn_at hj
      obtain rfl : j = 0 := by omega
      exact unhide HX
    first | exact fun _ => ⟨rfl, _, rfl, fun j v h => by simpa [Addr.add] using H j v h⟩ | exact fun _ => H
  case hfit => rw [fil_len n 0 (Nat.zero_le _), mn_len]; exact unhide H0
  case h1 => exact mn_one 1
  intro w2 hg2 hb2
  rw [fil_more n 0 1 (by have := unhide H0; omega)] at hg2
  have HG := hide hg2; have HB := hide hb2
  clear hg2 hb2 hcm hmk
  go_wp2_with fail
  go_loopw [8] (fun c wr => ∃ k : Nat, 1 ≤ k ∧ k ≤ n ∧ c = .int .i64 (k : Int) ∧ wr.heap[w.heap.size]? = some (.cells (fil n k).toArray 3 (0, 0)) ∧ Below w.heap.size w wr) (fun c _ => n - (intOf c).toNat)
  case atStart => exact ⟨1, Nat.le_refl _, unhide H0, rfl, unhide HG, unhide HB⟩
  case round =>
    obtain ⟨k, hk1, hk, rfl, hgk, hbk⟩ := hrel
    by_cases hlt : k < n
    · have hgl := (Array.getElem?_eq_some_iff.1 hgk).1
      have HGk := hide (show wr.drew.heap[w.heap.size]? = some (.cells (fil n k).toArray 3 (0, 0)) from hgk); have HBk := hide (show Below w.heap.size w wr.drew from ⟨hbk.os, hbk.tape, hbk.output, hbk.size, hbk.block⟩)
      clear hgk hbk
      obtain ⟨m, hm⟩ : ∃ m, m = min k (n - k) := ⟨_, rfl⟩
      have HM := hide hm
      clear hm
      have hne : ¬ n = k := by omega
      have hli : (k : Int) < n := by omega
      have HK1 := hide hk1; have HLt := hide hlt
      clear hlt hk1
      have hm : m = min k (n - k) := unhide HM
      have hmk : k + m ≤ n := by omega
      obtain ⟨W4, hcp, hW4, hB4⟩ : ∃ W4, (Builtin.copy_ #[26, 26] 3 #[.slice (some ⟨w.heap.size, k, none⟩) (n - k) (n - k), .slice (some ⟨w.heap.size, 0, none⟩) k n]).run Tryd.prog wr.drew = .ok (goInt m) W4 ∧ W4.heap[w.heap.size]? = some (.cells (fil n (k + m)).toArray 3 (0, 0)) ∧ Below w.heap.size w W4 := by
        have h1 := run_copy_row (P := Tryd.prog) wr.drew 26 26 3 3 w.heap.size k (n - k) (n - k) ⟨w.heap.size, 0, none⟩ k n (fil n k).toArray 3 (mn m) Tryd.underlying26 hsz (unhide HGk) (by rw [mn_len, hm])
          (fun j v hj => by
            obtain ⟨h2, rfl⟩ := mn_at hj
            have h3 := cell_of_row wr.drew w.heap.size j _ _ _ (unhide HGk)
            rw [List.getElem?_toArray, fil_at n k j hk (by omega)] at h3
            rw [addr_add0, Nat.zero_add]; exact h3) (by rw [mn_len]; simp [fil_len n k hk]; exact hmk) (mn_one m)
        rw [mn_len] at h1
        refine ⟨_, h1, ?_, below_setRow (unhide HBk) (Nat.le_refl _) _⟩
        rw [setRow_heap wr.drew w.heap.size _ _ _ _ (unhide HGk)]
        rw [← fil_more n k m hmk]; simp [splice, mn_len]
      have HW4 := hide hW4; have HB4 := hide hB4; have HMk := hide hmk
      have hmi : (m : Int) ≤ 1048576 := by omega
      have hmp : 1 ≤ m := by have := unhide HK1; omega
      have HMp := hide hmp
      clear hW4 hB4 hmk hm hmp
      go_wp2_with fail
      go_region
      go_wp2_with fail
      go_roundw
      case rel => exact ⟨k + m, by have := unhide HK1; omega, unhide HMk, by go_num, unhide HW4, unhide HB4⟩
      case measure => have := unhide HMk; have := unhide HMp; simp [intOf]; omega
    · obtain rfl : k = n := by omega
      have hro := Ro.fil (cap := k) hgk (unhide HN) w.heap.size (Nat.le_refl _)
      have HRo := hide hro; have HBk := hide hbk
      clear hro hbk hgk hlt hk hk1
      go_wp2_with fail
      go_ret
      exact ⟨_, rfl, unhide HRo, unhide HBk⟩
end Fw
end Go.Proofs.YtpecnljcgiicaaaDoor
