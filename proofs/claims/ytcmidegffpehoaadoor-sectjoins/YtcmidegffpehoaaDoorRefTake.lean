/- The document's own group and bit. -/
import Derived.Test.YtcmidegffpehoaaDoorOwn
import Derived.Test.YtcmidegffpehoaaDoorMath4
namespace Go.Proofs.YtcmidegffpehoaaDoor
set_option maxRecDepth 100000
open Go.RowKit
set_option linter.unusedVariables false

/-- the k-th bit of groups -/
def bt (gs : List Int) (k : Nat) : Bool := decide (Leb.jn gs / 2 ^ k % 2 = 1)

theorem bt_out (gs : List Int) (k : Nat) (h : gs.length ≤ k / 7) (hg : ∀ g ∈ gs, 0 ≤ g ∧ g < 128) : bt gs k = false := by
  unfold bt
  rw [← Leb.bt_jn gs k hg, List.getD, List.getElem?_eq_none h]; simp
theorem bt_in (gs : List Int) (k : Nat) (hg : ∀ g ∈ gs, 0 ≤ g ∧ g < 128) : bt gs k = (gs.getD (k / 7) 0 / 2 ^ (k % 7) % 2 == 1) := by
  unfold bt
  rw [← Leb.bt_jn gs k hg]; rfl

set_option maxHeartbeats 400000 in
theorem bit_any (a : Option Addr) (len cap : Nat) (gs : List Int) (k : Nat) (w : World) (hrow : Row w a len gs) (hg : ∀ g ∈ gs, 0 ≤ g ∧ g < 128) (hk : k ≤ 1000) (hl : len ≤ 1000) :
    Calls Tryd.prog 31 #[.slice a len cap, .int .i64 k] w fun e w' => e = .returned (.bool (bt gs k)) ∧ w = w' := by
  by_cases h : k / 7 < len
  · obtain ⟨b, off, rfl, hb, hc⟩ := hrow.2.2 (by omega)
    have hck := hc (k / 7) h
    have hbt := bt_in gs k hg
    have hlen := hrow.1
    have hgk := hg (gs.getD (k / 7) 0) (by rw [List.getD, List.getElem?_eq_getElem (by omega)]; simp)
    generalize gs.getD (k / 7) 0 = g at *
    have HBT := hide hbt; clear hbt hc hrow hg hlen
    obtain ⟨q, r, hr, rfl⟩ : ∃ q r : Nat, r < 7 ∧ k = 7 * q + r := ⟨k / 7, k % 7, by omega, by omega⟩
    have e1 : (7 * q + r) / 7 = q := by omega
    have e2 : (7 * q + r) % 7 = r := by omega
    rw [e1] at hck h
    have i1 : ((7 * q + r : Nat) : Int) / 7 = q := by omega
    have i2 : ((7 * q + r : Nat) : Int) % 7 = r := by omega
    rw [e2] at HBT
    generalize hkk : 7 * q + r = k at *
    have HK := hide hkk; clear hkk e1 e2
    go_enter Tryd.func31, Tryd.ntmps31
    go_wp2_with fail
    go_ret
    have h0 : 0 ≤ g / 2 ^ r := Int.ediv_nonneg hgk.1 (Int.le_of_lt (Int.pow_pos (by omega)))
    refine ⟨?_, rfl⟩
    rw [unhide HBT, ← Int.tmod_eq_emod_of_nonneg h0]; rfl
  · have hbt := bt_out gs k (by have := hrow.1; omega) hg
    have HBT := hide hbt; clear hbt hrow hg
    have hq : (len : Int) ≤ (k : Int) / 7 := by omega
    go_enter Tryd.func31, Tryd.ntmps31
    go_wp2_with fail
    go_ret
    exact ⟨by rw [unhide HBT]; rfl, rfl⟩

theorem gs_mod (l : List Int) : ∀ g ∈ l.map (· % 128), (0 : Int) ≤ g ∧ g < 128 := by
  intro g hg
  obtain ⟨z, _, rfl⟩ := List.mem_map.1 hg
  omega
theorem take_mod_snoc (zs : List Int) (k : Nat) (h : k < zs.length) (z : Int) (hz : zs.getD k 0 = z) : (zs.take k).map (· % 128) ++ [z % 128] = (zs.take (k + 1)).map (· % 128) := by
  rw [Leb.take_snoc zs k h, hz]; simp

set_option maxHeartbeats 400000 in
theorem group_arg (a : Option Addr) (len cap : Nat) (n : Int) (w : World) (h : n < 1 ∨ 64 < n) :
    Calls Tryd.prog 30 #[.slice a len cap, .int .i64 n] w fun e w' => e = .returned (.tuple #[.slice none 0 0, .int .i64 1]) ∧ Below w.heap.size w w' := by
  rcases h with h | h
  · go_enter Tryd.func30, Tryd.ntmps30
    go_wp2
    go_ret2
    exact ⟨rfl, Below.refl _ _⟩
  · have h' : ¬ n < 1 := by omega
    go_enter Tryd.func30, Tryd.ntmps30
    go_wp2
    go_ret2
    exact ⟨rfl, Below.refl _ _⟩

/-- what group gives: the groups, or the error -/
def GroupPost (zs : List Int) (n : Int) (w : World) (e : Ending) (w' : World) : Prop :=
  Below w.heap.size w w' ∧ ((Leb.cntE zs n ≠ 0 ∧ e = .returned (.tuple #[.slice none 0 0, .int .i64 (Leb.cntE zs n)])) ∨
    (Leb.cntE zs n = 0 ∧ ∃ g cap, e = .returned (.tuple #[.slice (some ⟨g, 0, none⟩) (Leb.lead zs + 1) cap, .int .i64 0]) ∧ Row w' (some ⟨g, 0, none⟩) (Leb.lead zs + 1) ((zs.take (Leb.lead zs + 1)).map (· % 128))))

set_option maxHeartbeats 1000000 in
theorem group_in (a : Option Addr) (len cap : Nat) (zs : List Int) (n : Int) (w : World) (hrow : Row w a len zs) (h1 : 1 ≤ n) (h2 : n ≤ 64) (hreach : len ≤ 9223372036854775807) :
    Calls Tryd.prog 30 #[.slice a len cap, .int .i64 n] w fun e w' => GroupPost zs n w e w' := by
  have HR := hide hrow; clear hrow
  obtain ⟨i0, hi, hz0, hz1, hz2⟩ := info_parts Tryd.info5
  have hM : 1 ≤ (n + 6) / 7 ∧ (n + 6) / 7 ≤ 10 := by omega
  go_enter Tryd.func30, Tryd.ntmps30
  go_wp2_with fail
  generalize hm : (n + 6) / 7 = M at *
  have HM := hide (show Leb.mb n = M from hm); clear hm
  generalize hB : w.heap.size = B at *
  have HB := hide hB; clear hB
  go_loopw [7, 8] (fun s c wr => ∃ (k : Nat), c = .int .i64 k ∧ (k : Int) ≤ M ∧ k ≤ Leb.lead zs ∧ wr.ownsRow B 5 1 s k (((zs.take k).map (· % 128)).map (Value.int .u8)) ∧ Below B w wr ∧ B ≤ wr.heap.size) (fun _ c _ => (M - intOf c).toNat)
  case atStart => exact ⟨0, rfl, by omega, Nat.zero_le _, World.ownsRow_nil _ _ _ _, Below.refl _ _, by rw [unhide HB]; exact Nat.le_refl _⟩
  case round =>
    obtain ⟨k, rfl, hkM, hkl, hown, hbel, hBs⟩ := hrel
    have hle := Leb.lead_le zs
    have hzl := (unhide HR).1
    have HO := hide hown; have HBe := hide hbel; have HBs := hide hBs; have HKL := hide hkl; have HLE := hide hle; have HZL := hide hzl
    clear hown hbel hBs hkl hle hzl
    by_cases hlt : (k : Int) < M
    · by_cases hend : k = len
      · have hfin := Leb.cnt_end zs n h1 h2 (by rw [unhide HM]; have := unhide HKL; have := unhide HLE; have := unhide HZL; omega) (by have := unhide HKL; have := unhide HLE; have := unhide HZL; omega)
        have HF := hide hfin; clear hfin
        subst hend
        go_wp2
        go_ret2
        exact ⟨by rw [unhide HB]; exact unhide HBe, .inl ⟨by rw [(unhide HF).1]; decide, by rw [(unhide HF).1]; rfl⟩⟩
      · have hkn : k < len := by have := unhide HKL; have := unhide HLE; have := unhide HZL; omega
        obtain ⟨b, off, rfl, hb, hc⟩ := ((unhide HR).below (by rw [unhide HB]; exact Nat.le_refl _) (unhide HBe)).2.2 (by omega)
        have hck := hc k hkn
        have hby := (unhide HR).2.1 (zs.getD k 0) (by rw [List.getD, List.getElem?_eq_getElem (by have := unhide HZL; omega)]; simp)
        have hne : ¬ (len : Int) ≤ (k : Int) := by omega
        have hbw : b < w.heap.size := by
          obtain ⟨b2, off2, hbo, hb2, _⟩ := (unhide HR).2.2 (by omega)
          simp at hbo; omega
        clear hc hb
        generalize hz : zs.getD k 0 = z at *
        have hsn := take_mod_snoc zs k (by have := unhide HZL; omega) z hz
        have HSN := hide hsn; have HZd := hide hz; clear hsn hz
        go_wp2_with (at_builtin; refine wpList_append_own _ rfl (.tmp 27) (.tmp 33) 22 rfl B 5 i0 (.int .u8 0) 1 1 Tryd.underlying22 hi hz0 hz1 hz2 rfl (by decide) u7 k _ rfl ((unhide HO).alloc _) ⟨wr.heap.size, 0, none⟩ 1 1 [.int .u8 (z % 128)] rfl rfl ?c1 ?c2 ?c3 ?c4 ?c5 ?_)
        case c2 => first | rfl | (intro u hu; simp at hu; subst hu; rfl)
        case c3 => unfold maxLen; omega
        case c4 => omega
        case c5 => have := unhide HBs; simp; omega
        intro v' w2 hown2 hgrow _
        have hb2 : Below B w w2 := ((unhide HBe).alloc (unhide HBs) _).grown hgrow (by have := unhide HBs; simp; omega) (fun j hj => ((unhide HO).lt j hj).1)
        have ho2 : w2.ownsRow B 5 1 v' (k + 1) (((zs.take (k + 1)).map (· % 128)).map (Value.int .u8)) := by
          rw [← unhide HSN]; simpa using hown2
        have hck2 : w2.cell? ⟨b, off + k, none⟩ = some (.int .u8 z) := by
          have e1 := hb2.cell (p := ⟨b, off + k, none⟩) (by have := unhide HB; simp; omega)
          have e2 := (unhide HBe).cell (p := ⟨b, off + k, none⟩) (by have := unhide HB; simp; omega)
          rw [e1, ← e2]; exact hck
        have HB2 := hide hb2; have HO2 := hide ho2; have HBs2 := hide (show B ≤ w2.heap.size by have := hb2.size; have := unhide HB; omega)
        clear hown2 hgrow hb2 ho2 HO hck
        by_cases h128 : 128 ≤ z
        · have hmore := Leb.lead_more zs k (unhide HKL) (by have := unhide HZL; omega) (by rw [unhide HZd]; exact h128)
          have HMo := hide hmore; clear hmore
          go_wp2
          go_roundw
          case rel => exact ⟨k + 1, by go_num, by omega, unhide HMo, unhide HO2, unhide HB2, unhide HBs2⟩
          case measure => simp [intOf]; omega
        · have heq := Leb.lead_eq zs k (unhide HKL) (by have := unhide HZL; omega) (by rw [unhide HZd]; omega)
          have hfin := Leb.cnt_ok zs n h1 h2 (by rw [unhide HM]; omega) (by have := unhide HZL; omega)
          obtain ⟨g5, c5, hv5, hrow5, hc5, hg5⟩ := own_shape (unhide HO2) (by omega) (fun z hz => by have := gs_mod _ z hz; omega)
          have HF := hide hfin; have HEq := hide heq; have HR5 := hide hrow5; clear hfin heq hrow5 hc5 hg5
          rw [hv5]; clear hv5
          go_wp2
          go_ret2
          exact ⟨by rw [unhide HB]; exact unhide HB2, .inr ⟨(unhide HF).1, g5, c5, by rw [unhide HEq]; rfl, by rw [unhide HEq]; exact unhide HR5⟩⟩
    · have hfin := Leb.cnt_mal zs n h1 h2 (by rw [unhide HM]; have := unhide HKL; omega)
      have HF := hide hfin; clear hfin
      go_wp2
      go_ret2
      exact ⟨by rw [unhide HB]; exact unhide HBe, .inl ⟨by rw [(unhide HF).1]; decide, by rw [(unhide HF).1]; rfl⟩⟩

theorem group_any (a : Option Addr) (len cap : Nat) (zs : List Int) (n : Int) (w : World) (hrow : Row w a len zs) (hreach : len ≤ 9223372036854775807) :
    Calls Tryd.prog 30 #[.slice a len cap, .int .i64 n] w fun e w' => GroupPost zs n w e w' := by
  by_cases h : n < 1 ∨ 64 < n
  · refine (group_arg a len cap n w h).mono fun e w' ⟨he, hb⟩ => ?_
    have := (Leb.cnt_arg zs n h).1
    exact ⟨hb, .inl ⟨by rw [this]; decide, by rw [this]; exact he⟩⟩
  · exact group_in a len cap zs n w hrow (by omega) (by omega) hreach
end Go.Proofs.YtcmidegffpehoaaDoor
