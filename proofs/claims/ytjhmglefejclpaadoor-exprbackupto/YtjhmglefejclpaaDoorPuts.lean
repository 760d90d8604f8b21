/- PutU and PutS: the bytes that were handed in, in a row of their own, and behind them the number's. -/
import Derived.Test.YtjhmglefejclpaaDoorCopy
namespace Go.Proofs.YtjhmglefejclpaaDoor
open Go.RowKit

/-- what one append does to the loop's relation -/
theorem rel_put (B : Nat) (w wr w2 : World) (len N : Nat) (zs ds : List Int) (c : Int)
    (_hown : wr.ownsRow B 5 1 (.slice (some ⟨B, 0, none⟩) (len + ds.length) (len + N)) (len + ds.length) ((zs ++ ds).map (Value.int .u8))) (hbel : Below B w wr) (hlt : B < wr.heap.size)
    (hown3 : w2.ownsRow B 5 1 (.slice (some ⟨B, 0, none⟩) (len + ds.length + 1) (len + N)) (len + ds.length + 1) (zs.map (Value.int .u8) ++ (ds.map (Value.int .u8) ++ [.int .u8 c])))
    (hgrow : (wr.alloc (.cells #[.int .u8 c] 5)).grownBy w2 (some B)) :
    w2.ownsRow B 5 1 (.slice (some ⟨B, 0, none⟩) (len + (ds ++ [c]).length) (len + N)) (len + (ds ++ [c]).length) ((zs ++ (ds ++ [c])).map (Value.int .u8)) ∧ Below B w w2 ∧ B < w2.heap.size := by
  have h1 : Below B w w2 := (hbel.alloc (by omega) _).grown hgrow (by simp; omega) (by intro k hk; simp at hk; omega)
  refine ⟨by simpa [Nat.add_assoc] using hown3, h1, ?_⟩
  have := hown3.lt B rfl
  omega

set_option maxHeartbeats 400000 in
theorem putU_any (a : Option Addr) (len cap : Nat) (zs : List Int) (v : Int) (w : World) (hrow : Row w a len zs) (h0 : 0 ≤ v) (hv : v < 18446744073709551616) (hreach : len ≤ 140737488351232) :
    Calls Tryd.prog 78 #[.slice a len cap, .int .u64 v] w fun e w' => ∃ cap', e = .returned (.slice (some ⟨w.heap.size, 0, none⟩) (len + (Leb.bU 10 v).length) cap') ∧
      w'.ownsRow w.heap.size 5 1 (.slice (some ⟨w.heap.size, 0, none⟩) (len + (Leb.bU 10 v).length) cap') (len + (Leb.bU 10 v).length) ((zs ++ Leb.bU 10 v).map (Value.int .u8)) ∧ Below w.heap.size w w' := by
  have hN := Leb.bU_len 10 v
  obtain ⟨i0, hi, hz0, hz1, hz2⟩ := info_parts Tryd.info5
  generalize hL : Leb.bU 10 v = L at *
  have HL := hide hL; clear hL
  have HR := hide hrow; clear hrow
  go_enter Tryd.func78, Tryd.ntmps78
  go_wp2_with fail
  refine (sizeU_any _ _ h0 hv).mono ?_
  rintro e w1 ⟨rfl, rfl⟩
  rw [unhide HL]
  go_wp2_with fail
  refine (copy_any a len cap L.length zs _ (unhide HR) (by omega) hreach).mono ?_
  rintro e w1 ⟨rfl, hown, hbel, hlt⟩
  generalize hB : w.heap.size = B at *
  have HB := hide hB; clear hB
  go_wp2_with fail
  go_loopw [1, 5] (fun x s wr => ∃ (y : Int) (ds : List Int), x = .int .u64 y ∧ s = .slice (some ⟨B, 0, none⟩) (len + ds.length) (len + L.length) ∧ 0 ≤ y ∧ y < 18446744073709551616 ∧ ds ++ Leb.bU 10 y = L ∧
      wr.ownsRow B 5 1 (.slice (some ⟨B, 0, none⟩) (len + ds.length) (len + L.length)) (len + ds.length) ((zs ++ ds).map (Value.int .u8)) ∧ Below B w wr ∧ B < wr.heap.size) (fun x _ _ => (Leb.bU 10 (intOf x)).length)
  case atStart => exact ⟨v, [], rfl, rfl, h0, hv, by simpa using unhide HL, by simpa using hown, hbel, hlt⟩
  case round =>
    obtain ⟨y, ds, rfl, rfl, hy0, hy1, hsum, hown2, hbel2, hlt2⟩ := hrel
    clear hown hbel hlt
    have HO := hide hown2; have HS := hide hsum; have HBe := hide hbel2; have HLt := hide hlt2
    clear hown2 hsum hbel2 hlt2
    by_cases hlt : 127 < y
    · have hn1 : ds.length + 1 ≤ L.length := by
        have := unhide HS; have h1 := Leb.bU_pos 10 y; rw [← this]; simp; omega
      go_wp2_with (at_builtin; refine wpList_append_fits _ rfl (.tmp 12) (.tmp 16) 27 rfl B 5 i0 1 Tryd.underlying27 hi hz1 B (len + ds.length) (len + L.length) ((zs ++ ds).map (Value.int .u8)) rfl ((unhide HO).alloc _) ⟨wr.heap.size, 0, none⟩ 1 1 [.int .u8 (bits BinOp.or IntKind.u8 (y % 256) 128)] rfl rfl ?c1 ?c2 ?c3 ?_)
      case c1 => exact cell_one_new _ _ _
      case c2 => intro u hu; simp at hu; subst hu; rfl
      case c3 => omega
      intro w2 hown3 hgrow
      have hrel2 := rel_put B w wr w2 len L.length zs ds (bits BinOp.or IntKind.u8 (y % 256) 128) (unhide HO) (unhide HBe) (unhide HLt) hown3 hgrow
      rw [Leb.u8_or128 (y % 256) (by omega) (by omega), show y % 256 % 128 = y % 128 from by omega] at hrel2
      have HR2 := hide hrel2
      clear hown3 hgrow hrel2 HO
      go_wp2
      go_roundw
      case rel => exact ⟨y / 128, ds ++ [y % 128 + 128], by simp, by simp [Nat.add_assoc], by omega, by omega, by rw [← unhide HS, Leb.bU_step y hlt hy1]; simp, (unhide HR2).1, (unhide HR2).2.1, (unhide HR2).2.2⟩
      case measure => have := szU_down y hlt hy1; simp [intOf]; omega
    · have hlast := Leb.bU_last y hlt
      have hn1 : L.length = ds.length + 1 := by have := unhide HS; rw [← this, hlast]; simp
      have hyL : ds ++ [y] = L := by rw [← hlast]; exact unhide HS
      have HN := hide hn1; have HY := hide hyL
      have hn2 : ds.length + 1 ≤ L.length := by omega
      clear hn1 hyL hlast
      go_wp2_with (at_builtin; refine wpList_append_fits _ rfl (.tmp 20) (.tmp 23) 27 rfl B 5 i0 1 Tryd.underlying27 hi hz1 B (len + ds.length) (len + L.length) ((zs ++ ds).map (Value.int .u8)) rfl ((unhide HO).alloc _) ⟨wr.heap.size, 0, none⟩ 1 1 [.int .u8 y] rfl rfl ?d1 ?d2 ?d3 ?_)
      case d2 => rfl
      case d3 => omega
      intro w2 hown3 hgrow
      have hrel2 := rel_put B w wr w2 len L.length zs ds y (unhide HO) (unhide HBe) (unhide HLt) hown3 hgrow
      rw [unhide HY] at hrel2
      have HR2 := hide hrel2
      clear hown3 hgrow hrel2 HO
      go_wp2
      go_ret
      refine ⟨len + L.length, ?_, ?_, ?_⟩
      · have e := unhide HN
        rw [unhide HB, show len + ds.length + 1 = len + L.length from by omega]; rfl
      · rw [unhide HB]; exact (unhide HR2).1
      · rw [unhide HB]; exact (unhide HR2).2.1
set_option maxHeartbeats 400000 in
theorem putS_any (a : Option Addr) (len cap : Nat) (zs : List Int) (v : Int) (w : World) (hrow : Row w a len zs) (h0 : -9223372036854775808 ≤ v) (hv : v < 9223372036854775808) (hreach : len ≤ 140737488351232) :
    Calls Tryd.prog 77 #[.slice a len cap, .int .i64 v] w fun e w' => ∃ cap', e = .returned (.slice (some ⟨w.heap.size, 0, none⟩) (len + (Leb.bS 10 v).length) cap') ∧
      w'.ownsRow w.heap.size 5 1 (.slice (some ⟨w.heap.size, 0, none⟩) (len + (Leb.bS 10 v).length) cap') (len + (Leb.bS 10 v).length) ((zs ++ Leb.bS 10 v).map (Value.int .u8)) ∧ Below w.heap.size w w' := by
  have hN := Leb.bS_len 10 v
  obtain ⟨i0, hi, hz0, hz1, hz2⟩ := info_parts Tryd.info5
  generalize hL : Leb.bS 10 v = L at *
  have HL := hide hL; clear hL
  have HR := hide hrow; clear hrow
  go_enter Tryd.func77, Tryd.ntmps77
  go_wp2_with fail
  refine (sizeS_any _ _ h0 hv).mono ?_
  rintro e w1 ⟨rfl, rfl⟩
  rw [unhide HL]
  go_wp2_with fail
  refine (copy_any a len cap L.length zs _ (unhide HR) (by omega) hreach).mono ?_
  rintro e w1 ⟨rfl, hown, hbel, hlt⟩
  generalize hB : w.heap.size = B at *
  have HB := hide hB; clear hB
  go_wp2_with fail
  go_loopw [1, 5] (fun x s wr => ∃ (y : Int) (ds : List Int), x = .int .i64 y ∧ s = .slice (some ⟨B, 0, none⟩) (len + ds.length) (len + L.length) ∧ -9223372036854775808 ≤ y ∧ y < 9223372036854775808 ∧ ds ++ Leb.bS 10 y = L ∧
      wr.ownsRow B 5 1 (.slice (some ⟨B, 0, none⟩) (len + ds.length) (len + L.length)) (len + ds.length) ((zs ++ ds).map (Value.int .u8)) ∧ Below B w wr ∧ B < wr.heap.size) (fun x _ _ => (Leb.bS 10 (intOf x)).length)
  case atStart => exact ⟨v, [], rfl, rfl, h0, hv, by simpa using unhide HL, by simpa using hown, hbel, hlt⟩
  case round =>
    obtain ⟨y, ds, rfl, rfl, hy0, hy1, hsum, hown2, hbel2, hlt2⟩ := hrel
    clear hown hbel hlt
    have HO := hide hown2; have HS := hide hsum; have HBe := hide hbel2; have HLt := hide hlt2
    clear hown2 hsum hbel2 hlt2
    by_cases hlt : ¬ (-64 ≤ y ∧ y < 64)
    · have hn1 : ds.length + 1 ≤ L.length := by
        have := unhide HS; have h1 := Leb.bS_pos 10 y; rw [← this]; simp; omega
      go_wp2_with (first | (go_at_call 87; refine (fits_no _ _ hlt).mono ?_; rintro e w' ⟨rfl, rfl⟩) | (at_builtin; refine wpList_append_fits _ rfl (.tmp 13) (.tmp 17) 27 rfl B 5 i0 1 Tryd.underlying27 hi hz1 B (len + ds.length) (len + L.length) ((zs ++ ds).map (Value.int .u8)) rfl ((unhide HO).alloc _) ⟨wr.heap.size, 0, none⟩ 1 1 [.int .u8 (bits BinOp.or IntKind.u8 (y % 256) 128)] rfl rfl ?c1 ?c2 ?c3 ?_))
      case c1 => exact cell_one_new _ _ _
      case c2 => intro u hu; simp at hu; subst hu; rfl
      case c3 => omega
      intro w2 hown3 hgrow
      have hrel2 := rel_put B w wr w2 len L.length zs ds (bits BinOp.or IntKind.u8 (y % 256) 128) (unhide HO) (unhide HBe) (unhide HLt) hown3 hgrow
      rw [Leb.u8_or128 (y % 256) (by omega) (by omega), show y % 256 % 128 = y % 128 from by omega] at hrel2
      have HR2 := hide hrel2
      clear hown3 hgrow hrel2 HO
      go_wp2
      go_roundw
      case rel => exact ⟨y / 128, ds ++ [y % 128 + 128], by simp, by simp [Nat.add_assoc], by omega, by omega, by rw [← unhide HS, Leb.bS_step y hlt hy0 hy1]; simp, (unhide HR2).1, (unhide HR2).2.1, (unhide HR2).2.2⟩
      case measure => have := szS_down y hlt hy0 hy1; simp [intOf]; omega
    · have hfit : -64 ≤ y ∧ y < 64 := Decidable.byContradiction hlt
      have hlast := Leb.bS_last y hfit
      have HF := hide hfit; clear hfit hlt
      have hn1 : L.length = ds.length + 1 := by have := unhide HS; rw [← this, hlast]; simp
      have hyL : ds ++ [y % 128] = L := by rw [← hlast]; exact unhide HS
      have HN := hide hn1; have HY := hide hyL
      have hn2 : ds.length + 1 ≤ L.length := by omega
      clear hn1 hyL hlast
      go_wp2_with (first | (go_at_call 87; refine (fits_yes _ _ (unhide HF)).mono ?_; rintro e w' ⟨rfl, rfl⟩) | (at_builtin; refine wpList_append_fits _ rfl (.tmp 21) (.tmp 25) 27 rfl B 5 i0 1 Tryd.underlying27 hi hz1 B (len + ds.length) (len + L.length) ((zs ++ ds).map (Value.int .u8)) rfl ((unhide HO).alloc _) ⟨wr.heap.size, 0, none⟩ 1 1 [.int .u8 (bits BinOp.and IntKind.u8 (y % 256) 127)] rfl rfl ?d1 ?d2 ?d3 ?_))
      case d1 => exact cell_one_new _ _ _
      case d2 => intro u hu; simp at hu; subst hu; rfl
      case d3 => omega
      intro w2 hown3 hgrow
      have hrel2 := rel_put B w wr w2 len L.length zs ds (bits BinOp.and IntKind.u8 (y % 256) 127) (unhide HO) (unhide HBe) (unhide HLt) hown3 hgrow
      rw [Leb.u8_and127 (y % 256) (by omega) (by omega), show y % 256 % 128 = y % 128 from by omega, unhide HY] at hrel2
      have HR2 := hide hrel2
      clear hown3 hgrow hrel2 HO
      go_wp2
      go_ret
      refine ⟨len + L.length, ?_, ?_, ?_⟩
      · have e := unhide HN
        rw [unhide HB, show len + ds.length + 1 = len + L.length from by omega]; rfl
      · rw [unhide HB]; exact (unhide HR2).1
      · rw [unhide HB]; exact (unhide HR2).2.1
end Go.Proofs.YtjhmglefejclpaaDoor
