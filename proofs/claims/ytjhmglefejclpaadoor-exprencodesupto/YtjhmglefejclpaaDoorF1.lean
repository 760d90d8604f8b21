/- F1: what follows, part by part: each part tells what it holds. -/
import Derived.Test.YtjhmglefejclpaaDoorGA
import Derived.Laws.AppendOwnNone
import Derived.Deep.RegionWith
import Derived.Deep.DeepCutAuto
import Derived.Test.YtjhmglefejclpaaDoorGD
import Derived.Test.YtjhmglefejclpaaDoorE1
import Derived.Test.YtjhmglefejclpaaDoorGC
import Derived.RegionTactic
import Derived.Test.YtjhmglefejclpaaDoorRows
import Derived.Test.YtjhmglefejclpaaDoorGB
import Derived.WalkKit
import Derived.ProofKit
import Derived.OpenShut
import Derived.ShutString
import Derived.Deep.Slices

/- append(own, bytes...): bytes of whatever slice, behind those of a row of the call's own. -/
namespace Go.Proofs.YtjhmglefejclpaaDoor
open Go.RowKit
set_option linter.unusedVariables false

theorem wpList_append_row {ops : Array Oper} {rest : List Oper} {o : Oper} {a : Act} {Q : Exit → Act → World → Prop} (w : World) (hgd : o.guard = none) (s x : Operand)
    (ho : o.op = .call { callee := .builtin .append, args := #[s, x], argTypes := #[27, 27] })
    (B : Nat) (v : Value) (n : Nat) (xs : List Int) (hs : a.eval s = v) (hown : w.ownsRow B 5 1 v n (xs.map (Value.int .u8)))
    (ao : Option Addr) (m c : Nat) (zs : List Int) (hx : a.eval x = .slice ao m c) (hrow : Row w ao m zs) (hnil : ao = none → c = 0) (hb : n + m ≤ 100000) (hB : B ≤ w.heap.size)
    (h : ∀ v' w', w'.ownsRow B 5 1 v' (n + m) ((xs ++ zs).map (Value.int .u8)) → Below B w w' → wpList Tryd.prog ops Q rest (a.put o.dst v') w') : wpList Tryd.prog ops Q (o :: rest) a w := by
  obtain ⟨i0, hi, hz0, hz1, hz2⟩ := info_parts Tryd.info5
  cases ao with
  | none =>
    have hm : m = 0 := by
      rcases Nat.eq_zero_or_pos m with h1 | h1
      · exact h1
      · obtain ⟨b, off, hc, _⟩ := hrow.2.2 h1; simp at hc
    subst hm
    have hzs : zs = [] := List.eq_nil_of_length_eq_zero hrow.1
    subst hzs
    have hc0 := hnil rfl
    subst hc0
    refine wpList_append_own_none hgd s x 27 ho B 5 i0 1 Tryd.underlying27 hi v n (xs.map (Value.int .u8)) hs hown hx ?_
    exact h v w (by simpa using hown) (Below.refl _ _)
  | some ad =>
    refine wpList_append_own w hgd s x 27 ho B 5 i0 (.int .u8 0) 1 1 Tryd.underlying27 hi hz0 hz1 hz2 rfl (by decide) v n (xs.map (Value.int .u8)) hs hown ad m c (zs.map (Value.int .u8)) hx (by simp [hrow.1]) ?_ (ints_oneCell _ _) (by unfold maxLen; omega) (by omega) hB ?_
    · intro j u hj
      simp at hj
      obtain ⟨z, hz, rfl⟩ := hj
      have hj2 : j < m := by have := (List.getElem?_eq_some_iff.1 hz).1; have := hrow.1; omega
      obtain ⟨b, off, he, _, hcell⟩ := hrow.2.2 (by omega)
      simp at he; subst he
      rw [addr_add, hcell j hj2]; simp [List.getD, hz]
    · intro v' w' hown' hgrow _
      exact h v' w' (by simpa using hown') ((Below.refl B w).grown hgrow hB (fun k hk => (hown.lt k hk).1))
end Go.Proofs.YtjhmglefejclpaaDoor

/- string(b) of bytes: the string of their numbers, in whatever world they lie. -/
namespace Go.Proofs.YtjhmglefejclpaaDoor
open Go.RowKit
set_option linter.unusedVariables false

theorem conv {W : World} {a : Option Addr} {len cap : Nat} {zs : List Int} (h : Row W a len zs) : Sem.run Tryd.prog (convert 27 9 (.slice a len cap)) W = .ok (.string (strOfNums zs)) W := by
  by_cases h0 : 0 < len
  · obtain ⟨b, off, rfl, _, hc⟩ := h.2.2 h0
    exact run_convert_bytes_arg (P := Tryd.prog) W 27 5 Tryd.underlying27 Tryd.underlying5 b off len cap zs h.1 hc 9 Tryd.underlying9
  · obtain rfl : len = 0 := by omega
    obtain rfl : zs = [] := List.eq_nil_of_length_eq_zero h.1
    cases a with
    | none => exact run_convert_bytes_nil (P := Tryd.prog) W 27 5 Tryd.underlying27 Tryd.underlying5 0 cap 9 Tryd.underlying9
    | some x =>
      rw [run_convert_bytes_string W 27 9 5 _ _ _ Tryd.underlying27 Tryd.underlying5 Tryd.underlying9, run_bytesToString W x 0 cap [] (by simp [loadCells, loadCellsFrom])]
      rfl
theorem convS {W : World} {a : Option Addr} {len cap : Nat} {zs : List Int} {S : ByteArray} (h : Row W a len zs) (hS : Hid (strOfNums zs = S)) : Sem.run Tryd.prog (convert 27 9 (.slice a len cap)) W = .ok (.string S) W := by
  rw [conv h, hS.out]
theorem strNums_append (xs ys : List Int) : strOfNums xs ++ strOfNums ys = strOfNums (xs ++ ys) := by
  simp [strOfNums, ByteArray.mk_append_mk]
end Go.Proofs.YtjhmglefejclpaaDoor

/- The document's own PutU and PutS: the same bytes. -/
namespace Go.Proofs.YtjhmglefejclpaaDoor
open Go.RowKit
set_option linter.unusedVariables false

theorem Leb.tmod_neg (y : Int) (h : y < 0) : y.tmod 128 = if y % 128 = 0 then 0 else y % 128 - 128 := by
  rw [Int.tmod_eq_emod]
  by_cases h0 : y % 128 = 0
  · have : (128 : Int) ∣ y := Int.dvd_of_emod_eq_zero h0
    simp [this, h0]
  · have : ¬ (128 : Int) ∣ y := fun hd => h0 (Int.emod_eq_zero_of_dvd hd)
    simp [h0, this, Int.not_le.2 h]
theorem Leb.tdiv_exact (y l : Int) (h : l = y % 128) : (y - l).tdiv 128 = y / 128 := by
  have : y - l = y / 128 * 128 := by omega
  rw [this, Int.mul_tdiv_cancel _ (by omega)]

set_option maxRecDepth 100000 in
set_option maxHeartbeats 1000000 in
theorem refU_any (v : Int) (w : World) (h0 : 0 ≤ v) (hv : v < 18446744073709551616) :
    Calls Tryd.prog 34 #[.int .u64 v] w fun e w' => ∃ g cap', e = .returned (.slice (some ⟨g, 0, none⟩) (Leb.bU 10 v).length cap') ∧
      Row w' (some ⟨g, 0, none⟩) (Leb.bU 10 v).length (Leb.bU 10 v) ∧ (Leb.bU 10 v).length ≤ cap' ∧ w.heap.size ≤ g ∧ Below w.heap.size w w' := by
  have hN := Leb.bU_len 10 v
  have hP := Leb.bU_pos 10 v
  have hby := Leb.bU_bytes 10 v h0 (by omega)
  obtain ⟨i0, hi, hz0, hz1, hz2⟩ := info_parts Tryd.info5
  generalize hL : Leb.bU 10 v = L at *
  generalize hB : w.heap.size = B at *
  have HB := hide hB; have HL := hide hL; have HY := hide hby; clear hB hL hby
  go_enter Tryd.func34, Tryd.ntmps34
  go_wp2_with fail
  go_loopw [0, 3] (fun x s wr => ∃ (y : Int) (ds : List Int), x = .int .u64 y ∧ 0 ≤ y ∧ y < 18446744073709551616 ∧ ds ++ Leb.bU 10 y = L ∧
      wr.ownsRow B 5 1 s ds.length (ds.map (Value.int .u8)) ∧ Below B w wr ∧ B ≤ wr.heap.size) (fun x _ _ => (Leb.bU 10 (intOf x)).length)
  case atStart => exact ⟨v, [], rfl, h0, hv, unhide HL, World.ownsRow_nil _ _ _ _, Below.refl _ _, by rw [unhide HB]; exact Nat.le_refl _⟩
  case round =>
    obtain ⟨y, ds, rfl, hy0, hy1, hsum, hown2, hbel2, hlt2⟩ := hrel
    have HO := hide hown2; have HS := hide hsum; have HBe := hide hbel2; have HLt := hide hlt2
    have hdl : ds.length + 1 ≤ 11 := by have h1 := Leb.bU_pos 10 y; have : L.length = ds.length + (Leb.bU 10 y).length := by rw [← hsum]; simp
                                        omega
    clear hown2 hsum hbel2 hlt2
    by_cases hlt : 127 < y
    · go_wp2_with (at_builtin; refine wpList_append_own _ rfl (.tmp 6) (.tmp 11) 27 rfl B 5 i0 (.int .u8 0) 1 1 Tryd.underlying27 hi hz0 hz1 hz2 rfl (by decide) u3 ds.length (ds.map (Value.int .u8)) rfl ((unhide HO).alloc _) ⟨wr.heap.size, 0, none⟩ 1 1 [.int .u8 (y % 128 + 128)] rfl rfl ?c1 ?c2 ?c3 ?c4 ?c5 ?_)
      case c1 => exact cell_one_new _ _ _
      case c2 => intro u hu; simp at hu; subst hu; rfl
      case c3 => unfold maxLen; omega
      case c4 => omega
      case c5 => have := unhide HLt; simp; omega
      intro v' w2 hown3 hgrow _
      have hrel2 := rel_ref B w wr w2 u3 v' ds (y % 128 + 128) (unhide HB) (unhide HBe) (unhide HLt) (unhide HO) hown3 hgrow
      have HR2 := hide hrel2
      clear hown3 hgrow hrel2 HO
      go_wp2
      go_roundw
      case rel => exact ⟨y / 128, ds ++ [y % 128 + 128], by simp, by omega, by omega, by rw [← unhide HS, Leb.bU_step y hlt hy1]; simp, (unhide HR2).1, (unhide HR2).2.1, (unhide HR2).2.2⟩
      case measure => have := szU_down y hlt hy1; simp [intOf]; omega
    · have hlast := Leb.bU_last y hlt
      have hyL : ds ++ [y] = L := by rw [← hlast]; exact unhide HS
      have hn1 : ds.length + 1 = L.length := by rw [← hyL]; simp
      have HN := hide hn1; have HYL := hide hyL
      clear hn1 hyL hlast
      go_wp2_with (at_builtin; refine wpList_append_own _ rfl (.tmp 15) (.tmp 18) 27 rfl B 5 i0 (.int .u8 0) 1 1 Tryd.underlying27 hi hz0 hz1 hz2 rfl (by decide) u3 ds.length (ds.map (Value.int .u8)) rfl ((unhide HO).alloc _) ⟨wr.heap.size, 0, none⟩ 1 1 [.int .u8 y] rfl rfl ?d1 ?d2 ?d3 ?d4 ?d5 ?_)
      case d2 => first | rfl | (intro u hu; simp at hu; subst hu; rfl)
      case d3 => unfold maxLen; omega
      case d4 => omega
      case d5 => have := unhide HLt; simp; omega
      intro v' w2 hown3 hgrow _
      have hrel2 := rel_ref B w wr w2 u3 v' ds y (unhide HB) (unhide HBe) (unhide HLt) (unhide HO) hown3 hgrow
      rw [unhide HYL] at hrel2
      obtain ⟨g, cap, hv', hrow, hcap, hg⟩ := own_shape hrel2.1 (by omega) (unhide HY)
      have HR2 := hide hrel2.2.1; have HRow := hide hrow; have HC := hide hcap; have HG := hide hg
      clear hown3 hgrow hrel2 HO hrow hcap hg
      rw [hv']
      clear hv'
      go_wp2
      go_ret
      exact ⟨g, cap, rfl, unhide HRow, unhide HC, unhide HG, unhide HR2⟩
set_option maxRecDepth 100000 in
set_option maxHeartbeats 1000000 in
theorem refS_any (v : Int) (w : World) (h0 : -9223372036854775808 ≤ v) (hv : v < 9223372036854775808) :
    Calls Tryd.prog 33 #[.int .i64 v] w fun e w' => ∃ g cap', e = .returned (.slice (some ⟨g, 0, none⟩) (Leb.bS 10 v).length cap') ∧
      Row w' (some ⟨g, 0, none⟩) (Leb.bS 10 v).length (Leb.bS 10 v) ∧ (Leb.bS 10 v).length ≤ cap' ∧ w.heap.size ≤ g ∧ Below w.heap.size w w' := by
  have hN := Leb.bS_len 10 v
  have hP := Leb.bS_pos 10 v
  have hby := Leb.bS_bytes 10 v
  obtain ⟨i0, hi, hz0, hz1, hz2⟩ := info_parts Tryd.info5
  generalize hL : Leb.bS 10 v = L at *
  generalize hB : w.heap.size = B at *
  have HB := hide hB; have HL := hide hL; have HY := hide hby; clear hB hL hby
  go_enter Tryd.func33, Tryd.ntmps33
  go_wp2_with fail
  go_loopw [0, 3] (fun x s wr => ∃ (y : Int) (ds : List Int), x = .int .i64 y ∧ -9223372036854775808 ≤ y ∧ y < 9223372036854775808 ∧ ds ++ Leb.bS 10 y = L ∧
      wr.ownsRow B 5 1 s ds.length (ds.map (Value.int .u8)) ∧ Below B w wr ∧ B ≤ wr.heap.size) (fun x _ _ => (Leb.bS 10 (intOf x)).length)
  case atStart => exact ⟨v, [], rfl, h0, hv, unhide HL, World.ownsRow_nil _ _ _ _, Below.refl _ _, by rw [unhide HB]; exact Nat.le_refl _⟩
  case round =>
    obtain ⟨y, ds, rfl, hy0, hy1, hsum, hown2, hbel2, hlt2⟩ := hrel
    have HO := hide hown2; have HS := hide hsum; have HBe := hide hbel2; have HLt := hide hlt2
    have hdl : ds.length + 1 ≤ 11 := by have h1 := Leb.bS_pos 10 y; have : L.length = ds.length + (Leb.bS 10 y).length := by rw [← hsum]; simp
                                        omega
    clear hown2 hsum hbel2 hlt2
    rcases (show (y < -64 ∧ ¬ y % 128 = 0) ∨ (y < -64 ∧ y % 128 = 0) ∨ 63 < y ∨ (0 ≤ y ∧ y ≤ 63) ∨ (-64 ≤ y ∧ y < 0) from by omega) with hlt | hlt | hlt | hlt | hlt
    · obtain ⟨t, ht⟩ : ∃ t : Int, t = y % 128 - 128 := ⟨_, rfl⟩
      have htm : y.tmod 128 = t := by rw [Leb.tmod_neg y (by omega), if_neg hlt.2, ht]
      have hdv : wrap64 ((wrap64 (y - (t + 128))).tdiv 128) = y / 128 := by
        have e1 : wrap64 (y - (t + 128)) = y - (t + 128) := by unfold wrap64; omega
        rw [e1, Leb.tdiv_exact y (t + 128) (by omega)]; unfold wrap64; omega
      have HDV := hide hdv; clear hdv
      have ht0 : -128 < t := by omega
      have ht1 : t < 0 := by omega
      have HT := hide ht; have HLT := hide hlt.2; have hlt2 := hlt.1
      clear ht hlt
      go_wp2_with (at_builtin; refine wpList_append_own _ rfl (.tmp 17) (.tmp 21) 27 rfl B 5 i0 (.int .u8 0) 1 1 Tryd.underlying27 hi hz0 hz1 hz2 rfl (by decide) u3 ds.length (ds.map (Value.int .u8)) rfl ((unhide HO).alloc _) ⟨wr.heap.size, 0, none⟩ 1 1 [.int .u8 (t + 128 + 128)] rfl rfl ?c1 ?c2 ?c3 ?c4 ?c5 ?_)
      case c1 => exact cell_one_new _ _ _
      case c2 => first | rfl | (intro u hu; simp at hu; subst hu; rfl)
      case c3 => unfold maxLen; omega
      case c4 => omega
      case c5 => have := unhide HLt; simp; omega
      intro v' w2 hown3 hgrow _
      have hrel2 := rel_ref B w wr w2 u3 v' ds (t + 128 + 128) (unhide HB) (unhide HBe) (unhide HLt) (unhide HO) hown3 hgrow
      rw [show t + 128 + 128 = y % 128 + 128 from by have := unhide HT; omega] at hrel2
      have HR2 := hide hrel2
      clear hown3 hgrow hrel2 HO
      go_wp2
      go_roundw
      case rel => exact ⟨y / 128, ds ++ [y % 128 + 128], by simp; exact unhide HDV, by omega, by omega, by rw [← unhide HS, Leb.bS_step y (by omega) hy0 hy1]; simp, (unhide HR2).1, (unhide HR2).2.1, (unhide HR2).2.2⟩
      case measure => have := szS_down y (by omega) hy0 hy1; simp only [intOf]; rw [unhide HDV]; omega
    · have htm : y.tmod 128 = 0 := by rw [Leb.tmod_neg y (by omega), if_pos hlt.2]
      have hdv : y.tdiv 128 = y / 128 := by have := Leb.tdiv_exact y 0 (by omega); simpa using this
      have HDV : True := trivial
      have HLT := hide hlt.2; have hlt2 := hlt.1
      clear hlt
      go_wp2_with (at_builtin; refine wpList_append_own _ rfl (.tmp 17) (.tmp 21) 27 rfl B 5 i0 (.int .u8 0) 1 1 Tryd.underlying27 hi hz0 hz1 hz2 rfl (by decide) u3 ds.length (ds.map (Value.int .u8)) rfl ((unhide HO).alloc _) ⟨wr.heap.size, 0, none⟩ 1 1 [.int .u8 (128)] rfl rfl ?c1 ?c2 ?c3 ?c4 ?c5 ?_)
      case c1 => exact cell_one_new _ _ _
      case c2 => first | rfl | (intro u hu; simp at hu; subst hu; rfl)
      case c3 => unfold maxLen; omega
      case c4 => omega
      case c5 => have := unhide HLt; simp; omega
      intro v' w2 hown3 hgrow _
      have hrel2 := rel_ref B w wr w2 u3 v' ds (128) (unhide HB) (unhide HBe) (unhide HLt) (unhide HO) hown3 hgrow
      rw [show 128 = y % 128 + 128 from by have := unhide HLT; omega] at hrel2
      have HR2 := hide hrel2
      clear hown3 hgrow hrel2 HO
      go_wp2
      go_roundw
      case rel => exact ⟨y / 128, ds ++ [y % 128 + 128], by simp, by omega, by omega, by rw [← unhide HS, Leb.bS_step y (by omega) hy0 hy1]; simp, (unhide HR2).1, (unhide HR2).2.1, (unhide HR2).2.2⟩
      case measure => have := szS_down y (by omega) hy0 hy1; simp [intOf]; omega
    · have HDV := hide (show (y - y % 128) / 128 = y / 128 by omega)
      go_wp2_with (at_builtin; refine wpList_append_own _ rfl (.tmp 17) (.tmp 21) 27 rfl B 5 i0 (.int .u8 0) 1 1 Tryd.underlying27 hi hz0 hz1 hz2 rfl (by decide) u3 ds.length (ds.map (Value.int .u8)) rfl ((unhide HO).alloc _) ⟨wr.heap.size, 0, none⟩ 1 1 [.int .u8 (y % 128 + 128)] rfl rfl ?c1 ?c2 ?c3 ?c4 ?c5 ?_)
      case c1 => exact cell_one_new _ _ _
      case c2 => first | rfl | (intro u hu; simp at hu; subst hu; rfl)
      case c3 => unfold maxLen; omega
      case c4 => omega
      case c5 => have := unhide HLt; simp; omega
      intro v' w2 hown3 hgrow _
      have hrel2 := rel_ref B w wr w2 u3 v' ds (y % 128 + 128) (unhide HB) (unhide HBe) (unhide HLt) (unhide HO) hown3 hgrow
      rw [show y % 128 + 128 = y % 128 + 128 from by rfl] at hrel2
      have HR2 := hide hrel2
      clear hown3 hgrow hrel2 HO
      go_wp2
      go_roundw
      case rel => exact ⟨y / 128, ds ++ [y % 128 + 128], by simp; exact unhide HDV, by omega, by omega, by rw [← unhide HS, Leb.bS_step y (by omega) hy0 hy1]; simp, (unhide HR2).1, (unhide HR2).2.1, (unhide HR2).2.2⟩
      case measure => have := szS_down y (by omega) hy0 hy1; simp only [intOf]; rw [unhide HDV]; omega
    · have hx : True := trivial
      have hlast := Leb.bS_last y (by omega)
      have hyL : ds ++ [y % 128] = L := by rw [← hlast]; exact unhide HS
      have hn1 : ds.length + 1 = L.length := by rw [← hyL]; simp
      have HN := hide hn1; have HYL := hide hyL
      clear hn1 hyL hlast
      go_wp2_with (at_builtin; refine wpList_append_own _ rfl (.tmp 31) (.tmp 34) 27 rfl B 5 i0 (.int .u8 0) 1 1 Tryd.underlying27 hi hz0 hz1 hz2 rfl (by decide) u3 ds.length (ds.map (Value.int .u8)) rfl ((unhide HO).alloc _) ⟨wr.heap.size, 0, none⟩ 1 1 [.int .u8 (y)] rfl rfl ?d1 ?d2 ?d3 ?d4 ?d5 ?_)
      case d1 => exact cell_one_new _ _ _
      case d2 => first | rfl | (intro u hu; simp at hu; subst hu; rfl)
      case d3 => unfold maxLen; omega
      case d4 => omega
      case d5 => have := unhide HLt; simp; omega
      intro v' w2 hown3 hgrow _
      have hrel2 := rel_ref B w wr w2 u3 v' ds (y) (unhide HB) (unhide HBe) (unhide HLt) (unhide HO) hown3 hgrow
      rw [show y = y % 128 from by omega, unhide HYL] at hrel2
      obtain ⟨g, cap, hv', hrow, hcap, hg⟩ := own_shape hrel2.1 (by omega) (unhide HY)
      have HR2 := hide hrel2.2.1; have HRow := hide hrow; have HC := hide hcap; have HG := hide hg
      clear hown3 hgrow hrel2 HO hrow hcap hg
      rw [hv']
      clear hv'
      go_wp2
      go_ret
      exact ⟨g, cap, rfl, unhide HRow, unhide HC, unhide HG, unhide HR2⟩
    · have hx : True := trivial
      have hlast := Leb.bS_last y (by omega)
      have hyL : ds ++ [y % 128] = L := by rw [← hlast]; exact unhide HS
      have hn1 : ds.length + 1 = L.length := by rw [← hyL]; simp
      have HN := hide hn1; have HYL := hide hyL
      clear hn1 hyL hlast
      go_wp2_with (at_builtin; refine wpList_append_own _ rfl (.tmp 31) (.tmp 34) 27 rfl B 5 i0 (.int .u8 0) 1 1 Tryd.underlying27 hi hz0 hz1 hz2 rfl (by decide) u3 ds.length (ds.map (Value.int .u8)) rfl ((unhide HO).alloc _) ⟨wr.heap.size, 0, none⟩ 1 1 [.int .u8 (y + 128)] rfl rfl ?d1 ?d2 ?d3 ?d4 ?d5 ?_)
      case d1 => exact cell_one_new _ _ _
      case d2 => first | rfl | (intro u hu; simp at hu; subst hu; rfl)
      case d3 => unfold maxLen; omega
      case d4 => omega
      case d5 => have := unhide HLt; simp; omega
      intro v' w2 hown3 hgrow _
      have hrel2 := rel_ref B w wr w2 u3 v' ds (y + 128) (unhide HB) (unhide HBe) (unhide HLt) (unhide HO) hown3 hgrow
      rw [show y + 128 = y % 128 from by omega, unhide HYL] at hrel2
      obtain ⟨g, cap, hv', hrow, hcap, hg⟩ := own_shape hrel2.1 (by omega) (unhide HY)
      have HR2 := hide hrel2.2.1; have HRow := hide hrow; have HC := hide hcap; have HG := hide hg
      clear hown3 hgrow hrel2 HO hrow hcap hg
      rw [hv']
      clear hv'
      go_wp2
      go_ret
      exact ⟨g, cap, rfl, unhide HRow, unhide HC, unhide HG, unhide HR2⟩
end Go.Proofs.YtjhmglefejclpaaDoor

/- What is read may be, and has no fewer bytes than it needs. Plain mathematics. -/
namespace Go.Proofs.YtjhmglefejclpaaDoor
open Go.RowKit
namespace Ex
set_option linter.unusedVariables false
set_option linter.unusedSimpArgs false

theorem bU_short : ∀ (n f : Nat) (v : Int), v < 128 ^ (n + 1) → (Leb.bU f v).length ≤ n + 1
  | n, 0, v, _ => by simp [Leb.bU]
  | 0, f + 1, v, h => by
    have h0 : ¬ 127 < v := by simp at h; omega
    simp [Leb.bU, h0]
  | n + 1, f + 1, v, h => by
    by_cases h0 : 127 < v
    · have h1 : v / 128 < 128 ^ (n + 1) := by
        have e : (128 : Int) ^ (n + 1 + 1) = 128 ^ (n + 1) * 128 := by rw [Int.pow_succ]
        rw [e] at h
        exact Int.ediv_lt_of_lt_mul (by decide) h
      have := bU_short n f (v / 128) h1
      simp only [Leb.bU, h0, if_true, List.length_cons]
      omega
    · simp [Leb.bU, h0]
theorem bS_short : ∀ (n f : Nat) (v : Int), -64 * 128 ^ n ≤ v → v < 64 * 128 ^ n → (Leb.bS f v).length ≤ n + 1
  | n, 0, v, _, _ => by simp [Leb.bS]
  | 0, f + 1, v, h, h' => by
    have h0 : -64 ≤ v ∧ v < 64 := by simp at h h'; omega
    simp [Leb.bS, h0]
  | n + 1, f + 1, v, h, h' => by
    by_cases h0 : -64 ≤ v ∧ v < 64
    · simp [Leb.bS, h0]
    · have e : (128 : Int) ^ (n + 1) = 128 ^ n * 128 := by rw [Int.pow_succ]
      rw [e] at h h'
      have := bS_short n f (v / 128) (by omega) (by omega)
      simp only [Leb.bS, h0, if_false, List.length_cons]
      omega
theorem tu_short {qs : List Int} {n : Int} (h : Leb.tuE qs n = 0) : (Leb.bU 10 (Leb.tuV qs n)).length ≤ (Leb.tuN qs n).toNat := by
  have hb := tu_bd qs n h
  have hc : Leb.cntE qs n = 0 := by
    unfold Leb.tuE at h
    by_cases hh : Leb.cntE qs n = 0
    · exact hh
    · rw [if_neg hh] at h; exact h
  have h2 := Leb.cnt_0 qs n hc
  have hN : (Leb.tuN qs n).toNat = Leb.lead qs + 1 := by unfold Leb.tuN; rw [if_pos h]; omega
  have hj := Leb.jn_bd (qs.take (Leb.lead qs + 1))
  have hl : (qs.take (Leb.lead qs + 1)).length = Leb.lead qs + 1 := by simp; omega
  rw [hl] at hj
  rw [hN]
  refine bU_short _ _ _ ?_
  unfold Leb.tuV
  rw [if_pos h]
  generalize (128 : Int) ^ (Leb.lead qs + 1) = P at *
  omega
theorem XX_bd {qs : List Int} (hl : Leb.lead qs < qs.length) (h0 : 0 ≤ qs.getD (Leb.lead qs) 0) : -64 * 128 ^ Leb.lead qs ≤ Leb.XX qs ∧ Leb.XX qs < 64 * 128 ^ Leb.lead qs := by
  obtain ⟨low, l0, l1, _, hx, s0, s1⟩ := Leb.JJ_parts qs hl h0
  generalize Leb.sg (qs.getD (Leb.lead qs) 0) = s at *
  rw [hx]
  have hP : (0 : Int) ≤ 128 ^ Leb.lead qs := by omega
  generalize (128 : Int) ^ Leb.lead qs = P at *
  have a1 : P * -64 ≤ P * s := Int.mul_le_mul_of_nonneg_left s0 hP
  have a2 : P * s ≤ P * 63 := Int.mul_le_mul_of_nonneg_left (by omega) hP
  omega
theorem ts_good {qs : List Int} {m : Nat} (hm : m = 31 ∨ m = 63) (hq : ∀ z ∈ qs, 0 ≤ z ∧ z ≤ 255) (h : Leb.tsE qs ((m + 1 : Nat) : Int) = 0) :
    (Leb.bS 10 (Leb.tsV qs ((m + 1 : Nat) : Int))).length ≤ (Leb.tsN qs ((m + 1 : Nat) : Int)).toNat ∧ -(2 ^ m) ≤ Leb.tsV qs ((m + 1 : Nat) : Int) ∧ Leb.tsV qs ((m + 1 : Nat) : Int) < 2 ^ m := by
  have hc : Leb.cntE qs ((m + 1 : Nat) : Int) = 0 := by
    have h' := h
    unfold Leb.tsE at h'
    by_cases hh : Leb.cntE qs ((m + 1 : Nat) : Int) = 0
    · exact hh
    · rw [if_neg hh] at h'; exact h'
  have h2 := Leb.cnt_0 qs _ hc
  have h0 : 0 ≤ qs.getD (Leb.lead qs) 0 := by
    have : qs.getD (Leb.lead qs) 0 = qs[Leb.lead qs]'h2.2.2.2 := by simp [List.getD, h2.2.2.2]
    rw [this]; exact (hq _ (List.getElem_mem _)).1
  have hi := Leb.tsE_iff qs m hc h0
  rw [h] at hi
  have hx : Leb.XX qs / 2 ^ m = 0 ∨ Leb.XX qs / 2 ^ m = -1 := by
    by_cases hh : Leb.XX qs / 2 ^ m = 0 ∨ Leb.XX qs / 2 ^ m = -1
    · exact hh
    · rw [if_neg hh] at hi; exact absurd hi (by decide)
  have hb := XX_bd h2.2.2.2 h0
  have hN : (Leb.tsN qs ((m + 1 : Nat) : Int)).toNat = Leb.lead qs + 1 := by unfold Leb.tsN; rw [if_pos h]; omega
  have hr : -(2 ^ m) ≤ Leb.XX qs ∧ Leb.XX qs < 2 ^ m := by
    rcases hm with rfl | rfl
    · have e : (2 : Int) ^ 31 = 2147483648 := by decide
      rw [e] at *; omega
    · have e : (2 : Int) ^ 63 = 9223372036854775808 := by decide
      rw [e] at *; omega
  have hV : Leb.tsV qs ((m + 1 : Nat) : Int) = Leb.XX qs := by
    have e : Leb.tsV qs ((m + 1 : Nat) : Int) = IntKind.i64.wrap (Leb.XX qs) := by unfold Leb.tsV; rw [if_pos h]; rfl
    rw [e, IntKind.wrap_i64]
    rcases hm with rfl | rfl
    · have e : (2 : Int) ^ 31 = 2147483648 := by decide
      rw [e] at *; omega
    · have e : (2 : Int) ^ 63 = 9223372036854775808 := by decide
      rw [e] at *; omega
  rw [hV, hN]
  exact ⟨bS_short _ _ _ hb.1 hb.2, hr⟩
theorem pU_good {zs : List Int} {a : Nat} {m : Int} (hz : ∀ z ∈ zs, 0 ≤ z ∧ z ≤ 255) (h : (pU zs a m).e = 0) : a + (Leb.bU 10 (pU zs a m).v).length ≤ (pU zs a m).at_ ∧ 0 ≤ (pU zs a m).v ∧ (pU zs a m).v < 4294967296 ∧ (pU zs a m).v ≤ m := by
  have hq : ∀ z ∈ zs.drop a, 0 ≤ z ∧ z ≤ 255 := fun z h => hz z (List.mem_of_mem_drop h)
  by_cases h1 : Leb.tuE (zs.drop a) 32 = 0
  · by_cases h2 : m < Leb.tuV (zs.drop a) 32
    · have e : pU zs a m = ⟨9, a, 0⟩ := by unfold pU; rw [if_pos h1, if_pos h2]
      rw [e] at h; exact absurd h (show ¬ (9 : Int) = 0 by decide)
    · have e : pU zs a m = ⟨0, a + (Leb.tuN (zs.drop a) 32).toNat, Leb.tuV (zs.drop a) 32⟩ := by unfold pU; rw [if_pos h1, if_neg h2]
      have h3 := tu_short h1
      have h4 := tuV_32 hq h1
      rw [e]
      exact ⟨Nat.add_le_add_left h3 a, h4.1, h4.2, by show Leb.tuV (zs.drop a) 32 ≤ m; omega⟩
  · have e : pU zs a m = ⟨Leb.tuE (zs.drop a) 32, a, 0⟩ := by unfold pU; rw [if_neg h1]
    rw [e] at h; exact absurd h h1
theorem pS_good {zs : List Int} {a m : Nat} (hm : m = 31 ∨ m = 63) (hz : ∀ z ∈ zs, 0 ≤ z ∧ z ≤ 255) (h : (pS zs a ((m + 1 : Nat) : Int)).e = 0) : a + (Leb.bS 10 (pS zs a ((m + 1 : Nat) : Int)).v).length ≤ (pS zs a ((m + 1 : Nat) : Int)).at_ ∧ -(2 ^ m) ≤ (pS zs a ((m + 1 : Nat) : Int)).v ∧ (pS zs a ((m + 1 : Nat) : Int)).v < 2 ^ m := by
  have hq : ∀ z ∈ zs.drop a, 0 ≤ z ∧ z ≤ 255 := fun z h => hz z (List.mem_of_mem_drop h)
  by_cases h1 : Leb.tsE (zs.drop a) ((m + 1 : Nat) : Int) = 0
  · have e : pS zs a ((m + 1 : Nat) : Int) = ⟨0, a + (Leb.tsN (zs.drop a) ((m + 1 : Nat) : Int)).toNat, Leb.tsV (zs.drop a) ((m + 1 : Nat) : Int)⟩ := by unfold pS; rw [if_pos h1]
    have h3 := ts_good hm hq h1
    rw [e]
    exact ⟨Nat.add_le_add_left h3.1 a, h3.2.1, h3.2.2⟩
  · have e : pS zs a ((m + 1 : Nat) : Int) = ⟨Leb.tsE (zs.drop a) ((m + 1 : Nat) : Int), a, 0⟩ := by unfold pS; rw [if_neg h1]
    rw [e] at h; exact absurd h h1
theorem pB_good {zs : List Int} {a : Nat} {J : Int → Int} (h : (pB zs a J).e = 0) : a < zs.length ∧ (pB zs a J).at_ = a + 1 ∧ (pB zs a J).v = zs.getD a 0 ∧ J (zs.getD a 0) = 0 := by
  by_cases h1 : zs.length ≤ a
  · have e : pB zs a J = ⟨4, a, 0⟩ := by unfold pB; rw [if_pos h1]
    rw [e] at h; exact absurd h (show ¬ (4 : Int) = 0 by decide)
  · by_cases h2 : J (zs.getD a 0) = 0
    · have e : pB zs a J = ⟨0, a + 1, zs.getD a 0⟩ := by unfold pB; rw [if_neg h1, if_pos h2]
      rw [e]; exact ⟨by omega, rfl, rfl, h2⟩
    · have e : pB zs a J = ⟨J (zs.getD a 0), a, 0⟩ := by unfold pB; rw [if_neg h1, if_neg h2]
      rw [e] at h; exact absurd h h2
theorem Part.on_e {β : Type} {p : Part} {k : Nat} {d : β} {f : Nat → Int → Out β} (h : (p.on k d f).e = 0) : p.e = 0 ∧ p.on k d f = f p.at_ p.v := by
  by_cases he : p.e = 0
  · exact ⟨he, Part.on_ok he _ _ _⟩
  · rw [Part.on_no he] at h; exact absurd h he
theorem Out.on_e {α β : Type} {x : Out α} {d : β} {f : Nat → Nat → α → Out β} (h : (x.on d f).e = 0) : x.e = 0 ∧ x.on d f = f x.at_ x.k x.v := by
  by_cases he : x.e = 0
  · exact ⟨he, Out.on_ok he _ _⟩
  · rw [Out.on_no he] at h; exact absurd h he
theorem pL_good {zs : List Int} (hz : ∀ z ∈ zs, 0 ≤ z ∧ z ≤ 255) : ∀ (m a k : Nat), (pL zs m a k).e = 0 → (pL zs m a k).v.length = m ∧ (pL zs m a k).k = k ∧ (∀ z ∈ (pL zs m a k).v, 0 ≤ z ∧ z < 4294967296) ∧ a + ((pL zs m a k).v.flatMap (Leb.bU 10)).length ≤ (pL zs m a k).at_
  | 0, a, k, _ => by simp [pL]
  | m + 1, a, k, h => by
    rw [pL] at h ⊢
    obtain ⟨e1, q1⟩ := Part.on_e h
    rw [q1] at h ⊢
    obtain ⟨e2, q2⟩ := Out.on_e h
    rw [q2]
    obtain ⟨g1, g2, g3, _⟩ := pU_good hz e1
    obtain ⟨i1, i2, i3, i4⟩ := pL_good hz m _ k e2
    generalize pU zs a 4294967295 = P at *
    generalize pL zs m P.at_ k = R at *
    refine ⟨by simp [i1], i2, fun z hz => ?_, ?_⟩
    · rcases List.mem_cons.1 hz with rfl | hz
      · exact ⟨g2, g3⟩
      · exact i3 z hz
    · simp only [List.flatMap_cons, List.length_append]; omega
/-- a list that is read well -/
def GoodL (nest a k : Nat) (me : Bool) (R : Out (List Ins × Int)) : Prop :=
  R.e = 0 → Wf R.v.1 ∧ may nest R.v.1 = true ∧ R.k = k + cnt R.v.1 ∧ R.k ≤ 16384 ∧ a + (enc R.v.1).length + 1 ≤ R.at_ ∧ (R.v.2 = 5 → me = true)
/-- an instruction that is read well -/
def GoodI (nest a k : Nat) (op : Int) (R : Out Ins) : Prop :=
  R.e = 0 → R.v.op = op ∧ WfI R.v ∧ mayI nest R.v = true ∧ R.k = k + cnt R.v.body + cnt R.v.els ∧ R.k ≤ 16384 ∧ a + (encI R.v).length ≤ R.at_
theorem Wf_plain {op n al of re : Int} {ls : List Int} (h : fit op n al of re ls) : WfI ⟨op, n, al, of, re, [], [], ls⟩ := ⟨h, Wf_nil, Wf_nil⟩
theorem flat_i {nest a k at_ : Nat} {op f n al of re : Int} {ls : List Int} (hs : (frm op).isSome = true) (hf : fr op = f) (h6 : ¬ f = 6) (h7 : ¬ f = 7) (hfit : fit op n al of re ls) (hb : bnd f n re ls.length = true) (ha : alo f n al of re 0 0 ls.length = true) (hk : k ≤ 16384)
    (he : a + (encF f n al of re [] [] 0 ls).length ≤ at_) : GoodI nest a k op ⟨0, at_, k, ⟨op, n, al, of, re, [], [], ls⟩⟩ := by
  intro _
  refine ⟨rfl, Wf_plain hfit, ?_, by simp [cnt_nil], hk, ?_⟩
  · unfold mayI one
    simp only [hs, hf, hb, List.length_nil, ha, Bool.and_self, Bool.true_and]
    have : blk f = false := by unfold blk; exact decide_eq_false (by omega)
    simp [this]
  · unfold encI
    simp only [hf, enc_nil, List.length_nil]
    exact he
theorem pI_good {rc : Nat → Nat → Nat → Bool → Out (List Ins × Int)} {zs : List Int} (hz : ∀ z ∈ zs, 0 ≤ z ∧ z ≤ 255) (hrc : ∀ a k nest me, nest ≤ 64 → k ≤ 16384 → GoodL nest a k me (rc a k nest me)) (a k nest : Nat) (op : Int)
    (h0 : 0 ≤ op) (h1 : op ≤ 255) (hs : (frm op).isSome = true) (hn : nest ≤ 64) (hb : blk (fr op) = true → nest < 64) (hk : k ≤ 16384) : GoodI nest a k op (pI rc zs a k nest op) := by
  obtain ⟨f, hf⟩ : ∃ f, fr op = f := ⟨_, rfl⟩
  have hop : (0 ≤ op ∧ op ≤ 255) := ⟨h0, h1⟩
  have z64 : (-9223372036854775808 : Int) ≤ 0 ∧ (0 : Int) < 9223372036854775808 := by decide
  have z32 : (0 : Int) ≤ 0 ∧ (0 : Int) < 4294967296 := by decide
  have z8 : (0 : Int) ≤ 0 ∧ (0 : Int) ≤ 255 := by decide
  have znil : ∀ z ∈ ([] : List Int), 0 ≤ z ∧ z < 4294967296 := by simp
  unfold pI
  rw [hf]
  by_cases f1 : f = 1
  · subst f1
    rw [if_pos rfl]
    intro h
    obtain ⟨e1, q1⟩ := Part.on_e h
    rw [q1]
    obtain ⟨g1, g2, g3⟩ := pS_good (m := 31) (.inl rfl) hz e1
    have e31 : (2 : Int) ^ 31 = 2147483648 := by decide
    rw [e31] at g2 g3
    have c32 : (((31 + 1 : Nat) : Nat) : Int) = 32 := rfl
    rw [c32] at g1 g2 g3
    generalize pS zs a 32 = P at *
    exact flat_i hs hf (by decide) (by decide) ⟨hop, ⟨by omega, by omega⟩, z32, z32, z8, znil⟩ (by simp [bnd]; omega) (by simp [alo, plain]) hk (by simp [encF]; exact g1) rfl
  rw [if_neg f1]
  by_cases f2 : f = 2
  · subst f2
    rw [if_pos rfl]
    intro h
    obtain ⟨e1, q1⟩ := Part.on_e h
    rw [q1]
    obtain ⟨g1, g2, g3⟩ := pS_good (m := 63) (.inr rfl) hz e1
    have e63 : (2 : Int) ^ 63 = 9223372036854775808 := by decide
    rw [e63] at g2 g3
    have c64 : (((63 + 1 : Nat) : Nat) : Int) = 64 := rfl
    rw [c64] at g1 g2 g3
    generalize pS zs a 64 = P at *
    exact flat_i hs hf (by decide) (by decide) ⟨hop, ⟨by omega, by omega⟩, z32, z32, z8, znil⟩ (by simp [bnd]) (by simp [alo, plain]) hk (by simp [encF]; exact g1) rfl
  rw [if_neg f2]
  by_cases f3 : f = 3
  · subst f3
    rw [if_pos rfl]
    intro h
    obtain ⟨e1, q1⟩ := Part.on_e h
    rw [q1]
    obtain ⟨g1, g2, g3, _⟩ := pU_good hz e1
    generalize pU zs a 4294967295 = P at *
    exact flat_i hs hf (by decide) (by decide) ⟨hop, ⟨by omega, by omega⟩, z32, z32, z8, znil⟩ (by simp [bnd]; omega) (by simp [alo, plain]) hk (by simp [encF]; exact g1) rfl
  rw [if_neg f3]
  by_cases f4 : f = 4
  · subst f4
    rw [if_pos rfl]
    intro h
    obtain ⟨e1, q1⟩ := Part.on_e h
    rw [q1] at h ⊢
    obtain ⟨e2, q2⟩ := Part.on_e h
    rw [q2]
    obtain ⟨g1, g2, g3, _⟩ := pU_good hz e1
    obtain ⟨i1, i2, i3, _⟩ := pU_good hz e2
    generalize pU zs a 4294967295 = P at *
    generalize pU zs P.at_ 4294967295 = R at *
    exact flat_i hs hf (by decide) (by decide) ⟨hop, z64, ⟨g2, g3⟩, ⟨i2, i3⟩, z8, znil⟩ (by simp [bnd]) (by simp [alo, plain]) hk (by simp [encF]; omega) rfl
  rw [if_neg f4]
  by_cases f5 : f = 5
  · subst f5
    rw [if_pos rfl]
    intro h
    obtain ⟨e1, q1⟩ := Part.on_e h
    rw [q1]
    obtain ⟨_, g1, _, _⟩ := pB_good e1
    generalize pB zs a jZ = P at *
    exact flat_i hs hf (by decide) (by decide) ⟨hop, z64, z32, z32, z8, znil⟩ (by simp [bnd]) (by simp [alo, plain]) hk (by simp [encF]; omega) rfl
  rw [if_neg f5]
  by_cases f8 : f = 8
  · subst f8
    rw [if_pos rfl]
    intro h
    obtain ⟨e1, q1⟩ := Part.on_e h
    rw [q1] at h ⊢
    obtain ⟨e2, q2⟩ := Out.on_e h
    rw [q2]
    obtain ⟨g1, g2, g3, g4⟩ := pU_good hz e1
    obtain ⟨i1, i2, i3, i4⟩ := pL_good hz _ _ _ e2
    generalize pU zs a 256 = P at *
    generalize pL zs (P.v.toNat + 1) P.at_ k = R at *
    have hl : ((R.v.length : Int) - 1) = P.v := by omega
    rw [i2]
    exact flat_i hs hf (by decide) (by decide) ⟨hop, z64, z32, z32, z8, i3⟩ (by simp [bnd]; omega) (by simp [alo, plain]) hk (by
      have e : encF 8 0 0 0 0 [] [] 0 R.v = Leb.bU 10 P.v ++ R.v.flatMap (Leb.bU 10) := by simp only [encF, hl]; simp
      show a + (encF 8 0 0 0 0 [] [] 0 R.v).length ≤ R.at_
      rw [e, List.length_append]; omega) rfl
  rw [if_neg f8]
  by_cases f9 : f = 9
  · subst f9
    rw [if_pos rfl]
    intro h
    obtain ⟨e1, q1⟩ := Part.on_e h
    rw [q1] at h ⊢
    obtain ⟨e2, q2⟩ := Part.on_e h
    rw [q2]
    obtain ⟨g1, g2, g3, _⟩ := pU_good hz e1
    obtain ⟨_, i1, _, _⟩ := pB_good e2
    generalize pU zs a 4294967295 = P at *
    generalize pB zs P.at_ jZ = R at *
    exact flat_i hs hf (by decide) (by decide) ⟨hop, ⟨by omega, by omega⟩, z32, z32, z8, znil⟩ (by simp [bnd]; omega) (by simp [alo, plain]) hk (by simp [encF]; omega) rfl
  rw [if_neg f9]
  by_cases f67 : f = 6 ∨ f = 7
  · rw [if_pos f67]
    intro h
    obtain ⟨e1, q1⟩ := Part.on_e h
    rw [q1] at h ⊢
    obtain ⟨_, g1, g2, g3⟩ := pB_good e1
    have hre : kV (pB zs a jK).v = 0 ∨ kV (pB zs a jK).v = 127 ∨ kV (pB zs a jK).v = 126 := by
      rw [g2]
      unfold jK at g3
      by_cases hh : zs.getD a 0 = 64 ∨ zs.getD a 0 = 127 ∨ zs.getD a 0 = 126
      · unfold kV; rcases hh with hh | hh | hh <;> rw [hh] <;> decide
      · rw [if_neg hh] at g3
        split at g3 <;> exact absurd g3 (by decide)
    obtain ⟨re, hr⟩ : ∃ re, kV (pB zs a jK).v = re := ⟨_, rfl⟩
    rw [hr] at h hre ⊢
    rw [g1] at h ⊢
    unfold pK at h ⊢
    obtain ⟨e2, q2⟩ := Out.on_e h
    rw [q2] at h ⊢
    have hbl : blk (fr op) = true := by rw [hf]; unfold blk; exact decide_eq_true f67
    have hlt := hb hbl
    obtain ⟨b1, b2, b3, b4, b5, b6⟩ := hrc (a + 1) k (nest + 1) (decide (fr op = 7)) (by omega) hk e2
    generalize rc (a + 1) k (nest + 1) (decide (fr op = 7)) = R at *
    have hreb : (0 ≤ re ∧ re ≤ 255) := by omega
    by_cases h5 : R.v.2 = 5
    · rw [if_pos h5] at h ⊢
      have h7 : fr op = 7 := of_decide_eq_true (b6 h5)
      have f7 : f = 7 := by omega
      obtain ⟨e3, q3⟩ := Out.on_e h
      rw [q3] at h ⊢
      obtain ⟨d1, d2, d3, d4, d5, _⟩ := hrc R.at_ R.k (nest + 1) false (by omega) b4 e3
      generalize rc R.at_ R.k (nest + 1) false = T at *
      refine ⟨rfl, ⟨⟨hop, z64, z32, z32, hreb, znil⟩, b1, d1⟩, ?_, ?_, d4, ?_⟩
      · unfold mayI one
        simp only [plain, hs, hf, f7, b2, d2, hlt, Bool.true_and, Bool.and_true, decide_true, Bool.and_self, Bool.or_true]
        simp [bnd, alo, hre]
      · show T.k = k + cnt R.v.1 + cnt T.v.1
        omega
      · unfold encI
        simp only [plain, hf, f7]
        simp only [encF]
        simp
        split <;> simp <;> omega
    · rw [if_neg h5] at h ⊢
      refine ⟨rfl, ⟨⟨hop, z64, z32, z32, hreb, znil⟩, b1, Wf_nil⟩, ?_, ?_, b4, ?_⟩
      · unfold mayI one
        simp only [plain, hs, hf, b2, may_nil, hlt, Bool.true_and, Bool.and_true, decide_true, Bool.and_self, Bool.or_true]
        rcases f67 with rfl | rfl <;> simp [bnd, alo, hre]
      · show R.k = k + cnt R.v.1 + cnt []
        rw [cnt_nil]; omega
      · unfold encI
        simp only [plain, hf, enc_nil, List.length_nil]
        rcases f67 with rfl | rfl <;> (simp [encF]; omega)
  · rw [if_neg f67]
    exact flat_i hs hf (by omega) (by omega) ⟨hop, z64, z32, z32, z8, znil⟩ (by unfold bnd; rw [if_neg f1, if_neg (by omega), if_neg f67, if_neg f8]) (by unfold alo; exact decide_eq_true (by simp)) hk (by unfold encF; rw [if_neg (by omega), if_neg f3, if_neg f4, if_neg f5, if_neg f67, if_neg f8, if_neg f9]; simp)
theorem dec_good {zs : List Int} (hz : ∀ z ∈ zs, 0 ≤ z ∧ z ≤ 255) : ∀ (f a k nest : Nat) (me : Bool), nest ≤ 64 → k ≤ 16384 → GoodL nest a k me (dec f zs a k nest me)
  | 0, a, k, nest, me, _, _ => fun h => absurd h (show ¬ (4 : Int) = 0 by decide)
  | f + 1, a, k, nest, me, hn, hk => by
    have ih := dec_good hz f
    show GoodL nest a k me (step (dec f zs) zs a k nest me)
    intro h
    unfold step at h ⊢
    obtain ⟨e1, q1⟩ := Part.on_e h
    rw [q1] at h ⊢
    obtain ⟨g0, g1, g2, g3⟩ := pB_good e1
    have hc : 0 ≤ zs.getD a 0 ∧ zs.getD a 0 ≤ 255 := by
      have : zs.getD a 0 = zs[a]'g0 := by simp [List.getD, g0]
      rw [this]; exact hz _ (List.getElem_mem _)
    rw [g1, g2] at h ⊢
    generalize zs.getD a 0 = c at *
    by_cases hcc : c = 11 ∨ c = 5
    · rw [if_pos hcc]
      refine ⟨Wf_nil, may_nil _, by simp [cnt_nil], hk, by simp [enc_nil], fun h5 => ?_⟩
      have h5' : c = 5 := h5
      subst h5'
      cases me with
      | true => rfl
      | false =>
        have h5a : frm 5 = none := by kernel_rfl
        have h5b : flt 5 = false := by kernel_rfl
        unfold jO at g3
        rw [h5a, h5b] at g3
        simp at g3
    · rw [if_neg hcc] at h ⊢
      have hj : (frm c).isSome = true ∧ ¬ k = 16384 ∧ (blk (fr c) = true → ¬ nest = 64) := by
        unfold jO at g3
        rw [if_neg (fun hh => hcc (by rcases hh with hh | hh; exact .inl hh; exact .inr hh.1))] at g3
        by_cases hfl : flt c = true
        · rw [if_pos hfl] at g3; exact absurd g3 (by decide)
        · rw [if_neg hfl] at g3
          cases hfr : frm c with
          | none => rw [hfr] at g3; simp at g3
          | some f =>
            rw [hfr] at g3
            simp only at g3
            by_cases hh : k = 16384 ∨ (blk f = true ∧ nest = 64)
            · rw [if_pos hh] at g3; exact absurd g3 (by decide)
            · refine ⟨rfl, fun e => hh (.inl e), fun hb hn => hh (.inr ⟨?_, hn⟩)⟩
              unfold fr at hb; rw [hfr] at hb; exact hb
      obtain ⟨e2, q2⟩ := Out.on_e h
      rw [q2] at h ⊢
      obtain ⟨i1, i2, i3, i4, i5, i6⟩ := pI_good hz (fun a k nest me hn hk => ih a k nest me hn hk) (a + 1) (k + 1) nest c hc.1 hc.2 hj.1 hn (fun hb => by have := hj.2.2 hb; omega) (by omega) e2
      generalize pI (dec f zs) zs (a + 1) (k + 1) nest c = P at *
      obtain ⟨e3, q3⟩ := Out.on_e h
      rw [q3]
      obtain ⟨r1, r2, r3, r4, r5, r6⟩ := ih P.at_ P.k nest me hn i5 e3
      generalize dec f zs P.at_ P.k nest me = R at *
      refine ⟨(Wf_cons _ _).2 ⟨i2, r1⟩, by rw [may_cons, i3, r2]; rfl, ?_, r4, ?_, r6⟩
      · rw [cnt_cons]
        show R.k = _
        omega
      · rw [enc_cons]
        simp only [List.length_append, List.length_cons, List.length_nil]
        show _ ≤ R.at_
        omega
end Ex
end Go.Proofs.YtjhmglefejclpaaDoor

/- ExprBack's walk. -/
namespace Go.Proofs.YtjhmglefejclpaaDoor
open Go.RowKit
namespace Ex
set_option linter.unusedVariables false
set_option linter.unusedSimpArgs false

theorem wpList_append_far {ops : Array Oper} {rest : List Oper} {o : Oper} {a : Act} {Q : Exit → Act → World → Prop} (w : World) (hgd : o.guard = none) (s x : Operand)
    (ho : o.op = .call { callee := .builtin .append, args := #[s, x], argTypes := #[27, 27] })
    (B : Nat) (v : Value) (n : Nat) (xs : List Int) (hs : a.eval s = v) (hown : w.ownsRow B 5 1 v n (xs.map (Value.int .u8)))
    (ao : Option Addr) (m c : Nat) (zs : List Int) (hx : a.eval x = .slice ao m c) (hrow : Row w ao m zs) (hnil : ao = none → c = 0) (hb : n + m ≤ 1099511627776) (hB : B ≤ w.heap.size)
    (h : ∀ v' w', w'.ownsRow B 5 1 v' (n + m) ((xs ++ zs).map (Value.int .u8)) → Below B w w' → wpList Tryd.prog ops Q rest (a.put o.dst v') w') : wpList Tryd.prog ops Q (o :: rest) a w := by
  obtain ⟨i0, hi, hz0, hz1, hz2⟩ := info_parts Tryd.info5
  cases ao with
  | none =>
    have hm : m = 0 := by
      rcases Nat.eq_zero_or_pos m with h1 | h1
      · exact h1
      · obtain ⟨b, off, hc, _⟩ := hrow.2.2 h1; simp at hc
    subst hm
    have hzs : zs = [] := List.eq_nil_of_length_eq_zero hrow.1
    subst hzs
    have hc0 := hnil rfl
    subst hc0
    refine wpList_append_own_none hgd s x 27 ho B 5 i0 1 Tryd.underlying27 hi v n (xs.map (Value.int .u8)) hs hown hx ?_
    exact h v w (by simpa using hown) (Below.refl _ _)
  | some ad =>
    refine wpList_append_own w hgd s x 27 ho B 5 i0 (.int .u8 0) 1 1 Tryd.underlying27 hi hz0 hz1 hz2 rfl (by decide) v n (xs.map (Value.int .u8)) hs hown ad m c (zs.map (Value.int .u8)) hx (by simp [hrow.1]) ?_ (ints_oneCell _ _) (by unfold maxLen; omega) (by omega) hB ?_
    · intro j u hj
      simp at hj
      obtain ⟨z, hz, rfl⟩ := hj
      have hj2 : j < m := by have := (List.getElem?_eq_some_iff.1 hz).1; have := hrow.1; omega
      obtain ⟨b, off, he, _, hcell⟩ := hrow.2.2 (by omega)
      simp at he; subst he
      rw [addr_add, hcell j hj2]; simp [List.getD, hz]
    · intro v' w' hown' hgrow _
      exact h v' w' (by simpa using hown') ((Below.refl B w).grown hgrow hB (fun k hk => (hown.lt k hk).1))
theorem mayI_ls {d : Nat} {i : Ins} (h : mayI d i = true) : i.ls.length ≤ 257 ∧ (blk (fr i.op) = false → i.body = [] ∧ i.els = []) ∧ (blk (fr i.op) = true → may (d + 1) i.body = true ∧ may (d + 1) i.els = true) := by
  unfold mayI one at h
  simp only [Bool.and_eq_true] at h
  obtain ⟨⟨⟨_, hb⟩, ha⟩, hr⟩ := h
  unfold alo at ha
  have ha := of_decide_eq_true ha
  obtain ⟨_, _, a3, a4, a5⟩ := ha
  refine ⟨?_, fun hk => ?_, fun hk => ?_⟩
  · rcases a5 with h8 | h8
    · unfold bnd at hb
      rw [h8] at hb
      simp at hb
      omega
    · omega
  · have hk := of_decide_eq_false hk
    refine ⟨List.eq_nil_of_length_eq_zero ?_, List.eq_nil_of_length_eq_zero ?_⟩
    · rcases a3 with h | h | h
      · exact absurd (.inl h) hk
      · exact absurd (.inr h) hk
      · exact h.2
    · rcases a4 with h | h
      · exact absurd (.inr h) hk
      · exact h
  · rw [hk] at hr
    simp at hr
    exact ⟨hr.1.2, hr.2⟩
theorem Sz_may (l : List Ins) : ∀ d, may d l = true → cnt l ≤ 16384 → Sz 1099511627776 l := by
  refine ind2 (P := fun l => ∀ d, may d l = true → cnt l ≤ 16384 → Sz 1099511627776 l) (fun l ih d hm hc => ?_) l
  refine Sz_of fun i hi => ?_
  obtain ⟨q1, q2, q3⟩ := mayI_ls (may_get hm i hi)
  have hs := cnt_sub hi
  have h1 := cnt_len i.body
  have h2 := cnt_len i.els
  refine ⟨by omega, by omega, by omega, ?_, ?_⟩
  · cases hk : blk (fr i.op) with
    | true => exact (ih i hi).1 (d + 1) (q3 hk).1 (by omega)
    | false => rw [(q2 hk).1]; exact Sz_nil _
  · cases hk : blk (fr i.op) with
    | true => exact (ih i hi).2 (d + 1) (q3 hk).2 (by omega)
    | false => rw [(q2 hk).2]; exact Sz_nil _
/-- what is read may be encoded -/
theorem D_may {zs : List Int} (hz : ∀ z ∈ zs, 0 ≤ z ∧ z ≤ 255) (h : (D zs 0 0 0 false).e = 0) : Wf (D zs 0 0 0 false).v.1 ∧ mayB (D zs 0 0 0 false).v.1 = true ∧ (D zs 0 0 0 false).v.1.length ≤ 1099511627776 ∧ Sz 1099511627776 (D zs 0 0 0 false).v.1 ∧ (enc (D zs 0 0 0 false).v.1).length + 1 ≤ (D zs 0 0 0 false).at_ := by
  obtain ⟨g1, g2, g3, g4, g5, _⟩ := dec_good hz (zs.length + 1) 0 0 0 false (by omega) (by omega) h
  have hc : cnt (D zs 0 0 0 false).v.1 ≤ 16384 := by unfold D; omega
  have hl := cnt_len (D zs 0 0 0 false).v.1
  exact ⟨g1, mayB_of hc g2, by omega, Sz_may _ 0 g2 hc, by unfold D; omega⟩
end Ex
end Go.Proofs.YtjhmglefejclpaaDoor

/- A builder of bytes: append as a step; how long the bytes of instructions are. -/
namespace Go.Proofs.YtjhmglefejclpaaDoor
open Go.RowKit
namespace Ex
set_option linter.unusedVariables false
set_option linter.unusedSimpArgs false

/-- bytes of the call's own -/
structure Bu (w : World) (B : Nat) (v : Value) (xs : List Int) : Prop where
  own : w.ownsRow B 5 1 v xs.length (xs.map (Value.int .u8))
  by_ : ∀ z ∈ xs, 0 ≤ z ∧ z ≤ 255
theorem Bu_nil (w : World) (B : Nat) : Bu w B (.slice none 0 0) [] := ⟨World.ownsRow_nil _ _ _ _, by simp⟩
theorem Bu.below {w w' : World} {B : Nat} {v : Value} {xs : List Int} (h : Bu w B v xs) (hb : Below w.heap.size w w') : Bu w' B v xs := ⟨ownsRow_below h.own hb, h.by_⟩
theorem Bu.row {w : World} {B : Nat} {v : Value} {xs : List Int} (h : Bu w B v xs) : ∃ a n c, v = .slice a n c ∧ Row w a n xs ∧ (a = none → c = 0) ∧ n = xs.length ∧ n ≤ c := by
  have h0 := h.own
  rcases h.own.2 with ⟨h1, h2⟩ | ⟨g, cap, cur, h1, h2, h3, h4, _⟩
  · have : xs = [] := List.eq_nil_of_length_eq_zero h2
    subst this
    exact ⟨none, 0, 0, h1, ⟨rfl, by simp, by simp⟩, fun _ => rfl, rfl, Nat.le_refl _⟩
  · subst h1
    refine ⟨_, _, _, rfl, ⟨rfl, h.by_, fun hl => ⟨g, 0, rfl, (Array.getElem?_eq_some_iff.1 h3).1, fun i hi => ?_⟩⟩, by simp, rfl, h4⟩
    rw [Nat.zero_add]
    exact row_cells h0 i _ (by simp [List.getD, hi])
/-- blocks that are none of bytes stay -/
def Kt (w w' : World) : Prop := ∀ (q : Nat) (A : Array Value) (t : TypeId) (z : Nat × Nat), t ≠ 5 → w.heap[q]? = some (Obj.cells A t z) → w'.heap[q]? = w.heap[q]?
theorem Kt.on {w w1 w2 : World} (h : Kt w w1) (h2 : Kt w1 w2) : Kt w w2 := fun q A t z ht hq => (h2 q A t z ht ((h q A t z ht hq).trans hq)).trans (h q A t z ht hq)
theorem Kt.of {w w' : World} (h : Below w.heap.size w w') : Kt w w' := fun q A t z ht hq => h.block q (Array.getElem?_eq_some_iff.1 hq).1
theorem app_run (w : World) (ty : TypeId) (B : Nat) (v : Value) (xs : List Int) (hown : Bu w B v xs) (ao : Option Addr) (m c : Nat) (zs : List Int) (hrow : Row w ao m zs) (hnil : ao = none → c = 0) (hb : xs.length + m ≤ 1099511627776) (hB : B ≤ w.heap.size) :
    ∃ a' n' c' w', (Builtin.append_ #[27, 27] ty #[v, .slice ao m c]).run Tryd.prog w = .ok (.slice a' n' c') w' ∧ Bu w' B (.slice a' n' c') (xs ++ zs) ∧ Below B w w' ∧ Kt w w' := by
  obtain ⟨i0, hi, hz0, hz1, hz2⟩ := info_parts Tryd.info5
  have hby : ∀ z ∈ xs ++ zs, 0 ≤ z ∧ z ≤ 255 := fun z hz => by
    rcases List.mem_append.1 hz with h | h
    · exact hown.by_ z h
    · exact hrow.2.1 z h
  cases ao with
  | none =>
    have hm : m = 0 := by
      rcases Nat.eq_zero_or_pos m with h1 | h1
      · exact h1
      · obtain ⟨b, off, hc, _⟩ := hrow.2.2 h1; simp at hc
    subst hm
    have hzs : zs = [] := List.eq_nil_of_length_eq_zero hrow.1
    subst hzs
    have hc0 := hnil rfl
    subst hc0
    have hrun := run_append_owned_none (P := Tryd.prog) (w := w) B 27 ty 5 i0 1 Tryd.underlying27 hi v xs.length (xs.map (Value.int .u8)) hown.own
    obtain ⟨a', n', c', rfl, _⟩ := hown.row
    exact ⟨a', n', c', w, hrun, by simpa using hown, Below.refl _ _, fun _ _ _ _ _ _ => rfl⟩
  | some ad =>
    obtain ⟨v', w', hrun, h1, h2, _⟩ := run_append_own (P := Tryd.prog) w B 27 ty 5 i0 (.int .u8 0) 1 1 Tryd.underlying27 hi hz0 hz1 hz2 rfl (by decide) v xs.length (xs.map (Value.int .u8)) hown.own ad m c (zs.map (Value.int .u8)) (by simp [hrow.1]) (by
      intro j u hj
      simp at hj
      obtain ⟨z, hz, rfl⟩ := hj
      have hj2 : j < m := by have := (List.getElem?_eq_some_iff.1 hz).1; have := hrow.1; omega
      obtain ⟨b, off, he, _, hcell⟩ := hrow.2.2 (by omega)
      simp at he; subst he
      rw [addr_add, hcell j hj2]; simp [List.getD, hz]) (ints_oneCell _ _) (by unfold maxLen; omega) (by omega) hB
    have hbu : Bu w' B v' (xs ++ zs) := ⟨by have e : (xs ++ zs).length = xs.length + m := by rw [List.length_append, hrow.1]
                                            rw [e, List.map_append]; exact h1, hby⟩
    obtain ⟨a', n', c', rfl, _⟩ := hbu.row
    refine ⟨a', n', c', w', hrun, hbu, (Below.refl B w).grown h2 hB (fun k hk => (hown.own.lt k hk).1), fun q A t z ht hq => h2.block q (Array.getElem?_eq_some_iff.1 hq).1 (fun e => ?_)⟩
    rcases hown.own.2 with ⟨e1, _⟩ | ⟨g, cap, cur, e1, _, e3, _⟩
    · rw [e1] at e; cases e
    · rw [e1] at e; cases e
      have := hq.symm.trans e3
      simp at this
      exact ht this.2.1
theorem wpList_lay {ops : Array Oper} {rest : List Oper} {o : Oper} {a : Act} {Q : Exit → Act → World → Prop} (w : World) (hgd : o.guard = none) (s x : Operand)
    (ho : o.op = .call { callee := .builtin .append, args := #[s, x], argTypes := #[27, 27] })
    (B : Nat) (v : Value) (xs : List Int) (hs : a.eval s = v) (hown : Bu w B v xs)
    (ao : Option Addr) (m c : Nat) (zs : List Int) (hx : a.eval x = .slice ao m c) (hrow : Row w ao m zs) (hnil : ao = none → c = 0) (hb : xs.length + m ≤ 1099511627776) (hB : B ≤ w.heap.size)
    (h : ∀ a' n' c' w', Bu w' B (.slice a' n' c') (xs ++ zs) → Below B w w' → Kt w w' → wpList Tryd.prog ops Q rest (a.put o.dst (.slice a' n' c')) w') : wpList Tryd.prog ops Q (o :: rest) a w := by
  obtain ⟨a', n', c', w', hrun, h1, h2, h3⟩ := app_run w o.type B v xs hown ao m c zs hrow hnil hb hB
  refine wpList_plain hgd fun _ hK => ?_
  unfold Oper.wp
  simp [execOp, ho, resolve, invoke, builtin, hs, hx, hrun, Result.andThen]
  exact hK _ _ (h a' n' c' w' h1 h2 h3)
theorem step_lay {ops : Array Oper} {o : Oper} {a : Act} {K : Act → World → Prop} {Q : Exit → Act → World → Prop} {E : Prop} (w : World) (hgd : o.guard = none) (s x : Operand)
    (ho : o.op = .call { callee := .builtin .append, args := #[s, x], argTypes := #[27, 27] })
    (B : Nat) (v : Value) (xs : List Int) (hs : a.eval s = v) (hown : Bu w B v xs)
    (ao : Option Addr) (m c : Nat) (zs : List Int) (hx : a.eval x = .slice ao m c) (hrow : Row w ao m zs) (hnil : ao = none → c = 0) (hb : xs.length + m ≤ 1099511627776) (hB : B ≤ w.heap.size)
    (h : ∀ a' n' c' w', Bu w' B (.slice a' n' c') (xs ++ zs) → Below B w w' → Kt w w' → K (a.put o.dst (.slice a' n' c')) w') :
    if Region.wanted o (yielded ops a.tmps) = true then Oper.wp Tryd.prog o a w K Q else E := by
  have hw : Region.wanted o (yielded ops a.tmps) = true := by simp [Region.wanted, hgd]
  rw [if_pos hw]
  obtain ⟨a', n', c', w', hrun, h1, h2, h3⟩ := app_run w o.type B v xs hown ao m c zs hrow hnil hb hB
  unfold Oper.wp
  simp [execOp, ho, resolve, invoke, builtin, hs, hx, hrun, Result.andThen]
  exact h a' n' c' w' h1 h2 h3
theorem row_one (w : World) (z : Int) (h0 : 0 ≤ z) (h1 : z ≤ 255) : Row (w.alloc (.cells #[.int .u8 z] 5)) (some ⟨w.heap.size, 0, none⟩) 1 [z] := row_lit w [z] (by intro x hx; simp at hx; omega)

/-- no more than so many bytes -/
theorem flat_le (ls : List Int) : (ls.flatMap (Leb.bU 10)).length ≤ 11 * ls.length := by
  induction ls with
  | nil => simp
  | cons x r ih => have := Leb.bU_len 10 x; rw [List.flatMap_cons, List.length_append, List.length_cons]; omega
theorem enc_le (l : List Ins) : ∀ d, may d l = true → (enc l).length ≤ 3000 * cnt l := by
  refine ind (P := fun l => ∀ d, may d l = true → (enc l).length ≤ 3000 * cnt l) ?_ ?_ l
  · intro d _; simp [enc_nil]
  · intro op n al of re b e ls r hb he hr d hm
    rw [may_cons, Bool.and_eq_true] at hm
    have h1 := hr d hm.2
    obtain ⟨q1, q2, q3⟩ := mayI_ls hm.1
    rw [enc_cons, cnt_cons]
    simp only [List.length_append, List.length_cons, List.length_nil]
    have h2 : (encI ⟨op, n, al, of, re, b, e, ls⟩).length ≤ 2900 + (enc b).length + (enc e).length ∧ (blk (fr op) = false → (encI ⟨op, n, al, of, re, b, e, ls⟩).length ≤ 2900) := by
      have a1 := Leb.bS_len 10 n; have a2 := Leb.bU_len 10 n; have a3 := Leb.bU_len 10 al; have a4 := Leb.bU_len 10 of; have a5 := Leb.bU_len 10 ((ls.length : Int) - 1); have a6 := flat_le ls
      simp only at q1
      unfold encI encF blk
      simp only
      split
      · exact ⟨by omega, fun _ => by omega⟩
      · split
        · exact ⟨by omega, fun _ => by omega⟩
        · split
          · simp only [List.length_append]; exact ⟨by omega, fun _ => by omega⟩
          · split
            · simp only [List.length_cons, List.length_nil]; exact ⟨by omega, fun _ => by omega⟩
            · split
              · rename_i h67
                refine ⟨?_, fun hb => by simp [h67] at hb⟩
                simp only [List.length_append, List.length_cons, List.length_nil]
                split
                · simp only [List.length_append, List.length_cons, List.length_nil]; omega
                · simp only [List.length_nil]; omega
              · split
                · simp only [List.length_append]; exact ⟨by omega, fun _ => by omega⟩
                · split
                  · simp only [List.length_append, List.length_cons, List.length_nil]; exact ⟨by omega, fun _ => by omega⟩
                  · simp only [List.length_cons, List.length_nil]; exact ⟨by omega, fun _ => by omega⟩
    cases hk : blk (fr op) with
    | true =>
      have h3 := hb (d + 1) (q3 hk).1
      have h4 := he (d + 1) (q3 hk).2
      have h5 := h2.1
      omega
    | false =>
      have := h2.2 hk
      omega
end Ex
end Go.Proofs.YtjhmglefejclpaaDoor

/- What the document's Form is to tell. -/
namespace Go.Proofs.YtjhmglefejclpaaDoor
open Go.RowKit
namespace Ex
set_option linter.unusedVariables false

/-- what the document's Form tells -/
def FormH : Prop := ∀ (op : Int) (w : World), 0 ≤ op → op ≤ 255 → Calls Tryd.prog 32 #[.int .u8 op] w fun e w' => e = .returned (.tuple #[.int .i64 (fr op), .bool (frm op).isSome]) ∧ Below w.heap.size w w'
theorem fr_all : ((List.range 256).all fun n => match frm n with | none => true | some f => decide (0 ≤ f ∧ f ≤ 9)) = true := by kernel_rfl
theorem fr_bd {op : Int} (h0 : 0 ≤ op) (h1 : op ≤ 255) (hs : (frm op).isSome = true) : 0 ≤ fr op ∧ fr op ≤ 9 := by
  obtain ⟨n, rfl⟩ := Int.eq_ofNat_of_zero_le h0
  have h := List.all_eq_true.1 fr_all n (List.mem_range.2 (by omega))
  cases hf : frm (n : Int) with
  | none => rw [hf] at hs; simp at hs
  | some f =>
    rw [hf] at h
    unfold fr
    rw [hf]
    exact of_decide_eq_true h
end Ex
end Go.Proofs.YtjhmglefejclpaaDoor

/- Instructions that come in, one within another: opened into a list that lies in memory; how much it holds against the reading's own bulk. -/
namespace Go.Proofs.YtjhmglefejclpaaDoor
open Go.ChangeShapes Go.WideShapes Go.ChangeAt Go.RowKit
namespace Ex
set_option linter.unusedVariables false

/-- how much there is: instructions and labels -/
def wt : List Ins → Nat
  | [] => 0
  | ⟨_, _, _, _, _, b, e, ls⟩ :: r => 1 + ls.length + wt b + wt e + wt r
def wI (i : Ins) : Nat := 1 + i.ls.length + wt i.body + wt i.els
theorem wt_nil : wt [] = 0 := by rw [wt]
theorem wt_cons (i : Ins) (r : List Ins) : wt (i :: r) = wI i + wt r := by obtain ⟨op, n, al, of, re, b, e, ls⟩ := i; rw [wt]; rfl
theorem wt_len : ∀ l : List Ins, l.length ≤ wt l
  | [] => by simp
  | i :: r => by have := wt_len r; rw [wt_cons, List.length_cons]; unfold wI; omega
theorem wt_mem {i : Ins} : ∀ {l : List Ins}, i ∈ l → wI i ≤ wt l
  | x :: r, h => by
    rw [wt_cons]
    rcases List.mem_cons.1 h with rfl | h
    · omega
    · have := wt_mem h; omega
theorem cnt_wt (l : List Ins) : cnt l ≤ wt l := by
  refine ind (P := fun l => cnt l ≤ wt l) (by rw [cnt_nil]; exact Nat.zero_le _) ?_ l
  intro op n al of re b e ls r hb he hr
  rw [cnt_cons, wt_cons]
  unfold wI
  simp only
  omega
theorem Sz_wt {M : Nat} (l : List Ins) : wt l ≤ M → Sz M l := by
  refine ind2 (P := fun l => wt l ≤ M → Sz M l) (fun l ih h => ?_) l
  refine Sz_of fun i hi => ?_
  have h1 := wt_mem hi
  unfold wI at h1
  have h2 := wt_len i.body
  have h3 := wt_len i.els
  exact ⟨by omega, by omega, by omega, (ih i hi).1 (by omega), (ih i hi).2 (by omega)⟩
theorem wt_le {H : Type} : ∀ (l : List Ins) (ds : List (DataW H)), l.length = ds.length → (∀ j (hj : j < l.length) (hj' : j < ds.length), wI l[j] ≤ Rows.uptoBulk ds[j]) → wt l ≤ Rows.uptoBulkAll ds
  | [], ds, _, _ => by rw [wt_nil]; exact Nat.zero_le _
  | i :: r, [], h, _ => by simp at h
  | i :: r, d :: ds, h, hw => by
    have h0 : wI i ≤ Rows.uptoBulk d := hw 0 (by simp) (by simp)
    have h1 := wt_le r ds (by simpa using h) (fun j hj hj' => hw (j + 1) (by simpa using hj) (by simpa using hj'))
    have e : Rows.uptoBulkAll (d :: ds) = Rows.uptoBulk d + Rows.uptoBulkAll ds := by rw [Rows.uptoBulkAll]
    rw [wt_cons, e]; omega
theorem bulk_pos {H : Type} (d : DataW H) : 1 ≤ Rows.uptoBulk d := by
  cases d with
  | lit l => cases l <;> simp [Rows.uptoBulk]
  | _ => simp [Rows.uptoBulk]
theorem len_bulk {H : Type} : ∀ ds : List (DataW H), ds.length ≤ Rows.uptoBulkAll ds
  | [] => by simp
  | d :: ds => by
    have e : Rows.uptoBulkAll (d :: ds) = Rows.uptoBulk d + Rows.uptoBulkAll ds := by rw [Rows.uptoBulkAll]
    have := len_bulk ds
    have := bulk_pos d
    rw [e, List.length_cons]; omega
theorem cell_at {cs : List Value} {k n : Nat} {x : Value} (hl : cs.length = n) (hk : k < n) (h : (cs.drop k).take 1 = [x]) : cs[k]? = some x := by
  have h1 : ((cs.drop k).take 1)[0]? = some x := by rw [h]; rfl
  rw [List.getElem?_take_of_lt (by omega), List.getElem?_drop] at h1
  simpa using h1
/-- labels that came in -/
theorem open_labs {H : Type} {enc : TypeId × Value → H} {w : World} {base fuel : Nat} {cs : List Value} {x : DataW H × List MemPlace}
    (h : DataW.trod enc Tryd.prog w base (fun _ => true) true fuel 48 cs = some x) : ∃ (ls : List Int) (v : Value), cs = [v] ∧ Lies (fun _ => True) ls.length (Lab w ls) v ∧ (∀ z ∈ ls, 0 ≤ z ∧ z < 4294967296) ∧ ls.length + 1 ≤ Rows.uptoBulk x.1 := by
  rcases open_ints Tryd.underlying48 Tryd.underlying46 (by kernel_rfl) h with ⟨hcs, hx⟩ | ⟨a, len, cap, zs, hcs, _, hl, hm, hz, hx, hc, hw⟩
  · exact ⟨[], _, hcs, ⟨none, 0, rfl, Nat.le_refl _, fun _ => rfl, fun h => by simp at h⟩, by simp, by have := bulk_pos x.1; simpa using this⟩
  · have hzl : zs.length = cap := by simpa using hz
    have hlt : (zs.take len).length = len := by simp; omega
    refine ⟨zs.take len, .slice (some a) len cap, hcs, ⟨some a, cap, by rw [hlt], by omega, by simp, fun h0 => ?_⟩, fun z hzm => ?_, ?_⟩
    · obtain ⟨b, off, spot⟩ := a
      have h00 := hc 0 (by omega)
      have hspot : spot = none := by simpa [Addr.add] using World.cell?_spot h00
      subst hspot
      refine ⟨b, off, rfl, trivial, fun i hi => ?_⟩
      have := hc i (by omega)
      rw [addr_add] at this
      rw [this]; simp [List.getD, show i < len by omega]
    · have := bounds_u32 (hw z (List.mem_of_mem_take hzm)); omega
    · rw [hx]
      have e : Rows.uptoBulk (DataW.slice (lits .u32 (zs.take len)) (lits .u32 (zs.drop len)) : DataW H) = Rows.uptoBulkAll (H := H) (lits .u32 (zs.take len)) + Rows.uptoBulkAll (H := H) (lits .u32 (zs.drop len)) + 1 := by rw [Rows.uptoBulk]
      have h2 := len_bulk (H := H) (lits .u32 (zs.take len))
      have h3 : (lits (H := H) .u32 (zs.take len)).length = (zs.take len).length := by simp [lits]
      rw [e]; omega
/-- what an instruction's eight cells tell -/
def CelA (w : World) (a : Addr) (op n al of re : Int) (vb ve vl : Value) : Prop :=
  w.cell? (a.add 0) = some (.int .u8 op) ∧ w.cell? (a.add 1) = some (.int .i64 n) ∧ w.cell? (a.add 2) = some (.int .u32 al) ∧ w.cell? (a.add 3) = some (.int .u32 of) ∧
  w.cell? (a.add 4) = some (.int .u8 re) ∧ w.cell? (a.add 5) = some vb ∧ w.cell? (a.add 6) = some ve ∧ w.cell? (a.add 7) = some vl
def OpenC {H : Type} (enc : TypeId × Value → H) (w : World) (base fuel : Nat) : Prop :=
  ∀ cs x, DataW.trod enc Tryd.prog w base (fun _ => true) true fuel 22 cs = some x → ∃ (l : List Ins) (v : Value), cs = [v] ∧ Code w (fun _ => True) l v ∧ Wf l ∧ wt l ≤ Rows.uptoBulk x.1
theorem bulk_at {H : Type} : ∀ {ds : List (DataW H)} {i : Nat} {d : DataW H}, ds[i]? = some d → Rows.uptoBulk d ≤ Rows.uptoBulkAll ds
  | d0 :: ds, 0, d, h => by
    have e : Rows.uptoBulkAll (d0 :: ds) = Rows.uptoBulk d0 + Rows.uptoBulkAll ds := by rw [Rows.uptoBulkAll]
    simp at h; rw [e, h]; omega
  | d0 :: ds, i + 1, d, h => by
    have e : Rows.uptoBulkAll (d0 :: ds) = Rows.uptoBulk d0 + Rows.uptoBulkAll ds := by rw [Rows.uptoBulkAll]
    have := bulk_at (ds := ds) (i := i) (d := d) (by simpa using h)
    rw [e]; omega
theorem open_ins {H : Type} {enc : TypeId × Value → H} {w : World} {base fuel : Nat} {cs : List Value} {x : DataW H × List MemPlace} (ih : ∀ m, m < fuel → OpenC enc w base m)
    (h : DataW.trod enc Tryd.prog w base (fun _ => true) true fuel 55 cs = some x) :
    ∃ (i : Ins) (vb ve vl : Value), cs.length = 8 ∧ cs[0]? = some (.int .u8 i.op) ∧ cs[1]? = some (.int .i64 i.n) ∧ cs[2]? = some (.int .u32 i.al) ∧ cs[3]? = some (.int .u32 i.of) ∧ cs[4]? = some (.int .u8 i.re) ∧ cs[5]? = some vb ∧ cs[6]? = some ve ∧ cs[7]? = some vl ∧
      Code w (fun _ => True) i.body vb ∧ Code w (fun _ => True) i.els ve ∧ Lies (fun _ => True) i.ls.length (Lab w i.ls) vl ∧ WfI i ∧ wI i ≤ Rows.uptoBulk x.1 := by
  obtain ⟨xs, n, hfn, hx, hl, hlen, hf⟩ := DataW.trod_struct Tryd.underlying55 h
  have hl8 : cs.length = 8 := hl.trans (by kernel_rfl)
  have hxl : xs.length = 8 := hlen
  have g0 := hf 0 _ rfl
  have g1 := hf 1 _ rfl
  have g2 := hf 2 _ rfl
  have g3 := hf 3 _ rfl
  have g4 := hf 4 _ rfl
  have g5 := hf 5 _ rfl
  have g6 := hf 6 _ rfl
  have g7 := hf 7 _ rfl
  rw [List.getElem?_eq_getElem (by omega)] at g0 g1 g2 g3 g4 g5 g6 g7
  obtain ⟨op, e0, _, w0⟩ := DataW.trod_int Tryd.underlying5 g0
  obtain ⟨nn, e1, _, w1⟩ := DataW.trod_int Tryd.underlying2 g1
  obtain ⟨al, e2, _, w2⟩ := DataW.trod_int Tryd.underlying46 g2
  obtain ⟨of, e3, _, w3⟩ := DataW.trod_int Tryd.underlying46 g3
  obtain ⟨re, e4, _, w4⟩ := DataW.trod_int Tryd.underlying5 g4
  obtain ⟨lb, vb, e5, hb, hbw, hbb⟩ := ih n (by omega) _ _ g5
  obtain ⟨le, ve, e6, he, hew, heb⟩ := ih n (by omega) _ _ g6
  obtain ⟨ls, vl, e7, hls, hlw, hlb⟩ := open_labs g7
  have c8 : Tryd.prog.cellsOf 5 = 1 := by kernel_rfl
  have c64 : Tryd.prog.cellsOf 2 = 1 := by kernel_rfl
  have c32 : Tryd.prog.cellsOf 46 = 1 := by kernel_rfl
  have cI : Tryd.prog.cellsOf 22 = 1 := by kernel_rfl
  have cL : Tryd.prog.cellsOf 48 = 1 := by kernel_rfl
  have f0 : (cs.drop 0).take (Tryd.prog.cellsOf 5) = [.int .u8 op] := e0
  have f1 : (cs.drop 1).take (Tryd.prog.cellsOf 2) = [.int .i64 nn] := e1
  have f2 : (cs.drop 2).take (Tryd.prog.cellsOf 46) = [.int .u32 al] := e2
  have f3 : (cs.drop 3).take (Tryd.prog.cellsOf 46) = [.int .u32 of] := e3
  have f4 : (cs.drop 4).take (Tryd.prog.cellsOf 5) = [.int .u8 re] := e4
  have f5 : (cs.drop 5).take (Tryd.prog.cellsOf 22) = [vb] := e5
  have f6 : (cs.drop 6).take (Tryd.prog.cellsOf 22) = [ve] := e6
  have f7 : (cs.drop 7).take (Tryd.prog.cellsOf 48) = [vl] := e7
  rw [c8] at f0 f4
  rw [c64] at f1
  rw [c32] at f2 f3
  rw [cI] at f5 f6
  rw [cL] at f7
  have b0 := bounds_u8 w0; have b1 := bounds_i64 w1; have b2 := bounds_u32 w2; have b3 := bounds_u32 w3; have b4 := bounds_u8 w4
  refine ⟨⟨op, nn, al, of, re, lb, le, ls⟩, vb, ve, vl, hl8, cell_at hl8 (by omega) f0, cell_at hl8 (by omega) f1, cell_at hl8 (by omega) f2, cell_at hl8 (by omega) f3, cell_at hl8 (by omega) f4, cell_at hl8 (by omega) f5, cell_at hl8 (by omega) f6, cell_at hl8 (by omega) f7, hb, he, hls, ⟨⟨⟨b0.1, ?_⟩, ⟨b1.1, ?_⟩, ⟨b2.1, ?_⟩, ⟨b3.1, ?_⟩, ⟨b4.1, ?_⟩, hlw⟩, hbw, hew⟩, ?_⟩
  · show op ≤ 255; omega
  · show nn < 9223372036854775808; omega
  · show al < 4294967296; omega
  · show of < 4294967296; omega
  · show re ≤ 255; omega
  · rw [hx]
    match xs, hxl with
    | [y0, y1, y2, y3, y4, y5, y6, y7], _ =>
      simp only [List.getElem_cons_zero, List.getElem_cons_succ] at hbb heb hlb
      have p0 := bulk_pos y0.1
      show 1 + ls.length + wt lb + wt le ≤ _
      simp only [List.map_cons, List.map_nil, Rows.uptoBulk, Rows.uptoBulkAll]
      omega
theorem open_code {H : Type} {enc : TypeId × Value → H} {w : World} {base : Nat} (fuel : Nat) : OpenC enc w base fuel := by
  induction fuel using Nat.strongRecOn with
  | ind fuel ih =>
    intro cs x h
    rcases DataW.trod_slice Tryd.underlying22 h with ⟨hcs, hx⟩ | ⟨a, len, cap, elems, rest, n, hfn, hcs, hx, _, hl, hm, hel, hE, _, _⟩
    · exact ⟨[], _, hcs, ⟨none, 0, rfl, Nat.le_refl _, fun _ => rfl, fun h => by simp at h⟩, Wf_nil, by rw [wt_nil]; exact Nat.zero_le _⟩
    · have c8 : Tryd.prog.cellsOf 55 = 8 := by kernel_rfl
      rw [c8] at hE
      haveI : Inhabited Ins := ⟨⟨0, 0, 0, 0, 0, [], [], []⟩⟩
      obtain ⟨A, hA⟩ := Go.Deep.choose_lt (α := Ins) (n := len) (p := fun j i =>
          (∃ vb ve vl, CelA w (a.add (j * 8)) i.op i.n i.al i.of i.re vb ve vl ∧ Code w (fun _ => True) i.body vb ∧ Code w (fun _ => True) i.els ve ∧ Lies (fun _ => True) i.ls.length (Lab w i.ls) vl) ∧ WfI i ∧ ∀ d, (elems.map (·.1))[j]? = some d → wI i ≤ Rows.uptoBulk d) (fun j hj => by
        have h1 := hE j hj
        rw [List.getElem?_eq_getElem (show j < elems.length by omega)] at h1
        obtain ⟨cs', h2, h3⟩ := Option.bind_eq_some_iff.1 h1
        obtain ⟨_, _, hc⟩ := World.cells?_some h2
        obtain ⟨i, vb, ve, vl, hl8, e0, e1, e2, e3, e4, e5, e6, e7, q1, q2, q3, q4, q5⟩ := open_ins (fun m hm => ih m (by omega)) h3
        refine ⟨i, ⟨vb, ve, vl, ⟨(hc 0 (by omega)).trans e0, (hc 1 (by omega)).trans e1, (hc 2 (by omega)).trans e2, (hc 3 (by omega)).trans e3, (hc 4 (by omega)).trans e4, (hc 5 (by omega)).trans e5, (hc 6 (by omega)).trans e6, (hc 7 (by omega)).trans e7⟩, q1, q2, q3⟩, q4, fun d hd => ?_⟩
        rw [List.getElem?_map, List.getElem?_eq_getElem (show j < elems.length by omega)] at hd
        simp at hd
        rw [← hd]; exact q5)
      have hll : ((List.range len).map A).length = len := by simp
      refine ⟨(List.range len).map A, .slice (some a) len cap, hcs, ⟨some a, cap, by rw [hll], by omega, by simp, fun h0 => ?_⟩, Wf_of fun i hi => ?_, ?_⟩
      · obtain ⟨b, off, spot⟩ := a
        have hsp : spot = none := by
          obtain ⟨⟨_, _, _, hc0, _⟩, _⟩ := hA 0 (by omega)
          simpa [Addr.add] using World.cell?_spot hc0.1
        subst hsp
        refine ⟨b, off, rfl, trivial, Items_of fun j hj => ?_⟩
        obtain ⟨⟨vb, ve, vl, ⟨d0, d1, d2, d3, d4, d5, d6, d7⟩, q1, q2, q3⟩, _⟩ := hA j (by omega)
        have hAj : ((List.range len).map A)[j] = A j := by simp
        rw [hAj]
        simp only [addr_add, Nat.add_zero] at d0 d1 d2 d3 d4 d5 d6 d7
        exact ⟨vb, ve, vl, ⟨d0, d1, d2, d3, d4, d5, d6, d7⟩, q1, q2, q3⟩
      · obtain ⟨j, hj, rfl⟩ := List.getElem_of_mem hi
        have hAj : ((List.range len).map A)[j] = A j := by simp
        rw [hAj]; exact (hA j (by omega)).2.1
      · rw [hx]
        have h1 := wt_le ((List.range len).map A) (elems.map (·.1)) (by simp [hel]) (fun j hj hj' => by
          have hAj : ((List.range len).map A)[j] = A j := by simp
          rw [hAj]
          exact (hA j (by omega)).2.2 _ (List.getElem?_eq_getElem hj'))
        simp only [Rows.uptoBulk]
        omega
/-- an argument that is such a list -/
theorem open_arg {H : Type} {enc : TypeId × Value → H} {w : World} {a : Option Addr} {n c : Nat} {d : DataW H} {p : List MemPlace}
    (h : DataW.Trod enc Tryd.prog w 0 (fun _ => true) true 22 (.slice a n c) d p) : ∃ l : List Ins, Code w (fun _ => True) l (.slice a n c) ∧ Wf l ∧ wt l ≤ Rows.uptoBulk d := by
  obtain ⟨fuel, hf⟩ := h
  obtain ⟨l, v, hcs, h1, h2, h3⟩ := open_code fuel _ _ hf
  simp [Value.cells] at hcs
  subst hcs
  exact ⟨l, h1, h2, h3⟩
/-- an argument of bytes -/
theorem open_row {H : Type} {enc : TypeId × Value → H} {w : World} {a : Option Addr} {n c : Nat} {d : DataW H} {p : List MemPlace}
    (h : DataW.Trod enc Tryd.prog w 0 (fun _ => true) true 27 (.slice a n c) d p) : ∃ zs : List Int, Row w a n zs ∧ n ≤ c ∧ (a = none → c = 0) := by
  obtain ⟨fuel, hf⟩ := h
  rcases open_ints Tryd.underlying27 Tryd.underlying5 (by kernel_rfl) hf with ⟨hcs, _⟩ | ⟨x, len, cap, zs, hcs, _, hl, hm, hz, _, hc, hw⟩
  · simp [Value.cells] at hcs
    obtain ⟨rfl, rfl, rfl⟩ := hcs
    exact ⟨[], ⟨rfl, by simp, by simp⟩, Nat.le_refl _, fun _ => rfl⟩
  · simp [Value.cells] at hcs
    obtain ⟨rfl, rfl, rfl⟩ := hcs
    have hzl : zs.length = c := by simpa using hz
    refine ⟨zs.take n, ⟨by simp; omega, fun z hzm => ?_, fun h0 => ?_⟩, hl, by simp⟩
    · have := bounds_u8 (hw z (List.mem_of_mem_take hzm)); omega
    · obtain ⟨b, off, spot⟩ := x
      have h00 := hc 0 (by omega)
      have hspot : spot = none := by simpa [Addr.add] using World.cell?_spot h00
      subst hspot
      have hlt : b < w.heap.size := by
        have h1 : w.cell? ⟨b, off, none⟩ = some (.int .u8 (zs.getD 0 0)) := by simpa [Addr.add] using h00
        exact block_lt_of_cell h1
      refine ⟨b, off, rfl, hlt, fun i hi => ?_⟩
      have := hc i (by omega)
      rw [addr_add] at this
      rw [this]; simp [List.getD, hi]
theorem small_of {H : Type} {ds : List (DataW H)} (h : Rows.uptoSmall H ds = true) : Rows.uptoBulkAll ds ≤ 1048576 := of_decide_eq_true h
end Ex
end Go.Proofs.YtjhmglefejclpaaDoor
