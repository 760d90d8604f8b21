/- MemParts returns true for every uint64 and every int: a number that is stored byte by byte, across the border of two pages or beside it, is loaded whole, in its upper half, and byte by byte. No condition. -/
import Derived.Test.YtdeblcbdapggnaaRows
import Derived.WalkKit
import Derived.ProofKit
import Derived.OpenShut
import Derived.ShutString
import Derived.Test.YtdeblcbdapggnaaMemS
import Derived.Test.YtdeblcbdapggnaaMemF
import Derived.Deep.QuietTactic
import Derived.BigQuiet
namespace Go.Proofs.Ytdeblcbdapggnaa.memParts
open Go.ChangeShapes Go.WideShapes Go.ChangeAt Go.RowKit
open Go.ChangeMaps (open_string shut_string)
set_option linter.unusedVariables false

theorem own : ownKnob Try.prog.godebug = none := by kernel_rfl

open Mm
theorem shr_k (v : Int) (k : Nat) (hk : k ≤ 7) : Op.shift .shr .u64 v .i64 (8 * (k : Int)) = pure (.int .u64 (v / 256 ^ k)) := by
  rw [shift_shr_any _ _ _ _ (by omega), show (8 * (k : Int)).toNat = 8 * k from by omega, show min (8 * k) IntKind.u64.bits = 8 * k from Nat.min_eq_left (show 8 * k ≤ 64 by omega), pow2_256]
theorem div_u64 (v : Int) (k : Nat) (h0 : 0 ≤ v) (h1 : v < 18446744073709551616) : 0 ≤ v / 256 ^ k ∧ v / 256 ^ k < 18446744073709551616 := by
  have hp : (0 : Int) < 256 ^ k := Int.pow_pos (by omega)
  exact ⟨Int.ediv_nonneg h0 (by omega), Int.lt_of_le_of_lt (Int.ediv_le_self _ h0) h1⟩
theorem hi_half (zs : List Int) (f : Nat) (v : Int) (h0 : 0 ≤ v) (h1 : v < 18446744073709551616) (hf : f + 8 ≤ zs.length) : ldZ (stZ zs f 8 v) (f + 4) 4 = v / 4294967296 := by
  rw [ldZ_num 4 _ (f + 4) (v / 4294967296) (fun i hi => by
    rw [stZ_get 8 _ _ _ _ hf, if_pos (by omega), show f + 4 + i - f = 4 + i from by omega, Int.pow_add, ← Int.ediv_ediv_of_nonneg (by decide)]; rfl)]
  have : (256 : Int) ^ 4 = 4294967296 := by decide
  rw [this]; omega
theorem whole8 (zs : List Int) (f : Nat) (v : Int) (h0 : 0 ≤ v) (h1 : v < 18446744073709551616) (hf : f + 8 ≤ zs.length) : ldZ (stZ zs f 8 v) f 8 = v := by
  rw [ldZ_st zs f 8 v hf]
  have : (256 : Int) ^ 8 = 18446744073709551616 := by decide
  rw [this]; omega

set_option maxRecDepth 100000 in
set_option maxHeartbeats 2000000 in
theorem parts_any (v : Int) (t : Int) (hv : U64 v) (A : Nat) (hA : IntKind.u64.wrap (4080 + (IntKind.u64.wrap t).tmod 32) = (A : Int)) (hA1 : 4080 ≤ A ∧ A ≤ 4111) (w : World) :
    Calls Try.prog 6 #[.int .u64 v, .int .i64 t] w fun e w' => e = .returned (.bool true) ∧ Below w.heap.size w w' := by
  obtain ⟨v0, v1⟩ := hv
  obtain ⟨A0, A1⟩ := hA1
  have HA := hide hA; clear hA
  go_enter Try.func6, Try.ntmps6
  go_wp2_with fail
  refine (new_yes 2 2 _ (by omega) (by omega) (by omega)).mono ?_
  rintro e w1 ⟨rfl, hm1, hb1⟩
  simp only [show (2 : Int).toNat * 4096 = 8192 from rfl] at hm1
  have HM := hide hm1; have HB := hide hb1; clear hm1 hb1
  go_wp2_with fail
  rw [unhide HA]
  generalize IntKind.u64.wrap t = T
  clear HA
  go_loopw [8] (fun i wr => ∃ k : Nat, k ≤ 8 ∧ i = .int .i64 k ∧ MemAt wr (w.heap.size + 1) w.heap.size 8192 8192 2 (stZ (List.replicate 8192 0) A k v) ∧ Below w.heap.size w wr) (fun i _ => (8 - intOf i).toNat)
  case atStart => exact ⟨0, by omega, rfl, unhide HM, unhide HB⟩
  case round =>
    obtain ⟨k, hk, rfl, hmr, hbr⟩ := hrel
    clear HM HB
    by_cases hlt : k < 8
    · have hst := store_yes hmr A k 1 (v / 256 ^ k) ⟨by omega, by omega⟩ ⟨by omega, by omega⟩ (div_u64 v k v0 v1) (fits_iff.2 ⟨by omega, by omega⟩)
      rw [show ((A : Int) + (k : Int)).toNat = A + k from by omega, show (1 : Int).toNat = 1 from rfl, ← stZ_snoc, ← pow2_256] at hst
      have HB := hide hbr; have HS := hide hst
      clear hmr hbr hst
      go_wp2_with fail
      refine (unhide HS).mono ?_
      rintro e w2 ⟨rfl, hm2, ho2⟩
      have hb2 := (unhide HB).trans (ho2.below (unhide HB).size (by omega) (Nat.le_refl _))
      have HM2 := hide hm2; have HB2 := hide hb2
      clear hm2 hb2 ho2 HS HB
      go_wp2_with fail
      go_roundw
      case rel => exact ⟨k + 1, by omega, by go_num, unhide HM2, unhide HB2⟩
      case measure => simp [intOf]; omega
    · obtain rfl : k = 8 := by omega
      have HM := hide hmr; have HB := hide hbr; clear hmr hbr
      go_wp2_with fail
      refine (load_yes (unhide HM) A 0 8 ⟨by omega, by omega⟩ ⟨by omega, by omega⟩ (fits_iff.2 ⟨by omega, by omega⟩)).mono ?_
      rintro e w3 ⟨rfl, hb3⟩
      have hm3 := (unhide HM).below (Nat.le_refl _) hb3
      have hb3' := Below.on (unhide HB) hb3
      rw [show ((A : Int) + 0).toNat = A from by omega, show (8 : Int).toNat = 8 from rfl, whole8 _ A v v0 v1 (by rw [List.length_replicate]; omega)]
      clear HM HB hb3
      have HM := hide hm3; have HB := hide hb3'; clear hm3 hb3'
      go_wp2_with fail
      refine (load_yes (unhide HM) (A + 4) 0 4 ⟨by omega, by omega⟩ ⟨by omega, by omega⟩ (fits_iff.2 ⟨by omega, by omega⟩)).mono ?_
      rintro e w4 ⟨rfl, hb4⟩
      have hm4 := (unhide HM).below (Nat.le_refl _) hb4
      have hb4' := Below.on (unhide HB) hb4
      rw [show ((A : Int) + 4 + 0).toNat = A + 4 from by omega, show (4 : Int).toNat = 4 from rfl, hi_half _ A v v0 v1 (by rw [List.length_replicate]; omega)]
      clear HM HB hb4
      have HM := hide hm4; have HB := hide hb4'; clear hm4 hb4'
      go_wp2_with fail
      refine (bytes_yes (unhide HM) A 8 (by omega) (by omega)).mono ?_
      rintro e w5 ⟨rfl, hy5, hb5⟩
      have hb5' := Below.on (unhide HB) hb5
      generalize w4.heap.size = G at *
      clear HM HB hb5
      have HY := hide hy5; have HB := hide hb5'; clear hy5 hb5'
      go_wp2_with fail
      go_loopw [15] (fun i wr => ∃ k : Nat, k ≤ 8 ∧ i = .int .i64 k ∧ Below w5.heap.size w5 wr) (fun i _ => (8 - intOf i).toNat)
      case atStart => exact ⟨0, by omega, rfl, Below.refl _ _⟩
      case round =>
        obtain ⟨k, hk, rfl, hbr⟩ := hrel
        by_cases hlt : k < 8
        · have hc := (unhide HY).2.2.2 k hlt
          rw [List.getElem?_take_of_lt hlt, List.getElem?_drop, stZ_get 8 _ _ _ _ (by rw [List.length_replicate]; omega), if_pos (by omega), show A + k - A = k from by omega, ← pow2_256] at hc
          have hlt2 : (k : Int) < 8 := by omega
          have hc2 : wr.cell? ⟨G, k, none⟩ = some (.int .u8 (v / 2 ^ (8 * k) % 256)) := (hbr.cell (p := ⟨G, k, none⟩) (unhide HY).2.2.1).trans hc
          have HR := hide hbr
          clear hc hbr
          go_wp2_with fail
          go_quiet (fail)
          go_wp2
          go_roundw
          case rel => exact ⟨k + 1, by omega, by go_num, below_drewN (unhide HR) _⟩
          case measure => simp [intOf]; omega
        · obtain rfl : k = 8 := by omega
          go_wp2_with fail
          refine (sure_any _).mono ?_
          rintro e w6 ⟨rfl, hb6⟩
          have HB6 := hide (Below.on (unhide HB) (Below.on hbr hb6)); clear hb6 HB
          go_wp2_with fail
          go_ret
          exact ⟨rfl, unhide HB6⟩

set_option maxHeartbeats 400000 in
theorem walk (a0 : Int) (a1 : Int) (w0 : (Lit.int .u64 a0).wf = true) (w1 : (Lit.int .i64 a1).wf = true) (w : World) :
    Calls Try.prog 6 #[.int .u64 a0, .int .i64 a1] w fun e w' => e = .returned (.bool true) ∧ Below w.heap.size w w' := by
  have b0 := bounds_u64 w0
  have hT : (IntKind.u64.wrap a1).tmod 32 = IntKind.u64.wrap a1 % 32 := Int.tmod_eq_emod_of_nonneg (by rw [IntKind.wrap_u64]; omega)
  have hW : IntKind.u64.wrap (4080 + (IntKind.u64.wrap a1).tmod 32) = 4080 + IntKind.u64.wrap a1 % 32 := by rw [hT, IntKind.wrap_u64 (4080 + _)]; omega
  obtain ⟨A, hA⟩ := Int.eq_ofNat_of_zero_le (show 0 ≤ 4080 + IntKind.u64.wrap a1 % 32 by omega)
  exact parts_any a0 a1 ⟨b0.1, by omega⟩ A (hW.trans hA) (by omega) w

set_option maxRecDepth 100000 in
theorem lifted (os : Os) (started : os.Started) (H : Type) (enc : TypeId × Value → H) :
    ReturnsInHanded {} Try.checked os 6 .any (Rows.memPartsSpec.pre6 enc Try.prog Try.f6 Rows.memPartsRow.domain false) (Rows.memPartsSpec.post enc Try.prog Try.f6 false true false false) := by
  refine returnsInHanded_of_change (C := Try.checked) own started (by kernel_rfl) Try.func6
    (ChangeSpec.witness6 (enc := enc) (C := Try.checked) false ⟨#[], #[.int .u64 0, .int .i64 0], []⟩ 8 (by kernel_rfl) (by kernel_rfl) (by kernel_rfl) (by kernel_rfl)) ?_
  intro W base args ds gs before hval0 hW hcnd _
  have hval : ∀ (j : Nat) t v, Try.f6.params[j]? = some t → args[j]? = some v → Value.okWide Try.prog W .any base t v := hval0
  have hW' := hW
  obtain ⟨p, q, hA0, hV, rfl, hfz, hnd⟩ := hW
  have hA : DataW.TrodAll enc Try.prog W 0 (fun _ => true) true Try.f6.params.toList args.toList ds p := hA0
  rw [Try.params6] at hA hval
  obtain ⟨v0, vs0, d0, ds0, p0, q0, hargs, rfl, rfl, h0, r0⟩ := trodAll_cons hA
  obtain ⟨v1, vs1, d1, ds1, p1, q1, rfl, rfl, rfl, h1, r1⟩ := trodAll_cons r0
  obtain ⟨rfl, rfl, rfl⟩ := trodAll_nil r1
  obtain rfl : args = #[v0, v1] := by cases args; simp_all
  obtain ⟨rfl, rfl⟩ := trodVars_none hV
  obtain ⟨a0, rfl, rfl, rfl, w0⟩ := open_int Try.underlying32 (hval 0 32 v0 rfl rfl) h0
  obtain ⟨a1, rfl, rfl, rfl, w1⟩ := open_int Try.underlying3 (hval 1 3 v1 rfl rfl) h1
  clear hA0 hval0
  refine (walk a0 a1 w0 w1 W).mono fun e W' ⟨he, bel⟩ => ?_
  subst he
  exact ⟨_, rfl, _, _, _, [], _, [], hW', trodAll_mk1 (shut_bool Try.underlying4 _), (trodAll_cons_mk (shut_int Try.underlying32 w0) (trodAll_cons_mk (shut_int Try.underlying3 w1) trodAll_mk0)), rfl, bel.frame _, fun h => by cases h⟩

theorem over : Rows.memPartsRow.holds Try.pinned (OpenSpec.ofChange Rows.memPartsSpec) :=
  OpenClaim.holds_of_wide 6 Try.f6 rfl rfl rfl rfl rfl rfl rfl ⟨rfl, rfl, rfl, rfl, rfl⟩ rfl rfl rfl rfl rfl (by kernel_rfl) Try.func6 (by kernel_rfl)
    (of_decide_eq_true (by kernel_rfl)) (by unfold Func.isWrapper; first | (rw [if_pos (by decide +kernel)]; kernel_rfl) | (rw [if_neg (by decide +kernel)]; exact ⟨rfl, rfl⟩))
    (fun os started H enc _ => lifted os started H enc)

theorem proved : Rows.MemPartsSaid :=
  over
end Go.Proofs.Ytdeblcbdapggnaa.memParts

namespace Go.Proofs.Ytdeblcbdapggnaa
theorem memParts_holds : Rows.MemPartsSaid := memParts.proved
end Go.Proofs.Ytdeblcbdapggnaa
