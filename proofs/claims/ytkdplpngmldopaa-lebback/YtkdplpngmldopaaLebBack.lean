/- LebBack returns true for every uint64 and every slice of bytes behind it, and leaves both as they were: what PutU and PutS laid is taken by TakeU and TakeS of 64 bits, whatever stands behind, with its size; of 32 bits just where the number has no more. No condition. -/
import Derived.Test.YtkdplpngmldopaaRows
import Derived.WalkKit
import Derived.ProofKit
import Derived.OpenShut
import Derived.ShutString
import Derived.ChangeOld
import Derived.Below
import Derived.Test.YtkdplpngmldopaaAppRow
import Derived.Test.YtkdplpngmldopaaMath3
namespace Go.Proofs.Ytkdplpngmldopaa.lebBack
open Go.ChangeShapes Go.WideShapes Go.ChangeAt Go.RowKit
open Go.ChangeMaps (open_string shut_string)
set_option linter.unusedVariables false

theorem own : ownKnob Try.prog.godebug = none := by kernel_rfl
theorem laidOut : laidOutB Try.prog = true := by kernel_rfl

def IsRow (k : IntKind) (w : World) (a : Option Addr) (len cap : Nat) (zs : List Int) : Prop :=
  (a = none ∧ len = 0 ∧ cap = 0 ∧ zs = []) ∨
  ∃ x, a = some x ∧ len ≤ cap ∧ cap ≤ maxLen ∧ zs.length = cap ∧ (∀ i, i < zs.length → w.cell? (x.add i) = some (.int k (zs.getD i 0))) ∧ ∀ n ∈ zs, (Lit.int k n).wf = true

theorem row_of {W : World} {a : Option Addr} {len cap : Nat} {zs : List Int} (h : IsRow .u8 W a len cap zs) : Row W a len (zs.take len) ∧ len ≤ cap ∧ (a = none → cap = 0) := by
  rcases h with ⟨rfl, rfl, rfl, rfl⟩ | ⟨x, rfl, hl, hm, hz, hc, hw⟩
  · exact ⟨⟨rfl, by simp, by simp⟩, Nat.le_refl _, fun _ => rfl⟩
  · refine ⟨⟨by simp; omega, fun z hzm => ?_, fun h0 => ?_⟩, hl, fun h => by simp at h⟩
    · have := bounds_u8 (hw z (List.mem_of_mem_take hzm)); omega
    · obtain ⟨b, off, spot⟩ := x
      have h00 := hc 0 (by omega)
      have hspot : spot = none := by simpa [Addr.add] using World.cell?_spot h00
      subst hspot
      have hlt : b < W.heap.size := by
        have h1 : W.cell? ⟨b, off, none⟩ = some (.int .u8 (zs.getD 0 0)) := by simpa [Addr.add] using h00
        exact block_lt_of_cell h1
      refine ⟨b, off, rfl, hlt, fun i hi => ?_⟩
      have := hc i (by omega)
      rw [addr_add] at this
      rw [this]; simp [List.getD, hi]

set_option maxHeartbeats 400000 in
theorem walk (a0 : Int) (a1 : Option Addr) (len1 cap1 : Nat) (z1 : List Int) (w : World) (w0 : (Lit.int .u64 a0).wf = true) (w1 : IsRow .u8 w a1 len1 cap1 z1) :
    Calls Try.prog 4 #[.int .u64 a0, .slice a1 len1 cap1] w fun e w' => e = .returned (.bool true) ∧ Below w.heap.size w w' := by
  obtain ⟨hrow, hcap, hnil⟩ := row_of w1
  obtain ⟨b0, b1⟩ := bounds_u64 w0
  generalize z1.take len1 = zs at *
  clear w0 w1
  by_cases hlen : 1000 < len1
  · have HR := hide hrow; have HN := hide hnil; clear hrow hnil
    go_enter Try.func4, Try.ntmps4
    go_wp2_with fail
    refine (sure_any _).mono ?_
    rintro e w2 ⟨rfl, hb⟩
    have HB := hide hb; clear hb
    go_wp2_with fail
    go_ret
    exact ⟨rfl, unhide HB⟩
  · have hi : -9223372036854775808 ≤ IntKind.i64.wrap a0 ∧ IntKind.i64.wrap a0 < 9223372036854775808 := by rw [IntKind.wrap_i64]; omega
    generalize hsv : IntKind.i64.wrap a0 = sv at *
    have hl1 := Leb.bU_len 10 a0
    have hl2 := Leb.bS_len 10 sv
    have hp1 := Leb.bU_pos 10 a0
    have hp2 := Leb.bS_pos 10 sv
    have hby1 := Leb.bU_bytes 10 a0 b0 (by omega)
    have hby2 := Leb.bS_bytes 10 sv
    obtain ⟨t1, t2, t3⟩ := Leb.back_U64 a0 zs b0 (by omega)
    obtain ⟨t4, t5, t6⟩ := Leb.back_S64 sv zs hi.1 hi.2
    have T1 := hide t1; have T2 := hide t2; have T3 := hide t3; have T4 := hide t4; have T5 := hide t5; have T6 := hide t6
    have T7 := hide (Leb.back_U32 a0 zs b0 (by omega)); have T8 := hide (Leb.back_S32 sv zs hi.1 hi.2)
    have HY1 := hide hby1; have HY2 := hide hby2
    clear t1 t2 t3 t4 t5 t6 hby1 hby2
    have HR := hide hrow; have HNil := hide hnil; clear hrow hnil
    go_enter Try.func4, Try.ntmps4
    go_wp2_with fail
    refine (putU_b none 0 0 [] a0 _ (Row.nil _) b0 (by omega) (by omega)).mono ?_
    rintro e w1 ⟨g1, c1, rfl, hr1, hc1, hg1, hb1⟩
    simp only [Nat.zero_add, List.nil_append] at hr1 hc1 ⊢
    have HR1 := hide hr1; have HB1 := hide hb1; clear hr1 hb1
    go_wp2_with (at_builtin; refine wpList_append_row _ rfl (.tmp 23) (.tmp 25) rfl w.heap.size (.slice none 0 0) 0 [] rfl (World.ownsRow_nil _ _ _ _) _ _ _ _ rfl (unhide HR1) ?c1 ?c2 ?c3 ?_)
    case c1 => intro h; simp at h
    case c2 => omega
    case c3 => exact (unhide HB1).size
    intro v2 w2 ho2 hb2
    have hbw2 : Below w.heap.size w w2 := (unhide HB1).trans hb2
    have HO2 := hide ho2; have HB2 := hide hbw2; clear ho2 hb2 hbw2 HR1 HB1
    go_wp2_with (at_builtin; refine wpList_append_row _ rfl (.tmp 26) (.tmp 27) rfl w.heap.size v2 _ _ rfl (unhide HO2) _ _ _ zs rfl ((unhide HR).below (Nat.le_refl _) (unhide HB2)) (unhide HNil) ?c4 ?c5 ?_)
    case c4 => omega
    case c5 => exact (unhide HB2).size
    intro v3 w3 ho3 hb3
    rw [← List.map_append] at ho3
    obtain ⟨gb, cb, hvb, hrb, hcb, _⟩ := own_shape ho3 (by omega) (fun z hz => by rcases List.mem_append.1 hz with h | h; exact unhide HY1 z h; exact (unhide HR).2.1 z h)
    have hbw3 : Below w.heap.size w w3 := (unhide HB2).trans hb3
    have HRB := hide hrb; have HB3 := hide hbw3; have HCB := hide hcb; clear ho3 hb3 hbw3 HO2 HB2 hrb hcb
    rw [hvb]; clear hvb
    go_wp2_with fail
    refine (putS_b none 0 0 [] sv _ (Row.nil _) hi.1 hi.2 (by omega)).mono ?_
    rintro e w4 ⟨g4, c4, rfl, hr4, hc4, hg4, hb4⟩
    simp only [Nat.zero_add, List.nil_append] at hr4 hc4 ⊢
    have HR4 := hide hr4; have HB4 := hide (Below.on (unhide HB3) hb4)
    have HRB4 := hide ((unhide HRB).below (Nat.le_refl _) hb4); clear hr4 hb4 HB3 HRB
    go_wp2_with (at_builtin; refine wpList_append_row _ rfl (.tmp 29) (.tmp 32) rfl w4.heap.size (.slice none 0 0) 0 [] rfl (World.ownsRow_nil _ _ _ _) _ _ _ _ rfl (unhide HR4) ?c6 ?c7 ?c8 ?_)
    case c6 => intro h; simp at h
    case c7 => omega
    case c8 => exact Nat.le_refl _
    intro v5 w5 ho5 hb5
    have HO5 := hide ho5; have HB5 := hide (Below.on (unhide HB4) hb5); have H45 := hide hb5
    have hsz5 := hb5.size; have HSZ := hide hsz5; clear ho5 hb5 HR4 hsz5
    go_wp2_with (at_builtin; refine wpList_append_row _ rfl (.tmp 33) (.tmp 34) rfl w4.heap.size v5 _ _ rfl (unhide HO5) _ _ _ zs rfl ((unhide HR).below (Nat.le_refl _) (unhide HB5)) (unhide HNil) ?c9 ?c10 ?_)
    case c9 => omega
    case c10 => exact unhide HSZ
    intro v6 w6 ho6 hb6
    rw [← List.map_append] at ho6
    obtain ⟨gc, cc, hvc, hrc, hcc, _⟩ := own_shape ho6 (by omega) (fun z hz => by rcases List.mem_append.1 hz with h | h; exact unhide HY2 z h; exact (unhide HR).2.1 z h)
    have h46 : Below w4.heap.size w4 w6 := (unhide H45).trans hb6
    have HB6 := hide (Below.on (unhide HB4) h46)
    have HRB6 := hide ((unhide HRB4).below (Nat.le_refl _) h46)
    have HRC := hide hrc; have HCC := hide hcc
    clear ho6 hb6 hrc hcc h46 HO5 HB5 H45 HSZ HRB4 HB4
    rw [hvc]; clear hvc
    go_wp2_with fail
    refine (takeU_b _ _ cb _ 64 _ (unhide HRB6) (unhide HCB) (by omega)).mono ?_
    rintro e w7 ⟨rfl, hb7⟩
    rw [unhide T1, unhide T2, unhide T3, errV_0]
    have HB7 := hide (Below.on (unhide HB6) hb7); have HRB7 := hide ((unhide HRB6).below (Nat.le_refl _) hb7); have HRC7 := hide ((unhide HRC).below (Nat.le_refl _) hb7)
    clear hb7 HB6 HRB6 HRC
    go_wp2_with fail
    refine (takeS_b _ _ cc _ 64 _ (unhide HRC7) (unhide HCC) (by omega)).mono ?_
    rintro e w8 ⟨rfl, hb8⟩
    rw [unhide T4, unhide T5, unhide T6, errV_0]
    have HB8 := hide (Below.on (unhide HB7) hb8); have HRB8 := hide ((unhide HRB7).below (Nat.le_refl _) hb8); have HRC8 := hide ((unhide HRC7).below (Nat.le_refl _) hb8)
    clear hb8 HB7 HRB7 HRC7
    go_wp2_with fail
    refine (sizeU_any a0 _ b0 (by omega)).mono ?_
    rintro e w9 ⟨rfl, rfl⟩
    go_wp2_with fail
    refine (sizeS_any sv _ hi.1 hi.2).mono ?_
    rintro e w9 ⟨rfl, rfl⟩
    go_wp2_with fail
    rcases (show (a0 < 4294967296 ∧ (-2147483648 ≤ sv ∧ sv < 2147483648)) ∨ (a0 < 4294967296 ∧ (sv < -2147483648)) ∨ (a0 < 4294967296 ∧ (2147483648 ≤ sv)) ∨ (4294967296 ≤ a0 ∧ (-2147483648 ≤ sv ∧ sv < 2147483648)) ∨ (4294967296 ≤ a0 ∧ (sv < -2147483648)) ∨ (4294967296 ≤ a0 ∧ (2147483648 ≤ sv)) from by omega) with ⟨hu, hs⟩ | ⟨hu, hs⟩ | ⟨hu, hs⟩ | ⟨hu, hs⟩ | ⟨hu, hs⟩ | ⟨hu, hs⟩
    · have HU := hide ((unhide T7).1 hu); have HS := hide ((unhide T8).1 hs)
      refine (takeU_b _ _ cb _ 32 _ (unhide HRB8) (unhide HCB) (by omega)).mono ?_
      rintro e w9 ⟨rfl, hb9⟩
      rw [(unhide HU).2, (unhide HU).1, errV_0]
      have HB9 := hide (Below.on (unhide HB8) hb9); have HRC9 := hide ((unhide HRC8).below (Nat.le_refl _) hb9)
      clear hb9 HB8 HRB8 HRC8
      go_wp2_with fail
      refine (takeS_b _ _ cc _ 32 _ (unhide HRC9) (unhide HCC) (by omega)).mono ?_
      rintro e w10 ⟨rfl, hb10⟩
      rw [(unhide HS).2, (unhide HS).1, errV_0]
      have HB10 := hide (Below.on (unhide HB9) hb10)
      clear hb10 HB9 HRC9
      go_wp2_with fail
      refine (sure_any _).mono ?_
      rintro e w11 ⟨rfl, hb11⟩
      have HB11 := hide (Below.on (unhide HB10) hb11); clear hb11 HB10
      go_wp2_with fail
      go_ret
      exact ⟨rfl, unhide HB11⟩
    · have HU := hide ((unhide T7).1 hu); have HS := hide ((unhide T8).2 (by omega))
      have hs2 : decide (-2147483648 ≤ sv) = false := decide_eq_false (by omega)
      refine (takeU_b _ _ cb _ 32 _ (unhide HRB8) (unhide HCB) (by omega)).mono ?_
      rintro e w9 ⟨rfl, hb9⟩
      rw [(unhide HU).2, (unhide HU).1, errV_0]
      have HB9 := hide (Below.on (unhide HB8) hb9); have HRC9 := hide ((unhide HRC8).below (Nat.le_refl _) hb9)
      clear hb9 HB8 HRB8 HRC8
      go_wp2_with fail
      refine (takeS_b _ _ cc _ 32 _ (unhide HRC9) (unhide HCC) (by omega)).mono ?_
      rintro e w10 ⟨rfl, hb10⟩
      rw [unhide HS, errV_6]
      have HB10 := hide (Below.on (unhide HB9) hb10)
      clear hb10 HB9 HRC9
      go_wp2_with fail
      refine (sure_any _).mono ?_
      rintro e w11 ⟨rfl, hb11⟩
      have HB11 := hide (Below.on (unhide HB10) hb11); clear hb11 HB10
      go_wp2_with fail
      go_ret
      exact ⟨rfl, unhide HB11⟩
    · have HU := hide ((unhide T7).1 hu); have HS := hide ((unhide T8).2 (by omega))
      have hs2 : decide (sv < 2147483648) = false := decide_eq_false (by omega)
      refine (takeU_b _ _ cb _ 32 _ (unhide HRB8) (unhide HCB) (by omega)).mono ?_
      rintro e w9 ⟨rfl, hb9⟩
      rw [(unhide HU).2, (unhide HU).1, errV_0]
      have HB9 := hide (Below.on (unhide HB8) hb9); have HRC9 := hide ((unhide HRC8).below (Nat.le_refl _) hb9)
      clear hb9 HB8 HRB8 HRC8
      go_wp2_with fail
      refine (takeS_b _ _ cc _ 32 _ (unhide HRC9) (unhide HCC) (by omega)).mono ?_
      rintro e w10 ⟨rfl, hb10⟩
      rw [unhide HS, errV_6]
      have HB10 := hide (Below.on (unhide HB9) hb10)
      clear hb10 HB9 HRC9
      go_wp2_with fail
      refine (sure_any _).mono ?_
      rintro e w11 ⟨rfl, hb11⟩
      have HB11 := hide (Below.on (unhide HB10) hb11); clear hb11 HB10
      go_wp2_with fail
      go_ret
      exact ⟨rfl, unhide HB11⟩
    · have HU := hide ((unhide T7).2 hu); have HS := hide ((unhide T8).1 hs)
      have hu2 : decide (a0 < 4294967296) = false := decide_eq_false (by omega)
      refine (takeU_b _ _ cb _ 32 _ (unhide HRB8) (unhide HCB) (by omega)).mono ?_
      rintro e w9 ⟨rfl, hb9⟩
      rw [unhide HU, errV_6]
      have HB9 := hide (Below.on (unhide HB8) hb9); have HRC9 := hide ((unhide HRC8).below (Nat.le_refl _) hb9)
      clear hb9 HB8 HRB8 HRC8
      go_wp2_with fail
      refine (takeS_b _ _ cc _ 32 _ (unhide HRC9) (unhide HCC) (by omega)).mono ?_
      rintro e w10 ⟨rfl, hb10⟩
      rw [(unhide HS).2, (unhide HS).1, errV_0]
      have HB10 := hide (Below.on (unhide HB9) hb10)
      clear hb10 HB9 HRC9
      go_wp2_with fail
      refine (sure_any _).mono ?_
      rintro e w11 ⟨rfl, hb11⟩
      have HB11 := hide (Below.on (unhide HB10) hb11); clear hb11 HB10
      go_wp2_with fail
      go_ret
      exact ⟨rfl, unhide HB11⟩
    · have HU := hide ((unhide T7).2 hu); have HS := hide ((unhide T8).2 (by omega))
      have hu2 : decide (a0 < 4294967296) = false := decide_eq_false (by omega)
      have hs2 : decide (-2147483648 ≤ sv) = false := decide_eq_false (by omega)
      refine (takeU_b _ _ cb _ 32 _ (unhide HRB8) (unhide HCB) (by omega)).mono ?_
      rintro e w9 ⟨rfl, hb9⟩
      rw [unhide HU, errV_6]
      have HB9 := hide (Below.on (unhide HB8) hb9); have HRC9 := hide ((unhide HRC8).below (Nat.le_refl _) hb9)
      clear hb9 HB8 HRB8 HRC8
      go_wp2_with fail
      refine (takeS_b _ _ cc _ 32 _ (unhide HRC9) (unhide HCC) (by omega)).mono ?_
      rintro e w10 ⟨rfl, hb10⟩
      rw [unhide HS, errV_6]
      have HB10 := hide (Below.on (unhide HB9) hb10)
      clear hb10 HB9 HRC9
      go_wp2_with fail
      refine (sure_any _).mono ?_
      rintro e w11 ⟨rfl, hb11⟩
      have HB11 := hide (Below.on (unhide HB10) hb11); clear hb11 HB10
      go_wp2_with fail
      go_ret
      exact ⟨rfl, unhide HB11⟩
    · have HU := hide ((unhide T7).2 hu); have HS := hide ((unhide T8).2 (by omega))
      have hu2 : decide (a0 < 4294967296) = false := decide_eq_false (by omega)
      have hs2 : decide (sv < 2147483648) = false := decide_eq_false (by omega)
      refine (takeU_b _ _ cb _ 32 _ (unhide HRB8) (unhide HCB) (by omega)).mono ?_
      rintro e w9 ⟨rfl, hb9⟩
      rw [unhide HU, errV_6]
      have HB9 := hide (Below.on (unhide HB8) hb9); have HRC9 := hide ((unhide HRC8).below (Nat.le_refl _) hb9)
      clear hb9 HB8 HRB8 HRC8
      go_wp2_with fail
      refine (takeS_b _ _ cc _ 32 _ (unhide HRC9) (unhide HCC) (by omega)).mono ?_
      rintro e w10 ⟨rfl, hb10⟩
      rw [unhide HS, errV_6]
      have HB10 := hide (Below.on (unhide HB9) hb10)
      clear hb10 HB9 HRC9
      go_wp2_with fail
      refine (sure_any _).mono ?_
      rintro e w11 ⟨rfl, hb11⟩
      have HB11 := hide (Below.on (unhide HB10) hb11); clear hb11 HB10
      go_wp2_with fail
      go_ret
      exact ⟨rfl, unhide HB11⟩

set_option maxRecDepth 100000 in
theorem lifted (os : Os) (started : os.Started) (H : Type) (enc : TypeId × Value → H) :
    ReturnsInHanded {} Try.checked os 4 .any (Rows.lebBackSpec.pre6 enc Try.prog Try.f4 Rows.lebBackRow.domain false) (Rows.lebBackSpec.post enc Try.prog Try.f4 false true false false) := by
  refine returnsInHanded_of_change (C := Try.checked) own started (by kernel_rfl) Try.func4
    (ChangeSpec.witness6 (enc := enc) (C := Try.checked) false ⟨#[], #[.int .u64 0, .slice none 0 0], []⟩ 8 (by kernel_rfl) (by kernel_rfl) (by kernel_rfl) (by kernel_rfl)) ?_
  intro W base args ds gs before hval0 hW hcnd _
  have hval : ∀ (j : Nat) t v, Try.f4.params[j]? = some t → args[j]? = some v → Value.okWide Try.prog W .any base t v := hval0
  have hW' := hW
  obtain ⟨p, q, hA0, hV, rfl, hfz, hnd⟩ := hW
  have hA : DataW.TrodAll enc Try.prog W 0 (fun _ => true) true Try.f4.params.toList args.toList ds p := hA0
  rw [Try.params4] at hA hval
  obtain ⟨v0, vs0, d0, ds0, p0, q0, hargs, rfl, rfl, h0, r0⟩ := trodAll_cons hA
  obtain ⟨v1, vs1, d1, ds1, p1, q1, rfl, rfl, rfl, h1, r1⟩ := trodAll_cons r0
  obtain ⟨rfl, rfl, rfl⟩ := trodAll_nil r1
  obtain rfl : args = #[v0, v1] := by cases args; simp_all
  obtain ⟨rfl, rfl⟩ := trodVars_none hV
  obtain ⟨a0, rfl, rfl, rfl, w0⟩ := open_int Try.underlying23 (hval 0 23 v0 rfl rfl) h0
  obtain ⟨a1, len1, cap1, rfl⟩ := okWide_slice Try.underlying22 (hval 1 22 v1 rfl rfl)
  have k1 := h1
  have lt1 : ∀ x ∈ p1, x.block < W.heap.size := by obtain ⟨m, hm⟩ := k1; exact DataW.trod_lt m _ _ _ hm
  obtain ⟨z1, w1⟩ : ∃ zs, IsRow .u8 W a1 len1 cap1 zs := by
    obtain ⟨fuel, hf⟩ := h1
    rcases open_ints Try.underlying22 Try.underlying5 (by kernel_rfl) hf with ⟨hcs, _⟩ | ⟨x, l, c, zs, hcs, _, hl, hm, hz, _, hcell, hwz⟩
    · simp [Value.cells] at hcs
      obtain ⟨rfl, rfl, rfl⟩ := hcs
      exact ⟨[], .inl ⟨rfl, rfl, rfl, rfl⟩⟩
    · simp [Value.cells] at hcs
      obtain ⟨rfl, rfl, rfl⟩ := hcs
      exact ⟨zs, .inr ⟨_, rfl, hl, hm, by simpa using hz, hcell, hwz⟩⟩
  clear hA0 hval0
  refine (walk a0 a1 len1 cap1 z1 W w0 w1).mono fun e W' ⟨he, bel⟩ => ?_
  subst he
  exact ⟨_, rfl, _, _, _, [], _, [], hW', trodAll_mk1 (shut_bool Try.underlying4 _), (trodAll_cons_mk (shut_int Try.underlying23 w0) (trodAll_cons_mk (Below.trod laidOut (by kernel_rfl) (of_decide_eq_true (by kernel_rfl)) k1 bel lt1) trodAll_mk0)), rfl, bel.frame _, fun h => by cases h⟩

theorem over : Rows.lebBackRow.holds Try.pinned (OpenSpec.ofChange Rows.lebBackSpec) :=
  OpenClaim.holds_of_wide 4 Try.f4 rfl rfl rfl rfl rfl rfl rfl ⟨rfl, rfl, rfl, rfl, rfl⟩ rfl rfl rfl rfl rfl (by kernel_rfl) Try.func4 (by kernel_rfl)
    (of_decide_eq_true (by kernel_rfl)) (by unfold Func.isWrapper; first | (rw [if_pos (by decide +kernel)]; kernel_rfl) | (rw [if_neg (by decide +kernel)]; exact ⟨rfl, rfl⟩))
    (fun os started H enc _ => lifted os started H enc)

theorem proved : Rows.LebBackSaid := over
end Go.Proofs.Ytkdplpngmldopaa.lebBack

namespace Go.Proofs.Ytkdplpngmldopaa
theorem lebBack_holds : Rows.LebBackSaid := lebBack.proved
end Go.Proofs.Ytkdplpngmldopaa
