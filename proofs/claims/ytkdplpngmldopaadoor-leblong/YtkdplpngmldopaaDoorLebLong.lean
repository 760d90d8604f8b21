/- LebLong returns true for every uint32 and every int, and leaves both: a number told in more bytes than it needs is taken, up to as many as one of 32 bits may have; in one more, or without its last one, it is an error. Of errors.errorType, the one package variable on its road, it takes what the program's text lays (the card ties it). -/
import Derived.Test.YtkdplpngmldopaaDoorRows
import Derived.WalkKit
import Derived.ProofKit
import Derived.OpenShut
import Derived.ShutString
import Derived.Test.YtkdplpngmldopaaDoorHandle
import Derived.Test.YtkdplpngmldopaaDoorTie
import Derived.Test.YtkdplpngmldopaaDoorCards
import Derived.Test.YtkdplpngmldopaaDoorAppRow
import Derived.Test.YtkdplpngmldopaaDoorLong
namespace Go.Proofs.YtkdplpngmldopaaDoor.lebLong
open Go.ChangeShapes Go.WideShapes Go.ChangeAt Go.RowKit
open Go.ChangeMaps (open_string shut_string)
set_option linter.unusedVariables false

theorem own : ownKnob Tryd.prog.godebug = none := by kernel_rfl

theorem own_below {w w' : World} {B n : Nat} {v : Value} {xs : List Value} (h : w.ownsRow B 5 1 v n xs) (hb : Below w.heap.size w w') : w'.ownsRow B 5 1 v n xs := by
  refine ⟨h.1, ?_⟩
  rcases h.2 with h1 | ⟨g, cap, cur, h1, h2, h3, h4⟩
  · exact .inl h1
  · have hlt : g < w.heap.size := (h.lt g (by rw [h1]; rfl)).2
    exact .inr ⟨g, cap, cur, h1, h2, by rw [hb.block g hlt]; exact h3, h4⟩
theorem rel_app (B : Nat) (w wr w2 : World) (s v' : Value) (n : Nat) (xs : List Int) (c : Int) (ys : List Value) (hw : w.heap.size = B) (hbel : Below B w wr) (hB : B ≤ wr.heap.size) (hown : wr.ownsRow B 5 1 s n (xs.map (Value.int .u8)))
    (hown3 : w2.ownsRow B 5 1 v' (n + 1) ys) (hy : ys = (xs ++ [c]).map (Value.int .u8)) (hgrow : (wr.alloc (.cells #[.int .u8 c] 5)).grownBy w2 s.ownBlock) :
    w2.ownsRow B 5 1 v' (n + 1) ((xs ++ [c]).map (Value.int .u8)) ∧ Below B w w2 ∧ B ≤ w2.heap.size := by
  have h1 : Below B w w2 := (hbel.alloc hB _).grown hgrow (by simp; omega) (fun k hk => (hown.lt k hk).1)
  exact ⟨by rw [← hy]; exact hown3, h1, by have := h1.size; omega⟩

set_option maxHeartbeats 400000 in
theorem walk (a0 : Int) (a1 : Int) (w0 : (Lit.int .u32 a0).wf = true) (w1 : (Lit.int .i64 a1).wf = true) (w : World) (hErr : ErrT w) :
    Calls Tryd.prog 4 #[.int .u32 a0, .int .i64 a1] w fun e w' => e = .returned (.bool true) ∧ Below w.heap.size w w' := by
  obtain ⟨b0, b1⟩ := bounds_u32 w0
  obtain ⟨b2, b3⟩ := bounds_i64 w1
  obtain ⟨p, hp, hL, hgd, hq0, hq1, hdl, hdb, hdj⟩ := Leb.bU_p a0 b0 (by omega)
  have hby := Leb.bU_bytes 10 a0 b0 (by omega)
  have HE := hide hErr; have HL := hide hL; have HGd := hide hgd; have HDl := hide hdl; have HDb := hide hdb; have HDj := hide hdj; have HBy := hide hby
  clear hErr hL hgd hdl hdb hdj hby
  obtain ⟨K, hK6, hKe⟩ : ∃ K : Nat, K ≤ 6 ∧ wrap64 ((IntKind.u64.wrap a1).tmod 7) = K := by
    have h1 : 0 ≤ IntKind.u64.wrap a1 := by rw [IntKind.wrap_u64]; omega
    refine ⟨(IntKind.u64.wrap a1 % 7).toNat, by omega, ?_⟩
    rw [Int.tmod_eq_emod_of_nonneg h1]; unfold wrap64; omega
  have ht1 : (((p : Int) + 1) == 0) = false := by simp; omega
  have ht2 : decide (5 < (p : Int) + 1) = false := by simp; omega
  go_enter Tryd.func4, Tryd.ntmps4
  go_wp2_with fail
  refine (putU_b none 0 0 [] a0 _ (Row.nil _) b0 (by omega) (by omega)).mono ?_
  rintro e w1 ⟨g1, c1, rfl, hr1, hc1, hg1, hb1⟩
  simp only [Nat.zero_add, List.nil_append] at hr1 hc1 ⊢
  rw [unhide HL] at hr1 hc1 ⊢
  have HR1 := hide hr1; have HB1 := hide hb1; clear hr1 hb1
  go_wp2_with (at_builtin; refine wpList_append_row _ rfl (.tmp 31) (.tmp 32) rfl w.heap.size (.slice none 0 0) 0 [] rfl (World.ownsRow_nil _ _ _ _) _ _ _ _ rfl (unhide HR1) ?c1 ?c2 ?c3 ?_)
  case c1 => intro h; simp at h
  case c2 => omega
  case c3 => exact (unhide HB1).size
  intro v2 w2 ho2 hb2
  obtain ⟨g2, c2, hv2, _, hc2, hgB⟩ := own_shape ho2 (by omega) (unhide HBy)
  subst hv2
  have hbw2 : Below w.heap.size w w2 := (unhide HB1).trans hb2
  have hcell : w2.cell? ⟨g2, p, none⟩ = some (.int .u8 (a0 / 128 ^ p)) := by
    have h1 := ho2.cellAt p (by omega)
    rw [h1]
    have h2 := unhide HGd; have h3 := unhide HL
    rw [List.getD, List.getElem?_eq_getElem (by omega)] at h2
    simp at h2
    simp [List.getElem?_eq_getElem (show p < (Leb.bU 10 a0).length by omega), h2]
  have hfro := ho2.frozenAt p
  have hst := ho2.stored p (.int .u8 (a0 / 128 ^ p % 128 + 128))
  have hor := Leb.u8_or128 (a0 / 128 ^ p) hq0 (by omega)
  have HB2 := hide hbw2; have HST := hide hst; have HO2 := hide ho2; have HC2 := hide hc2; have HGB := hide hgB
  clear hbw2 hst ho2 hb2 hc2 hgB HR1 HB1
  generalize hq : a0 / 128 ^ p = q at *
  have HQ := hide hq; clear hq
  go_wp2_with fail
  have hown3 := (unhide HST).1
  rw [show (List.map (Value.int .u8) (Leb.bU 10 a0)).set p (Value.int .u8 (q % 128 + 128)) = List.map (Value.int .u8) (Leb.dU a0 p) from by unfold Leb.dU; rw [unhide HQ]; simp [List.map_set]] at hown3
  have hbel3 : Below w.heap.size w (w2.setCell ⟨g2, p, none⟩ (.int .u8 (q % 128 + 128))) := (unhide HB2).setCell (p := ⟨g2, p, none⟩) (unhide HGB) _
  clear HST HO2 HB2 hcell hfro
  generalize w2.setCell ⟨g2, p, none⟩ (.int .u8 (q % 128 + 128)) = w3 at *
  have HO3 := hide hown3; have HB3 := hide hbel3; clear hown3 hbel3
  generalize hB : w.heap.size = B at *
  have HB := hide hB; clear hB
  obtain ⟨i0, hi, hz0, hz1, hz2⟩ := info_parts Tryd.info5
  go_loopw [7, 8] (fun s c wr => ∃ (j : Nat), c = .int .i64 j ∧ j ≤ K ∧ wr.ownsRow B 5 1 s (p + 1 + j) ((Leb.dU a0 p ++ List.replicate j 128).map (Value.int .u8)) ∧ Below B w wr ∧ B ≤ wr.heap.size) (fun _ c _ => K - (intOf c).toNat)
  case atStart => exact ⟨0, rfl, Nat.zero_le _, by simpa using unhide HO3, unhide HB3, by have := (unhide HB3).size; have := unhide HB; omega⟩
  case round =>
    obtain ⟨j, rfl, hj, hown, hbel, hBs⟩ := hrel
    have HO := hide hown; have HBe := hide hbel; have HBs := hide hBs
    clear hown hbel hBs
    by_cases hlt : j < K
    · go_wp2_with (at_builtin; refine wpList_append_own _ rfl (.tmp 51) (.tmp 52) 22 rfl B 5 i0 (.int .u8 0) 1 1 Tryd.underlying22 hi hz0 hz1 hz2 rfl (by decide) u7 (p + 1 + j) _ rfl ((unhide HO).alloc _) ⟨wr.heap.size, 0, none⟩ 1 1 [.int .u8 128] rfl rfl ?d1 ?d2 ?d3 ?d4 ?d5 ?_)
      case d1 => exact cell_one_new _ _ _
      case d2 => first | rfl | (intro u hu; simp at hu; subst hu; rfl)
      case d3 => unfold maxLen; omega
      case d4 => omega
      case d5 => have := unhide HBs; simp; omega
      intro v' w4 hown4 hgrow _
      have hrel2 := rel_app B w wr w4 u7 v' (p + 1 + j) (Leb.dU a0 p ++ List.replicate j 128) 128 _ (unhide HB) (unhide HBe) (unhide HBs) (unhide HO) hown4 (by simp) hgrow
      rw [List.append_assoc, ← List.replicate_succ'] at hrel2
      have HR2 := hide hrel2
      clear hown4 hgrow hrel2 HO
      go_wp2
      go_roundw
      case rel => exact ⟨j + 1, by go_num, by omega, (unhide HR2).1, (unhide HR2).2.1, (unhide HR2).2.2⟩
      case measure => simp [intOf]; omega
    · obtain rfl : j = K := by omega
      have hdb2 : ∀ z ∈ Leb.dU a0 p ++ List.replicate j 128, (0 : Int) ≤ z ∧ z ≤ 255 := by
        intro z hz
        rcases List.mem_append.1 hz with h | h
        · have := unhide HDb z h; omega
        · have := (List.mem_replicate.1 h).2; omega
      obtain ⟨g5, c5, hv5, hrow5, hc5, hg5⟩ := own_shape (unhide HO) (by omega) hdb2
      subst hv5
      have HR5 := hide hrow5; have HC5 := hide hc5; have HDb2 := hide hdb2; clear hrow5 hc5 hg5 hdb2
      go_wp2_with fail
      refine (takeU_b _ _ c5 _ 32 _ (unhide HR5) (unhide HC5) (by omega)).mono ?_
      rintro e w6 ⟨rfl, hb6⟩
      generalize hE1 : Leb.tuE (Leb.dU a0 p ++ List.replicate j 128) 32 = E1
      generalize Leb.tuV (Leb.dU a0 p ++ List.replicate j 128) 32 = V1
      generalize Leb.tuN (Leb.dU a0 p ++ List.replicate j 128) 32 = N1
      have HO6 := hide (own_below (unhide HO) hb6); have HB6 := hide ((unhide HBe).trans (hb6.mono (unhide HBs))); have HE1 := hide hE1
      have HBs6 := hide (Nat.le_trans (unhide HBs) hb6.size)
      clear hb6 HO HBe HBs HR5 HC5 hE1
      go_wp2_with (at_builtin; refine wpList_append_own _ rfl (.tmp 60) (.tmp 61) 22 rfl B 5 i0 (.int .u8 0) 1 1 Tryd.underlying22 hi hz0 hz1 hz2 rfl (by decide) _ (p + 1 + j) _ rfl ((unhide HO6).alloc _) ⟨w6.heap.size, 0, none⟩ 1 1 [.int .u8 0] rfl rfl ?e1 ?e2 ?e3 ?e4 ?e5 ?_)
      case e1 => exact cell_one_new _ _ _
      case e2 => first | rfl | (intro u hu; simp at hu; subst hu; rfl)
      case e3 => unfold maxLen; omega
      case e4 => omega
      case e5 => have := unhide HBs6; simp; omega
      intro v7 w7 hown7 hgrow7 _
      have hrel7 := rel_app B w w6 w7 _ v7 (p + 1 + j) (Leb.dU a0 p ++ List.replicate j 128) 0 _ (unhide HB) (unhide HB6) (unhide HBs6) (unhide HO6) hown7 (by simp) hgrow7
      obtain ⟨g7, c7, hv7, hrow7, hc7, hg7⟩ := own_shape hrel7.1 (by omega) (fun z hz => by rcases List.mem_append.1 hz with h | h; exact unhide HDb2 z h; simp at h; omega)
      have HR7 := hide hrow7; have HC7 := hide hc7; have HB7 := hide hrel7.2.1
      clear hown7 hgrow7 hrel7 hrow7 hc7 hg7 HO6 HB6 HBs6
      rw [hv7]; clear hv7
      go_wp2_with fail
      refine (takeU_b _ _ c7 _ 32 _ (unhide HR7) (unhide HC7) (by omega)).mono ?_
      rintro e w8 ⟨rfl, hb8⟩
      have hB8 : Below w.heap.size w w8 := Below.on (by rw [unhide HB]; exact unhide HB7) hb8
      have hErr8 : ErrT w8 := ErrT.below (unhide HE) (Nat.le_refl _) hB8
      have HB8 := hide hB8; have HE8 := hide hErr8
      clear hb8 HB7 HR7 hB8 hErr8
      by_cases hn : p + 1 + j ≤ 4
      · obtain ⟨f1, f2, f3, f4⟩ := Leb.long_in a0 p j b0 (by omega) (unhide HDl) (unhide HDb) (unhide HDj) hn
        have e14 : E1 = 4 := by rw [← unhide HE1]; exact f1
        rw [f2, f3, f4, errV_0, e14]
        clear f1 f2 f3 f4 e14 HE1
        have hm1 : decide (5 < (p : Int) + 1 + (j : Int) + 1) = false := by simp; omega
        have hm2 : ((p : Int) + 1 + (j : Int) + 1 == 6) = false := by simp; omega
        go_wp2_with fail
        refine (num_any 4 _ (unhide HE8)).mono ?_
        rintro e w9 ⟨rfl, hb9⟩
        have HB9 := hide (Below.on (unhide HB8) hb9); clear hb9 HB8 HE8
        go_wp2_with fail
        refine (sure_any _).mono ?_
        rintro e w10 ⟨rfl, hb10⟩
        have HB10 := hide (Below.on (unhide HB9) hb10); clear hb10 HB9
        go_wp2_with fail
        go_ret
        exact ⟨rfl, unhide HB10⟩
      · have f1 := Leb.long_out a0 p j (unhide HDl) (unhide HDb) (by omega)
        rw [f1]
        clear f1
        have hm1 : decide (5 < (p : Int) + 1 + (j : Int) + 1) = true := by simp; omega
        go_wp2_with fail
        refine (num_any 6 _ (unhide HE8)).mono ?_
        rintro e w9 ⟨rfl, hb9⟩
        have HB9 := hide (Below.on (unhide HB8) hb9); clear hb9 HB8 HE8
        go_wp2_with fail
        refine (sure_any _).mono ?_
        rintro e w10 ⟨rfl, hb10⟩
        have HB10 := hide (Below.on (unhide HB9) hb10); clear hb10 HB9
        go_wp2_with fail
        go_ret
        exact ⟨rfl, unhide HB10⟩

theorem laidWorld_met (os : Os) (args : Array Value) : laidMetH Tryd.prog Rows.lebLongRow.laid (({ World.holding Tryd.prog os ⟨#[], #[], []⟩ with heap := (World.holding Tryd.prog os ⟨#[], #[], []⟩).heap.modify 0 fun | .cells _ t frozen => .cells #[.iface 71 (.agg #[.pointer (some ⟨1, 25, none⟩)])] t frozen | o => o } : World).forCall (fun _ _ => 0) ⟨#[], args, []⟩).memory :=
  laidMetH_of_parts (laidMet_nil _ _) (by kernel_rfl)

set_option maxRecDepth 100000 in
theorem lifted (os : Os) (started : os.Started) (H : Type) (enc : TypeId × Value → H) :
    ReturnsInHanded {} Tryd.checked os 4 .any (fun w args => (Rows.lebLongSpec.pre enc Tryd.prog Tryd.f4 [] false w args ∧ laidMetH Tryd.prog Rows.lebLongRow.laid w) ∧ sizedMet enc Tryd.prog Tryd.f4 (OpenSpec.ofChange Rows.lebLongSpec) false w args) (Rows.lebLongSpec.post enc Tryd.prog Tryd.f4 false true false false) := by
  refine returnsInHanded_of_change_and (C := Tryd.checked) (X := fun w _ => laidMetH Tryd.prog Rows.lebLongRow.laid w) (fun _ _ _ hh h => h.of_heap hh) own started (by kernel_rfl) Tryd.func4
    (ChangeSpec.witness_at (enc := enc) (C := Tryd.checked) (os := os) (X := fun w _ => laidMetH Tryd.prog Rows.lebLongRow.laid w) false ({ World.holding Tryd.prog os ⟨#[], #[], []⟩ with heap := (World.holding Tryd.prog os ⟨#[], #[], []⟩).heap.modify 0 fun | .cells _ t frozen => .cells #[.iface 71 (.agg #[.pointer (some ⟨1, 25, none⟩)])] t frozen | o => o } : World) #[.int .u32 0, .int .i64 0] 8 rfl (by kernel_rfl) (by kernel_rfl) (by kernel_rfl) (by kernel_rfl) (by kernel_rfl) (laidWorld_met os _)) ?_
  intro W base args ds gs before hval0 hW _ _ hL _
  have hg : ErrT W := handle_of_laid hL
  have hval : ∀ (j : Nat) t v, Tryd.f4.params[j]? = some t → args[j]? = some v → Value.okWide Tryd.prog W .any base t v := hval0
  have hW' := hW
  obtain ⟨p, q, hA0, hV, rfl, hfz, hnd⟩ := hW
  have hA : DataW.TrodAll enc Tryd.prog W 0 (fun _ => true) true Tryd.f4.params.toList args.toList ds p := hA0
  rw [Tryd.params4] at hA hval
  obtain ⟨v0, vs0, d0, ds0, p0, q0, hargs, rfl, rfl, h0, r0⟩ := trodAll_cons hA
  obtain ⟨v1, vs1, d1, ds1, p1, q1, rfl, rfl, rfl, h1, r1⟩ := trodAll_cons r0
  obtain ⟨rfl, rfl, rfl⟩ := trodAll_nil r1
  obtain rfl : args = #[v0, v1] := by cases args; simp_all
  obtain ⟨rfl, rfl⟩ := trodVars_none hV
  obtain ⟨a0, rfl, rfl, rfl, w0⟩ := open_int Tryd.underlying37 (hval 0 37 v0 rfl rfl) h0
  obtain ⟨a1, rfl, rfl, rfl, w1⟩ := open_int Tryd.underlying3 (hval 1 3 v1 rfl rfl) h1
  clear hA0 hval0
  refine (walk a0 a1 w0 w1 W hg).mono fun e W' ⟨he, bel⟩ => ?_
  subst he
  exact ⟨_, rfl, _, _, _, [], _, [], hW', trodAll_mk1 (shut_bool Tryd.underlying4 _), (trodAll_cons_mk (shut_int Tryd.underlying37 w0) (trodAll_cons_mk (shut_int Tryd.underlying3 w1) trodAll_mk0)), rfl, bel.frame _, fun h => by cases h⟩

theorem over : Rows.lebLongRow.holds Tryd.pinned (OpenSpec.ofChange Rows.lebLongSpec) :=
  OpenClaim.holds_of_wide 4 Tryd.f4 rfl rfl rfl rfl rfl rfl rfl ⟨rfl, rfl, rfl, rfl, rfl⟩ rfl rfl rfl rfl rfl (by kernel_rfl) Tryd.func4 (by kernel_rfl)
    (of_decide_eq_true (by kernel_rfl)) (by unfold Func.isWrapper; first | (rw [if_pos (by decide +kernel)]; kernel_rfl) | (rw [if_neg (by decide +kernel)]; exact ⟨rfl, rfl⟩))
    (fun os started H enc _ => lifted os started H enc)

theorem proved : Rows.LebLongSaid :=
  over
end Go.Proofs.YtkdplpngmldopaaDoor.lebLong

namespace Go.Proofs.YtkdplpngmldopaaDoor
theorem lebLong_holds : Rows.LebLongSaid := lebLong.proved
theorem lebLong_card : Rows.LebLongCardSaid :=
  Claim7.holds_tied_plain_at .later [] [.handle] true (true, "06040d55aa7c4818d7f1028a82b20210b04b77a0803a415d2d932e8467b2d13c") true
    lebLong_holds (fun _ h => by cases h) (by kernel_rfl) (fun _ h => by cases h) lebLong_row_tie rfl ⟨rfl, rfl⟩ (by kernel_rfl) rfl
    (fun f fn hf hfn => by
      obtain rfl : 4 = f := Option.some.inj (Eq.trans (by kernel_rfl) hf)
      obtain rfl : fn = Tryd.f4 := (Option.some.inj (Tryd.func4.symm.trans hfn)).symm
      exact ⟨by kernel_rfl, fun j t ht => by
        rw [Tryd.params4] at ht
        rcases j with _ | _ | j
        · obtain rfl : t = 37 := by simpa using ht.symm
          exact (show Tryd.prog.wantsStandIn 37 = false by kernel_rfl)
        · obtain rfl : t = 3 := by simpa using ht.symm
          exact (show Tryd.prog.wantsStandIn 3 = false by kernel_rfl)
        · simp at ht⟩)
    (by kernel_rfl)
end Go.Proofs.YtkdplpngmldopaaDoor
