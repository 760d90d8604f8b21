/- LDead: what follows, part by part: each part tells what it holds. -/
import Derived.Test.YtofkapkplnmklaaGreatDoorWM
import Derived.Test.YtofkapkplnmklaaGreatDoorRows
import Derived.OpenShut
import Derived.Deep.Grids
import Derived.Test.YtofkapkplnmklaaGreatDoorTie
import Derived.Test.YtofkapkplnmklaaGreatDoorCards
import Derived.WalkKit
import Derived.ProofKit
import Derived.ShutString
import Derived.Below

/- An argument opened: a row of bools. -/
namespace Go.Proofs.YtofkapkplnmklaaGreatDoor
open Go.ChangeShapes Go.WideShapes Go.ChangeAt Go.RowKit
namespace Vw
set_option linter.unusedVariables false
set_option linter.unusedSimpArgs false
open Ex (Lies)
theorem open_bools_row {H : Type} {enc : TypeId × Value → H} {w : World} {v : Value} {d : DataW H} {p : List MemPlace}
    (h : DataW.Trod enc Tryz.prog w 0 (fun _ => true) true 67 v d p) (hs : ∃ a n c, v = .slice a n c) :
    ∃ l : List Bool, Lies (fun b => b < w.heap.size) l.length (fun b o => ∀ i (h : i < l.length), w.cell? ⟨b, o + i, none⟩ = some (.bool l[i])) v := by
  obtain ⟨fuel, hf⟩ := h
  obtain ⟨a0, n0, c0, rfl⟩ := hs
  rcases Go.Deep.open_bools Tryz.underlying67 Tryz.underlying4 (by kernel_rfl) hf with ⟨hcs, _⟩ | ⟨x, len, cap, B, hcs, _, hl, hm, _, hc⟩
  · simp [Value.cells] at hcs
    obtain ⟨rfl, rfl, rfl⟩ := hcs
    exact ⟨[], ⟨none, 0, rfl, Nat.le_refl _, fun _ => rfl, fun h => by simp at h⟩⟩
  · simp [Value.cells] at hcs
    obtain ⟨rfl, rfl, rfl⟩ := hcs
    have hlt : ((List.range n0).map B).length = n0 := by simp
    refine ⟨(List.range n0).map B, ⟨some x, c0, by rw [hlt], by omega, by simp, fun h0 => ?_⟩⟩
    obtain ⟨b, off, spot⟩ := x
    have h00 := hc 0 (by omega)
    have hspot : spot = none := by simpa [Addr.add] using World.cell?_spot h00
    subst hspot
    refine ⟨b, off, rfl, ?_, fun i hi => ?_⟩
    · exact World.block_lt_of_cell? w ⟨b, off, none⟩ (by simpa [Addr.add] using h00)
    · have := hc i (by omega)
      rw [addr_add] at this
      rw [this]; simp
end Vw
end Go.Proofs.YtofkapkplnmklaaGreatDoor

/- ValidDead: its walk, up to the module. By mkde.py. -/
namespace Go.Proofs.YtofkapkplnmklaaGreatDoor
open Go.RowKit Go.Shelf
namespace Vw
set_option linter.unusedVariables false
set_option linter.unusedSimpArgs false
open Ex (Ins Lies Lab cnt)
open Gm (Mod Typ Fnc Byts ModL WfM LL TypC FncC SzM)
set_option maxRecDepth 100000 in
set_option maxHeartbeats 6400000 in
theorem dead_walk (l : List Bool) (v : Value) (w : World) (hT : Tb w) (hE : ErrT w) (hL : Lies (fun b => b < w.heap.size) l.length (fun b o => ∀ i (h : i < l.length), w.cell? ⟨b, o + i, none⟩ = some (.bool l[i])) v) :
    Calls Tryz.prog 6 #[v, .bool false] w fun e w' => e = .returned (.bool true) ∧ Below w.heap.size w w' := by
  obtain ⟨i0, hi, hz0, hz1, hz2⟩ := info_parts infoR5
  obtain ⟨la, lc, rfl, hlc, -, hA⟩ := hL
  have hA0 := one_al w (.cells #[.int .u8 0, .int .i64 0, .int .u32 0, .int .u32 0, .int .u8 0, .slice none 0 0, .slice none 0 0, .slice none 0 0] 69)
  have hr0 := heap_alloc_new w (.cells #[.int .u8 0, .int .i64 0, .int .u32 0, .int .u32 0, .int .u8 0, .slice none 0 0, .slice none 0 0, .slice none 0 0] 69)
  have HA := hide hA; have HTb := hide hT; have HEr := hide hE; have HA0 := hide hA0; have Hr0 := hide hr0
  clear hA hT hE hA0 hr0
  obtain ⟨n, hn⟩ : ∃ n, l.length = n := ⟨_, rfl⟩
  rw [hn] at hlc ⊢
  have HN := hide hn
  clear hn
  go_enter Tryz.func6, Tryz.ntmps6
  go_wp2_with fail
  generalize w.alloc (.cells #[.int .u8 0, .int .i64 0, .int .u32 0, .int .u32 0, .int .u8 0, .slice none 0 0, .slice none 0 0, .slice none 0 0] 69) = W1 at *
  go_loopw [6, 7, 8] (fun s c1 c wr => ∃ k : Nat, c = .int .i64 k ∧ (k : Int) ≤ 60 ∧ (k : Int) ≤ n ∧ c1 = .int .i64 (cdN 0 (l.take k) : Nat) ∧ (∃ g cap, s = .slice (some ⟨g, 0, none⟩) (k + 1) cap ∧ wr.ownsRow w.heap.size 69 8 (.slice (some ⟨g, 0, none⟩) (k + 1) cap) (k + 1) (celL (dbody (l.take k)))) ∧ Below w.heap.size w wr ∧ w.heap.size ≤ wr.heap.size) (fun _ _ c _ => 60 - (intOf c).toNat)
  case atStart => exact ⟨0, rfl, by omega, by omega, rfl, ⟨w.heap.size, 1, rfl, rfl, .inr ⟨w.heap.size, 1, _, rfl, Nat.le_refl _, unhide Hr0, Nat.le_refl _, by unfold maxLen; omega, rfl, rfl⟩⟩, unhide HA0, (unhide HA0).size⟩
  case round =>
    obtain ⟨k, rfl, hk60, hkn, rfl, ⟨g, cap, rfl, hown⟩, hbel, hsz⟩ := hrel
    by_cases h1 : (k : Int) < n
    · by_cases h2 : (k : Int) < 60
      · have hkl : k < l.length := by have := unhide HN; omega
        obtain ⟨b, o, rfl, hbw, hcl⟩ := unhide HA (by omega)
        have hck := (hbel.cell (p := ⟨b, o + k, none⟩) hbw).trans (hcl k hkl)
        have hblt : b < wr.heap.size := Nat.lt_of_lt_of_le hbw hsz
        have HTk := hide (show l.take (k + 1) = l.take k ++ [l[k]] from List.take_succ_eq_append_getElem hkl)
        have hcn := cdN_le (l.take k) 0
        have hlk : (l.take k).length ≤ k := by simp; omega
        have hcn2 : (cdN 0 (l.take k) : Int) ≤ 60 := by omega
        clear hlk
        clear hcl hcn
        cases hb : l[k] with
        | true =>
          rw [hb] at hck HTk
          have HCs := hide (cdN_snoc true (l.take k) 0)
          clear hb
          have hal := one_al wr (.cells #[.int .u8 65, .int .i64 1, .int .u32 0, .int .u32 0, .int .u8 0, .slice none 0 0, .slice none 0 0, .slice none 0 0] 69)
          have hrn := heap_alloc_new wr (.cells #[.int .u8 65, .int .i64 1, .int .u32 0, .int .u32 0, .int .u8 0, .slice none 0 0, .slice none 0 0, .slice none 0 0] 69)
          have hxo := ownsRow_below hown hal
          have hlow := fun q (e : (Value.slice (some ⟨g, 0, none⟩) (k + 1) cap).ownBlock = some q) => hxo.lt q e
          have HXo := hide hxo; have HBel := hide hbel; have Hrn := hide hrn; have HLt := hide hsz; have HLow := hide hlow
          clear hown hxo hbel hrn hal hsz hlow
          go_wp2_with (at_builtin; refine wpList_append_lies _ rfl (.tmp 28) (.tmp 30) 55 rfl w.heap.size 69 i0 (.agg #[.int .u8 0, .int .i64 0, .int .u32 0, .int .u32 0, .int .u8 0, .slice none 0 0, .slice none 0 0, .slice none 0 0]) 8 104 Tryz.underlying55 hi hz0 hz1 hz2 rfl (by decide) (.slice (some ⟨g, 0, none⟩) (k + 1) cap) (k + 1) (celL (dbody (l.take k))) rfl (unhide HXo) ⟨wr.heap.size, 0, none⟩ 1 1 (celI (cdI true)) rfl rfl ?tc1 ?tc2 (by omega) ?tc3 ?tc4 ?tc5 (wr.heap.size + 1) ?tc6 ?_)
          case tc1 => intro j u hu; first | exact hu | (rw [Addr.add_mid, Nat.zero_add, cell_of_row _ _ _ _ _ _ (unhide Hrn)]; simpa [celI, cdI, in0] using hu) | simpa [celI, cdI, in0] using hu
          case tc2 => intro u hu; simp [celI, cdI, in0] at hu; rcases hu with rfl | rfl | rfl | rfl | rfl | rfl <;> rfl
          case tc3 => unfold maxLen; omega
          case tc4 => omega
          case tc5 => have := unhide HLt; simp; omega
          try (case tc6 => simp)
          intro g2 cap2 w6 hown6 hgrow hat6 hlt6
          have hb6 : Below w.heap.size w w6 := ((unhide HBel).alloc (unhide HLt) _).grown hgrow (by have := unhide HLt; simp; omega) (fun q hq => (unhide HLow q hq).1)
          rw [← celL_snoc, ← dbody_snoc, ← unhide HTk] at hown6
          have HO6 := hide hown6; have HB6 := hide hb6; have HS6 := hide (show w.heap.size ≤ w6.heap.size by have := hgrow.size; have := unhide HLt; simp at *; omega)
          clear hown6 hb6 hgrow hat6 hlt6
          go_wp2
          go_roundw
          case rel => exact ⟨k + 1, by go_num, by omega, by omega, by rw [unhide HTk, unhide HCs]; simp, ⟨g2, cap2, rfl, unhide HO6⟩, unhide HB6, unhide HS6⟩
          case measure => simp [intOf]; omega
        | false =>
          rw [hb] at hck HTk
          have HCs := hide (cdN_snoc false (l.take k) 0)
          clear hb
          have hal := one_al wr (.cells #[.int .u8 26, .int .i64 0, .int .u32 0, .int .u32 0, .int .u8 0, .slice none 0 0, .slice none 0 0, .slice none 0 0] 69)
          have hrn := heap_alloc_new wr (.cells #[.int .u8 26, .int .i64 0, .int .u32 0, .int .u32 0, .int .u8 0, .slice none 0 0, .slice none 0 0, .slice none 0 0] 69)
          have hxo := ownsRow_below hown hal
          have hlow := fun q (e : (Value.slice (some ⟨g, 0, none⟩) (k + 1) cap).ownBlock = some q) => hxo.lt q e
          have HXo := hide hxo; have HBel := hide hbel; have Hrn := hide hrn; have HLt := hide hsz; have HLow := hide hlow
          clear hown hxo hbel hrn hal hsz hlow
          go_wp2_with (at_builtin; refine wpList_append_lies _ rfl (.tmp 34) (.tmp 36) 55 rfl w.heap.size 69 i0 (.agg #[.int .u8 0, .int .i64 0, .int .u32 0, .int .u32 0, .int .u8 0, .slice none 0 0, .slice none 0 0, .slice none 0 0]) 8 104 Tryz.underlying55 hi hz0 hz1 hz2 rfl (by decide) (.slice (some ⟨g, 0, none⟩) (k + 1) cap) (k + 1) (celL (dbody (l.take k))) rfl (unhide HXo) ⟨wr.heap.size, 0, none⟩ 1 1 (celI (cdI false)) rfl rfl ?fc1 ?fc2 (by omega) ?fc3 ?fc4 ?fc5 (wr.heap.size + 1) ?fc6 ?_)
          case fc1 => intro j u hu; first | exact hu | (rw [Addr.add_mid, Nat.zero_add, cell_of_row _ _ _ _ _ _ (unhide Hrn)]; simpa [celI, cdI, in0] using hu) | simpa [celI, cdI, in0] using hu
          case fc2 => intro u hu; simp [celI, cdI, in0] at hu; rcases hu with rfl | rfl | rfl | rfl | rfl | rfl <;> rfl
          case fc3 => unfold maxLen; omega
          case fc4 => omega
          case fc5 => have := unhide HLt; simp; omega
          try (case fc6 => simp)
          intro g2 cap2 w6 hown6 hgrow hat6 hlt6
          have hb6 : Below w.heap.size w w6 := ((unhide HBel).alloc (unhide HLt) _).grown hgrow (by have := unhide HLt; simp; omega) (fun q hq => (unhide HLow q hq).1)
          rw [← celL_snoc, ← dbody_snoc, ← unhide HTk] at hown6
          have HO6 := hide hown6; have HB6 := hide hb6; have HS6 := hide (show w.heap.size ≤ w6.heap.size by have := hgrow.size; have := unhide HLt; simp at *; omega)
          clear hown6 hb6 hgrow hat6 hlt6
          go_wp2
          go_roundw
          case rel => exact ⟨k + 1, by go_num, by omega, by omega, by rw [unhide HTk, unhide HCs]; simp; omega, ⟨g2, cap2, rfl, unhide HO6⟩, unhide HB6, unhide HS6⟩
          case measure => simp [intOf]; omega
      · skip
        have hll : (dbody (l.take k)).length = k + 1 := by rw [dbody_len, List.length_take]; have := unhide HN; omega
        have hda := dbody_all (l.take k)
        have hlk : (l.take k).length ≤ 60 := by rw [List.length_take]; omega
        have hsc := scene_any (w := wr) (pa := none) (pc := 0) (ps := []) 127 (body := dbody (l.take k)) (ba := some ⟨g, 0, none⟩) (bc := cap) (nil_lies _ _) (code_of (dbody_pl _) (by omega) (by rw [hll]; exact hown))
        rw [hll] at hsc
        have HSc := hide hsc; have HBel := hide hbel; have HLL := hide hll; have HDa := hide hda; have HLk := hide hlk
        have hov := dead_over (l.take k) 127 (by decide)
        have HOv := hide hov
        have hcn : (cdN 0 (l.take k) : Int) ≤ 60 := by have := cdN_le (l.take k) 0; omega
        clear hsc hbel hll hda hlk hown hov hsz
        generalize hcc : cdN 0 (l.take k) = cc at *
        clear hcc
        go_wp2_with fail
        refine (unhide HSc).mono ?_
        rintro e w2 ⟨⟨v0, v1, v2, v3, v4, v5, v6, v7, rfl, hM2⟩, hb2⟩
        have hgm := Gm.giveModule_any (scn [] 127 (dbody (l.take k))) (fun b => b < w2.heap.size) v0 v1 v2 v3 v4 v5 v6 v7 w2 (fun q hq => hq) hM2 (scn_szm (by simp) (by simp) (unhide HDa).2.1 (by have := unhide HLL; omega))
        have HGm := hide hgm; have HB2 := hide ((unhide HBel).trans (hb2.mono (unhide HBel).size))
        clear hgm hM2 hb2 HSc
        go_wp2_with fail
        refine (unhide HGm).mono ?_
        rintro e w3 ⟨u0, u1, u2, u3, u4, u5, u6, u7, rfl, hM3, hb3⟩
        have hM4 := hM3.moved (w' := w3) (g' := fun b => b < w3.heap.size) (fun q hq _ => ⟨hq, rfl⟩) (Nat.le_refl _)
        obtain ⟨a0, k0, hv0⟩ := hM4.l0.sl
        obtain ⟨a1, k1, hv1⟩ := hM4.l1.sl
        obtain ⟨a2, k2, hv2⟩ := hM4.l2.sl
        obtain ⟨a3, k3, hv3⟩ := hM4.l3.sl
        obtain ⟨a4, k4, hv4⟩ := hM4.l4.sl
        obtain ⟨a5, k5, hv5⟩ := hM4.l5.sl
        obtain ⟨a6, k6, hv6⟩ := hM4.l6.sl
        obtain ⟨a7, k7, hv7⟩ := hM4.l7.sl
        subst hv0 hv1 hv2 hv3 hv4 hv5 hv6 hv7
        obtain ⟨W4, hW4⟩ : ∃ W, w3.alloc (.cells #[.slice a0 (scn [] 127 (dbody (l.take k))).types.length k0, .slice a1 (scn [] 127 (dbody (l.take k))).funcs.length k1, .slice a2 (scn [] 127 (dbody (l.take k))).tables.length k2, .slice a3 (scn [] 127 (dbody (l.take k))).mems.length k3, .slice a4 (scn [] 127 (dbody (l.take k))).globs.length k4, .slice a5 (scn [] 127 (dbody (l.take k))).exps.length k5, .slice a6 (scn [] 127 (dbody (l.take k))).elems.length k6, .slice a7 (scn [] 127 (dbody (l.take k))).datas.length k7] 41) = W := ⟨_, rfl⟩
        have hb4 : Below w3.heap.size w3 W4 := by rw [← hW4]; exact one_al _ _
        have hr4 : W4.heap[w3.heap.size]? = some (.cells #[.slice a0 (scn [] 127 (dbody (l.take k))).types.length k0, .slice a1 (scn [] 127 (dbody (l.take k))).funcs.length k1, .slice a2 (scn [] 127 (dbody (l.take k))).tables.length k2, .slice a3 (scn [] 127 (dbody (l.take k))).mems.length k3, .slice a4 (scn [] 127 (dbody (l.take k))).globs.length k4, .slice a5 (scn [] 127 (dbody (l.take k))).exps.length k5, .slice a6 (scn [] 127 (dbody (l.take k))).elems.length k6, .slice a7 (scn [] 127 (dbody (l.take k))).datas.length k7] 41 (0, 0)) := by rw [← hW4]; exact heap_alloc_new _ _
        have hB4 : Below w.heap.size w W4 := ((unhide HB2).trans (hb3.mono (unhide HB2).size)).trans (hb4.mono (Nat.le_trans (unhide HB2).size hb3.size))
        have hM5 := hM4.moved (g' := fun b => b < W4.heap.size) (Gm.Mv.below hb4 (fun q hq _ => Nat.lt_of_lt_of_le hq hb4.size)) hb4.size
        have hbo := body_any ciOk hM5 (scn_wf (by simp) (by decide) (unhide HDa).1) ((unhide HTb).below hB4) (scn_szv (by simp) (unhide HDa).1 (unhide HDa).2.1 (by rw [(unhide HDa).2.2]; have := unhide HLk; omega)) 0
        have hsu := fun U (hU : Below w.heap.size w U) => sure08 U ((unhide HTb).below hU) ((unhide HEr).below (Nat.le_refl _) hU)
        have hge : hgE (scn [] 127 (dbody (l.take k))) 0 = if (over (scn [] 127 (dbody (l.take k))) 0).isSome then 0 else 7 := rfl
        rw [hge] at hbo
        have HBo := hide hbo; have HW4 := hide hW4; have HB4 := hide hB4; have HSu := hide hsu
        obtain ⟨p0, p1, p2, p3, p4, p5, p6, p7⟩ := mbox hr4
        have hlt4 := (Array.getElem?_eq_some_iff.1 hr4).1
        clear hbo hW4 hB4 hsu hge hM3 hM4 hM5 hb3 hb4 hr4 HGm HB2 HTb HEr HDa HLL HLk HBel
        have hcs : ∃ b : Bool, (over (scn [] 127 (dbody (l.take k))) 0).isSome = b := ⟨_, rfl⟩
        obtain ⟨bb, hbb⟩ := hcs
        rw [hbb] at HBo
        have hbd : bb = decide (cc = 0 ∨ (cc = 1 ∧ (127 : Int) = 127)) := by
          have h := unhide HOv
          unfold dbody at hbb
          rw [hbb] at h
          rw [h]; try simp
        clear hbb HOv
        by_cases q0 : cc = 0
        · subst q0
          obtain rfl : bb = true := by rw [hbd]; simp
          rw [show errV (if true = true then 0 else 7) = .nilIface from errV_0] at HBo
          clear hbd
          go_upto_region 15 with fail
          rw [unhide HW4]
          clear HW4
          go_wp2_with fail
          refine (unhide HBo).mono ?_
          rintro e w5 ⟨rfl, hb5⟩
          have HB5 := hide ((unhide HB4).trans (hb5.mono (unhide HB4).size))
          clear hb5 p0 p1 p2 p3 p4 p5 p6 p7
          go_wp2_with fail
          refine (unhide HSu _ (unhide HB5)).mono ?_
          rintro e w6 ⟨rfl, hb6⟩
          have HB6 := hide ((unhide HB5).trans (hb6.mono (unhide HB5).size))
          clear hb6
          go_wp2
          go_ret
          exact ⟨rfl, unhide HB6⟩
        by_cases q1 : cc = 1
        · subst q1
          obtain rfl : bb = true := by rw [hbd]; simp
          rw [show errV (if true = true then 0 else 7) = .nilIface from errV_0] at HBo
          clear hbd q0
          go_upto_region 15 with fail
          rw [unhide HW4]
          clear HW4
          go_wp2_with fail
          refine (unhide HBo).mono ?_
          rintro e w5 ⟨rfl, hb5⟩
          have HB5 := hide ((unhide HB4).trans (hb5.mono (unhide HB4).size))
          clear hb5 p0 p1 p2 p3 p4 p5 p6 p7
          go_wp2_with fail
          refine (unhide HSu _ (unhide HB5)).mono ?_
          rintro e w6 ⟨rfl, hb6⟩
          have HB6 := hide ((unhide HB5).trans (hb6.mono (unhide HB5).size))
          clear hb6
          go_wp2
          go_ret
          exact ⟨rfl, unhide HB6⟩
        · obtain rfl : bb = false := by rw [hbd]; simp [q0, q1]
          rw [show errV (if false = true then 0 else 7) = .iface 102 (.int .i64 7) from errV_7] at HBo
          have qi0 : ((cc : Int) == 0) = false := by simpa using q0
          have qi1 : ((cc : Int) == 1) = false := by
            have : ¬ (cc : Int) = 1 := by omega
            simpa using this
          clear hbd q0 q1
          go_upto_region 15 with fail
          rw [unhide HW4]
          clear HW4
          go_wp2_with fail
          refine (unhide HBo).mono ?_
          rintro e w5 ⟨rfl, hb5⟩
          have HB5 := hide ((unhide HB4).trans (hb5.mono (unhide HB4).size))
          clear hb5 p0 p1 p2 p3 p4 p5 p6 p7
          go_wp2_with fail
          refine (unhide HSu _ (unhide HB5)).mono ?_
          rintro e w6 ⟨rfl, hb6⟩
          have HB6 := hide ((unhide HB5).trans (hb6.mono (unhide HB5).size))
          clear hb6
          go_wp2
          go_ret
          exact ⟨rfl, unhide HB6⟩
    · skip
      have hll : (dbody (l.take k)).length = k + 1 := by rw [dbody_len, List.length_take]; have := unhide HN; omega
      have hda := dbody_all (l.take k)
      have hlk : (l.take k).length ≤ 60 := by rw [List.length_take]; omega
      have hsc := scene_any (w := wr) (pa := none) (pc := 0) (ps := []) 127 (body := dbody (l.take k)) (ba := some ⟨g, 0, none⟩) (bc := cap) (nil_lies _ _) (code_of (dbody_pl _) (by omega) (by rw [hll]; exact hown))
      rw [hll] at hsc
      have HSc := hide hsc; have HBel := hide hbel; have HLL := hide hll; have HDa := hide hda; have HLk := hide hlk
      have hov := dead_over (l.take k) 127 (by decide)
      have HOv := hide hov
      have hcn : (cdN 0 (l.take k) : Int) ≤ 60 := by have := cdN_le (l.take k) 0; omega
      clear hsc hbel hll hda hlk hown hov hsz
      generalize hcc : cdN 0 (l.take k) = cc at *
      clear hcc
      go_wp2_with fail
      refine (unhide HSc).mono ?_
      rintro e w2 ⟨⟨v0, v1, v2, v3, v4, v5, v6, v7, rfl, hM2⟩, hb2⟩
      have hgm := Gm.giveModule_any (scn [] 127 (dbody (l.take k))) (fun b => b < w2.heap.size) v0 v1 v2 v3 v4 v5 v6 v7 w2 (fun q hq => hq) hM2 (scn_szm (by simp) (by simp) (unhide HDa).2.1 (by have := unhide HLL; omega))
      have HGm := hide hgm; have HB2 := hide ((unhide HBel).trans (hb2.mono (unhide HBel).size))
      clear hgm hM2 hb2 HSc
      go_wp2_with fail
      refine (unhide HGm).mono ?_
      rintro e w3 ⟨u0, u1, u2, u3, u4, u5, u6, u7, rfl, hM3, hb3⟩
      have hM4 := hM3.moved (w' := w3) (g' := fun b => b < w3.heap.size) (fun q hq _ => ⟨hq, rfl⟩) (Nat.le_refl _)
      obtain ⟨a0, k0, hv0⟩ := hM4.l0.sl
      obtain ⟨a1, k1, hv1⟩ := hM4.l1.sl
      obtain ⟨a2, k2, hv2⟩ := hM4.l2.sl
      obtain ⟨a3, k3, hv3⟩ := hM4.l3.sl
      obtain ⟨a4, k4, hv4⟩ := hM4.l4.sl
      obtain ⟨a5, k5, hv5⟩ := hM4.l5.sl
      obtain ⟨a6, k6, hv6⟩ := hM4.l6.sl
      obtain ⟨a7, k7, hv7⟩ := hM4.l7.sl
      subst hv0 hv1 hv2 hv3 hv4 hv5 hv6 hv7
      obtain ⟨W4, hW4⟩ : ∃ W, w3.alloc (.cells #[.slice a0 (scn [] 127 (dbody (l.take k))).types.length k0, .slice a1 (scn [] 127 (dbody (l.take k))).funcs.length k1, .slice a2 (scn [] 127 (dbody (l.take k))).tables.length k2, .slice a3 (scn [] 127 (dbody (l.take k))).mems.length k3, .slice a4 (scn [] 127 (dbody (l.take k))).globs.length k4, .slice a5 (scn [] 127 (dbody (l.take k))).exps.length k5, .slice a6 (scn [] 127 (dbody (l.take k))).elems.length k6, .slice a7 (scn [] 127 (dbody (l.take k))).datas.length k7] 41) = W := ⟨_, rfl⟩
      have hb4 : Below w3.heap.size w3 W4 := by rw [← hW4]; exact one_al _ _
      have hr4 : W4.heap[w3.heap.size]? = some (.cells #[.slice a0 (scn [] 127 (dbody (l.take k))).types.length k0, .slice a1 (scn [] 127 (dbody (l.take k))).funcs.length k1, .slice a2 (scn [] 127 (dbody (l.take k))).tables.length k2, .slice a3 (scn [] 127 (dbody (l.take k))).mems.length k3, .slice a4 (scn [] 127 (dbody (l.take k))).globs.length k4, .slice a5 (scn [] 127 (dbody (l.take k))).exps.length k5, .slice a6 (scn [] 127 (dbody (l.take k))).elems.length k6, .slice a7 (scn [] 127 (dbody (l.take k))).datas.length k7] 41 (0, 0)) := by rw [← hW4]; exact heap_alloc_new _ _
      have hB4 : Below w.heap.size w W4 := ((unhide HB2).trans (hb3.mono (unhide HB2).size)).trans (hb4.mono (Nat.le_trans (unhide HB2).size hb3.size))
      have hM5 := hM4.moved (g' := fun b => b < W4.heap.size) (Gm.Mv.below hb4 (fun q hq _ => Nat.lt_of_lt_of_le hq hb4.size)) hb4.size
      have hbo := body_any ciOk hM5 (scn_wf (by simp) (by decide) (unhide HDa).1) ((unhide HTb).below hB4) (scn_szv (by simp) (unhide HDa).1 (unhide HDa).2.1 (by rw [(unhide HDa).2.2]; have := unhide HLk; omega)) 0
      have hsu := fun U (hU : Below w.heap.size w U) => sure08 U ((unhide HTb).below hU) ((unhide HEr).below (Nat.le_refl _) hU)
      have hge : hgE (scn [] 127 (dbody (l.take k))) 0 = if (over (scn [] 127 (dbody (l.take k))) 0).isSome then 0 else 7 := rfl
      rw [hge] at hbo
      have HBo := hide hbo; have HW4 := hide hW4; have HB4 := hide hB4; have HSu := hide hsu
      obtain ⟨p0, p1, p2, p3, p4, p5, p6, p7⟩ := mbox hr4
      have hlt4 := (Array.getElem?_eq_some_iff.1 hr4).1
      clear hbo hW4 hB4 hsu hge hM3 hM4 hM5 hb3 hb4 hr4 HGm HB2 HTb HEr HDa HLL HLk HBel
      have hcs : ∃ b : Bool, (over (scn [] 127 (dbody (l.take k))) 0).isSome = b := ⟨_, rfl⟩
      obtain ⟨bb, hbb⟩ := hcs
      rw [hbb] at HBo
      have hbd : bb = decide (cc = 0 ∨ (cc = 1 ∧ (127 : Int) = 127)) := by
        have h := unhide HOv
        unfold dbody at hbb
        rw [hbb] at h
        rw [h]; try simp
      clear hbb HOv
      by_cases q0 : cc = 0
      · subst q0
        obtain rfl : bb = true := by rw [hbd]; simp
        rw [show errV (if true = true then 0 else 7) = .nilIface from errV_0] at HBo
        clear hbd
        go_upto_region 15 with fail
        rw [unhide HW4]
        clear HW4
        go_wp2_with fail
        refine (unhide HBo).mono ?_
        rintro e w5 ⟨rfl, hb5⟩
        have HB5 := hide ((unhide HB4).trans (hb5.mono (unhide HB4).size))
        clear hb5 p0 p1 p2 p3 p4 p5 p6 p7
        go_wp2_with fail
        refine (unhide HSu _ (unhide HB5)).mono ?_
        rintro e w6 ⟨rfl, hb6⟩
        have HB6 := hide ((unhide HB5).trans (hb6.mono (unhide HB5).size))
        clear hb6
        go_wp2
        go_ret
        exact ⟨rfl, unhide HB6⟩
      by_cases q1 : cc = 1
      · subst q1
        obtain rfl : bb = true := by rw [hbd]; simp
        rw [show errV (if true = true then 0 else 7) = .nilIface from errV_0] at HBo
        clear hbd q0
        go_upto_region 15 with fail
        rw [unhide HW4]
        clear HW4
        go_wp2_with fail
        refine (unhide HBo).mono ?_
        rintro e w5 ⟨rfl, hb5⟩
        have HB5 := hide ((unhide HB4).trans (hb5.mono (unhide HB4).size))
        clear hb5 p0 p1 p2 p3 p4 p5 p6 p7
        go_wp2_with fail
        refine (unhide HSu _ (unhide HB5)).mono ?_
        rintro e w6 ⟨rfl, hb6⟩
        have HB6 := hide ((unhide HB5).trans (hb6.mono (unhide HB5).size))
        clear hb6
        go_wp2
        go_ret
        exact ⟨rfl, unhide HB6⟩
      · obtain rfl : bb = false := by rw [hbd]; simp [q0, q1]
        rw [show errV (if false = true then 0 else 7) = .iface 102 (.int .i64 7) from errV_7] at HBo
        have qi0 : ((cc : Int) == 0) = false := by simpa using q0
        have qi1 : ((cc : Int) == 1) = false := by
          have : ¬ (cc : Int) = 1 := by omega
          simpa using this
        clear hbd q0 q1
        go_upto_region 15 with fail
        rw [unhide HW4]
        clear HW4
        go_wp2_with fail
        refine (unhide HBo).mono ?_
        rintro e w5 ⟨rfl, hb5⟩
        have HB5 := hide ((unhide HB4).trans (hb5.mono (unhide HB4).size))
        clear hb5 p0 p1 p2 p3 p4 p5 p6 p7
        go_wp2_with fail
        refine (unhide HSu _ (unhide HB5)).mono ?_
        rintro e w6 ⟨rfl, hb6⟩
        have HB6 := hide ((unhide HB5).trans (hb6.mono (unhide HB5).size))
        clear hb6
        go_wp2
        go_ret
        exact ⟨rfl, unhide HB6⟩
end Vw
end Go.Proofs.YtofkapkplnmklaaGreatDoor

/- ValidDead: its walk, up to the module. By mkde.py. -/
namespace Go.Proofs.YtofkapkplnmklaaGreatDoor
open Go.RowKit Go.Shelf
namespace Vw
set_option linter.unusedVariables false
set_option linter.unusedSimpArgs false
open Ex (Ins Lies Lab cnt)
open Gm (Mod Typ Fnc Byts ModL WfM LL TypC FncC SzM)
set_option maxRecDepth 100000 in
set_option maxHeartbeats 6400000 in
theorem dead_walk_w (l : List Bool) (v : Value) (w : World) (hT : Tb w) (hE : ErrT w) (hL : Lies (fun b => b < w.heap.size) l.length (fun b o => ∀ i (h : i < l.length), w.cell? ⟨b, o + i, none⟩ = some (.bool l[i])) v) :
    Calls Tryz.prog 6 #[v, .bool true] w fun e w' => e = .returned (.bool true) ∧ Below w.heap.size w w' := by
  obtain ⟨i0, hi, hz0, hz1, hz2⟩ := info_parts infoR5
  obtain ⟨la, lc, rfl, hlc, -, hA⟩ := hL
  have hA0 := one_al w (.cells #[.int .u8 0, .int .i64 0, .int .u32 0, .int .u32 0, .int .u8 0, .slice none 0 0, .slice none 0 0, .slice none 0 0] 69)
  have hr0 := heap_alloc_new w (.cells #[.int .u8 0, .int .i64 0, .int .u32 0, .int .u32 0, .int .u8 0, .slice none 0 0, .slice none 0 0, .slice none 0 0] 69)
  have HA := hide hA; have HTb := hide hT; have HEr := hide hE; have HA0 := hide hA0; have Hr0 := hide hr0
  clear hA hT hE hA0 hr0
  obtain ⟨n, hn⟩ : ∃ n, l.length = n := ⟨_, rfl⟩
  rw [hn] at hlc ⊢
  have HN := hide hn
  clear hn
  go_enter Tryz.func6, Tryz.ntmps6
  go_wp2_with fail
  generalize w.alloc (.cells #[.int .u8 0, .int .i64 0, .int .u32 0, .int .u32 0, .int .u8 0, .slice none 0 0, .slice none 0 0, .slice none 0 0] 69) = W1 at *
  go_loopw [6, 7, 8] (fun s c1 c wr => ∃ k : Nat, c = .int .i64 k ∧ (k : Int) ≤ 60 ∧ (k : Int) ≤ n ∧ c1 = .int .i64 (cdN 0 (l.take k) : Nat) ∧ (∃ g cap, s = .slice (some ⟨g, 0, none⟩) (k + 1) cap ∧ wr.ownsRow w.heap.size 69 8 (.slice (some ⟨g, 0, none⟩) (k + 1) cap) (k + 1) (celL (dbody (l.take k)))) ∧ Below w.heap.size w wr ∧ w.heap.size ≤ wr.heap.size) (fun _ _ c _ => 60 - (intOf c).toNat)
  case atStart => exact ⟨0, rfl, by omega, by omega, rfl, ⟨w.heap.size, 1, rfl, rfl, .inr ⟨w.heap.size, 1, _, rfl, Nat.le_refl _, unhide Hr0, Nat.le_refl _, by unfold maxLen; omega, rfl, rfl⟩⟩, unhide HA0, (unhide HA0).size⟩
  case round =>
    obtain ⟨k, rfl, hk60, hkn, rfl, ⟨g, cap, rfl, hown⟩, hbel, hsz⟩ := hrel
    by_cases h1 : (k : Int) < n
    · by_cases h2 : (k : Int) < 60
      · have hkl : k < l.length := by have := unhide HN; omega
        obtain ⟨b, o, rfl, hbw, hcl⟩ := unhide HA (by omega)
        have hck := (hbel.cell (p := ⟨b, o + k, none⟩) hbw).trans (hcl k hkl)
        have hblt : b < wr.heap.size := Nat.lt_of_lt_of_le hbw hsz
        have HTk := hide (show l.take (k + 1) = l.take k ++ [l[k]] from List.take_succ_eq_append_getElem hkl)
        have hcn := cdN_le (l.take k) 0
        have hlk : (l.take k).length ≤ k := by simp; omega
        have hcn2 : (cdN 0 (l.take k) : Int) ≤ 60 := by omega
        clear hlk
        clear hcl hcn
        cases hb : l[k] with
        | true =>
          rw [hb] at hck HTk
          have HCs := hide (cdN_snoc true (l.take k) 0)
          clear hb
          have hal := one_al wr (.cells #[.int .u8 65, .int .i64 1, .int .u32 0, .int .u32 0, .int .u8 0, .slice none 0 0, .slice none 0 0, .slice none 0 0] 69)
          have hrn := heap_alloc_new wr (.cells #[.int .u8 65, .int .i64 1, .int .u32 0, .int .u32 0, .int .u8 0, .slice none 0 0, .slice none 0 0, .slice none 0 0] 69)
          have hxo := ownsRow_below hown hal
          have hlow := fun q (e : (Value.slice (some ⟨g, 0, none⟩) (k + 1) cap).ownBlock = some q) => hxo.lt q e
          have HXo := hide hxo; have HBel := hide hbel; have Hrn := hide hrn; have HLt := hide hsz; have HLow := hide hlow
          clear hown hxo hbel hrn hal hsz hlow
          go_wp2_with (at_builtin; refine wpList_append_lies _ rfl (.tmp 28) (.tmp 30) 55 rfl w.heap.size 69 i0 (.agg #[.int .u8 0, .int .i64 0, .int .u32 0, .int .u32 0, .int .u8 0, .slice none 0 0, .slice none 0 0, .slice none 0 0]) 8 104 Tryz.underlying55 hi hz0 hz1 hz2 rfl (by decide) (.slice (some ⟨g, 0, none⟩) (k + 1) cap) (k + 1) (celL (dbody (l.take k))) rfl (unhide HXo) ⟨wr.heap.size, 0, none⟩ 1 1 (celI (cdI true)) rfl rfl ?tc1 ?tc2 (by omega) ?tc3 ?tc4 ?tc5 (wr.heap.size + 1) ?tc6 ?_)
          case tc1 => intro j u hu; first | exact hu | (rw [Addr.add_mid, Nat.zero_add, cell_of_row _ _ _ _ _ _ (unhide Hrn)]; simpa [celI, cdI, in0] using hu) | simpa [celI, cdI, in0] using hu
          case tc2 => intro u hu; simp [celI, cdI, in0] at hu; rcases hu with rfl | rfl | rfl | rfl | rfl | rfl <;> rfl
          case tc3 => unfold maxLen; omega
          case tc4 => omega
          case tc5 => have := unhide HLt; simp; omega
          try (case tc6 => simp)
          intro g2 cap2 w6 hown6 hgrow hat6 hlt6
          have hb6 : Below w.heap.size w w6 := ((unhide HBel).alloc (unhide HLt) _).grown hgrow (by have := unhide HLt; simp; omega) (fun q hq => (unhide HLow q hq).1)
          rw [← celL_snoc, ← dbody_snoc, ← unhide HTk] at hown6
          have HO6 := hide hown6; have HB6 := hide hb6; have HS6 := hide (show w.heap.size ≤ w6.heap.size by have := hgrow.size; have := unhide HLt; simp at *; omega)
          clear hown6 hb6 hgrow hat6 hlt6
          go_wp2
          go_roundw
          case rel => exact ⟨k + 1, by go_num, by omega, by omega, by rw [unhide HTk, unhide HCs]; simp, ⟨g2, cap2, rfl, unhide HO6⟩, unhide HB6, unhide HS6⟩
          case measure => simp [intOf]; omega
        | false =>
          rw [hb] at hck HTk
          have HCs := hide (cdN_snoc false (l.take k) 0)
          clear hb
          have hal := one_al wr (.cells #[.int .u8 26, .int .i64 0, .int .u32 0, .int .u32 0, .int .u8 0, .slice none 0 0, .slice none 0 0, .slice none 0 0] 69)
          have hrn := heap_alloc_new wr (.cells #[.int .u8 26, .int .i64 0, .int .u32 0, .int .u32 0, .int .u8 0, .slice none 0 0, .slice none 0 0, .slice none 0 0] 69)
          have hxo := ownsRow_below hown hal
          have hlow := fun q (e : (Value.slice (some ⟨g, 0, none⟩) (k + 1) cap).ownBlock = some q) => hxo.lt q e
          have HXo := hide hxo; have HBel := hide hbel; have Hrn := hide hrn; have HLt := hide hsz; have HLow := hide hlow
          clear hown hxo hbel hrn hal hsz hlow
          go_wp2_with (at_builtin; refine wpList_append_lies _ rfl (.tmp 34) (.tmp 36) 55 rfl w.heap.size 69 i0 (.agg #[.int .u8 0, .int .i64 0, .int .u32 0, .int .u32 0, .int .u8 0, .slice none 0 0, .slice none 0 0, .slice none 0 0]) 8 104 Tryz.underlying55 hi hz0 hz1 hz2 rfl (by decide) (.slice (some ⟨g, 0, none⟩) (k + 1) cap) (k + 1) (celL (dbody (l.take k))) rfl (unhide HXo) ⟨wr.heap.size, 0, none⟩ 1 1 (celI (cdI false)) rfl rfl ?fc1 ?fc2 (by omega) ?fc3 ?fc4 ?fc5 (wr.heap.size + 1) ?fc6 ?_)
          case fc1 => intro j u hu; first | exact hu | (rw [Addr.add_mid, Nat.zero_add, cell_of_row _ _ _ _ _ _ (unhide Hrn)]; simpa [celI, cdI, in0] using hu) | simpa [celI, cdI, in0] using hu
          case fc2 => intro u hu; simp [celI, cdI, in0] at hu; rcases hu with rfl | rfl | rfl | rfl | rfl | rfl <;> rfl
          case fc3 => unfold maxLen; omega
          case fc4 => omega
          case fc5 => have := unhide HLt; simp; omega
          try (case fc6 => simp)
          intro g2 cap2 w6 hown6 hgrow hat6 hlt6
          have hb6 : Below w.heap.size w w6 := ((unhide HBel).alloc (unhide HLt) _).grown hgrow (by have := unhide HLt; simp; omega) (fun q hq => (unhide HLow q hq).1)
          rw [← celL_snoc, ← dbody_snoc, ← unhide HTk] at hown6
          have HO6 := hide hown6; have HB6 := hide hb6; have HS6 := hide (show w.heap.size ≤ w6.heap.size by have := hgrow.size; have := unhide HLt; simp at *; omega)
          clear hown6 hb6 hgrow hat6 hlt6
          go_wp2
          go_roundw
          case rel => exact ⟨k + 1, by go_num, by omega, by omega, by rw [unhide HTk, unhide HCs]; simp; omega, ⟨g2, cap2, rfl, unhide HO6⟩, unhide HB6, unhide HS6⟩
          case measure => simp [intOf]; omega
      · skip
        have hll : (dbody (l.take k)).length = k + 1 := by rw [dbody_len, List.length_take]; have := unhide HN; omega
        have hda := dbody_all (l.take k)
        have hlk : (l.take k).length ≤ 60 := by rw [List.length_take]; omega
        have hsc := scene_any (w := wr) (pa := none) (pc := 0) (ps := []) 126 (body := dbody (l.take k)) (ba := some ⟨g, 0, none⟩) (bc := cap) (nil_lies _ _) (code_of (dbody_pl _) (by omega) (by rw [hll]; exact hown))
        rw [hll] at hsc
        have HSc := hide hsc; have HBel := hide hbel; have HLL := hide hll; have HDa := hide hda; have HLk := hide hlk
        have hov := dead_over (l.take k) 126 (by decide)
        have HOv := hide hov
        have hcn : (cdN 0 (l.take k) : Int) ≤ 60 := by have := cdN_le (l.take k) 0; omega
        clear hsc hbel hll hda hlk hown hov hsz
        generalize hcc : cdN 0 (l.take k) = cc at *
        clear hcc
        go_wp2_with fail
        refine (unhide HSc).mono ?_
        rintro e w2 ⟨⟨v0, v1, v2, v3, v4, v5, v6, v7, rfl, hM2⟩, hb2⟩
        have hgm := Gm.giveModule_any (scn [] 126 (dbody (l.take k))) (fun b => b < w2.heap.size) v0 v1 v2 v3 v4 v5 v6 v7 w2 (fun q hq => hq) hM2 (scn_szm (by simp) (by simp) (unhide HDa).2.1 (by have := unhide HLL; omega))
        have HGm := hide hgm; have HB2 := hide ((unhide HBel).trans (hb2.mono (unhide HBel).size))
        clear hgm hM2 hb2 HSc
        go_wp2_with fail
        refine (unhide HGm).mono ?_
        rintro e w3 ⟨u0, u1, u2, u3, u4, u5, u6, u7, rfl, hM3, hb3⟩
        have hM4 := hM3.moved (w' := w3) (g' := fun b => b < w3.heap.size) (fun q hq _ => ⟨hq, rfl⟩) (Nat.le_refl _)
        obtain ⟨a0, k0, hv0⟩ := hM4.l0.sl
        obtain ⟨a1, k1, hv1⟩ := hM4.l1.sl
        obtain ⟨a2, k2, hv2⟩ := hM4.l2.sl
        obtain ⟨a3, k3, hv3⟩ := hM4.l3.sl
        obtain ⟨a4, k4, hv4⟩ := hM4.l4.sl
        obtain ⟨a5, k5, hv5⟩ := hM4.l5.sl
        obtain ⟨a6, k6, hv6⟩ := hM4.l6.sl
        obtain ⟨a7, k7, hv7⟩ := hM4.l7.sl
        subst hv0 hv1 hv2 hv3 hv4 hv5 hv6 hv7
        obtain ⟨W4, hW4⟩ : ∃ W, w3.alloc (.cells #[.slice a0 (scn [] 126 (dbody (l.take k))).types.length k0, .slice a1 (scn [] 126 (dbody (l.take k))).funcs.length k1, .slice a2 (scn [] 126 (dbody (l.take k))).tables.length k2, .slice a3 (scn [] 126 (dbody (l.take k))).mems.length k3, .slice a4 (scn [] 126 (dbody (l.take k))).globs.length k4, .slice a5 (scn [] 126 (dbody (l.take k))).exps.length k5, .slice a6 (scn [] 126 (dbody (l.take k))).elems.length k6, .slice a7 (scn [] 126 (dbody (l.take k))).datas.length k7] 41) = W := ⟨_, rfl⟩
        have hb4 : Below w3.heap.size w3 W4 := by rw [← hW4]; exact one_al _ _
        have hr4 : W4.heap[w3.heap.size]? = some (.cells #[.slice a0 (scn [] 126 (dbody (l.take k))).types.length k0, .slice a1 (scn [] 126 (dbody (l.take k))).funcs.length k1, .slice a2 (scn [] 126 (dbody (l.take k))).tables.length k2, .slice a3 (scn [] 126 (dbody (l.take k))).mems.length k3, .slice a4 (scn [] 126 (dbody (l.take k))).globs.length k4, .slice a5 (scn [] 126 (dbody (l.take k))).exps.length k5, .slice a6 (scn [] 126 (dbody (l.take k))).elems.length k6, .slice a7 (scn [] 126 (dbody (l.take k))).datas.length k7] 41 (0, 0)) := by rw [← hW4]; exact heap_alloc_new _ _
        have hB4 : Below w.heap.size w W4 := ((unhide HB2).trans (hb3.mono (unhide HB2).size)).trans (hb4.mono (Nat.le_trans (unhide HB2).size hb3.size))
        have hM5 := hM4.moved (g' := fun b => b < W4.heap.size) (Gm.Mv.below hb4 (fun q hq _ => Nat.lt_of_lt_of_le hq hb4.size)) hb4.size
        have hbo := body_any ciOk hM5 (scn_wf (by simp) (by decide) (unhide HDa).1) ((unhide HTb).below hB4) (scn_szv (by simp) (unhide HDa).1 (unhide HDa).2.1 (by rw [(unhide HDa).2.2]; have := unhide HLk; omega)) 0
        have hsu := fun U (hU : Below w.heap.size w U) => sure08 U ((unhide HTb).below hU) ((unhide HEr).below (Nat.le_refl _) hU)
        have hge : hgE (scn [] 126 (dbody (l.take k))) 0 = if (over (scn [] 126 (dbody (l.take k))) 0).isSome then 0 else 7 := rfl
        rw [hge] at hbo
        have HBo := hide hbo; have HW4 := hide hW4; have HB4 := hide hB4; have HSu := hide hsu
        obtain ⟨p0, p1, p2, p3, p4, p5, p6, p7⟩ := mbox hr4
        have hlt4 := (Array.getElem?_eq_some_iff.1 hr4).1
        clear hbo hW4 hB4 hsu hge hM3 hM4 hM5 hb3 hb4 hr4 HGm HB2 HTb HEr HDa HLL HLk HBel
        have hcs : ∃ b : Bool, (over (scn [] 126 (dbody (l.take k))) 0).isSome = b := ⟨_, rfl⟩
        obtain ⟨bb, hbb⟩ := hcs
        rw [hbb] at HBo
        have hbd : bb = decide (cc = 0 ∨ (cc = 1 ∧ (126 : Int) = 127)) := by
          have h := unhide HOv
          unfold dbody at hbb
          rw [hbb] at h
          rw [h]; try simp
        clear hbb HOv
        by_cases q0 : cc = 0
        · subst q0
          obtain rfl : bb = true := by rw [hbd]; simp
          rw [show errV (if true = true then 0 else 7) = .nilIface from errV_0] at HBo
          clear hbd
          go_upto_region 15 with fail
          rw [unhide HW4]
          clear HW4
          go_wp2_with fail
          refine (unhide HBo).mono ?_
          rintro e w5 ⟨rfl, hb5⟩
          have HB5 := hide ((unhide HB4).trans (hb5.mono (unhide HB4).size))
          clear hb5 p0 p1 p2 p3 p4 p5 p6 p7
          go_wp2_with fail
          refine (unhide HSu _ (unhide HB5)).mono ?_
          rintro e w6 ⟨rfl, hb6⟩
          have HB6 := hide ((unhide HB5).trans (hb6.mono (unhide HB5).size))
          clear hb6
          go_wp2
          go_ret
          exact ⟨rfl, unhide HB6⟩
        by_cases q1 : cc = 1
        · subst q1
          obtain rfl : bb = false := by rw [hbd]; simp
          rw [show errV (if false = true then 0 else 7) = .iface 102 (.int .i64 7) from errV_7] at HBo
          clear hbd q0
          go_upto_region 15 with fail
          rw [unhide HW4]
          clear HW4
          go_wp2_with fail
          refine (unhide HBo).mono ?_
          rintro e w5 ⟨rfl, hb5⟩
          have HB5 := hide ((unhide HB4).trans (hb5.mono (unhide HB4).size))
          clear hb5 p0 p1 p2 p3 p4 p5 p6 p7
          go_wp2_with fail
          refine (unhide HSu _ (unhide HB5)).mono ?_
          rintro e w6 ⟨rfl, hb6⟩
          have HB6 := hide ((unhide HB5).trans (hb6.mono (unhide HB5).size))
          clear hb6
          go_wp2
          go_ret
          exact ⟨rfl, unhide HB6⟩
        · obtain rfl : bb = false := by rw [hbd]; simp [q0, q1]
          rw [show errV (if false = true then 0 else 7) = .iface 102 (.int .i64 7) from errV_7] at HBo
          have qi0 : ((cc : Int) == 0) = false := by simpa using q0
          have qi1 : ((cc : Int) == 1) = false := by
            have : ¬ (cc : Int) = 1 := by omega
            simpa using this
          clear hbd q0 q1
          go_upto_region 15 with fail
          rw [unhide HW4]
          clear HW4
          go_wp2_with fail
          refine (unhide HBo).mono ?_
          rintro e w5 ⟨rfl, hb5⟩
          have HB5 := hide ((unhide HB4).trans (hb5.mono (unhide HB4).size))
          clear hb5 p0 p1 p2 p3 p4 p5 p6 p7
          go_wp2_with fail
          refine (unhide HSu _ (unhide HB5)).mono ?_
          rintro e w6 ⟨rfl, hb6⟩
          have HB6 := hide ((unhide HB5).trans (hb6.mono (unhide HB5).size))
          clear hb6
          go_wp2
          go_ret
          exact ⟨rfl, unhide HB6⟩
    · skip
      have hll : (dbody (l.take k)).length = k + 1 := by rw [dbody_len, List.length_take]; have := unhide HN; omega
      have hda := dbody_all (l.take k)
      have hlk : (l.take k).length ≤ 60 := by rw [List.length_take]; omega
      have hsc := scene_any (w := wr) (pa := none) (pc := 0) (ps := []) 126 (body := dbody (l.take k)) (ba := some ⟨g, 0, none⟩) (bc := cap) (nil_lies _ _) (code_of (dbody_pl _) (by omega) (by rw [hll]; exact hown))
      rw [hll] at hsc
      have HSc := hide hsc; have HBel := hide hbel; have HLL := hide hll; have HDa := hide hda; have HLk := hide hlk
      have hov := dead_over (l.take k) 126 (by decide)
      have HOv := hide hov
      have hcn : (cdN 0 (l.take k) : Int) ≤ 60 := by have := cdN_le (l.take k) 0; omega
      clear hsc hbel hll hda hlk hown hov hsz
      generalize hcc : cdN 0 (l.take k) = cc at *
      clear hcc
      go_wp2_with fail
      refine (unhide HSc).mono ?_
      rintro e w2 ⟨⟨v0, v1, v2, v3, v4, v5, v6, v7, rfl, hM2⟩, hb2⟩
      have hgm := Gm.giveModule_any (scn [] 126 (dbody (l.take k))) (fun b => b < w2.heap.size) v0 v1 v2 v3 v4 v5 v6 v7 w2 (fun q hq => hq) hM2 (scn_szm (by simp) (by simp) (unhide HDa).2.1 (by have := unhide HLL; omega))
      have HGm := hide hgm; have HB2 := hide ((unhide HBel).trans (hb2.mono (unhide HBel).size))
      clear hgm hM2 hb2 HSc
      go_wp2_with fail
      refine (unhide HGm).mono ?_
      rintro e w3 ⟨u0, u1, u2, u3, u4, u5, u6, u7, rfl, hM3, hb3⟩
      have hM4 := hM3.moved (w' := w3) (g' := fun b => b < w3.heap.size) (fun q hq _ => ⟨hq, rfl⟩) (Nat.le_refl _)
      obtain ⟨a0, k0, hv0⟩ := hM4.l0.sl
      obtain ⟨a1, k1, hv1⟩ := hM4.l1.sl
      obtain ⟨a2, k2, hv2⟩ := hM4.l2.sl
      obtain ⟨a3, k3, hv3⟩ := hM4.l3.sl
      obtain ⟨a4, k4, hv4⟩ := hM4.l4.sl
      obtain ⟨a5, k5, hv5⟩ := hM4.l5.sl
      obtain ⟨a6, k6, hv6⟩ := hM4.l6.sl
      obtain ⟨a7, k7, hv7⟩ := hM4.l7.sl
      subst hv0 hv1 hv2 hv3 hv4 hv5 hv6 hv7
      obtain ⟨W4, hW4⟩ : ∃ W, w3.alloc (.cells #[.slice a0 (scn [] 126 (dbody (l.take k))).types.length k0, .slice a1 (scn [] 126 (dbody (l.take k))).funcs.length k1, .slice a2 (scn [] 126 (dbody (l.take k))).tables.length k2, .slice a3 (scn [] 126 (dbody (l.take k))).mems.length k3, .slice a4 (scn [] 126 (dbody (l.take k))).globs.length k4, .slice a5 (scn [] 126 (dbody (l.take k))).exps.length k5, .slice a6 (scn [] 126 (dbody (l.take k))).elems.length k6, .slice a7 (scn [] 126 (dbody (l.take k))).datas.length k7] 41) = W := ⟨_, rfl⟩
      have hb4 : Below w3.heap.size w3 W4 := by rw [← hW4]; exact one_al _ _
      have hr4 : W4.heap[w3.heap.size]? = some (.cells #[.slice a0 (scn [] 126 (dbody (l.take k))).types.length k0, .slice a1 (scn [] 126 (dbody (l.take k))).funcs.length k1, .slice a2 (scn [] 126 (dbody (l.take k))).tables.length k2, .slice a3 (scn [] 126 (dbody (l.take k))).mems.length k3, .slice a4 (scn [] 126 (dbody (l.take k))).globs.length k4, .slice a5 (scn [] 126 (dbody (l.take k))).exps.length k5, .slice a6 (scn [] 126 (dbody (l.take k))).elems.length k6, .slice a7 (scn [] 126 (dbody (l.take k))).datas.length k7] 41 (0, 0)) := by rw [← hW4]; exact heap_alloc_new _ _
      have hB4 : Below w.heap.size w W4 := ((unhide HB2).trans (hb3.mono (unhide HB2).size)).trans (hb4.mono (Nat.le_trans (unhide HB2).size hb3.size))
      have hM5 := hM4.moved (g' := fun b => b < W4.heap.size) (Gm.Mv.below hb4 (fun q hq _ => Nat.lt_of_lt_of_le hq hb4.size)) hb4.size
      have hbo := body_any ciOk hM5 (scn_wf (by simp) (by decide) (unhide HDa).1) ((unhide HTb).below hB4) (scn_szv (by simp) (unhide HDa).1 (unhide HDa).2.1 (by rw [(unhide HDa).2.2]; have := unhide HLk; omega)) 0
      have hsu := fun U (hU : Below w.heap.size w U) => sure08 U ((unhide HTb).below hU) ((unhide HEr).below (Nat.le_refl _) hU)
      have hge : hgE (scn [] 126 (dbody (l.take k))) 0 = if (over (scn [] 126 (dbody (l.take k))) 0).isSome then 0 else 7 := rfl
      rw [hge] at hbo
      have HBo := hide hbo; have HW4 := hide hW4; have HB4 := hide hB4; have HSu := hide hsu
      obtain ⟨p0, p1, p2, p3, p4, p5, p6, p7⟩ := mbox hr4
      have hlt4 := (Array.getElem?_eq_some_iff.1 hr4).1
      clear hbo hW4 hB4 hsu hge hM3 hM4 hM5 hb3 hb4 hr4 HGm HB2 HTb HEr HDa HLL HLk HBel
      have hcs : ∃ b : Bool, (over (scn [] 126 (dbody (l.take k))) 0).isSome = b := ⟨_, rfl⟩
      obtain ⟨bb, hbb⟩ := hcs
      rw [hbb] at HBo
      have hbd : bb = decide (cc = 0 ∨ (cc = 1 ∧ (126 : Int) = 127)) := by
        have h := unhide HOv
        unfold dbody at hbb
        rw [hbb] at h
        rw [h]; try simp
      clear hbb HOv
      by_cases q0 : cc = 0
      · subst q0
        obtain rfl : bb = true := by rw [hbd]; simp
        rw [show errV (if true = true then 0 else 7) = .nilIface from errV_0] at HBo
        clear hbd
        go_upto_region 15 with fail
        rw [unhide HW4]
        clear HW4
        go_wp2_with fail
        refine (unhide HBo).mono ?_
        rintro e w5 ⟨rfl, hb5⟩
        have HB5 := hide ((unhide HB4).trans (hb5.mono (unhide HB4).size))
        clear hb5 p0 p1 p2 p3 p4 p5 p6 p7
        go_wp2_with fail
        refine (unhide HSu _ (unhide HB5)).mono ?_
        rintro e w6 ⟨rfl, hb6⟩
        have HB6 := hide ((unhide HB5).trans (hb6.mono (unhide HB5).size))
        clear hb6
        go_wp2
        go_ret
        exact ⟨rfl, unhide HB6⟩
      by_cases q1 : cc = 1
      · subst q1
        obtain rfl : bb = false := by rw [hbd]; simp
        rw [show errV (if false = true then 0 else 7) = .iface 102 (.int .i64 7) from errV_7] at HBo
        clear hbd q0
        go_upto_region 15 with fail
        rw [unhide HW4]
        clear HW4
        go_wp2_with fail
        refine (unhide HBo).mono ?_
        rintro e w5 ⟨rfl, hb5⟩
        have HB5 := hide ((unhide HB4).trans (hb5.mono (unhide HB4).size))
        clear hb5 p0 p1 p2 p3 p4 p5 p6 p7
        go_wp2_with fail
        refine (unhide HSu _ (unhide HB5)).mono ?_
        rintro e w6 ⟨rfl, hb6⟩
        have HB6 := hide ((unhide HB5).trans (hb6.mono (unhide HB5).size))
        clear hb6
        go_wp2
        go_ret
        exact ⟨rfl, unhide HB6⟩
      · obtain rfl : bb = false := by rw [hbd]; simp [q0, q1]
        rw [show errV (if false = true then 0 else 7) = .iface 102 (.int .i64 7) from errV_7] at HBo
        have qi0 : ((cc : Int) == 0) = false := by simpa using q0
        have qi1 : ((cc : Int) == 1) = false := by
          have : ¬ (cc : Int) = 1 := by omega
          simpa using this
        clear hbd q0 q1
        go_upto_region 15 with fail
        rw [unhide HW4]
        clear HW4
        go_wp2_with fail
        refine (unhide HBo).mono ?_
        rintro e w5 ⟨rfl, hb5⟩
        have HB5 := hide ((unhide HB4).trans (hb5.mono (unhide HB4).size))
        clear hb5 p0 p1 p2 p3 p4 p5 p6 p7
        go_wp2_with fail
        refine (unhide HSu _ (unhide HB5)).mono ?_
        rintro e w6 ⟨rfl, hb6⟩
        have HB6 := hide ((unhide HB5).trans (hb6.mono (unhide HB5).size))
        clear hb6
        go_wp2
        go_ret
        exact ⟨rfl, unhide HB6⟩
end Vw
end Go.Proofs.YtofkapkplnmklaaGreatDoor

/- ValidDead returns true for every row of bools and either bool, and leaves the row: behind an unreachable a body of consts and drops may run just where no more is left than its result. Of ops' tables and of errors.errorType it takes what the program's text lays (the card ties it). -/
namespace Go.Proofs.YtofkapkplnmklaaGreatDoor.validDead
open Go.ChangeShapes Go.WideShapes Go.ChangeAt Go.RowKit
set_option linter.unusedVariables false

theorem own : ownKnob Tryz.prog.godebug = none := by kernel_rfl
theorem laidOut : laidOutB Tryz.prog = true := by kernel_rfl

theorem walk (l0 : List Bool) (x0 : Value) (a1 : Bool) (w : World) (hErr : ErrT w) (hTb : Tb w) (h0 : Ex.Lies (fun b => b < w.heap.size) l0.length (fun b o => ∀ i (h : i < l0.length), w.cell? ⟨b, o + i, none⟩ = some (.bool l0[i])) x0) :
    Calls Tryz.prog 6 #[x0, .bool a1] w fun e w' => e = .returned (.bool true) ∧ Below w.heap.size w w' := by
  cases a1
  · exact Vw.dead_walk l0 x0 w hTb hErr h0
  · exact Vw.dead_walk_w l0 x0 w hTb hErr h0

noncomputable def laidWorld (os : Os) : World := ({ World.holding Tryz.prog os ⟨#[], #[], []⟩ with heap := (((((((World.holding Tryz.prog os ⟨#[], #[], []⟩).heap.modify 0 fun | .cells _ t frozen => .cells #[.iface 182 (.agg #[.pointer (some ⟨6, 44, none⟩)])] t frozen | o => o).modify 3 fun | .cells _ t frozen => .cells #[.string ⟨#[117, 110, 114, 101, 97, 99, 104, 97, 98, 108, 101]⟩, .string ⟨#[110, 111, 112]⟩, .string ⟨#[98, 108, 111, 99, 107]⟩, .string ⟨#[108, 111, 111, 112]⟩, .string ⟨#[105, 102]⟩, .string ⟨#[]⟩, .string ⟨#[]⟩, .string ⟨#[]⟩, .string ⟨#[]⟩, .string ⟨#[]⟩, .string ⟨#[]⟩, .string ⟨#[]⟩, .string ⟨#[98, 114]⟩, .string ⟨#[98, 114, 95, 105, 102]⟩, .string ⟨#[98, 114, 95, 116, 97, 98, 108, 101]⟩, .string ⟨#[114, 101, 116, 117, 114, 110]⟩, .string ⟨#[99, 97, 108, 108]⟩, .string ⟨#[99, 97, 108, 108, 95, 105, 110, 100, 105, 114, 101, 99, 116]⟩, .string ⟨#[]⟩, .string ⟨#[]⟩, .string ⟨#[]⟩, .string ⟨#[]⟩, .string ⟨#[]⟩, .string ⟨#[]⟩, .string ⟨#[]⟩, .string ⟨#[]⟩, .string ⟨#[100, 114, 111, 112]⟩, .string ⟨#[115, 101, 108, 101, 99, 116]⟩, .string ⟨#[]⟩, .string ⟨#[]⟩, .string ⟨#[]⟩, .string ⟨#[]⟩, .string ⟨#[108, 111, 99, 97, 108, 46, 103, 101, 116]⟩, .string ⟨#[108, 111, 99, 97, 108, 46, 115, 101, 116]⟩, .string ⟨#[108, 111, 99, 97, 108, 46, 116, 101, 101]⟩, .string ⟨#[103, 108, 111, 98, 97, 108, 46, 103, 101, 116]⟩, .string ⟨#[103, 108, 111, 98, 97, 108, 46, 115, 101, 116]⟩, .string ⟨#[]⟩, .string ⟨#[]⟩, .string ⟨#[]⟩, .string ⟨#[105, 51, 50, 46, 108, 111, 97, 100]⟩, .string ⟨#[105, 54, 52, 46, 108, 111, 97, 100]⟩, .string ⟨#[]⟩, .string ⟨#[]⟩, .string ⟨#[105, 51, 50, 46, 108, 111, 97, 100, 56, 95, 115]⟩, .string ⟨#[105, 51, 50, 46, 108, 111, 97, 100, 56, 95, 117]⟩, .string ⟨#[105, 51, 50, 46, 108, 111, 97, 100, 49, 54, 95, 115]⟩, .string ⟨#[105, 51, 50, 46, 108, 111, 97, 100, 49, 54, 95, 117]⟩, .string ⟨#[105, 54, 52, 46, 108, 111, 97, 100, 56, 95, 115]⟩, .string ⟨#[105, 54, 52, 46, 108, 111, 97, 100, 56, 95, 117]⟩, .string ⟨#[105, 54, 52, 46, 108, 111, 97, 100, 49, 54, 95, 115]⟩, .string ⟨#[105, 54, 52, 46, 108, 111, 97, 100, 49, 54, 95, 117]⟩, .string ⟨#[105, 54, 52, 46, 108, 111, 97, 100, 51, 50, 95, 115]⟩, .string ⟨#[105, 54, 52, 46, 108, 111, 97, 100, 51, 50, 95, 117]⟩, .string ⟨#[105, 51, 50, 46, 115, 116, 111, 114, 101]⟩, .string ⟨#[105, 54, 52, 46, 115, 116, 111, 114, 101]⟩, .string ⟨#[]⟩, .string ⟨#[]⟩, .string ⟨#[105, 51, 50, 46, 115, 116, 111, 114, 101, 56]⟩, .string ⟨#[105, 51, 50, 46, 115, 116, 111, 114, 101, 49, 54]⟩, .string ⟨#[105, 54, 52, 46, 115, 116, 111, 114, 101, 56]⟩, .string ⟨#[105, 54, 52, 46, 115, 116, 111, 114, 101, 49, 54]⟩, .string ⟨#[105, 54, 52, 46, 115, 116, 111, 114, 101, 51, 50]⟩, .string ⟨#[109, 101, 109, 111, 114, 121, 46, 115, 105, 122, 101]⟩, .string ⟨#[109, 101, 109, 111, 114, 121, 46, 103, 114, 111, 119]⟩, .string ⟨#[105, 51, 50, 46, 99, 111, 110, 115, 116]⟩, .string ⟨#[105, 54, 52, 46, 99, 111, 110, 115, 116]⟩] t frozen | o => o).modify 4 fun | .cells _ t frozen => .cells #[.string ⟨#[105, 51, 50, 46, 101, 113, 122]⟩, .string ⟨#[105, 51, 50, 46, 101, 113]⟩, .string ⟨#[105, 51, 50, 46, 110, 101]⟩, .string ⟨#[105, 51, 50, 46, 108, 116, 95, 115]⟩, .string ⟨#[105, 51, 50, 46, 108, 116, 95, 117]⟩, .string ⟨#[105, 51, 50, 46, 103, 116, 95, 115]⟩, .string ⟨#[105, 51, 50, 46, 103, 116, 95, 117]⟩, .string ⟨#[105, 51, 50, 46, 108, 101, 95, 115]⟩, .string ⟨#[105, 51, 50, 46, 108, 101, 95, 117]⟩, .string ⟨#[105, 51, 50, 46, 103, 101, 95, 115]⟩, .string ⟨#[105, 51, 50, 46, 103, 101, 95, 117]⟩, .string ⟨#[105, 54, 52, 46, 101, 113, 122]⟩, .string ⟨#[105, 54, 52, 46, 101, 113]⟩, .string ⟨#[105, 54, 52, 46, 110, 101]⟩, .string ⟨#[105, 54, 52, 46, 108, 116, 95, 115]⟩, .string ⟨#[105, 54, 52, 46, 108, 116, 95, 117]⟩, .string ⟨#[105, 54, 52, 46, 103, 116, 95, 115]⟩, .string ⟨#[105, 54, 52, 46, 103, 116, 95, 117]⟩, .string ⟨#[105, 54, 52, 46, 108, 101, 95, 115]⟩, .string ⟨#[105, 54, 52, 46, 108, 101, 95, 117]⟩, .string ⟨#[105, 54, 52, 46, 103, 101, 95, 115]⟩, .string ⟨#[105, 54, 52, 46, 103, 101, 95, 117]⟩] t frozen | o => o).modify 5 fun | .cells _ t frozen => .cells #[.string ⟨#[105, 51, 50, 46, 99, 108, 122]⟩, .string ⟨#[105, 51, 50, 46, 99, 116, 122]⟩, .string ⟨#[105, 51, 50, 46, 112, 111, 112, 99, 110, 116]⟩, .string ⟨#[105, 51, 50, 46, 97, 100, 100]⟩, .string ⟨#[105, 51, 50, 46, 115, 117, 98]⟩, .string ⟨#[105, 51, 50, 46, 109, 117, 108]⟩, .string ⟨#[105, 51, 50, 46, 100, 105, 118, 95, 115]⟩, .string ⟨#[105, 51, 50, 46, 100, 105, 118, 95, 117]⟩, .string ⟨#[105, 51, 50, 46, 114, 101, 109, 95, 115]⟩, .string ⟨#[105, 51, 50, 46, 114, 101, 109, 95, 117]⟩, .string ⟨#[105, 51, 50, 46, 97, 110, 100]⟩, .string ⟨#[105, 51, 50, 46, 111, 114]⟩, .string ⟨#[105, 51, 50, 46, 120, 111, 114]⟩, .string ⟨#[105, 51, 50, 46, 115, 104, 108]⟩, .string ⟨#[105, 51, 50, 46, 115, 104, 114, 95, 115]⟩, .string ⟨#[105, 51, 50, 46, 115, 104, 114, 95, 117]⟩, .string ⟨#[105, 51, 50, 46, 114, 111, 116, 108]⟩, .string ⟨#[105, 51, 50, 46, 114, 111, 116, 114]⟩, .string ⟨#[105, 54, 52, 46, 99, 108, 122]⟩, .string ⟨#[105, 54, 52, 46, 99, 116, 122]⟩, .string ⟨#[105, 54, 52, 46, 112, 111, 112, 99, 110, 116]⟩, .string ⟨#[105, 54, 52, 46, 97, 100, 100]⟩, .string ⟨#[105, 54, 52, 46, 115, 117, 98]⟩, .string ⟨#[105, 54, 52, 46, 109, 117, 108]⟩, .string ⟨#[105, 54, 52, 46, 100, 105, 118, 95, 115]⟩, .string ⟨#[105, 54, 52, 46, 100, 105, 118, 95, 117]⟩, .string ⟨#[105, 54, 52, 46, 114, 101, 109, 95, 115]⟩, .string ⟨#[105, 54, 52, 46, 114, 101, 109, 95, 117]⟩, .string ⟨#[105, 54, 52, 46, 97, 110, 100]⟩, .string ⟨#[105, 54, 52, 46, 111, 114]⟩, .string ⟨#[105, 54, 52, 46, 120, 111, 114]⟩, .string ⟨#[105, 54, 52, 46, 115, 104, 108]⟩, .string ⟨#[105, 54, 52, 46, 115, 104, 114, 95, 115]⟩, .string ⟨#[105, 54, 52, 46, 115, 104, 114, 95, 117]⟩, .string ⟨#[105, 54, 52, 46, 114, 111, 116, 108]⟩, .string ⟨#[105, 54, 52, 46, 114, 111, 116, 114]⟩] t frozen | o => o).modify 1 fun | .cells _ t frozen => .cells #[.int .u8 0, .int .u8 1, .int .i64 0, .int .u8 0, .int .u8 0, .int .u8 0, .int .u8 2, .int .u8 3, .int .i64 6, .int .u8 0, .int .u8 0, .int .u8 0, .int .u8 4, .int .u8 4, .int .i64 7, .int .u8 0, .int .u8 0, .int .u8 0, .int .u8 12, .int .u8 13, .int .i64 3, .int .u8 0, .int .u8 0, .int .u8 0, .int .u8 14, .int .u8 14, .int .i64 8, .int .u8 0, .int .u8 0, .int .u8 0, .int .u8 15, .int .u8 15, .int .i64 0, .int .u8 0, .int .u8 0, .int .u8 0, .int .u8 16, .int .u8 16, .int .i64 3, .int .u8 0, .int .u8 0, .int .u8 0, .int .u8 17, .int .u8 17, .int .i64 9, .int .u8 0, .int .u8 0, .int .u8 0, .int .u8 26, .int .u8 27, .int .i64 0, .int .u8 0, .int .u8 0, .int .u8 0, .int .u8 32, .int .u8 36, .int .i64 3, .int .u8 0, .int .u8 0, .int .u8 0, .int .u8 40, .int .u8 40, .int .i64 4, .int .u8 127, .int .u8 0, .int .u8 127, .int .u8 41, .int .u8 41, .int .i64 4, .int .u8 127, .int .u8 0, .int .u8 126, .int .u8 44, .int .u8 47, .int .i64 4, .int .u8 127, .int .u8 0, .int .u8 127, .int .u8 48, .int .u8 53, .int .i64 4, .int .u8 127, .int .u8 0, .int .u8 126, .int .u8 54, .int .u8 54, .int .i64 4, .int .u8 127, .int .u8 127, .int .u8 0, .int .u8 55, .int .u8 55, .int .i64 4, .int .u8 127, .int .u8 126, .int .u8 0, .int .u8 58, .int .u8 59, .int .i64 4, .int .u8 127, .int .u8 127, .int .u8 0, .int .u8 60, .int .u8 62, .int .i64 4, .int .u8 127, .int .u8 126, .int .u8 0, .int .u8 63, .int .u8 63, .int .i64 5, .int .u8 0, .int .u8 0, .int .u8 127, .int .u8 64, .int .u8 64, .int .i64 5, .int .u8 127, .int .u8 0, .int .u8 127, .int .u8 65, .int .u8 65, .int .i64 1, .int .u8 0, .int .u8 0, .int .u8 127, .int .u8 66, .int .u8 66, .int .i64 2, .int .u8 0, .int .u8 0, .int .u8 126, .int .u8 69, .int .u8 69, .int .i64 0, .int .u8 127, .int .u8 0, .int .u8 127, .int .u8 70, .int .u8 79, .int .i64 0, .int .u8 127, .int .u8 127, .int .u8 127, .int .u8 80, .int .u8 80, .int .i64 0, .int .u8 126, .int .u8 0, .int .u8 127, .int .u8 81, .int .u8 90, .int .i64 0, .int .u8 126, .int .u8 126, .int .u8 127, .int .u8 103, .int .u8 105, .int .i64 0, .int .u8 127, .int .u8 0, .int .u8 127, .int .u8 106, .int .u8 120, .int .i64 0, .int .u8 127, .int .u8 127, .int .u8 127, .int .u8 121, .int .u8 123, .int .i64 0, .int .u8 126, .int .u8 0, .int .u8 126, .int .u8 124, .int .u8 138, .int .i64 0, .int .u8 126, .int .u8 126, .int .u8 126, .int .u8 167, .int .u8 167, .int .i64 0, .int .u8 126, .int .u8 0, .int .u8 127, .int .u8 172, .int .u8 173, .int .i64 0, .int .u8 127, .int .u8 0, .int .u8 126] t frozen | o => o).modify 2 fun | .cells _ t frozen => .cells #[.int .u8 0, .int .u8 0, .int .u8 0, .int .u8 0, .int .u8 0, .int .u8 0, .int .u8 0, .int .u8 0, .int .u8 0, .int .u8 0, .int .u8 0, .int .u8 0, .int .u8 0, .int .u8 0, .int .u8 0, .int .u8 0, .int .u8 0, .int .u8 0, .int .u8 0, .int .u8 0, .int .u8 0, .int .u8 0, .int .u8 0, .int .u8 0, .int .u8 0, .int .u8 0, .int .u8 0, .int .u8 0, .int .u8 0, .int .u8 0, .int .u8 0, .int .u8 0, .int .u8 0, .int .u8 0, .int .u8 0, .int .u8 0, .int .u8 0, .int .u8 0, .int .u8 0, .int .u8 0, .int .u8 4, .int .u8 8, .int .u8 0, .int .u8 0, .int .u8 1, .int .u8 1, .int .u8 2, .int .u8 2, .int .u8 1, .int .u8 1, .int .u8 2, .int .u8 2, .int .u8 4, .int .u8 4, .int .u8 4, .int .u8 8, .int .u8 0, .int .u8 0, .int .u8 1, .int .u8 2, .int .u8 1, .int .u8 2, .int .u8 4] t frozen | o => o) } : World)
set_option maxRecDepth 100000 in
theorem laid_met (os : Os) (args : Array Value) : laidMetH Tryz.prog Rows.validDeadRow.laid ((laidWorld os).forCall (fun _ _ => 0) ⟨#[], args, []⟩).memory :=
  laidMetH_of_parts (laidMet_of_run' 8 (by kernel_rfl) (by kernel_rfl)) (by kernel_rfl)

set_option maxRecDepth 100000 in
theorem lifted (os : Os) (started : os.Started) (H : Type) (enc : TypeId × Value → H) :
    ReturnsInHanded {} Tryz.checked os 6 .any (fun w args => (Rows.validDeadSpec.pre enc Tryz.prog Tryz.f6 [] false w args ∧ laidMetH Tryz.prog Rows.validDeadRow.laid w) ∧ sizedMet enc Tryz.prog Tryz.f6 (OpenSpec.ofChange Rows.validDeadSpec) false w args) (Rows.validDeadSpec.post enc Tryz.prog Tryz.f6 false true false false) := by
  refine returnsInHanded_of_change_and (C := Tryz.checked) (X := fun w _ => laidMetH Tryz.prog Rows.validDeadRow.laid w) (fun _ _ _ hh h => h.of_heap hh) own started (by kernel_rfl) Tryz.func6
    (ChangeSpec.witness_at (enc := enc) (C := Tryz.checked) (os := os) (X := fun w _ => laidMetH Tryz.prog Rows.validDeadRow.laid w) false (laidWorld os) #[.slice none 0 0, .bool false] 8 rfl (by kernel_rfl) (by kernel_rfl) (by kernel_rfl) (by kernel_rfl) (by kernel_rfl) (laid_met os _)) ?_
  intro W base args ds gs before hval0 hW _ _ hL _
  have hLL0 : laidMet Tryz.prog [("mandrel/ops.names", Rows.laid_mandrel_ops_names), ("mandrel/ops.testNames", Rows.laid_mandrel_ops_testNames), ("mandrel/ops.reckonNames", Rows.laid_mandrel_ops_reckonNames), ("mandrel/ops.families", Rows.laid_mandrel_ops_families), ("mandrel/ops.accessBytes", Rows.laid_mandrel_ops_accessBytes)] W ∧ handlesMet Tryz.prog [("errors.errorType", Rows.laid_errors_errorType)] W := hL
  have hg : ErrT W := handle_of_met hLL0.2
  have hLL := hLL0.1
  have hgTb : Tb W := ⟨⟨names_laid hLL, tests_laid hLL.tail, reckons_laid hLL.tail.tail⟩, families_laid hLL.tail.tail.tail, access_laid hLL.tail.tail.tail.tail⟩
  have hval : ∀ (j : Nat) t v, Tryz.f6.params[j]? = some t → args[j]? = some v → Value.okWide Tryz.prog W .any base t v := hval0
  have hW' := hW
  obtain ⟨p, q, hA0, hV, rfl, hfz, hnd⟩ := hW
  have hA : DataW.TrodAll enc Tryz.prog W 0 (fun _ => true) true Tryz.f6.params.toList args.toList ds p := hA0
  rw [Tryz.params6] at hA hval
  obtain ⟨v0, vs0, d0, ds0, p0, q0, hargs, rfl, rfl, h0, r0⟩ := trodAll_cons hA
  obtain ⟨v1, vs1, d1, ds1, p1, q1, rfl, rfl, rfl, h1, r1⟩ := trodAll_cons r0
  obtain ⟨rfl, rfl, rfl⟩ := trodAll_nil r1
  obtain rfl : args = #[v0, v1] := by cases args; simp_all
  obtain ⟨rfl, rfl⟩ := trodVars_none hV
  have m0 := h0
  have lt0 : ∀ x ∈ p0, x.block < W.heap.size := by obtain ⟨m, hm⟩ := m0; exact DataW.trod_lt m _ _ _ hm
  obtain ⟨l0, h0c⟩ := Vw.open_bools_row h0 (okWide_slice Tryz.underlying67 (hval 0 67 v0 rfl rfl))
  obtain ⟨a1, rfl, rfl, rfl⟩ := open_bool Tryz.underlying4 (hval 1 4 v1 rfl rfl) h1
  clear hA0 hval0
  refine (walk l0 v0 a1 W hg hgTb h0c).mono fun e W' ⟨he, bel⟩ => ?_
  subst he
  exact ⟨_, rfl, _, _, _, [], _, [], hW', trodAll_mk1 (shut_bool Tryz.underlying4 _), (trodAll_cons_mk (Below.trod laidOut (by kernel_rfl) (of_decide_eq_true (by kernel_rfl)) m0 bel lt0) (trodAll_cons_mk (shut_bool Tryz.underlying4 _) trodAll_mk0)), rfl, bel.frame _, fun h => by cases h⟩

theorem proved : Rows.ValidDeadSaid :=
  OpenClaim.holds_of_wide 6 Tryz.f6 rfl rfl rfl rfl rfl rfl rfl ⟨rfl, rfl, rfl, rfl, rfl⟩ rfl rfl rfl rfl rfl (by kernel_rfl) Tryz.func6 (by kernel_rfl)
    (of_decide_eq_true (by kernel_rfl)) (by unfold Func.isWrapper; first | (rw [if_pos (by decide +kernel)]; kernel_rfl) | (rw [if_neg (by decide +kernel)]; exact ⟨rfl, rfl⟩))
    (fun os started H enc _ => lifted os started H enc)
end Go.Proofs.YtofkapkplnmklaaGreatDoor.validDead

namespace Go.Proofs.YtofkapkplnmklaaGreatDoor
theorem validDead_card : Rows.ValidDeadCardSaid :=
  Claim7.holds_tied_plain_at .later [] _ _ _ _ validDead.proved (fun _ h => by cases h) (by kernel_rfl) (fun _ h => by cases h) validDead_row_tie rfl ⟨rfl, rfl⟩ (by kernel_rfl) rfl
    (fun f fn hf hfn => by
      obtain rfl : 6 = f := Option.some.inj (Eq.trans (by kernel_rfl) hf)
      obtain rfl : fn = Tryz.f6 := (Option.some.inj (Tryz.func6.symm.trans hfn)).symm
      exact ⟨by kernel_rfl, fun j t ht => by
        rw [Tryz.params6] at ht
        rcases j with _ | _ | j
        · obtain rfl : t = 67 := by simpa using ht.symm
          exact (show Tryz.prog.wantsStandIn 67 = false by kernel_rfl)
        · obtain rfl : t = 4 := by simpa using ht.symm
          exact (show Tryz.prog.wantsStandIn 4 = false by kernel_rfl)
        · simp at ht⟩)
    (by kernel_rfl)
end Go.Proofs.YtofkapkplnmklaaGreatDoor
