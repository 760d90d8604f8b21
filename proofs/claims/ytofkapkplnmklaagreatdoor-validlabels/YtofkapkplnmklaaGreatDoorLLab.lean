/- LLab: what follows, part by part: each part tells what it holds. -/
import Derived.Test.YtofkapkplnmklaaGreatDoorWM
import Derived.Test.YtofkapkplnmklaaGreatDoorRows
import Derived.Test.YtofkapkplnmklaaGreatDoorTie
import Derived.Test.YtofkapkplnmklaaGreatDoorCards
import Derived.WalkKit
import Derived.ProofKit
import Derived.OpenShut
import Derived.ShutString
import Derived.Below

/- ValidLabels: blocks one in another, as they lie; what is asked of their sizes. -/
namespace Go.Proofs.YtofkapkplnmklaaGreatDoor
open Go.RowKit Go.Shelf
namespace Vw
set_option linter.unusedVariables false
set_option linter.unusedSimpArgs false
open Ex (Ins Lies Lab cnt)
open Gm (Mod Typ Fnc Byts ModL WfM LL TypC FncC SzM)
theorem and1 (x : Int) : bits BinOp.and IntKind.i64 x 1 = 0 ∨ bits BinOp.and IntKind.i64 x 1 = 1 := by
  have h : (BitVec.ofInt 64 x &&& BitVec.ofInt 64 1).toNat = (BitVec.ofInt 64 x).toNat % 2 := by
    rw [BitVec.toNat_and, show (BitVec.ofInt 64 1).toNat = 1 from rfl, Nat.and_one_is_mod]
  have h2 : bits BinOp.and IntKind.i64 x 1 = IntKind.i64.wrap (((BitVec.ofInt 64 x).toNat % 2 : Nat) : Int) := by
    show IntKind.i64.wrap (((BitVec.ofInt 64 x &&& BitVec.ofInt 64 1).toNat : Nat) : Int) = _
    rw [h]
  rw [h2, IntKind.wrap_i64]
  omega
theorem kk_of (n : Int) : ∃ kk : Nat, wrap64 ((IntKind.u64.wrap n).tmod 30) = (kk : Int) ∧ (kk : Int) < 30 := by
  have h0 : 0 ≤ IntKind.u64.wrap n := by simp [IntKind.wrap, IntKind.bits, IntKind.signed]; omega
  have h1 : (IntKind.u64.wrap n).tmod 30 = (IntKind.u64.wrap n) % 30 := Int.tmod_eq_emod_of_nonneg h0
  rw [h1]
  refine ⟨((IntKind.u64.wrap n) % 30).toNat, ?_, by omega⟩
  have h2 : 0 ≤ (IntKind.u64.wrap n) % 30 ∧ (IntKind.u64.wrap n) % 30 < 30 := by omega
  generalize (IntKind.u64.wrap n) % 30 = z at *
  rw [Int.toNat_of_nonneg h2.1]
  unfold wrap64; omega
/-- which block: 2 or 3 -/
def opf (b : Int) (k : Nat) : Int := 2 + ((k : Int) + b) % 2
theorem opf_or {b : Int} (hb : b = 0 ∨ b = 1) (k : Nat) : opf b k = 2 ∨ opf b k = 3 := by
  unfold opf
  omega
theorem nst_fit {op : Nat → Int} (hop : ∀ k, op k = 2 ∨ op k = 3) {base : List Ins} (h1 : Ex.Wf base) (h2 : Ex.Sz 1048576 base) (h3 : base.length ≤ 2) (h4 : cnt base ≤ 2) : ∀ j, Ex.Wf (nst op base j) ∧ Ex.Sz 1048576 (nst op base j) ∧ cnt (nst op base j) ≤ j + 2 ∧ (nst op base j).length ≤ 2 ∧ (0 < base.length → 0 < (nst op base j).length)
  | 0 => ⟨h1, h2, by rw [nst]; omega, h3, fun h => h⟩
  | j + 1 => by
    obtain ⟨q1, q2, q3, q4, q5⟩ := nst_fit hop h1 h2 h3 h4 j
    rw [nst]
    refine ⟨(Ex.Wf_cons _ _).2 ⟨⟨?_, q1, Ex.Wf_nil⟩, Ex.Wf_nil⟩, (Ex.Sz_cons _ _ _).2 ⟨⟨by simp only; omega, by simp, by simp, q2, Ex.Sz_nil _⟩, Ex.Sz_nil _⟩, ?_, by simp, by simp⟩
    · rcases hop j with h | h <;> simp only [h] <;> exact (show Ex.fit _ 0 0 0 0 [] from (in0_wf _ 0 (by decide) (by decide)).1)
    · rw [Ex.cnt_cons, Ex.cnt_nil]; simp only [Ex.cnt_nil]; omega
theorem blk_code {w : World} {l : List Ins} {a : Option Addr} {c : Nat} (op : Int) (h : Ex.Code w (fun b => b < w.heap.size) l (.slice a l.length c)) (W : World) (hb : Below w.heap.size w W)
    (hr : W.heap[w.heap.size]? = some (.cells #[.int .u8 op, .int .i64 0, .int .u32 0, .int .u32 0, .int .u8 0, .slice a l.length c, .slice none 0 0, .slice none 0 0] 69 (0, 0))) :
    Ex.Code W (fun b => b < W.heap.size) [⟨op, 0, 0, 0, 0, l, [], []⟩] (.slice (some ⟨w.heap.size, 0, none⟩) 1 1) := by
  have hl := (Array.getElem?_eq_some_iff.1 hr).1
  have h' := Ex.Code.move (g' := fun b => b < W.heap.size) (Gm.Mv.below hb (fun k hk _ => Nat.lt_of_lt_of_le hk hb.size)).moves h
  refine ⟨_, 1, rfl, Nat.le_refl _, nofun, fun _ => ⟨w.heap.size, 0, rfl, hl, (Ex.Items_cons _ _ _ _ _ _).2 ⟨⟨.slice a l.length c, .slice none 0 0, .slice none 0 0, ?_, h', nil_lies _ _, nil_lies _ _⟩, Ex.Items_nil _ _ _ _⟩⟩⟩
  refine ⟨?_, ?_, ?_, ?_, ?_, ?_, ?_, ?_⟩ <;> (rw [cell_of_row W _ _ _ _ _ hr]; rfl)
theorem base1 {w W : World} {op n : Int} (hb : Below w.heap.size w W) (hr : W.heap[w.heap.size]? = some (.cells #[.int .u8 op, .int .i64 n, .int .u32 0, .int .u32 0, .int .u8 0, .slice none 0 0, .slice none 0 0, .slice none 0 0] 69 (0, 0))) :
    Ex.Code W (fun b => b < W.heap.size) [in0 op n] (.slice (some ⟨w.heap.size, 0, none⟩) 1 1) := by
  have hl := (Array.getElem?_eq_some_iff.1 hr).1
  refine ⟨_, 1, rfl, Nat.le_refl _, nofun, fun _ => ⟨w.heap.size, 0, rfl, hl, (Ex.Items_cons _ _ _ _ _ _).2 ⟨⟨.slice none 0 0, .slice none 0 0, .slice none 0 0, ?_, Ex.Code_nil _ _, Ex.Code_nil _ _, nil_lies _ _⟩, Ex.Items_nil _ _ _ _⟩⟩⟩
  refine ⟨?_, ?_, ?_, ?_, ?_, ?_, ?_, ?_⟩ <;> (rw [cell_of_row W _ _ _ _ _ hr]; rfl)
theorem base2 {W : World} {p : Nat} {op n op2 n2 : Int} {ls : List Int} {vl : Value} (hL : Lies (fun b => b < W.heap.size) ls.length (Lab W ls) vl)
    (hr : W.heap[p]? = some (.cells #[.int .u8 op, .int .i64 n, .int .u32 0, .int .u32 0, .int .u8 0, .slice none 0 0, .slice none 0 0, .slice none 0 0, .int .u8 op2, .int .i64 n2, .int .u32 0, .int .u32 0, .int .u8 0, .slice none 0 0, .slice none 0 0, vl] 69 (0, 0))) :
    Ex.Code W (fun b => b < W.heap.size) [in0 op n, ⟨op2, n2, 0, 0, 0, [], [], ls⟩] (.slice (some ⟨p, 0, none⟩) 2 2) := by
  have hl := (Array.getElem?_eq_some_iff.1 hr).1
  refine ⟨_, 2, rfl, Nat.le_refl _, nofun, fun _ => ⟨p, 0, rfl, hl, (Ex.Items_cons _ _ _ _ _ _).2 ⟨⟨.slice none 0 0, .slice none 0 0, .slice none 0 0, ?_, Ex.Code_nil _ _, Ex.Code_nil _ _, nil_lies _ _⟩, (Ex.Items_cons _ _ _ _ _ _).2 ⟨⟨.slice none 0 0, .slice none 0 0, vl, ?_, Ex.Code_nil _ _, Ex.Code_nil _ _, hL⟩, Ex.Items_nil _ _ _ _⟩⟩⟩⟩
  all_goals refine ⟨?_, ?_, ?_, ?_, ?_, ?_, ?_, ?_⟩ <;> (rw [cell_of_row W _ _ _ _ _ hr]; rfl)
theorem lab3 {W : World} {p : Nat} {a b c : Int} {t : TypeId} (hr : W.heap[p]? = some (.cells #[.int .u32 a, .int .u32 b, .int .u32 c] t (0, 0))) : Lies (fun b => b < W.heap.size) [a, b, c].length (Lab W [a, b, c]) (.slice (some ⟨p, 0, none⟩) 3 3) :=
  ⟨_, 3, rfl, Nat.le_refl _, nofun, fun _ => ⟨p, 0, rfl, (Array.getElem?_eq_some_iff.1 hr).1, fun j hj => by
    rw [cell_of_row W _ _ _ _ _ hr]
    match j, hj with
    | 0, _ => rfl
    | 1, _ => rfl
    | 2, _ => rfl⟩⟩
end Vw
end Go.Proofs.YtofkapkplnmklaaGreatDoor

/- ValidLabels: its walk where way is 0 modulo 3. By mklb.py. -/
namespace Go.Proofs.YtofkapkplnmklaaGreatDoor
open Go.RowKit Go.Shelf
namespace Vw
set_option linter.unusedVariables false
set_option linter.unusedSimpArgs false
open Ex (Ins Lies Lab cnt)
open Gm (Mod Typ Fnc Byts ModL WfM LL TypC FncC SzM)
set_option maxRecDepth 100000 in
set_option maxHeartbeats 6400000 in
theorem labels_walk1 (n tg way : Int) (w : World) (hT : Tb w) (hE : ErrT w) (ht : -9223372036854775808 ≤ tg ∧ tg < 9223372036854775808) (hx : wrap64 ((IntKind.u64.wrap way).tmod 3) = 0) :
    Calls Tryz.prog 8 #[.int .i64 n, .int .i64 tg, .int .i64 way] w fun e w' => e = .returned (.bool true) ∧ Below w.heap.size w w' := by
  obtain ⟨base, hbase⟩ : ∃ l : List Ins, l = [in0 65 0, in0 13 tg] := ⟨_, rfl⟩
  obtain ⟨kk, hkk, hk30⟩ : ∃ kk : Nat, wrap64 ((IntKind.u64.wrap n).tmod 30) = (kk : Int) ∧ (kk : Int) < 30 := kk_of n
  obtain ⟨b, hb0⟩ : ∃ b, bits BinOp.and IntKind.i64 way 1 = b := ⟨_, rfl⟩
  have hb : b = 0 ∨ b = 1 := by rw [← hb0]; exact and1 way
  have hgood : ∀ M, Good M [127, 126] base tg 0 := by rw [hbase]; exact fun M => good_if M _ tg
  have hfit := nst_fit (opf_or hb) (base := base) (by rw [hbase]; exact (Ex.Wf_cons _ _).2 ⟨in0_wf 65 0 (by decide) (by decide), (Ex.Wf_cons _ _).2 ⟨in0_wf 13 tg (by decide) ht, Ex.Wf_nil⟩⟩) (by rw [hbase]; exact (Ex.Sz_cons _ _ _).2 ⟨in0_sz _ _, (Ex.Sz_cons _ _ _).2 ⟨in0_sz _ _, Ex.Sz_nil _⟩⟩) (by rw [hbase]; simp) (by rw [hbase]; simp [Ex.cnt_cons, Ex.cnt_nil, in0])
  have HFit := hide hfit; have HGood := hide hgood; have HTb := hide hT; have HEr := hide hE
  clear hfit hgood hT hE
  have hB1 := Below.on (one_al w (.cells #[.int .u8 12, .int .i64 tg, .int .u32 0, .int .u32 0, .int .u8 0, .slice none 0 0, .slice none 0 0, .slice none 0 0] 69)) (one_al (w.alloc (.cells #[.int .u8 12, .int .i64 tg, .int .u32 0, .int .u32 0, .int .u8 0, .slice none 0 0, .slice none 0 0, .slice none 0 0] 69)) (.cells #[.int .u8 65, .int .i64 0, .int .u32 0, .int .u32 0, .int .u8 0, .slice none 0 0, .slice none 0 0, .slice none 0 0, .int .u8 13, .int .i64 tg, .int .u32 0, .int .u32 0, .int .u8 0, .slice none 0 0, .slice none 0 0, .slice none 0 0] 69))
  have hcd := base2 (ls := []) (nil_lies _ _) (heap_alloc_new (w.alloc (.cells #[.int .u8 12, .int .i64 tg, .int .u32 0, .int .u32 0, .int .u8 0, .slice none 0 0, .slice none 0 0, .slice none 0 0] 69)) (.cells #[.int .u8 65, .int .i64 0, .int .u32 0, .int .u32 0, .int .u8 0, .slice none 0 0, .slice none 0 0, .slice none 0 0, .int .u8 13, .int .i64 tg, .int .u32 0, .int .u32 0, .int .u8 0, .slice none 0 0, .slice none 0 0, .slice none 0 0] 69))
  obtain ⟨W1, hW1⟩ : ∃ W, (w.alloc (.cells #[.int .u8 12, .int .i64 tg, .int .u32 0, .int .u32 0, .int .u8 0, .slice none 0 0, .slice none 0 0, .slice none 0 0] 69)).alloc (.cells #[.int .u8 65, .int .i64 0, .int .u32 0, .int .u32 0, .int .u8 0, .slice none 0 0, .slice none 0 0, .slice none 0 0, .int .u8 13, .int .i64 tg, .int .u32 0, .int .u32 0, .int .u8 0, .slice none 0 0, .slice none 0 0, .slice none 0 0] 69) = W := ⟨_, rfl⟩
  rw [hW1] at hB1 hcd
  have HW1 := hide hW1; have HB1 := hide hB1; have HCd := hide hcd
  clear hW1 hB1 hcd
  have hbl : base.length = 2 := by rw [hbase]; rfl
  have hcd2 : Ex.Code W1 (fun b => b < W1.heap.size) base (.slice (some ⟨(w.alloc (.cells #[.int .u8 12, .int .i64 tg, .int .u32 0, .int .u32 0, .int .u8 0, .slice none 0 0, .slice none 0 0, .slice none 0 0] 69)).heap.size, 0, none⟩) 2 2) := by rw [hbase]; exact unhide HCd
  have HCd2 := hide hcd2; have HBl := hide hbl
  clear hcd2 hbl HCd hbase
  go_enter Tryz.func8, Tryz.ntmps8
  go_upto_region 4 with fail
  rw [hx, hkk]
  clear hx hkk
  go_wp2_with fail
  rw [unhide HW1]
  clear HW1
  go_loopw [8, 9] (fun s c wr => ∃ k : Nat, c = .int .i64 k ∧ (k : Int) ≤ kk ∧ (∃ a ca, s = .slice a (nst (opf b) base k).length ca ∧ Ex.Code wr (fun b => b < wr.heap.size) (nst (opf b) base k) (.slice a (nst (opf b) base k).length ca)) ∧ Below w.heap.size w wr) (fun _ c _ => 30 - (intOf c).toNat)
  case atStart => exact ⟨0, rfl, by omega, ⟨_, _, by rw [nst, unhide HBl], by rw [nst, unhide HBl]; exact by simpa using unhide HCd2⟩, unhide HB1⟩
  case round =>
    obtain ⟨k, rfl, hkn, ⟨a, c, rfl, hcode⟩, hbel⟩ := hrel
    clear HCd2 HBl HB1
    by_cases h1 : (k : Int) < kk
    · have hop := opf_or hb k
      have hbd : 0 ≤ ((k : Int) + b) % 2 ∧ ((k : Int) + b) % 2 ≤ 1 := by unfold opf at hop; omega
      have hb01 : 0 ≤ b ∧ b ≤ 1 := by omega
      have hnb := blk_code (opf b k) hcode _ (one_al wr (.cells #[.int .u8 (opf b k), .int .i64 0, .int .u32 0, .int .u32 0, .int .u8 0, .slice a (nst (opf b) base k).length c, .slice none 0 0, .slice none 0 0] 69)) (heap_alloc_new wr _)
      have hbn : Below w.heap.size w (wr.alloc (.cells #[.int .u8 (opf b k), .int .i64 0, .int .u32 0, .int .u32 0, .int .u8 0, .slice a (nst (opf b) base k).length c, .slice none 0 0, .slice none 0 0] 69)) := hbel.trans ((one_al wr _).mono hbel.size)
      have HNb := hide hnb; have HBn := hide hbn
      have HOp := hide (show opf b k = 2 + ((k : Int) + b) % 2 from rfl)
      generalize hln : (nst (opf b) base k).length = ln at *
      have HLn := hide hln
      clear hcode hbel hnb hbn hln hop hb
      rw [unhide HOp] at HNb HBn
      go_wp2
      go_roundw
      case rel => exact ⟨k + 1, by go_num, by omega, ⟨some ⟨wr.heap.size, 0, none⟩, 1, by rw [nst]; rfl, by rw [nst]; exact unhide HNb⟩, unhide HBn⟩
      case measure => simp [intOf]; omega
    · have hkq : k = kk := by omega
      subst hkq
      clear h1 hkn
      have hfit := unhide HFit k
      have hov : (over (scn [] 0 (nst (opf b) base k)) 0).isSome = decide (0 ≤ tg ∧ tg ≤ (k : Int)) := labels_over (opf_or hb) k (unhide HGood _)
      obtain ⟨L, hL⟩ : ∃ L, nst (opf b) base k = L := ⟨_, rfl⟩
      rw [hL] at hcode hfit hov ⊢
      clear hL
      obtain ⟨q1, q2, q3, q4, q5⟩ := hfit
      have hsc := scene_any (w := wr) (pa := none) (pc := 0) (ps := []) 0 (body := L) (ba := a) (bc := c) (nil_lies _ _) hcode
      have HSc := hide hsc; have HBel := hide hbel; have HOv := hide hov
      have HQ1 := hide q1; have HQ2 := hide q2; have HQ3 := hide q3; have HQ4 := hide q4
      clear hsc hbel hcode hov q1 q2 q3 q4 q5 HFit HGood
      go_wp2_with fail
      refine (unhide HSc).mono ?_
      rintro e w2 ⟨⟨v0, v1, v2, v3, v4, v5, v6, v7, rfl, hM2⟩, hb2⟩
      have hgm := Gm.giveModule_any (scn [] 0 L) (fun b => b < w2.heap.size) v0 v1 v2 v3 v4 v5 v6 v7 w2 (fun q hq => hq) hM2 (scn_szm (by simp) (by simp) (unhide HQ2) (by have := unhide HQ4; omega))
      have HGm := hide hgm; have HB2 := hide ((unhide HBel).trans (hb2.mono (unhide HBel).size))
      clear hgm hM2 hb2 HSc
      go_wp2_with fail
      refine (unhide HGm).mono ?_
      rintro e w3 ⟨u0, u1, u2, u3, u4, u5, u6, u7, rfl, hM3, hb3⟩
      have hM4 := hM3.moved (w' := w3) (g' := fun b => b < w3.heap.size) (fun q hq _ => ⟨hq, rfl⟩) (Nat.le_refl _)
      obtain ⟨a0, k0, hv0⟩ := hM4.l0.sl
      obtain ⟨a1, k1, hv1⟩ := hM4.l1.sl
      obtain ⟨a2, k2, hv2⟩ := hM4.l2.sl
      obtain ⟨a3, k3, hv3⟩ := hM4.l3.sl
      obtain ⟨a4, k4, hv4⟩ := hM4.l4.sl
      obtain ⟨a5, k5, hv5⟩ := hM4.l5.sl
      obtain ⟨a6, k6, hv6⟩ := hM4.l6.sl
      obtain ⟨a7, k7, hv7⟩ := hM4.l7.sl
      subst hv0 hv1 hv2 hv3 hv4 hv5 hv6 hv7
      have hB4 : Below w.heap.size w w3 := (unhide HB2).trans (hb3.mono (unhide HB2).size)
      have hbo := body_any ciOk hM4 (scn_wf (by simp) (by decide) (unhide HQ1)) ((unhide HTb).below hB4) (scn_szv (by simp) (unhide HQ1) (unhide HQ2) (by have := unhide HQ3; omega)) 0
      have hsu := fun U (hU : Below w.heap.size w U) => sure08 U ((unhide HTb).below hU) ((unhide HEr).below (Nat.le_refl _) hU)
      have hnu := fun U (hU : Below w.heap.size w U) => num_hit 7 U ((unhide HEr).below (Nat.le_refl _) hU)
      have hge : hgE (scn [] 0 L) 0 = if (over (scn [] 0 L) 0).isSome then 0 else 7 := rfl
      rw [hge, unhide HOv] at hbo
      have HBo := hide hbo; have HB4 := hide hB4; have HSu := hide hsu; have HNu := hide hnu
      clear hbo hB4 hsu hnu hge hM3 hM4 hb3 HGm HB2 HTb HEr HQ1 HQ2 HQ3 HQ4 HBel HOv
      by_cases hc : 0 ≤ tg ∧ tg ≤ (k : Int)
      · rw [show errV (if decide (0 ≤ tg ∧ tg ≤ (k : Int)) = true then 0 else 7) = .nilIface from by rw [if_pos (by simpa using hc)]; exact errV_0] at HBo
        obtain ⟨hc1, hc2⟩ := hc
        go_wp2_with fail
        refine (unhide HBo).mono ?_
        rintro e w5 ⟨rfl, hb5⟩
        have HB5 := hide ((unhide HB4).trans (hb5.mono (unhide HB4).size))
        clear hb5
        go_wp2_with fail
        refine (unhide HSu _ (unhide HB5)).mono ?_
        rintro e w6 ⟨rfl, hb6⟩
        have HB6 := hide ((unhide HB5).trans (hb6.mono (unhide HB5).size))
        clear hb6
        go_wp2
        go_ret
        exact ⟨rfl, unhide HB6⟩
      · rw [show errV (if decide (0 ≤ tg ∧ tg ≤ (k : Int)) = true then 0 else 7) = .iface 102 (.int .i64 7) from by rw [if_neg (by simpa using hc)]; exact errV_7] at HBo
        have hcc : tg < 0 ∨ (0 ≤ tg ∧ (k : Int) < tg) := by omega
        clear hc
        rcases hcc with hc1 | ⟨hc1, hc2⟩
        · skip
          go_wp2_with fail
          refine (unhide HBo).mono ?_
          rintro e w5 ⟨rfl, hb5⟩
          have HB5 := hide ((unhide HB4).trans (hb5.mono (unhide HB4).size))
          clear hb5
          go_wp2_with fail
          refine (unhide HNu _ (unhide HB5)).mono ?_
          rintro e w6 ⟨rfl, hb6⟩
          have HB6 := hide ((unhide HB5).trans (hb6.mono (unhide HB5).size))
          clear hb6
          go_wp2_with fail
          refine (unhide HSu _ (unhide HB6)).mono ?_
          rintro e w7 ⟨rfl, hb7⟩
          have HB7 := hide ((unhide HB6).trans (hb7.mono (unhide HB6).size))
          clear hb7
          go_wp2
          go_ret
          first | exact ⟨rfl, unhide HB7⟩ | exact ⟨by simp; omega, unhide HB7⟩
        · skip
          go_wp2_with fail
          refine (unhide HBo).mono ?_
          rintro e w5 ⟨rfl, hb5⟩
          have HB5 := hide ((unhide HB4).trans (hb5.mono (unhide HB4).size))
          clear hb5
          go_wp2_with fail
          refine (unhide HNu _ (unhide HB5)).mono ?_
          rintro e w6 ⟨rfl, hb6⟩
          have HB6 := hide ((unhide HB5).trans (hb6.mono (unhide HB5).size))
          clear hb6
          go_wp2_with fail
          refine (unhide HSu _ (unhide HB6)).mono ?_
          rintro e w7 ⟨rfl, hb7⟩
          have HB7 := hide ((unhide HB6).trans (hb7.mono (unhide HB6).size))
          clear hb7
          go_wp2
          go_ret
          first | exact ⟨rfl, unhide HB7⟩ | exact ⟨by simp; omega, unhide HB7⟩
end Vw
end Go.Proofs.YtofkapkplnmklaaGreatDoor

/- ValidLabels: its walk where way is 1 modulo 3. By mklb.py. -/
namespace Go.Proofs.YtofkapkplnmklaaGreatDoor
open Go.RowKit Go.Shelf
namespace Vw
set_option linter.unusedVariables false
set_option linter.unusedSimpArgs false
open Ex (Ins Lies Lab cnt)
open Gm (Mod Typ Fnc Byts ModL WfM LL TypC FncC SzM)
set_option maxRecDepth 100000 in
set_option maxHeartbeats 6400000 in
theorem labels_walk2 (n tg way : Int) (w : World) (hT : Tb w) (hE : ErrT w) (ht : -9223372036854775808 ≤ tg ∧ tg < 9223372036854775808) (hr0 : 0 ≤ tg) (hr1 : tg < 4294967296) (hx : wrap64 ((IntKind.u64.wrap way).tmod 3) = 1) :
    Calls Tryz.prog 8 #[.int .i64 n, .int .i64 tg, .int .i64 way] w fun e w' => e = .returned (.bool true) ∧ Below w.heap.size w w' := by
  obtain ⟨base, hbase⟩ : ∃ l : List Ins, l = [in0 65 0, ⟨14, 0, 0, 0, 0, [], [], [0, tg, 0]⟩] := ⟨_, rfl⟩
  obtain ⟨kk, hkk, hk30⟩ : ∃ kk : Nat, wrap64 ((IntKind.u64.wrap n).tmod 30) = (kk : Int) ∧ (kk : Int) < 30 := kk_of n
  obtain ⟨b, hb0⟩ : ∃ b, bits BinOp.and IntKind.i64 way 1 = b := ⟨_, rfl⟩
  have hb : b = 0 ∨ b = 1 := by rw [← hb0]; exact and1 way
  have hgood : ∀ M, Good M [127, 126] base tg 0 := by rw [hbase]; exact fun M => good_tab M _ tg
  have hfit := nst_fit (opf_or hb) (base := base) (by rw [hbase]; exact (Ex.Wf_cons _ _).2 ⟨in0_wf 65 0 (by decide) (by decide), (Ex.Wf_cons _ _).2 ⟨⟨⟨⟨(by decide : (0:Int) ≤ 14), (by decide : (14:Int) ≤ 255)⟩, ⟨(by decide : (-9223372036854775808:Int) ≤ 0), (by decide : (0:Int) < 9223372036854775808)⟩, ⟨(by decide : (0:Int) ≤ 0), (by decide : (0:Int) < 4294967296)⟩, ⟨(by decide : (0:Int) ≤ 0), (by decide : (0:Int) < 4294967296)⟩, ⟨(by decide : (0:Int) ≤ 0), (by decide : (0:Int) ≤ 255)⟩, by simp; omega⟩, Ex.Wf_nil, Ex.Wf_nil⟩, Ex.Wf_nil⟩⟩) (by rw [hbase]; exact (Ex.Sz_cons _ _ _).2 ⟨in0_sz _ _, (Ex.Sz_cons _ _ _).2 ⟨⟨by simp, by simp, by simp, Ex.Sz_nil _, Ex.Sz_nil _⟩, Ex.Sz_nil _⟩⟩) (by rw [hbase]; simp) (by rw [hbase]; simp [Ex.cnt_cons, Ex.cnt_nil, in0])
  have HFit := hide hfit; have HGood := hide hgood; have HTb := hide hT; have HEr := hide hE
  clear hfit hgood hT hE
  have hB1 := Below.on (one_al w (.cells #[.int .u8 12, .int .i64 tg, .int .u32 0, .int .u32 0, .int .u8 0, .slice none 0 0, .slice none 0 0, .slice none 0 0] 69)) (Below.on (one_al (w.alloc (.cells #[.int .u8 12, .int .i64 tg, .int .u32 0, .int .u32 0, .int .u8 0, .slice none 0 0, .slice none 0 0, .slice none 0 0] 69)) (.cells #[.int .u32 0, .int .u32 tg, .int .u32 0] 59)) (one_al ((w.alloc (.cells #[.int .u8 12, .int .i64 tg, .int .u32 0, .int .u32 0, .int .u8 0, .slice none 0 0, .slice none 0 0, .slice none 0 0] 69)).alloc (.cells #[.int .u32 0, .int .u32 tg, .int .u32 0] 59)) (.cells #[.int .u8 65, .int .i64 0, .int .u32 0, .int .u32 0, .int .u8 0, .slice none 0 0, .slice none 0 0, .slice none 0 0, .int .u8 14, .int .i64 0, .int .u32 0, .int .u32 0, .int .u8 0, .slice none 0 0, .slice none 0 0, .slice (some ⟨w.heap.size + 1, 0, none⟩) 3 3] 69)))
  have hrl : (((w.alloc (.cells #[.int .u8 12, .int .i64 tg, .int .u32 0, .int .u32 0, .int .u8 0, .slice none 0 0, .slice none 0 0, .slice none 0 0] 69)).alloc (.cells #[.int .u32 0, .int .u32 tg, .int .u32 0] 59)).alloc (.cells #[.int .u8 65, .int .i64 0, .int .u32 0, .int .u32 0, .int .u8 0, .slice none 0 0, .slice none 0 0, .slice none 0 0, .int .u8 14, .int .i64 0, .int .u32 0, .int .u32 0, .int .u8 0, .slice none 0 0, .slice none 0 0, .slice (some ⟨w.heap.size + 1, 0, none⟩) 3 3] 69)).heap[(w.alloc (.cells #[.int .u8 12, .int .i64 tg, .int .u32 0, .int .u32 0, .int .u8 0, .slice none 0 0, .slice none 0 0, .slice none 0 0] 69)).heap.size]? = some (.cells #[.int .u32 0, .int .u32 tg, .int .u32 0] 59 (0, 0)) := ((one_al ((w.alloc (.cells #[.int .u8 12, .int .i64 tg, .int .u32 0, .int .u32 0, .int .u8 0, .slice none 0 0, .slice none 0 0, .slice none 0 0] 69)).alloc (.cells #[.int .u32 0, .int .u32 tg, .int .u32 0] 59)) (.cells #[.int .u8 65, .int .i64 0, .int .u32 0, .int .u32 0, .int .u8 0, .slice none 0 0, .slice none 0 0, .slice none 0 0, .int .u8 14, .int .i64 0, .int .u32 0, .int .u32 0, .int .u8 0, .slice none 0 0, .slice none 0 0, .slice (some ⟨w.heap.size + 1, 0, none⟩) 3 3] 69)).block _ (by simp)).trans (heap_alloc_new (w.alloc (.cells #[.int .u8 12, .int .i64 tg, .int .u32 0, .int .u32 0, .int .u8 0, .slice none 0 0, .slice none 0 0, .slice none 0 0] 69)) (.cells #[.int .u32 0, .int .u32 tg, .int .u32 0] 59))
  rw [show (w.alloc (.cells #[.int .u8 12, .int .i64 tg, .int .u32 0, .int .u32 0, .int .u8 0, .slice none 0 0, .slice none 0 0, .slice none 0 0] 69)).heap.size = w.heap.size + 1 by simp] at hrl
  have hcd := base2 (lab3 hrl) (heap_alloc_new ((w.alloc (.cells #[.int .u8 12, .int .i64 tg, .int .u32 0, .int .u32 0, .int .u8 0, .slice none 0 0, .slice none 0 0, .slice none 0 0] 69)).alloc (.cells #[.int .u32 0, .int .u32 tg, .int .u32 0] 59)) (.cells #[.int .u8 65, .int .i64 0, .int .u32 0, .int .u32 0, .int .u8 0, .slice none 0 0, .slice none 0 0, .slice none 0 0, .int .u8 14, .int .i64 0, .int .u32 0, .int .u32 0, .int .u8 0, .slice none 0 0, .slice none 0 0, .slice (some ⟨w.heap.size + 1, 0, none⟩) 3 3] 69))
  obtain ⟨W1, hW1⟩ : ∃ W, ((w.alloc (.cells #[.int .u8 12, .int .i64 tg, .int .u32 0, .int .u32 0, .int .u8 0, .slice none 0 0, .slice none 0 0, .slice none 0 0] 69)).alloc (.cells #[.int .u32 0, .int .u32 tg, .int .u32 0] 59)).alloc (.cells #[.int .u8 65, .int .i64 0, .int .u32 0, .int .u32 0, .int .u8 0, .slice none 0 0, .slice none 0 0, .slice none 0 0, .int .u8 14, .int .i64 0, .int .u32 0, .int .u32 0, .int .u8 0, .slice none 0 0, .slice none 0 0, .slice (some ⟨w.heap.size + 1, 0, none⟩) 3 3] 69) = W := ⟨_, rfl⟩
  rw [hW1] at hB1 hcd
  clear hrl
  have HW1 := hide hW1; have HB1 := hide hB1; have HCd := hide hcd
  clear hW1 hB1 hcd
  have hbl : base.length = 2 := by rw [hbase]; rfl
  have hcd2 : Ex.Code W1 (fun b => b < W1.heap.size) base (.slice (some ⟨((w.alloc (.cells #[.int .u8 12, .int .i64 tg, .int .u32 0, .int .u32 0, .int .u8 0, .slice none 0 0, .slice none 0 0, .slice none 0 0] 69)).alloc (.cells #[.int .u32 0, .int .u32 tg, .int .u32 0] 59)).heap.size, 0, none⟩) 2 2) := by rw [hbase]; exact unhide HCd
  have HCd2 := hide hcd2; have HBl := hide hbl
  clear hcd2 hbl HCd hbase
  go_enter Tryz.func8, Tryz.ntmps8
  go_upto_region 4 with fail
  rw [hx, hkk]
  clear hx hkk
  go_wp2_with fail
  rw [unhide HW1]
  clear HW1
  go_loopw [8, 9] (fun s c wr => ∃ k : Nat, c = .int .i64 k ∧ (k : Int) ≤ kk ∧ (∃ a ca, s = .slice a (nst (opf b) base k).length ca ∧ Ex.Code wr (fun b => b < wr.heap.size) (nst (opf b) base k) (.slice a (nst (opf b) base k).length ca)) ∧ Below w.heap.size w wr) (fun _ c _ => 30 - (intOf c).toNat)
  case atStart => exact ⟨0, rfl, by omega, ⟨_, _, by rw [nst, unhide HBl], by rw [nst, unhide HBl]; exact by simpa using unhide HCd2⟩, unhide HB1⟩
  case round =>
    obtain ⟨k, rfl, hkn, ⟨a, c, rfl, hcode⟩, hbel⟩ := hrel
    clear HCd2 HBl HB1
    by_cases h1 : (k : Int) < kk
    · have hop := opf_or hb k
      have hbd : 0 ≤ ((k : Int) + b) % 2 ∧ ((k : Int) + b) % 2 ≤ 1 := by unfold opf at hop; omega
      have hb01 : 0 ≤ b ∧ b ≤ 1 := by omega
      have hnb := blk_code (opf b k) hcode _ (one_al wr (.cells #[.int .u8 (opf b k), .int .i64 0, .int .u32 0, .int .u32 0, .int .u8 0, .slice a (nst (opf b) base k).length c, .slice none 0 0, .slice none 0 0] 69)) (heap_alloc_new wr _)
      have hbn : Below w.heap.size w (wr.alloc (.cells #[.int .u8 (opf b k), .int .i64 0, .int .u32 0, .int .u32 0, .int .u8 0, .slice a (nst (opf b) base k).length c, .slice none 0 0, .slice none 0 0] 69)) := hbel.trans ((one_al wr _).mono hbel.size)
      have HNb := hide hnb; have HBn := hide hbn
      have HOp := hide (show opf b k = 2 + ((k : Int) + b) % 2 from rfl)
      generalize hln : (nst (opf b) base k).length = ln at *
      have HLn := hide hln
      clear hcode hbel hnb hbn hln hop hb
      rw [unhide HOp] at HNb HBn
      go_wp2
      go_roundw
      case rel => exact ⟨k + 1, by go_num, by omega, ⟨some ⟨wr.heap.size, 0, none⟩, 1, by rw [nst]; rfl, by rw [nst]; exact unhide HNb⟩, unhide HBn⟩
      case measure => simp [intOf]; omega
    · have hkq : k = kk := by omega
      subst hkq
      clear h1 hkn
      have hfit := unhide HFit k
      have hov : (over (scn [] 0 (nst (opf b) base k)) 0).isSome = decide (0 ≤ tg ∧ tg ≤ (k : Int)) := labels_over (opf_or hb) k (unhide HGood _)
      obtain ⟨L, hL⟩ : ∃ L, nst (opf b) base k = L := ⟨_, rfl⟩
      rw [hL] at hcode hfit hov ⊢
      clear hL
      obtain ⟨q1, q2, q3, q4, q5⟩ := hfit
      have hsc := scene_any (w := wr) (pa := none) (pc := 0) (ps := []) 0 (body := L) (ba := a) (bc := c) (nil_lies _ _) hcode
      have HSc := hide hsc; have HBel := hide hbel; have HOv := hide hov
      have HQ1 := hide q1; have HQ2 := hide q2; have HQ3 := hide q3; have HQ4 := hide q4
      clear hsc hbel hcode hov q1 q2 q3 q4 q5 HFit HGood
      go_wp2_with fail
      refine (unhide HSc).mono ?_
      rintro e w2 ⟨⟨v0, v1, v2, v3, v4, v5, v6, v7, rfl, hM2⟩, hb2⟩
      have hgm := Gm.giveModule_any (scn [] 0 L) (fun b => b < w2.heap.size) v0 v1 v2 v3 v4 v5 v6 v7 w2 (fun q hq => hq) hM2 (scn_szm (by simp) (by simp) (unhide HQ2) (by have := unhide HQ4; omega))
      have HGm := hide hgm; have HB2 := hide ((unhide HBel).trans (hb2.mono (unhide HBel).size))
      clear hgm hM2 hb2 HSc
      go_wp2_with fail
      refine (unhide HGm).mono ?_
      rintro e w3 ⟨u0, u1, u2, u3, u4, u5, u6, u7, rfl, hM3, hb3⟩
      have hM4 := hM3.moved (w' := w3) (g' := fun b => b < w3.heap.size) (fun q hq _ => ⟨hq, rfl⟩) (Nat.le_refl _)
      obtain ⟨a0, k0, hv0⟩ := hM4.l0.sl
      obtain ⟨a1, k1, hv1⟩ := hM4.l1.sl
      obtain ⟨a2, k2, hv2⟩ := hM4.l2.sl
      obtain ⟨a3, k3, hv3⟩ := hM4.l3.sl
      obtain ⟨a4, k4, hv4⟩ := hM4.l4.sl
      obtain ⟨a5, k5, hv5⟩ := hM4.l5.sl
      obtain ⟨a6, k6, hv6⟩ := hM4.l6.sl
      obtain ⟨a7, k7, hv7⟩ := hM4.l7.sl
      subst hv0 hv1 hv2 hv3 hv4 hv5 hv6 hv7
      have hB4 : Below w.heap.size w w3 := (unhide HB2).trans (hb3.mono (unhide HB2).size)
      have hbo := body_any ciOk hM4 (scn_wf (by simp) (by decide) (unhide HQ1)) ((unhide HTb).below hB4) (scn_szv (by simp) (unhide HQ1) (unhide HQ2) (by have := unhide HQ3; omega)) 0
      have hsu := fun U (hU : Below w.heap.size w U) => sure08 U ((unhide HTb).below hU) ((unhide HEr).below (Nat.le_refl _) hU)
      have hnu := fun U (hU : Below w.heap.size w U) => num_hit 7 U ((unhide HEr).below (Nat.le_refl _) hU)
      have hge : hgE (scn [] 0 L) 0 = if (over (scn [] 0 L) 0).isSome then 0 else 7 := rfl
      rw [hge, unhide HOv] at hbo
      have HBo := hide hbo; have HB4 := hide hB4; have HSu := hide hsu; have HNu := hide hnu
      clear hbo hB4 hsu hnu hge hM3 hM4 hb3 HGm HB2 HTb HEr HQ1 HQ2 HQ3 HQ4 HBel HOv
      by_cases hc : 0 ≤ tg ∧ tg ≤ (k : Int)
      · rw [show errV (if decide (0 ≤ tg ∧ tg ≤ (k : Int)) = true then 0 else 7) = .nilIface from by rw [if_pos (by simpa using hc)]; exact errV_0] at HBo
        obtain ⟨hc1, hc2⟩ := hc
        go_wp2_with fail
        refine (unhide HBo).mono ?_
        rintro e w5 ⟨rfl, hb5⟩
        have HB5 := hide ((unhide HB4).trans (hb5.mono (unhide HB4).size))
        clear hb5
        go_wp2_with fail
        refine (unhide HSu _ (unhide HB5)).mono ?_
        rintro e w6 ⟨rfl, hb6⟩
        have HB6 := hide ((unhide HB5).trans (hb6.mono (unhide HB5).size))
        clear hb6
        go_wp2
        go_ret
        exact ⟨rfl, unhide HB6⟩
      · rw [show errV (if decide (0 ≤ tg ∧ tg ≤ (k : Int)) = true then 0 else 7) = .iface 102 (.int .i64 7) from by rw [if_neg (by simpa using hc)]; exact errV_7] at HBo
        have hcc : tg < 0 ∨ (0 ≤ tg ∧ (k : Int) < tg) := by omega
        clear hc
        obtain ⟨hc1, hc2⟩ : 0 ≤ tg ∧ (k : Int) < tg := by omega
        · skip
          go_wp2_with fail
          refine (unhide HBo).mono ?_
          rintro e w5 ⟨rfl, hb5⟩
          have HB5 := hide ((unhide HB4).trans (hb5.mono (unhide HB4).size))
          clear hb5
          go_wp2_with fail
          refine (unhide HNu _ (unhide HB5)).mono ?_
          rintro e w6 ⟨rfl, hb6⟩
          have HB6 := hide ((unhide HB5).trans (hb6.mono (unhide HB5).size))
          clear hb6
          go_wp2_with fail
          refine (unhide HSu _ (unhide HB6)).mono ?_
          rintro e w7 ⟨rfl, hb7⟩
          have HB7 := hide ((unhide HB6).trans (hb7.mono (unhide HB6).size))
          clear hb7
          go_wp2
          go_ret
          first | exact ⟨rfl, unhide HB7⟩ | exact ⟨by simp; omega, unhide HB7⟩
end Vw
end Go.Proofs.YtofkapkplnmklaaGreatDoor

/- ValidLabels: its walk where way is 2 modulo 3. By mklb.py. -/
namespace Go.Proofs.YtofkapkplnmklaaGreatDoor
open Go.RowKit Go.Shelf
namespace Vw
set_option linter.unusedVariables false
set_option linter.unusedSimpArgs false
open Ex (Ins Lies Lab cnt)
open Gm (Mod Typ Fnc Byts ModL WfM LL TypC FncC SzM)
set_option maxRecDepth 100000 in
set_option maxHeartbeats 6400000 in
theorem labels_walk3 (n tg way : Int) (w : World) (hT : Tb w) (hE : ErrT w) (ht : -9223372036854775808 ≤ tg ∧ tg < 9223372036854775808) (hx : wrap64 ((IntKind.u64.wrap way).tmod 3) = 2) :
    Calls Tryz.prog 8 #[.int .i64 n, .int .i64 tg, .int .i64 way] w fun e w' => e = .returned (.bool true) ∧ Below w.heap.size w w' := by
  obtain ⟨base, hbase⟩ : ∃ l : List Ins, l = [in0 12 tg] := ⟨_, rfl⟩
  obtain ⟨kk, hkk, hk30⟩ : ∃ kk : Nat, wrap64 ((IntKind.u64.wrap n).tmod 30) = (kk : Int) ∧ (kk : Int) < 30 := kk_of n
  obtain ⟨b, hb0⟩ : ∃ b, bits BinOp.and IntKind.i64 way 1 = b := ⟨_, rfl⟩
  have hb : b = 0 ∨ b = 1 := by rw [← hb0]; exact and1 way
  have hgood : ∀ M, Good M [127, 126] base tg 0 := by rw [hbase]; exact fun M => good_br M _ tg
  have hfit := nst_fit (opf_or hb) (base := base) (by rw [hbase]; exact (Ex.Wf_cons _ _).2 ⟨in0_wf 12 tg (by decide) ht, Ex.Wf_nil⟩) (by rw [hbase]; exact (Ex.Sz_cons _ _ _).2 ⟨in0_sz _ _, Ex.Sz_nil _⟩) (by rw [hbase]; simp) (by rw [hbase]; simp [Ex.cnt_cons, Ex.cnt_nil, in0])
  have HFit := hide hfit; have HGood := hide hgood; have HTb := hide hT; have HEr := hide hE
  clear hfit hgood hT hE
  have hB1 := one_al w (.cells #[.int .u8 12, .int .i64 tg, .int .u32 0, .int .u32 0, .int .u8 0, .slice none 0 0, .slice none 0 0, .slice none 0 0] 69)
  have hcd := base1 hB1 (heap_alloc_new w (.cells #[.int .u8 12, .int .i64 tg, .int .u32 0, .int .u32 0, .int .u8 0, .slice none 0 0, .slice none 0 0, .slice none 0 0] 69))
  obtain ⟨W1, hW1⟩ : ∃ W, w.alloc (.cells #[.int .u8 12, .int .i64 tg, .int .u32 0, .int .u32 0, .int .u8 0, .slice none 0 0, .slice none 0 0, .slice none 0 0] 69) = W := ⟨_, rfl⟩
  rw [hW1] at hB1 hcd
  have HW1 := hide hW1; have HB1 := hide hB1; have HCd := hide hcd
  clear hW1 hB1 hcd
  have hbl : base.length = 1 := by rw [hbase]; rfl
  have hcd2 : Ex.Code W1 (fun b => b < W1.heap.size) base (.slice (some ⟨w.heap.size, 0, none⟩) 1 1) := by rw [hbase]; exact unhide HCd
  have HCd2 := hide hcd2; have HBl := hide hbl
  clear hcd2 hbl HCd hbase
  go_enter Tryz.func8, Tryz.ntmps8
  go_upto_region 4 with fail
  rw [hx, hkk]
  clear hx hkk
  go_wp2_with fail
  rw [unhide HW1]
  clear HW1
  go_loopw [8, 9] (fun s c wr => ∃ k : Nat, c = .int .i64 k ∧ (k : Int) ≤ kk ∧ (∃ a ca, s = .slice a (nst (opf b) base k).length ca ∧ Ex.Code wr (fun b => b < wr.heap.size) (nst (opf b) base k) (.slice a (nst (opf b) base k).length ca)) ∧ Below w.heap.size w wr) (fun _ c _ => 30 - (intOf c).toNat)
  case atStart => exact ⟨0, rfl, by omega, ⟨_, _, by rw [nst, unhide HBl], by rw [nst, unhide HBl]; exact unhide HCd2⟩, unhide HB1⟩
  case round =>
    obtain ⟨k, rfl, hkn, ⟨a, c, rfl, hcode⟩, hbel⟩ := hrel
    clear HCd2 HBl HB1
    by_cases h1 : (k : Int) < kk
    · have hop := opf_or hb k
      have hbd : 0 ≤ ((k : Int) + b) % 2 ∧ ((k : Int) + b) % 2 ≤ 1 := by unfold opf at hop; omega
      have hb01 : 0 ≤ b ∧ b ≤ 1 := by omega
      have hnb := blk_code (opf b k) hcode _ (one_al wr (.cells #[.int .u8 (opf b k), .int .i64 0, .int .u32 0, .int .u32 0, .int .u8 0, .slice a (nst (opf b) base k).length c, .slice none 0 0, .slice none 0 0] 69)) (heap_alloc_new wr _)
      have hbn : Below w.heap.size w (wr.alloc (.cells #[.int .u8 (opf b k), .int .i64 0, .int .u32 0, .int .u32 0, .int .u8 0, .slice a (nst (opf b) base k).length c, .slice none 0 0, .slice none 0 0] 69)) := hbel.trans ((one_al wr _).mono hbel.size)
      have HNb := hide hnb; have HBn := hide hbn
      have HOp := hide (show opf b k = 2 + ((k : Int) + b) % 2 from rfl)
      generalize hln : (nst (opf b) base k).length = ln at *
      have HLn := hide hln
      clear hcode hbel hnb hbn hln hop hb
      rw [unhide HOp] at HNb HBn
      go_wp2
      go_roundw
      case rel => exact ⟨k + 1, by go_num, by omega, ⟨some ⟨wr.heap.size, 0, none⟩, 1, by rw [nst]; rfl, by rw [nst]; exact unhide HNb⟩, unhide HBn⟩
      case measure => simp [intOf]; omega
    · have hkq : k = kk := by omega
      subst hkq
      clear h1 hkn
      have hfit := unhide HFit k
      have hov : (over (scn [] 0 (nst (opf b) base k)) 0).isSome = decide (0 ≤ tg ∧ tg ≤ (k : Int)) := labels_over (opf_or hb) k (unhide HGood _)
      obtain ⟨L, hL⟩ : ∃ L, nst (opf b) base k = L := ⟨_, rfl⟩
      rw [hL] at hcode hfit hov ⊢
      clear hL
      obtain ⟨q1, q2, q3, q4, q5⟩ := hfit
      have hsc := scene_any (w := wr) (pa := none) (pc := 0) (ps := []) 0 (body := L) (ba := a) (bc := c) (nil_lies _ _) hcode
      have HSc := hide hsc; have HBel := hide hbel; have HOv := hide hov
      have HQ1 := hide q1; have HQ2 := hide q2; have HQ3 := hide q3; have HQ4 := hide q4
      clear hsc hbel hcode hov q1 q2 q3 q4 q5 HFit HGood
      go_wp2_with fail
      refine (unhide HSc).mono ?_
      rintro e w2 ⟨⟨v0, v1, v2, v3, v4, v5, v6, v7, rfl, hM2⟩, hb2⟩
      have hgm := Gm.giveModule_any (scn [] 0 L) (fun b => b < w2.heap.size) v0 v1 v2 v3 v4 v5 v6 v7 w2 (fun q hq => hq) hM2 (scn_szm (by simp) (by simp) (unhide HQ2) (by have := unhide HQ4; omega))
      have HGm := hide hgm; have HB2 := hide ((unhide HBel).trans (hb2.mono (unhide HBel).size))
      clear hgm hM2 hb2 HSc
      go_wp2_with fail
      refine (unhide HGm).mono ?_
      rintro e w3 ⟨u0, u1, u2, u3, u4, u5, u6, u7, rfl, hM3, hb3⟩
      have hM4 := hM3.moved (w' := w3) (g' := fun b => b < w3.heap.size) (fun q hq _ => ⟨hq, rfl⟩) (Nat.le_refl _)
      obtain ⟨a0, k0, hv0⟩ := hM4.l0.sl
      obtain ⟨a1, k1, hv1⟩ := hM4.l1.sl
      obtain ⟨a2, k2, hv2⟩ := hM4.l2.sl
      obtain ⟨a3, k3, hv3⟩ := hM4.l3.sl
      obtain ⟨a4, k4, hv4⟩ := hM4.l4.sl
      obtain ⟨a5, k5, hv5⟩ := hM4.l5.sl
      obtain ⟨a6, k6, hv6⟩ := hM4.l6.sl
      obtain ⟨a7, k7, hv7⟩ := hM4.l7.sl
      subst hv0 hv1 hv2 hv3 hv4 hv5 hv6 hv7
      have hB4 : Below w.heap.size w w3 := (unhide HB2).trans (hb3.mono (unhide HB2).size)
      have hbo := body_any ciOk hM4 (scn_wf (by simp) (by decide) (unhide HQ1)) ((unhide HTb).below hB4) (scn_szv (by simp) (unhide HQ1) (unhide HQ2) (by have := unhide HQ3; omega)) 0
      have hsu := fun U (hU : Below w.heap.size w U) => sure08 U ((unhide HTb).below hU) ((unhide HEr).below (Nat.le_refl _) hU)
      have hnu := fun U (hU : Below w.heap.size w U) => num_hit 7 U ((unhide HEr).below (Nat.le_refl _) hU)
      have hge : hgE (scn [] 0 L) 0 = if (over (scn [] 0 L) 0).isSome then 0 else 7 := rfl
      rw [hge, unhide HOv] at hbo
      have HBo := hide hbo; have HB4 := hide hB4; have HSu := hide hsu; have HNu := hide hnu
      clear hbo hB4 hsu hnu hge hM3 hM4 hb3 HGm HB2 HTb HEr HQ1 HQ2 HQ3 HQ4 HBel HOv
      by_cases hc : 0 ≤ tg ∧ tg ≤ (k : Int)
      · rw [show errV (if decide (0 ≤ tg ∧ tg ≤ (k : Int)) = true then 0 else 7) = .nilIface from by rw [if_pos (by simpa using hc)]; exact errV_0] at HBo
        obtain ⟨hc1, hc2⟩ := hc
        go_wp2_with fail
        refine (unhide HBo).mono ?_
        rintro e w5 ⟨rfl, hb5⟩
        have HB5 := hide ((unhide HB4).trans (hb5.mono (unhide HB4).size))
        clear hb5
        go_wp2_with fail
        refine (unhide HSu _ (unhide HB5)).mono ?_
        rintro e w6 ⟨rfl, hb6⟩
        have HB6 := hide ((unhide HB5).trans (hb6.mono (unhide HB5).size))
        clear hb6
        go_wp2
        go_ret
        exact ⟨rfl, unhide HB6⟩
      · rw [show errV (if decide (0 ≤ tg ∧ tg ≤ (k : Int)) = true then 0 else 7) = .iface 102 (.int .i64 7) from by rw [if_neg (by simpa using hc)]; exact errV_7] at HBo
        have hcc : tg < 0 ∨ (0 ≤ tg ∧ (k : Int) < tg) := by omega
        clear hc
        rcases hcc with hc1 | ⟨hc1, hc2⟩
        · skip
          go_wp2_with fail
          refine (unhide HBo).mono ?_
          rintro e w5 ⟨rfl, hb5⟩
          have HB5 := hide ((unhide HB4).trans (hb5.mono (unhide HB4).size))
          clear hb5
          go_wp2_with fail
          refine (unhide HNu _ (unhide HB5)).mono ?_
          rintro e w6 ⟨rfl, hb6⟩
          have HB6 := hide ((unhide HB5).trans (hb6.mono (unhide HB5).size))
          clear hb6
          go_wp2_with fail
          refine (unhide HSu _ (unhide HB6)).mono ?_
          rintro e w7 ⟨rfl, hb7⟩
          have HB7 := hide ((unhide HB6).trans (hb7.mono (unhide HB6).size))
          clear hb7
          go_wp2
          go_ret
          first | exact ⟨rfl, unhide HB7⟩ | exact ⟨by simp; omega, unhide HB7⟩
        · skip
          go_wp2_with fail
          refine (unhide HBo).mono ?_
          rintro e w5 ⟨rfl, hb5⟩
          have HB5 := hide ((unhide HB4).trans (hb5.mono (unhide HB4).size))
          clear hb5
          go_wp2_with fail
          refine (unhide HNu _ (unhide HB5)).mono ?_
          rintro e w6 ⟨rfl, hb6⟩
          have HB6 := hide ((unhide HB5).trans (hb6.mono (unhide HB5).size))
          clear hb6
          go_wp2_with fail
          refine (unhide HSu _ (unhide HB6)).mono ?_
          rintro e w7 ⟨rfl, hb7⟩
          have HB7 := hide ((unhide HB6).trans (hb7.mono (unhide HB6).size))
          clear hb7
          go_wp2
          go_ret
          first | exact ⟨rfl, unhide HB7⟩ | exact ⟨by simp; omega, unhide HB7⟩
end Vw
end Go.Proofs.YtofkapkplnmklaaGreatDoor

/- ValidLabels: where the label of a br_table is none. -/
namespace Go.Proofs.YtofkapkplnmklaaGreatDoor
open Go.RowKit Go.Shelf
namespace Vw
set_option linter.unusedVariables false
set_option linter.unusedSimpArgs false
theorem three_of (way : Int) : wrap64 ((IntKind.u64.wrap way).tmod 3) = 0 ∨ wrap64 ((IntKind.u64.wrap way).tmod 3) = 1 ∨ wrap64 ((IntKind.u64.wrap way).tmod 3) = 2 := by
  have h0 : 0 ≤ IntKind.u64.wrap way := by simp [IntKind.wrap, IntKind.bits, IntKind.signed]; omega
  have h1 : (IntKind.u64.wrap way).tmod 3 = (IntKind.u64.wrap way) % 3 := Int.tmod_eq_emod_of_nonneg h0
  rw [h1]
  have h2 : 0 ≤ (IntKind.u64.wrap way) % 3 ∧ (IntKind.u64.wrap way) % 3 < 3 := by omega
  generalize (IntKind.u64.wrap way) % 3 = z at *
  unfold wrap64; omega
set_option maxRecDepth 100000 in
set_option maxHeartbeats 6400000 in
theorem labels_walk4 (n tg way : Int) (w : World) (hT : Tb w) (hE : ErrT w) (hr : tg < 0 ∨ 4294967296 ≤ tg) (hx : wrap64 ((IntKind.u64.wrap way).tmod 3) = 1) :
    Calls Tryz.prog 8 #[.int .i64 n, .int .i64 tg, .int .i64 way] w fun e w' => e = .returned (.bool true) ∧ Below w.heap.size w w' := by
  have hB1 := one_al w (.cells #[.int .u8 12, .int .i64 tg, .int .u32 0, .int .u32 0, .int .u8 0, .slice none 0 0, .slice none 0 0, .slice none 0 0] 69)
  obtain ⟨W1, hW1⟩ : ∃ W, w.alloc (.cells #[.int .u8 12, .int .i64 tg, .int .u32 0, .int .u32 0, .int .u8 0, .slice none 0 0, .slice none 0 0, .slice none 0 0] 69) = W := ⟨_, rfl⟩
  rw [hW1] at hB1
  have hsu := sure08 W1 (hT.below hB1) (hE.below (Nat.le_refl _) hB1)
  have HSu := hide hsu; have HW1 := hide hW1; have HB1 := hide hB1
  clear hsu hW1 hB1 hT hE
  rcases hr with hr | hr
  · go_enter Tryz.func8, Tryz.ntmps8
    go_upto_region 4 with fail
    rw [hx, unhide HW1]
    clear hx HW1
    go_wp2_with fail
    refine (unhide HSu).mono ?_
    rintro e w6 ⟨rfl, hb6⟩
    have HB6 := hide ((unhide HB1).trans (hb6.mono (unhide HB1).size))
    clear hb6
    go_wp2
    go_ret
    exact ⟨rfl, unhide HB6⟩
  · have hr2 : ¬ tg < 0 := by omega
    go_enter Tryz.func8, Tryz.ntmps8
    go_upto_region 4 with fail
    rw [hx, unhide HW1]
    clear hx HW1
    go_wp2_with fail
    refine (unhide HSu).mono ?_
    rintro e w6 ⟨rfl, hb6⟩
    have HB6 := hide ((unhide HB1).trans (hb6.mono (unhide HB1).size))
    clear hb6
    go_wp2
    go_ret
    exact ⟨rfl, unhide HB6⟩
end Vw
end Go.Proofs.YtofkapkplnmklaaGreatDoor

/- ValidLabels returns true for every three numbers: within n modulo 30 blocks a branch (br, br_if, br_table) may go to each of them, and to the body, and not further; else the error is 7. Of ops' tables and of errors.errorType it takes what the program's text lays (the card ties it). -/
namespace Go.Proofs.YtofkapkplnmklaaGreatDoor.validLabels
open Go.ChangeShapes Go.WideShapes Go.ChangeAt Go.RowKit
set_option linter.unusedVariables false

theorem own : ownKnob Tryz.prog.godebug = none := by kernel_rfl
theorem laidOut : laidOutB Tryz.prog = true := by kernel_rfl

theorem walk (a0 : Int) (a1 : Int) (a2 : Int) (w : World) (hErr : ErrT w) (hTb : Tb w) (w0 : (Lit.int .i64 a0).wf = true) (w1 : (Lit.int .i64 a1).wf = true) (w2 : (Lit.int .i64 a2).wf = true) :
    Calls Tryz.prog 8 #[.int .i64 a0, .int .i64 a1, .int .i64 a2] w fun e w' => e = .returned (.bool true) ∧ Below w.heap.size w w' := by
  have hb1 := bounds_i64 w1
  have hb : -9223372036854775808 ≤ a1 ∧ a1 < 9223372036854775808 := by omega
  rcases Vw.three_of a2 with h | h | h
  · exact Vw.labels_walk1 a0 a1 a2 w hTb hErr hb h
  · by_cases hr : 0 ≤ a1 ∧ a1 < 4294967296
    · exact Vw.labels_walk2 a0 a1 a2 w hTb hErr hb hr.1 hr.2 h
    · exact Vw.labels_walk4 a0 a1 a2 w hTb hErr (by omega) h
  · exact Vw.labels_walk3 a0 a1 a2 w hTb hErr hb h

noncomputable def laidWorld (os : Os) : World := ({ World.holding Tryz.prog os ⟨#[], #[], []⟩ with heap := (((((((World.holding Tryz.prog os ⟨#[], #[], []⟩).heap.modify 0 fun | .cells _ t frozen => .cells #[.iface 182 (.agg #[.pointer (some ⟨6, 44, none⟩)])] t frozen | o => o).modify 3 fun | .cells _ t frozen => .cells #[.string ⟨#[117, 110, 114, 101, 97, 99, 104, 97, 98, 108, 101]⟩, .string ⟨#[110, 111, 112]⟩, .string ⟨#[98, 108, 111, 99, 107]⟩, .string ⟨#[108, 111, 111, 112]⟩, .string ⟨#[105, 102]⟩, .string ⟨#[]⟩, .string ⟨#[]⟩, .string ⟨#[]⟩, .string ⟨#[]⟩, .string ⟨#[]⟩, .string ⟨#[]⟩, .string ⟨#[]⟩, .string ⟨#[98, 114]⟩, .string ⟨#[98, 114, 95, 105, 102]⟩, .string ⟨#[98, 114, 95, 116, 97, 98, 108, 101]⟩, .string ⟨#[114, 101, 116, 117, 114, 110]⟩, .string ⟨#[99, 97, 108, 108]⟩, .string ⟨#[99, 97, 108, 108, 95, 105, 110, 100, 105, 114, 101, 99, 116]⟩, .string ⟨#[]⟩, .string ⟨#[]⟩, .string ⟨#[]⟩, .string ⟨#[]⟩, .string ⟨#[]⟩, .string ⟨#[]⟩, .string ⟨#[]⟩, .string ⟨#[]⟩, .string ⟨#[100, 114, 111, 112]⟩, .string ⟨#[115, 101, 108, 101, 99, 116]⟩, .string ⟨#[]⟩, .string ⟨#[]⟩, .string ⟨#[]⟩, .string ⟨#[]⟩, .string ⟨#[108, 111, 99, 97, 108, 46, 103, 101, 116]⟩, .string ⟨#[108, 111, 99, 97, 108, 46, 115, 101, 116]⟩, .string ⟨#[108, 111, 99, 97, 108, 46, 116, 101, 101]⟩, .string ⟨#[103, 108, 111, 98, 97, 108, 46, 103, 101, 116]⟩, .string ⟨#[103, 108, 111, 98, 97, 108, 46, 115, 101, 116]⟩, .string ⟨#[]⟩, .string ⟨#[]⟩, .string ⟨#[]⟩, .string ⟨#[105, 51, 50, 46, 108, 111, 97, 100]⟩, .string ⟨#[105, 54, 52, 46, 108, 111, 97, 100]⟩, .string ⟨#[]⟩, .string ⟨#[]⟩, .string ⟨#[105, 51, 50, 46, 108, 111, 97, 100, 56, 95, 115]⟩, .string ⟨#[105, 51, 50, 46, 108, 111, 97, 100, 56, 95, 117]⟩, .string ⟨#[105, 51, 50, 46, 108, 111, 97, 100, 49, 54, 95, 115]⟩, .string ⟨#[105, 51, 50, 46, 108, 111, 97, 100, 49, 54, 95, 117]⟩, .string ⟨#[105, 54, 52, 46, 108, 111, 97, 100, 56, 95, 115]⟩, .string ⟨#[105, 54, 52, 46, 108, 111, 97, 100, 56, 95, 117]⟩, .string ⟨#[105, 54, 52, 46, 108, 111, 97, 100, 49, 54, 95, 115]⟩, .string ⟨#[105, 54, 52, 46, 108, 111, 97, 100, 49, 54, 95, 117]⟩, .string ⟨#[105, 54, 52, 46, 108, 111, 97, 100, 51, 50, 95, 115]⟩, .string ⟨#[105, 54, 52, 46, 108, 111, 97, 100, 51, 50, 95, 117]⟩, .string ⟨#[105, 51, 50, 46, 115, 116, 111, 114, 101]⟩, .string ⟨#[105, 54, 52, 46, 115, 116, 111, 114, 101]⟩, .string ⟨#[]⟩, .string ⟨#[]⟩, .string ⟨#[105, 51, 50, 46, 115, 116, 111, 114, 101, 56]⟩, .string ⟨#[105, 51, 50, 46, 115, 116, 111, 114, 101, 49, 54]⟩, .string ⟨#[105, 54, 52, 46, 115, 116, 111, 114, 101, 56]⟩, .string ⟨#[105, 54, 52, 46, 115, 116, 111, 114, 101, 49, 54]⟩, .string ⟨#[105, 54, 52, 46, 115, 116, 111, 114, 101, 51, 50]⟩, .string ⟨#[109, 101, 109, 111, 114, 121, 46, 115, 105, 122, 101]⟩, .string ⟨#[109, 101, 109, 111, 114, 121, 46, 103, 114, 111, 119]⟩, .string ⟨#[105, 51, 50, 46, 99, 111, 110, 115, 116]⟩, .string ⟨#[105, 54, 52, 46, 99, 111, 110, 115, 116]⟩] t frozen | o => o).modify 4 fun | .cells _ t frozen => .cells #[.string ⟨#[105, 51, 50, 46, 101, 113, 122]⟩, .string ⟨#[105, 51, 50, 46, 101, 113]⟩, .string ⟨#[105, 51, 50, 46, 110, 101]⟩, .string ⟨#[105, 51, 50, 46, 108, 116, 95, 115]⟩, .string ⟨#[105, 51, 50, 46, 108, 116, 95, 117]⟩, .string ⟨#[105, 51, 50, 46, 103, 116, 95, 115]⟩, .string ⟨#[105, 51, 50, 46, 103, 116, 95, 117]⟩, .string ⟨#[105, 51, 50, 46, 108, 101, 95, 115]⟩, .string ⟨#[105, 51, 50, 46, 108, 101, 95, 117]⟩, .string ⟨#[105, 51, 50, 46, 103, 101, 95, 115]⟩, .string ⟨#[105, 51, 50, 46, 103, 101, 95, 117]⟩, .string ⟨#[105, 54, 52, 46, 101, 113, 122]⟩, .string ⟨#[105, 54, 52, 46, 101, 113]⟩, .string ⟨#[105, 54, 52, 46, 110, 101]⟩, .string ⟨#[105, 54, 52, 46, 108, 116, 95, 115]⟩, .string ⟨#[105, 54, 52, 46, 108, 116, 95, 117]⟩, .string ⟨#[105, 54, 52, 46, 103, 116, 95, 115]⟩, .string ⟨#[105, 54, 52, 46, 103, 116, 95, 117]⟩, .string ⟨#[105, 54, 52, 46, 108, 101, 95, 115]⟩, .string ⟨#[105, 54, 52, 46, 108, 101, 95, 117]⟩, .string ⟨#[105, 54, 52, 46, 103, 101, 95, 115]⟩, .string ⟨#[105, 54, 52, 46, 103, 101, 95, 117]⟩] t frozen | o => o).modify 5 fun | .cells _ t frozen => .cells #[.string ⟨#[105, 51, 50, 46, 99, 108, 122]⟩, .string ⟨#[105, 51, 50, 46, 99, 116, 122]⟩, .string ⟨#[105, 51, 50, 46, 112, 111, 112, 99, 110, 116]⟩, .string ⟨#[105, 51, 50, 46, 97, 100, 100]⟩, .string ⟨#[105, 51, 50, 46, 115, 117, 98]⟩, .string ⟨#[105, 51, 50, 46, 109, 117, 108]⟩, .string ⟨#[105, 51, 50, 46, 100, 105, 118, 95, 115]⟩, .string ⟨#[105, 51, 50, 46, 100, 105, 118, 95, 117]⟩, .string ⟨#[105, 51, 50, 46, 114, 101, 109, 95, 115]⟩, .string ⟨#[105, 51, 50, 46, 114, 101, 109, 95, 117]⟩, .string ⟨#[105, 51, 50, 46, 97, 110, 100]⟩, .string ⟨#[105, 51, 50, 46, 111, 114]⟩, .string ⟨#[105, 51, 50, 46, 120, 111, 114]⟩, .string ⟨#[105, 51, 50, 46, 115, 104, 108]⟩, .string ⟨#[105, 51, 50, 46, 115, 104, 114, 95, 115]⟩, .string ⟨#[105, 51, 50, 46, 115, 104, 114, 95, 117]⟩, .string ⟨#[105, 51, 50, 46, 114, 111, 116, 108]⟩, .string ⟨#[105, 51, 50, 46, 114, 111, 116, 114]⟩, .string ⟨#[105, 54, 52, 46, 99, 108, 122]⟩, .string ⟨#[105, 54, 52, 46, 99, 116, 122]⟩, .string ⟨#[105, 54, 52, 46, 112, 111, 112, 99, 110, 116]⟩, .string ⟨#[105, 54, 52, 46, 97, 100, 100]⟩, .string ⟨#[105, 54, 52, 46, 115, 117, 98]⟩, .string ⟨#[105, 54, 52, 46, 109, 117, 108]⟩, .string ⟨#[105, 54, 52, 46, 100, 105, 118, 95, 115]⟩, .string ⟨#[105, 54, 52, 46, 100, 105, 118, 95, 117]⟩, .string ⟨#[105, 54, 52, 46, 114, 101, 109, 95, 115]⟩, .string ⟨#[105, 54, 52, 46, 114, 101, 109, 95, 117]⟩, .string ⟨#[105, 54, 52, 46, 97, 110, 100]⟩, .string ⟨#[105, 54, 52, 46, 111, 114]⟩, .string ⟨#[105, 54, 52, 46, 120, 111, 114]⟩, .string ⟨#[105, 54, 52, 46, 115, 104, 108]⟩, .string ⟨#[105, 54, 52, 46, 115, 104, 114, 95, 115]⟩, .string ⟨#[105, 54, 52, 46, 115, 104, 114, 95, 117]⟩, .string ⟨#[105, 54, 52, 46, 114, 111, 116, 108]⟩, .string ⟨#[105, 54, 52, 46, 114, 111, 116, 114]⟩] t frozen | o => o).modify 1 fun | .cells _ t frozen => .cells #[.int .u8 0, .int .u8 1, .int .i64 0, .int .u8 0, .int .u8 0, .int .u8 0, .int .u8 2, .int .u8 3, .int .i64 6, .int .u8 0, .int .u8 0, .int .u8 0, .int .u8 4, .int .u8 4, .int .i64 7, .int .u8 0, .int .u8 0, .int .u8 0, .int .u8 12, .int .u8 13, .int .i64 3, .int .u8 0, .int .u8 0, .int .u8 0, .int .u8 14, .int .u8 14, .int .i64 8, .int .u8 0, .int .u8 0, .int .u8 0, .int .u8 15, .int .u8 15, .int .i64 0, .int .u8 0, .int .u8 0, .int .u8 0, .int .u8 16, .int .u8 16, .int .i64 3, .int .u8 0, .int .u8 0, .int .u8 0, .int .u8 17, .int .u8 17, .int .i64 9, .int .u8 0, .int .u8 0, .int .u8 0, .int .u8 26, .int .u8 27, .int .i64 0, .int .u8 0, .int .u8 0, .int .u8 0, .int .u8 32, .int .u8 36, .int .i64 3, .int .u8 0, .int .u8 0, .int .u8 0, .int .u8 40, .int .u8 40, .int .i64 4, .int .u8 127, .int .u8 0, .int .u8 127, .int .u8 41, .int .u8 41, .int .i64 4, .int .u8 127, .int .u8 0, .int .u8 126, .int .u8 44, .int .u8 47, .int .i64 4, .int .u8 127, .int .u8 0, .int .u8 127, .int .u8 48, .int .u8 53, .int .i64 4, .int .u8 127, .int .u8 0, .int .u8 126, .int .u8 54, .int .u8 54, .int .i64 4, .int .u8 127, .int .u8 127, .int .u8 0, .int .u8 55, .int .u8 55, .int .i64 4, .int .u8 127, .int .u8 126, .int .u8 0, .int .u8 58, .int .u8 59, .int .i64 4, .int .u8 127, .int .u8 127, .int .u8 0, .int .u8 60, .int .u8 62, .int .i64 4, .int .u8 127, .int .u8 126, .int .u8 0, .int .u8 63, .int .u8 63, .int .i64 5, .int .u8 0, .int .u8 0, .int .u8 127, .int .u8 64, .int .u8 64, .int .i64 5, .int .u8 127, .int .u8 0, .int .u8 127, .int .u8 65, .int .u8 65, .int .i64 1, .int .u8 0, .int .u8 0, .int .u8 127, .int .u8 66, .int .u8 66, .int .i64 2, .int .u8 0, .int .u8 0, .int .u8 126, .int .u8 69, .int .u8 69, .int .i64 0, .int .u8 127, .int .u8 0, .int .u8 127, .int .u8 70, .int .u8 79, .int .i64 0, .int .u8 127, .int .u8 127, .int .u8 127, .int .u8 80, .int .u8 80, .int .i64 0, .int .u8 126, .int .u8 0, .int .u8 127, .int .u8 81, .int .u8 90, .int .i64 0, .int .u8 126, .int .u8 126, .int .u8 127, .int .u8 103, .int .u8 105, .int .i64 0, .int .u8 127, .int .u8 0, .int .u8 127, .int .u8 106, .int .u8 120, .int .i64 0, .int .u8 127, .int .u8 127, .int .u8 127, .int .u8 121, .int .u8 123, .int .i64 0, .int .u8 126, .int .u8 0, .int .u8 126, .int .u8 124, .int .u8 138, .int .i64 0, .int .u8 126, .int .u8 126, .int .u8 126, .int .u8 167, .int .u8 167, .int .i64 0, .int .u8 126, .int .u8 0, .int .u8 127, .int .u8 172, .int .u8 173, .int .i64 0, .int .u8 127, .int .u8 0, .int .u8 126] t frozen | o => o).modify 2 fun | .cells _ t frozen => .cells #[.int .u8 0, .int .u8 0, .int .u8 0, .int .u8 0, .int .u8 0, .int .u8 0, .int .u8 0, .int .u8 0, .int .u8 0, .int .u8 0, .int .u8 0, .int .u8 0, .int .u8 0, .int .u8 0, .int .u8 0, .int .u8 0, .int .u8 0, .int .u8 0, .int .u8 0, .int .u8 0, .int .u8 0, .int .u8 0, .int .u8 0, .int .u8 0, .int .u8 0, .int .u8 0, .int .u8 0, .int .u8 0, .int .u8 0, .int .u8 0, .int .u8 0, .int .u8 0, .int .u8 0, .int .u8 0, .int .u8 0, .int .u8 0, .int .u8 0, .int .u8 0, .int .u8 0, .int .u8 0, .int .u8 4, .int .u8 8, .int .u8 0, .int .u8 0, .int .u8 1, .int .u8 1, .int .u8 2, .int .u8 2, .int .u8 1, .int .u8 1, .int .u8 2, .int .u8 2, .int .u8 4, .int .u8 4, .int .u8 4, .int .u8 8, .int .u8 0, .int .u8 0, .int .u8 1, .int .u8 2, .int .u8 1, .int .u8 2, .int .u8 4] t frozen | o => o) } : World)
set_option maxRecDepth 100000 in
theorem laid_met (os : Os) (args : Array Value) : laidMetH Tryz.prog Rows.validLabelsRow.laid ((laidWorld os).forCall (fun _ _ => 0) ⟨#[], args, []⟩).memory :=
  laidMetH_of_parts (laidMet_of_run' 8 (by kernel_rfl) (by kernel_rfl)) (by kernel_rfl)

set_option maxRecDepth 100000 in
theorem lifted (os : Os) (started : os.Started) (H : Type) (enc : TypeId × Value → H) :
    ReturnsInHanded {} Tryz.checked os 8 .any (fun w args => (Rows.validLabelsSpec.pre enc Tryz.prog Tryz.f8 [] false w args ∧ laidMetH Tryz.prog Rows.validLabelsRow.laid w) ∧ sizedMet enc Tryz.prog Tryz.f8 (OpenSpec.ofChange Rows.validLabelsSpec) false w args) (Rows.validLabelsSpec.post enc Tryz.prog Tryz.f8 false true false false) := by
  refine returnsInHanded_of_change_and (C := Tryz.checked) (X := fun w _ => laidMetH Tryz.prog Rows.validLabelsRow.laid w) (fun _ _ _ hh h => h.of_heap hh) own started (by kernel_rfl) Tryz.func8
    (ChangeSpec.witness_at (enc := enc) (C := Tryz.checked) (os := os) (X := fun w _ => laidMetH Tryz.prog Rows.validLabelsRow.laid w) false (laidWorld os) #[.int .i64 0, .int .i64 0, .int .i64 0] 8 rfl (by kernel_rfl) (by kernel_rfl) (by kernel_rfl) (by kernel_rfl) (by kernel_rfl) (laid_met os _)) ?_
  intro W base args ds gs before hval0 hW _ _ hL _
  have hLL0 : laidMet Tryz.prog [("mandrel/ops.names", Rows.laid_mandrel_ops_names), ("mandrel/ops.testNames", Rows.laid_mandrel_ops_testNames), ("mandrel/ops.reckonNames", Rows.laid_mandrel_ops_reckonNames), ("mandrel/ops.families", Rows.laid_mandrel_ops_families), ("mandrel/ops.accessBytes", Rows.laid_mandrel_ops_accessBytes)] W ∧ handlesMet Tryz.prog [("errors.errorType", Rows.laid_errors_errorType)] W := hL
  have hg : ErrT W := handle_of_met hLL0.2
  have hLL := hLL0.1
  have hgTb : Tb W := ⟨⟨names_laid hLL, tests_laid hLL.tail, reckons_laid hLL.tail.tail⟩, families_laid hLL.tail.tail.tail, access_laid hLL.tail.tail.tail.tail⟩
  have hval : ∀ (j : Nat) t v, Tryz.f8.params[j]? = some t → args[j]? = some v → Value.okWide Tryz.prog W .any base t v := hval0
  have hW' := hW
  obtain ⟨p, q, hA0, hV, rfl, hfz, hnd⟩ := hW
  have hA : DataW.TrodAll enc Tryz.prog W 0 (fun _ => true) true Tryz.f8.params.toList args.toList ds p := hA0
  rw [Tryz.params8] at hA hval
  obtain ⟨v0, vs0, d0, ds0, p0, q0, hargs, rfl, rfl, h0, r0⟩ := trodAll_cons hA
  obtain ⟨v1, vs1, d1, ds1, p1, q1, rfl, rfl, rfl, h1, r1⟩ := trodAll_cons r0
  obtain ⟨v2, vs2, d2, ds2, p2, q2, rfl, rfl, rfl, h2, r2⟩ := trodAll_cons r1
  obtain ⟨rfl, rfl, rfl⟩ := trodAll_nil r2
  obtain rfl : args = #[v0, v1, v2] := by cases args; simp_all
  obtain ⟨rfl, rfl⟩ := trodVars_none hV
  obtain ⟨a0, rfl, rfl, rfl, w0⟩ := open_int Tryz.underlying3 (hval 0 3 v0 rfl rfl) h0
  obtain ⟨a1, rfl, rfl, rfl, w1⟩ := open_int Tryz.underlying2 (hval 1 2 v1 rfl rfl) h1
  obtain ⟨a2, rfl, rfl, rfl, w2⟩ := open_int Tryz.underlying3 (hval 2 3 v2 rfl rfl) h2
  clear hA0 hval0
  refine (walk a0 a1 a2 W hg hgTb w0 w1 w2).mono fun e W' ⟨he, bel⟩ => ?_
  subst he
  exact ⟨_, rfl, _, _, _, [], _, [], hW', trodAll_mk1 (shut_bool Tryz.underlying4 _), (trodAll_cons_mk (shut_int Tryz.underlying3 w0) (trodAll_cons_mk (shut_int Tryz.underlying2 w1) (trodAll_cons_mk (shut_int Tryz.underlying3 w2) trodAll_mk0))), rfl, bel.frame _, fun h => by cases h⟩

theorem proved : Rows.ValidLabelsSaid :=
  OpenClaim.holds_of_wide 8 Tryz.f8 rfl rfl rfl rfl rfl rfl rfl ⟨rfl, rfl, rfl, rfl, rfl⟩ rfl rfl rfl rfl rfl (by kernel_rfl) Tryz.func8 (by kernel_rfl)
    (of_decide_eq_true (by kernel_rfl)) (by unfold Func.isWrapper; first | (rw [if_pos (by decide +kernel)]; kernel_rfl) | (rw [if_neg (by decide +kernel)]; exact ⟨rfl, rfl⟩))
    (fun os started H enc _ => lifted os started H enc)
end Go.Proofs.YtofkapkplnmklaaGreatDoor.validLabels

namespace Go.Proofs.YtofkapkplnmklaaGreatDoor
theorem validLabels_card : Rows.ValidLabelsCardSaid :=
  Claim7.holds_tied_plain_at .later [] _ _ _ _ validLabels.proved (fun _ h => by cases h) (by kernel_rfl) (fun _ h => by cases h) validLabels_row_tie rfl ⟨rfl, rfl⟩ (by kernel_rfl) rfl
    (fun f fn hf hfn => by
      obtain rfl : 8 = f := Option.some.inj (Eq.trans (by kernel_rfl) hf)
      obtain rfl : fn = Tryz.f8 := (Option.some.inj (Tryz.func8.symm.trans hfn)).symm
      exact ⟨by kernel_rfl, fun j t ht => by
        rw [Tryz.params8] at ht
        rcases j with _ | _ | _ | j
        · obtain rfl : t = 3 := by simpa using ht.symm
          exact (show Tryz.prog.wantsStandIn 3 = false by kernel_rfl)
        · obtain rfl : t = 2 := by simpa using ht.symm
          exact (show Tryz.prog.wantsStandIn 2 = false by kernel_rfl)
        · obtain rfl : t = 3 := by simpa using ht.symm
          exact (show Tryz.prog.wantsStandIn 3 = false by kernel_rfl)
        · simp at ht⟩)
    (by kernel_rfl)
end Go.Proofs.YtofkapkplnmklaaGreatDoor
