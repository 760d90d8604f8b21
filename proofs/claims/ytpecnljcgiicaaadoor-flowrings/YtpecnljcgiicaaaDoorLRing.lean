/- FlowRings returns true for every two ints, and leaves them: of blocks each of which jumps to the next one, and the last one to the k-th, all can be reached, they are one loop from the k-th on, threaded nothing changes, and joined there are as many as are ahead of the loop (none, or one), and one. Of ops' families it takes what the program's text lays (the card ties it). -/
import Derived.Test.YtpecnljcgiicaaaDoorRG
import Derived.Test.YtpecnljcgiicaaaDoorRI
import Derived.Test.YtpecnljcgiicaaaDoorRows
import Derived.WalkKit
import Derived.ProofKit
import Derived.OpenShut
import Derived.ShutString
import Derived.Test.YtpecnljcgiicaaaDoorTie
import Derived.Test.YtpecnljcgiicaaaDoorCards
import Derived.Test.YtpecnljcgiicaaaDoorOpL

/- flow: FlowRings. -/
namespace Go.Proofs.YtpecnljcgiicaaaDoor
open Go.RowKit
namespace Fw
set_option linter.unusedVariables false
set_option linter.unusedSimpArgs false
open Vc (NumsL Nums Lies LL Bls BlC InC Bl Co WfC WfB WfI chk siz Fms infoN infoBl own_base RowT cob cob_cells OwnL Its own)

theorem rg_wf {m a : Nat} (hm : m ≤ 20) (ha : a < m) : WfC (rgC m a) := by
  refine ⟨show Vc.i64 0 by unfold Vc.i64; decide, show Vc.i64 1 by unfold Vc.i64; decide, fun b hb => ?_, by show (rg m a m).length ≤ _; unfold rg; simp; omega⟩
  obtain ⟨i, hi, rfl⟩ := List.mem_map.1 hb
  rw [List.mem_range] at hi
  refine ⟨fun y hy => by simp [rgB] at hy; rw [hy]; exact jmp_wf, fun z hz => ?_, show Vc.i64 0 by unfold Vc.i64; decide, by simp [rgB], by simp [rgB]⟩
  simp only [rgB, List.mem_cons, List.not_mem_nil, or_false] at hz
  unfold Vc.i64
  split at hz <;> omega
theorem mod_nat (n : Int) (m : Nat) (hm : 0 < m) : ∃ r : Nat, r < m ∧ (IntKind.u64.wrap n).tmod (m : Int) = (r : Int) := by
  have h0 : 0 ≤ IntKind.u64.wrap n := by rw [IntKind.wrap_u64]; omega
  have hm2 : (0 : Int) < (m : Int) := by omega
  have h1 := Int.emod_nonneg (IntKind.u64.wrap n) (show (m : Int) ≠ 0 by omega)
  have h2 := Int.emod_lt_of_pos (IntKind.u64.wrap n) hm2
  rw [Int.tmod_eq_emod_of_nonneg h0]
  exact ⟨(IntKind.u64.wrap n % (m : Int)).toNat, by omega, by omega⟩
theorem w64s (x : Int) (h0 : 0 ≤ x) (h1 : x < 1000) : wrap64 x = x := by unfold wrap64; omega

set_option maxRecDepth 100000 in
set_option maxHeartbeats 6400000 in
theorem rings_any (n k : Int) (hn : Vc.i64 n) (hk : Vc.i64 k) (w : World) (hT : Fms w) :
    Calls Tryd.prog 3 #[.int .i64 n, .int .i64 k] w fun e w' => e = .returned (.bool true) ∧ Below w.heap.size w w' := by
  have HT := hide hT
  clear hT
  go_enter Tryd.func3, Tryd.ntmps3
  go_upto_region 1 with fail
  go_cut [5] from 19 to 23 (fun m wx => ∃ M : Nat, 1 ≤ M ∧ M ≤ 20 ∧ m = .int .i64 (M : Int) ∧ wx = w)
  case first =>
    go_wp2_with fail
    go_meet
    obtain ⟨r, hr, e⟩ := mod_nat n 20 (by omega)
    have e20 : ((20 : Nat) : Int) = 20 := rfl
    rw [e20] at e
    exact ⟨1 + r, by omega, by omega, by rw [e, w64s (r : Int) (by omega) (by omega), w64s (1 + (r : Int)) (by omega) (by omega)]; congr 1, rfl⟩
  case rest =>
    obtain ⟨M, hM1, hM2, rfl, hwc⟩ := hcut
    have hwc2 := hwc.symm
    clear hwc
    subst hwc2
    have hMi : (M : Int) ≤ 20 := by omega
    have hM0 : (1 : Int) ≤ (M : Int) := by omega
    go_upto_region 2 with fail
    go_cut [6] from 24 to 29 (fun a wx => ∃ A : Nat, A < M ∧ a = .int .i64 (A : Int) ∧ wx = w)
    case first =>
      go_wp2_with fail
      go_meet
      obtain ⟨r, hr, e⟩ := mod_nat k M hM1
      exact ⟨r, hr, by rw [e, w64s (r : Int) (by omega) (by omega)], rfl⟩
    case rest =>
      obtain ⟨A, hA, rfl, hwc⟩ := hcut
      have hwc2 := hwc.symm
      clear hwc
      subst hwc2
      have hAi : (A : Int) < (M : Int) := by omega
      obtain ⟨X, hX⟩ : ∃ X, X = w.alloc (.cells (cob 0 1 false (.slice none 0 0)) 25) := ⟨_, rfl⟩
      have hXb : Below w.heap.size w X := by rw [hX]; exact Vc.one_alloc w _
      have hXz : X.heap.size = w.heap.size + 1 := by rw [hX]; simp
      have hr0 : X.heap[w.heap.size]? = some (.cells (cob 0 1 false (.slice none 0 0)) 25 (0, 0)) := by rw [hX]; exact heap_alloc_new _ _
      have HXb := hide hXb; have HR0 := hide hr0; have HXz := hide hXz; have HA := hide hA; have HM1 := hide hM1; have HM2 := hide hM2
      clear hXb hr0 hXz hA hM1 hM2
      obtain ⟨ib, hib, hb0, hb1, hb2⟩ := info_parts infoBl
      go_upto_region 4 with fail
      rw [show w.alloc (.cells #[.int .i64 0, .int .i64 1, .bool false, .slice none 0 0] 25) = X from hX.symm]
      clear hX
      go_wp2_with fail
      go_loopw [8] (fun c wr => ∃ (j : Nat) (a : Option Addr) (cp : Nat), j ≤ M ∧ c = .int .i64 (j : Int) ∧ wr.heap[w.heap.size]? = some (.cells (cob 0 1 false (.slice a j cp)) 25 (0, 0)) ∧ OwnL BlC 3 32 wr (w.heap.size + 1) (fun q => w.heap.size + 1 ≤ q) (.slice a j cp) (rg M A j) ∧ Below w.heap.size w wr) (fun c _ => M - (intOf c).toNat)
      case atStart => exact ⟨0, none, 0, Nat.zero_le _, rfl, unhide HR0, Vc.OwnL_nil _ _ _ _ _ _, unhide HXb⟩
      case round =>
        obtain ⟨j, a, cp, hj, rfl, hrow, hO, hbe⟩ := hrel
        have hrl : (rg M A j).length = j := by unfold rg; simp
        by_cases hlt : j < M
        · obtain ⟨z, hz⟩ : ∃ z : Int, z = if j + 1 = M then (A : Int) else (j : Int) + 1 := ⟨_, rfl⟩
          have hst : rg M A (j + 1) = rg M A j ++ [⟨[jmpI], [z], 0⟩] := by unfold rg; rw [List.range_succ, List.map_append, hz]; show _ ++ [rgB M A j] = _; unfold rgB; rw [Int.natCast_add]; rfl
          obtain ⟨c0, c1, c2, c3, cf, cl⟩ := cob_cells hrow
          have hal : Below wr.heap.size wr (((wr.alloc (.cells #[.int .u8 193, .int .i64 (-1), .slice none 0 0, .int .i64 0, .int .u32 0] 29)).alloc (.cells #[.int .i64 z] 3)).alloc (.cells #[.slice (some ⟨wr.heap.size, 0, none⟩) 1 1, .slice (some ⟨wr.heap.size + 1, 0, none⟩) 1 1, .int .i64 0] 32)) := (Vc.two_allocs wr _ _).alloc (by simp <;> omega) _
          have hz3 : (((wr.alloc (.cells #[.int .u8 193, .int .i64 (-1), .slice none 0 0, .int .i64 0, .int .u32 0] 29)).alloc (.cells #[.int .i64 z] 3)).alloc (.cells #[.slice (some ⟨wr.heap.size, 0, none⟩) 1 1, .slice (some ⟨wr.heap.size + 1, 0, none⟩) 1 1, .int .i64 0] 32)).heap.size = wr.heap.size + 3 := by simp
          have hrA : (((wr.alloc (.cells #[.int .u8 193, .int .i64 (-1), .slice none 0 0, .int .i64 0, .int .u32 0] 29)).alloc (.cells #[.int .i64 z] 3)).alloc (.cells #[.slice (some ⟨wr.heap.size, 0, none⟩) 1 1, .slice (some ⟨wr.heap.size + 1, 0, none⟩) 1 1, .int .i64 0] 32)).heap[wr.heap.size]? = some (.cells #[.int .u8 193, .int .i64 (-1), .slice none 0 0, .int .i64 0, .int .u32 0] 29 (0, 0)) := by
            rw [Below.heap_alloc _ _ _ (by simp <;> omega), Below.heap_alloc _ _ _ (by simp <;> omega)]; exact heap_alloc_new _ _
          have hrB : (((wr.alloc (.cells #[.int .u8 193, .int .i64 (-1), .slice none 0 0, .int .i64 0, .int .u32 0] 29)).alloc (.cells #[.int .i64 z] 3)).alloc (.cells #[.slice (some ⟨wr.heap.size, 0, none⟩) 1 1, .slice (some ⟨wr.heap.size + 1, 0, none⟩) 1 1, .int .i64 0] 32)).heap[wr.heap.size + 1]? = some (.cells #[.int .i64 z] 3 (0, 0)) := by
            rw [Below.heap_alloc _ _ _ (by simp)]
            have := heap_alloc_new (wr.alloc (.cells #[.int .u8 193, .int .i64 (-1), .slice none 0 0, .int .i64 0, .int .u32 0] 29)) (.cells #[.int .i64 z] 3)
            rw [show (wr.alloc (.cells #[.int .u8 193, .int .i64 (-1), .slice none 0 0, .int .i64 0, .int .u32 0] 29)).heap.size = wr.heap.size + 1 by simp] at this; exact this
          have hrC : (((wr.alloc (.cells #[.int .u8 193, .int .i64 (-1), .slice none 0 0, .int .i64 0, .int .u32 0] 29)).alloc (.cells #[.int .i64 z] 3)).alloc (.cells #[.slice (some ⟨wr.heap.size, 0, none⟩) 1 1, .slice (some ⟨wr.heap.size + 1, 0, none⟩) 1 1, .int .i64 0] 32)).heap[wr.heap.size + 2]? = some (.cells #[.slice (some ⟨wr.heap.size, 0, none⟩) 1 1, .slice (some ⟨wr.heap.size + 1, 0, none⟩) 1 1, .int .i64 0] 32 (0, 0)) := by
            have := heap_alloc_new ((wr.alloc (.cells #[.int .u8 193, .int .i64 (-1), .slice none 0 0, .int .i64 0, .int .u32 0] 29)).alloc (.cells #[.int .i64 z] 3)) (.cells #[.slice (some ⟨wr.heap.size, 0, none⟩) 1 1, .slice (some ⟨wr.heap.size + 1, 0, none⟩) 1 1, .int .i64 0] 32)
            rw [show ((wr.alloc (.cells #[.int .u8 193, .int .i64 (-1), .slice none 0 0, .int .i64 0, .int .u32 0] 29)).alloc (.cells #[.int .i64 z] 3)).heap.size = wr.heap.size + 2 by simp] at this; exact this
          obtain ⟨W3, hW3⟩ : ∃ W3, W3 = (((wr.alloc (.cells #[.int .u8 193, .int .i64 (-1), .slice none 0 0, .int .i64 0, .int .u32 0] 29)).alloc (.cells #[.int .i64 z] 3)).alloc (.cells #[.slice (some ⟨wr.heap.size, 0, none⟩) 1 1, .slice (some ⟨wr.heap.size + 1, 0, none⟩) 1 1, .int .i64 0] 32)) := ⟨_, rfl⟩
          rw [← hW3] at hal hz3 hrA hrB hrC
          obtain ⟨xs, hx, hits⟩ := hO
          rw [hrl] at hx
          have hol : ∀ q, (Value.slice a j cp).ownBlock = some q → w.heap.size + 1 ≤ q ∧ q < wr.heap.size := fun q e => World.ownsRow.lt hx q e
          have hbs := hbe.size
          have hgB : ∀ i, i < 2 → own (fun q => w.heap.size + 1 ≤ q) (.slice a j cp) (wr.heap.size + i) := fun i _ => ⟨fun e => by have := (hol _ e).2; omega, by show w.heap.size + 1 ≤ _; omega⟩
          have hcs : BlC W3 (own (fun q => w.heap.size + 1 ≤ q) (.slice a j cp)) ⟨[jmpI], [z], 0⟩ [.slice (some ⟨wr.heap.size, 0, none⟩) 1 1, .slice (some ⟨wr.heap.size + 1, 0, none⟩) 1 1, .int .i64 0] := ⟨_, _, rfl, ll_row (xs := Vc.inC jmpI (.slice none 0 0)) hrA (hgB 0 (by omega)) (one_its (nums_nil _ _)), nums_row (zs := [z]) hrB (hgB 1 (by omega))⟩
          have hx3 := Vc.ownsRow_below hx hal
          have hits3 : Its (BlC W3 (own (fun q => w.heap.size + 1 ≤ q) (.slice a j cp))) 3 (rg M A j) xs := hits.mono fun x cs h => h.moved (Vc.Mv.below hal fun _ _ h => h) hal.size
          have hnews : ∀ i u, [Value.slice (some ⟨wr.heap.size, 0, none⟩) 1 1, .slice (some ⟨wr.heap.size + 1, 0, none⟩) 1 1, .int .i64 0][i]? = some u → W3.cell? ((⟨wr.heap.size + 2, 0, none⟩ : Addr).add i) = some u := fun i u hu => by
            rw [Addr.add_lit, cell_of_row W3 _ _ _ _ _ hrC]; simpa using hu
          have d3 := (hal.cell (p := ⟨w.heap.size, 3, none⟩) cl).trans c3
          have hbx := (hal.block w.heap.size cl).trans hrow
          have hjM := hlt
          have HX3 := hide hx3; have HIts := hide hits3; have HCs := hide hcs; have HNews := hide hnews; have HSt := hide hst; have HBe := hide (hbe.trans (hal.mono hbe.size)); have HOl := hide hol; have HBx := hide hbx; have HLt := hide hlt; have HZ3 := hide hz3; have HRl := hide hrl; have HCl := hide cl; have HBs := hide hbs
          have HM2j := hide (show j ≤ 20 by have := unhide HM2; omega)
          have hji : (j : Int) < (M : Int) := by omega
          clear hal hz3 hrA hrB hrC hx hits hgB hcs hx3 hits3 hnews hbx hst hbe hol hlt hrow c0 c1 c2 cl hjM hbs hj hrl
          have HZ := hide hz
          clear hz
          go_upto_if 40 with fail
          go_cut [9] from 31 to 51 (fun t wx => t = .int .i64 z ∧ wx = wr)
          case first =>
            have hz := unhide HZ
            by_cases hjm : j + 1 = M
            · rw [if_pos hjm] at hz
              have hji1 : ((j : Int) + 1 == (M : Int)) = true := by simp; omega
              go_wp2_with fail
              go_meet
              exact ⟨by rw [hz], rfl⟩
            · rw [if_neg hjm] at hz
              have hji1 : ((j : Int) + 1 == (M : Int)) = false := by simp; omega
              go_wp2_with fail
              go_meet
              exact ⟨by rw [hz], rfl⟩
          case rest =>
            obtain ⟨rfl, hwr⟩ := hcut
            have hwr2 := hwr.symm
            clear hwr
            subst hwr2
            go_wp2_with (at_builtin
                         rw [← hW3]
                         refine wpList_append_lies W3 rfl (.tmp 43) (.tmp 49) 23 rfl (w.heap.size + 1) 32 ib (.agg #[.slice none 0 0, .slice none 0 0, .int .i64 0]) 3 56 Tryd.underlying23 hib hb0 hb1 hb2 rfl (by decide) (.slice a j cp) j xs rfl (unhide HX3) ⟨wr.heap.size + 2, 0, none⟩ 1 1 [.slice (some ⟨wr.heap.size, 0, none⟩) 1 1, .slice (some ⟨wr.heap.size + 1, 0, none⟩) 1 1, .int .i64 0] rfl rfl (unhide HNews) (by intro u hu; simp at hu; rcases hu with rfl | rfl | rfl <;> rfl) (by omega) (by have := unhide HM2j; unfold maxLen; omega) (by have := unhide HM2j; omega) (by have := unhide HZ3; have := unhide HBs; omega) (wr.heap.size + 3) (unhide HZ3) ?_
                         intro gg cpn w5 hown5 hgrow hat5 hlt5
                         have hsn := Vc.OwnL.snoc (It := BlC) (c := 3) (T := 32) (w := W3) (w1 := w5) (B := w.heap.size + 1) (G := fun q => w.heap.size + 1 ≤ q) (v := .slice a j cp) (l := rg M A j) (x := ⟨[jmpI], [z], 0⟩) (xs := xs) (cs := [.slice (some ⟨wr.heap.size, 0, none⟩) 1 1, .slice (some ⟨wr.heap.size + 1, 0, none⟩) 1 1, .int .i64 0]) (g := gg) (cap := cpn) (fun x cs h hm => h.moved hm hgrow.size) (unhide HIts) (unhide HCs) rfl (by rw [unhide HRl]; exact hown5) hgrow (hat5.imp id (fun e => by rw [e, unhide HZ3]))
                         rw [← unhide HSt, unhide HRl] at hsn
                         have hbe5 := (unhide HBe).grown hgrow (by have := unhide HZ3; have := unhide HBs; omega) (fun q e => Nat.le_trans (Nat.le_succ _) (unhide HOl q e).1)
                         have hbx5 := (hgrow.block w.heap.size (by have := unhide HCl; have := unhide HZ3; omega) (fun e => by have := (unhide HOl _ e.symm).1; omega)).trans (unhide HBx)
                         obtain ⟨c0, c1, c2, c3', cf, cl⟩ := cob_cells hbx5
                         have hrow9 : (w5.setCell ⟨w.heap.size, 3, none⟩ (.slice (some ⟨gg, 0, none⟩) (j + 1) cpn)).heap[w.heap.size]? = some (.cells (cob 0 1 false (.slice (some ⟨gg, 0, none⟩) (j + 1) cpn)) 25 (0, 0)) := (heap_setCell_same w5 w.heap.size 3 _ _ _ hbx5).trans rfl
                         have hO9 : OwnL BlC 3 32 (w5.setCell ⟨w.heap.size, 3, none⟩ (.slice (some ⟨gg, 0, none⟩) (j + 1) cpn)) (w.heap.size + 1) (fun q => w.heap.size + 1 ≤ q) (.slice (some ⟨gg, 0, none⟩) (j + 1) cpn) (rg M A (j + 1)) := by
                           have ot : ∀ q, w.heap.size + 1 ≤ q → (w5.setCell ⟨w.heap.size, 3, none⟩ (.slice (some ⟨gg, 0, none⟩) (j + 1) cpn)).heap[q]? = w5.heap[q]? := fun q hq => heap_setCell_other w5 ⟨w.heap.size, 3, none⟩ q _ (by show q ≠ w.heap.size; omega)
                           refine hsn.move (fun q e => ot q (hsn.lt q e).1) (fun x cs h => h.moved (fun q _ hq => ⟨hq, ot q hq.2⟩) (by simp))
                         have hbe9 := hbe5.setCell (p := ⟨w.heap.size, 3, none⟩) (Nat.le_refl _) (.slice (some ⟨gg, 0, none⟩) (j + 1) cpn)
                         have HR9 := hide hrow9; have HO9 := hide hO9; have HB9 := hide hbe9
                         clear hsn hbe5 hbx5 hrow9 hO9 hbe9 hown5 hgrow hat5 hlt5 c0 c1 c2)
            go_roundw
            case rel => exact ⟨j + 1, some ⟨gg, 0, none⟩, cpn, by have := unhide HLt; omega, by go_num, unhide HR9, unhide HO9, unhide HB9⟩
            case measure => have := unhide HLt; simp [intOf]; omega
        · have hjM : M = j := by omega
          subst hjM
          have hok := rg_ok (unhide HM2) (unhide HA)
          have hwf := rg_wf (unhide HM2) (unhide HA)
          have hbl := Vc.OwnL.made (g := fun q => w.heap.size ≤ q ∧ q < wr.heap.size ∧ q ≠ w.heap.size) hO (fun x cs h => h.moved (fun q hq hk => ⟨⟨by have h2 : w.heap.size + 1 ≤ q := hk.2; omega, hq, by have h2 : w.heap.size + 1 ≤ q := hk.2; omega⟩, rfl⟩) (Nat.le_refl _)) (fun q h1 h2 => ⟨by omega, h2, by omega⟩)
          have hel : (rgC M A).bl.length = M := hrl
          have hco : CoAt w wr w.heap.size (rgC M A) := ⟨a, cp, by rw [hel]; exact hrow, by rw [hel]; exact hbl, Nat.le_refl _, hbe⟩
          obtain ⟨c, hc⟩ : ∃ c, c = rgC M A := ⟨_, rfl⟩
          have hlf : (walk (nxs c.bl)).lf.length = M := by rw [hc]; exact hok.lf
          obtain ⟨bs, hlp, hbs⟩ : ∃ bs, loops (nxs c.bl) = [(A, bs)] ∧ bs.length = M - A := by rw [hc]; exact hok.lp
          have hth : Vc.sC ⟨c.pa, c.re, c.rs, thrB c.bl⟩ c = true := by rw [hc]; exact hok.th
          have hck : chk c = true := by rw [hc]; exact hok.ck
          have hen : EndsAll (trimB c.bl) := by rw [hc]; exact hok.en
          have hjl : (joinB c.bl).length = if A = 0 then 1 else 2 := by rw [hc]; exact hok.jn
          rw [← hc] at hco hwf
          obtain ⟨a', cp', ⟨c0, c1, c2, c3⟩, cl, hbl2⟩ := hco.get
          have hcl : c.bl.length = M := by rw [hc]; exact hel
          rw [hcl] at c3 hbl2
          obtain ⟨D, hD⟩ : ∃ D, D = bs.length := ⟨_, rfl⟩
          obtain ⟨J, hJ⟩ : ∃ J, J = (joinB c.bl).length := ⟨_, rfl⟩
          have hT := (unhide HT).below hbe
          have hB : ∀ W, Below wr.heap.size wr W → Bls W (fun k => k < wr.heap.size) c.bl (.slice a' M cp') := fun W hW => bls_on hbl2 hW
          have K1 : ∀ W, Below wr.heap.size wr W → Calls Tryd.prog 4 #[.agg #[.int .i64 c.pa, .int .i64 c.re, .bool c.rs, .slice a' M cp']] W fun e w' => ∃ oa oc, e = .returned (.tuple #[.slice oa M oc, .nilIface]) ∧ Below W.heap.size W w' := fun W hW => by
            refine (order_yes c hwf hck (fun k => k < wr.heap.size) (.slice a' M cp') W (hT.below hW) (hB W hW) (fun k hk => Nat.lt_of_lt_of_le hk hW.size)).mono ?_
            rintro e w' ⟨u, rfl, h1, h2⟩
            obtain ⟨oa, oc, rfl, -⟩ := h1.sl
            rw [List.length_reverse, nz_len, hlf]
            exact ⟨oa, oc, rfl, h2⟩
          have K2 : ∀ W, Below wr.heap.size wr W → Calls Tryd.prog 5 #[.agg #[.int .i64 c.pa, .int .i64 c.re, .bool c.rs, .slice a' M cp']] W fun e w' => ∃ gp lc la lm, e = .returned (.tuple #[.slice (some ⟨gp, 0, none⟩) 1 lc, .nilIface]) ∧ (w'.cell? ⟨gp, 0, none⟩ = some (.int .i64 (A : Int)) ∧ w'.cell? ⟨gp, 1, none⟩ = some (.slice la D lm)) ∧ Below W.heap.size W w' := fun W hW => by
            have h := loops_yes c hwf hck (fun k => k < wr.heap.size) (.slice a' M cp') W (hT.below hW) (hB W hW) (fun k hk => Nat.lt_of_lt_of_le hk hW.size)
            rw [hlp] at h
            refine h.mono ?_
            rintro e w' ⟨u, rfl, h1, h2⟩
            obtain ⟨gp, lc, la, lm, rfl, e0, e1, -⟩ := lp_one (h := A) (bs := bs) (B := W.heap.size) h1
            rw [← hD] at e1
            exact ⟨gp, lc, la, lm, rfl, ⟨e0, e1⟩, h2⟩
          have K3 : ∀ W, Below wr.heap.size wr W → Calls Tryd.prog 6 #[.agg #[.int .i64 c.pa, .int .i64 c.re, .bool c.rs, .slice a' M cp']] W fun e w' => ∃ ta tn tc, e = .returned (.tuple #[.agg #[.int .i64 c.pa, .int .i64 c.re, .bool c.rs, .slice ta tn tc], .nilIface]) ∧ Bls w' (fun k => k < w'.heap.size) (thrB c.bl) (.slice ta tn tc) ∧ Below W.heap.size W w' := fun W hW => by
            refine (thread_yes c hwf hck (fun k => k < wr.heap.size) (.slice a' M cp') W (hT.below hW) (hB W hW) (fun k hk => Nat.lt_of_lt_of_le hk hW.size)).mono ?_
            rintro e w' ⟨u, rfl, h1, h2⟩
            obtain ⟨ta, tc, rfl, -, -, -⟩ := id h1
            exact ⟨ta, _, tc, rfl, h1.moved (fun k hk _ => ⟨hk, rfl⟩) (Nat.le_refl _), h2⟩
          have K4 : ∀ W, Below wr.heap.size wr W → Calls Tryd.prog 7 #[.agg #[.int .i64 c.pa, .int .i64 c.re, .bool c.rs, .slice a' M cp']] W fun e w' => ∃ ja jc, e = .returned (.tuple #[.agg #[.int .i64 c.pa, .int .i64 c.re, .bool c.rs, .slice ja J jc], .nilIface]) ∧ Below W.heap.size W w' := fun W hW => by
            refine (join_yes c hwf hck hen (fun k => k < wr.heap.size) (.slice a' M cp') W (hT.below hW) (hB W hW) (fun k hk => Nat.lt_of_lt_of_le hk hW.size)).mono ?_
            rintro e w' ⟨u, rfl, h1, h2⟩
            obtain ⟨ja, jc, rfl, -, -, -⟩ := id h1
            rw [← hJ]
            exact ⟨ja, jc, rfl, h2⟩
          have hkeep : ∀ W, Below wr.heap.size wr W → W.cell? ⟨w.heap.size, 0, none⟩ = some (.int .i64 c.pa) ∧ W.cell? ⟨w.heap.size, 1, none⟩ = some (.int .i64 c.re) ∧ W.cell? ⟨w.heap.size, 2, none⟩ = some (.bool c.rs) ∧ W.cell? ⟨w.heap.size, 3, none⟩ = some (.slice a' M cp') := fun W hW => ⟨(hW.cell (p := ⟨w.heap.size, 0, none⟩) cl).trans c0, (hW.cell (p := ⟨w.heap.size, 1, none⟩) cl).trans c1, (hW.cell (p := ⟨w.heap.size, 2, none⟩) cl).trans c2, (hW.cell (p := ⟨w.heap.size, 3, none⟩) cl).trans c3⟩
          have hsame : ∀ W ta tn tc (G : Nat → Prop), Below wr.heap.size wr W → Bls W G (thrB c.bl) (.slice ta tn tc) → Calls Tryd.prog 8 #[.agg #[.int .i64 c.pa, .int .i64 c.re, .bool c.rs, .slice ta tn tc], .agg #[.int .i64 c.pa, .int .i64 c.re, .bool c.rs, .slice a' M cp']] W fun e w' => e = .returned (.bool true) ∧ Below W.heap.size W w' := fun W ta tn tc G hW hb => by
            have h := Vc.same_any ⟨c.pa, c.re, c.rs, thrB c.bl⟩ c (wf_thr hwf (cok_of c hck)) hwf W hb (hB W hW)
            rw [hth] at h; exact h
          have hsure : ∀ W, Below wr.heap.size wr W → Calls Tryd.prog 9 #[] W fun e w' => e = .returned (.bool true) ∧ Below W.heap.size W w' := fun W hW => sure_any W (hT.below hW)
          have hdd : (D : Int) = (M : Int) - (A : Int) := by have := unhide HA; omega
          have HK1 := hide K1; have HK2 := hide K2; have HK3 := hide K3; have HK4 := hide K4; have HKp := hide hkeep; have HSa := hide hsame; have HSu := hide hsure; have HBe := hide hbe; have HJl := hide hjl; have HJ := hide hJ; have HDd := hide hdd
          clear K1 K2 K3 K4 hkeep hsame hsure hB hT hbl hbl2 hco hwf hck hlf hlp hbs hth hen hjl hJ hD hcl hel hok hrow hO hrl hlt hj hbe hc hdd cl
          go_upto_region 14 with (first
            | (go_at_call 4; refine (unhide HK1 _ (Below.refl _ _)).mono ?_; rintro e w1 ⟨oa, oc, rfl, hb1⟩; obtain ⟨c0, c1, c2, c3⟩ := unhide HKp _ hb1; have HB1 := hide hb1; clear hb1)
            | (go_at_call 5; refine (unhide HK2 _ (unhide HB1)).mono ?_; rintro e w2 ⟨gp, lc, la, lm, rfl, hl2, hb2⟩; have hb2' := (unhide HB1).trans (hb2.mono (unhide HB1).size); obtain ⟨c0, c1, c2, c3⟩ := unhide HKp _ hb2'; have HL2 := hide hl2; have HB2 := hide hb2'; clear hl2 hb2 hb2')
            | (go_at_call 6; refine (unhide HK3 _ (unhide HB2)).mono ?_; rintro e w3 ⟨ta, tn, tc, rfl, ht3, hb3⟩; have HT3 := hide ht3; have HBw3 := hide hb3; have HB3 := hide ((unhide HB2).trans (hb3.mono (unhide HB2).size)); clear ht3 hb3))
          have h33 := Vc.one_alloc w3 (.cells #[.int .i64 c.pa, .int .i64 c.re, .bool c.rs, .slice ta tn tc] 25)
          have hr3 := heap_alloc_new w3 (.cells #[.int .i64 c.pa, .int .i64 c.re, .bool c.rs, .slice ta tn tc] 25)
          have hb33 := (unhide HB3).trans (h33.mono (unhide HB3).size)
          obtain ⟨W3, hW3⟩ : ∃ W3, W3 = w3.alloc (.cells #[.int .i64 c.pa, .int .i64 c.re, .bool c.rs, .slice ta tn tc] 25) := ⟨_, rfl⟩
          rw [← hW3] at h33 hr3 hb33
          have hz3 : W3.heap.size = w3.heap.size + 1 := by rw [hW3]; simp
          obtain ⟨p0, p1⟩ := unhide HL2
          have h23 := (unhide HBw3).trans (h33.mono (unhide HBw3).size)
          have q0 := (h23.cell (p := ⟨gp, 0, none⟩) (block_lt_of_cell p0)).trans p0
          have q1 := (h23.cell (p := ⟨gp, 1, none⟩) (block_lt_of_cell p1)).trans p1
          have hbt : Bls W3 (fun k => k < W3.heap.size) (thrB c.bl) (.slice ta tn tc) := (unhide HT3).moved (fun k hk _ => ⟨Nat.lt_of_lt_of_le hk h33.size, h33.block k hk⟩) h33.size
          obtain ⟨b0, b1, b2, b3, -, bl⟩ := cob_cells hr3
          have hst : ∀ W, Below W3.heap.size W3 W → (W.cell? ⟨gp, 0, none⟩ = some (.int .i64 (A : Int)) ∧ W.cell? ⟨gp, 1, none⟩ = some (.slice la D lm)) ∧ (W.cell? ⟨w3.heap.size, 0, none⟩ = some (.int .i64 c.pa) ∧ W.cell? ⟨w3.heap.size, 1, none⟩ = some (.int .i64 c.re) ∧ W.cell? ⟨w3.heap.size, 2, none⟩ = some (.bool c.rs) ∧ W.cell? ⟨w3.heap.size, 3, none⟩ = some (.slice ta tn tc)) ∧ Bls W (fun k => k < W.heap.size) (thrB c.bl) (.slice ta tn tc) := fun W hW =>
            ⟨⟨(hW.cell (p := ⟨gp, 0, none⟩) (block_lt_of_cell q0)).trans q0, (hW.cell (p := ⟨gp, 1, none⟩) (block_lt_of_cell q1)).trans q1⟩, ⟨(hW.cell (p := ⟨w3.heap.size, 0, none⟩) bl).trans b0, (hW.cell (p := ⟨w3.heap.size, 1, none⟩) bl).trans b1, (hW.cell (p := ⟨w3.heap.size, 2, none⟩) bl).trans b2, (hW.cell (p := ⟨w3.heap.size, 3, none⟩) bl).trans b3⟩, hbt.moved (fun k hk _ => ⟨Nat.lt_of_lt_of_le hk hW.size, hW.block k hk⟩) hW.size⟩
          have HSt := hide hst; have HB33 := hide hb33
          obtain ⟨c0', c1', c2', c3'⟩ := unhide HKp _ hb33
          clear h33 hr3 hb33 hz3 p0 p1 h23 q0 q1 hbt b0 b1 b2 b3 bl hst HL2 HT3 HBw3 HB1 HB2 HB3 HK1 HK2 HK3
          rw [show w3.alloc (.cells #[.int .i64 c.pa, .int .i64 c.re, .bool c.rs, .slice ta tn tc] 25) = W3 from hW3.symm]
          clear hW3
          go_upto_region 15 with (go_at_call 7; refine (unhide HK4 _ (unhide HB33)).mono ?_; rintro e w4 ⟨ja, jc, rfl, hb4⟩; have HB4 := hide hb4; clear hb4)
          have h44 := Vc.one_alloc w4 (.cells #[.int .i64 c.pa, .int .i64 c.re, .bool c.rs, .slice ja J jc] 25)
          have hr4 := heap_alloc_new w4 (.cells #[.int .i64 c.pa, .int .i64 c.re, .bool c.rs, .slice ja J jc] 25)
          have hb34 := (unhide HB4).trans (h44.mono (unhide HB4).size)
          obtain ⟨W4, hW4⟩ : ∃ W4, W4 = w4.alloc (.cells #[.int .i64 c.pa, .int .i64 c.re, .bool c.rs, .slice ja J jc] 25) := ⟨_, rfl⟩
          rw [← hW4] at h44 hr4 hb34
          obtain ⟨b0, b1, b2, b3, -, bl⟩ := cob_cells hr4
          obtain ⟨⟨g0, g1⟩, ⟨f0, f1, f2, f3⟩, hbt⟩ := unhide HSt _ hb34
          have hbr4 := (unhide HB33).trans (hb34.mono (unhide HB33).size)
          obtain ⟨d0, d1, d2, d3⟩ := unhide HKp _ hbr4
          have HBt := hide hbt; have HBr4 := hide hbr4; have HD3 := hide (show ∀ W, Below W4.heap.size W4 W → W.cell? ⟨w4.heap.size, 3, none⟩ = some (.slice ja J jc) from fun W hW => (hW.cell (p := ⟨w4.heap.size, 3, none⟩) bl).trans b3)
          have hdd := unhide HDd
          have hdl := unhide HA
          clear h44 hr4 hb34 hbt hbr4 b0 b1 b2 b3 bl HSt HB33 HK4 HB4
          rw [show w4.alloc (.cells #[.int .i64 c.pa, .int .i64 c.re, .bool c.rs, .slice ja J jc] 25) = W4 from hW4.symm]
          clear hW4
          go_upto_if 73 with fail
          go_cut [18] from 72 to 73 (fun t wx => t = .int .i64 (J : Int) ∧ wx = W4)
          case first =>
            have hj := unhide HJl
            rw [← unhide HJ] at hj
            by_cases hA0 : A = 0
            · rw [if_pos hA0] at hj
              have HJj := hide hj
              clear hj
              have hab : decide ((0 : Int) < (A : Int)) = false := by simp; omega
              have hab2 : ¬ (0 : Int) < (A : Int) := by omega
              clear hA0
              go_wp2_with fail
              go_meet
              exact ⟨by rw [unhide HJj]; rfl, rfl⟩
            · rw [if_neg hA0] at hj
              have HJj := hide hj
              clear hj
              have hab : decide ((0 : Int) < (A : Int)) = true := by simp; omega
              have hab2 : (0 : Int) < (A : Int) := by omega
              go_wp2_with fail
              go_meet
              exact ⟨by rw [unhide HJj]; rfl, rfl⟩
          case rest =>
            obtain ⟨rfl, hwr⟩ := hcut
            have hwr2 := hwr.symm
            clear hwr
            subst hwr2
            go_wp2_with (first
              | (go_at_call 8; refine (unhide HSa _ _ _ _ _ (unhide HBr4) (unhide HBt)).mono ?_; rintro e w6 ⟨rfl, hb6⟩; have j3 := unhide HD3 w6 hb6; have HB6 := hide ((unhide HBr4).trans (hb6.mono (unhide HBr4).size)); clear hb6)
              | (go_at_call 9; refine (unhide HSu _ (unhide HB6)).mono ?_; rintro e w7 ⟨rfl, hb7⟩; have HB7 := hide ((unhide HB6).trans (hb7.mono (unhide HB6).size)); clear hb7))
            go_ret
            exact ⟨rfl, (unhide HBe).trans ((unhide HB7).mono (unhide HBe).size)⟩
end Fw
end Go.Proofs.YtpecnljcgiicaaaDoor

/- FlowRings returns true for every two ints, and leaves them: of blocks each of which jumps to the next one, and the last one to the k-th, all can be reached, they are one loop from the k-th on, threaded nothing changes, and joined there are as many as are ahead of the loop (none, or one), and one. Of ops' families it takes what the program's text lays (the card ties it). -/
namespace Go.Proofs.YtpecnljcgiicaaaDoor.flowRings
open Go.ChangeShapes Go.WideShapes Go.ChangeAt Go.RowKit
open Go.ChangeMaps (open_string shut_string)
set_option linter.unusedVariables false

theorem own : ownKnob Tryd.prog.godebug = none := by kernel_rfl



set_option maxHeartbeats 400000 in
theorem walk (a0 : Int) (a1 : Int) (w0 : (Lit.int .i64 a0).wf = true) (w1 : (Lit.int .i64 a1).wf = true) (w : World) (hFm : Vc.Fms w) :
    Calls Tryd.prog 3 #[.int .i64 a0, .int .i64 a1] w fun e w' => e = .returned (.bool true) ∧ Below w.heap.size w w' := by
  obtain ⟨b0, b1⟩ := bounds_i64 w0
  obtain ⟨b2, b3⟩ := bounds_i64 w1
  exact Fw.rings_any a0 a1 ⟨by omega, by omega⟩ ⟨by omega, by omega⟩ w hFm

theorem laidWorld_met (os : Os) (args : Array Value) : laidMetH Tryd.prog Rows.flowRingsRow.laid (({ World.holding Tryd.prog os ⟨#[], #[], []⟩ with heap := ((World.holding Tryd.prog os ⟨#[], #[], []⟩).heap.modify 0 fun | .cells _ t frozen => .cells #[.int .u8 0, .int .u8 1, .int .i64 0, .int .u8 0, .int .u8 0, .int .u8 0, .int .u8 2, .int .u8 3, .int .i64 6, .int .u8 0, .int .u8 0, .int .u8 0, .int .u8 4, .int .u8 4, .int .i64 7, .int .u8 0, .int .u8 0, .int .u8 0, .int .u8 12, .int .u8 13, .int .i64 3, .int .u8 0, .int .u8 0, .int .u8 0, .int .u8 14, .int .u8 14, .int .i64 8, .int .u8 0, .int .u8 0, .int .u8 0, .int .u8 15, .int .u8 15, .int .i64 0, .int .u8 0, .int .u8 0, .int .u8 0, .int .u8 16, .int .u8 16, .int .i64 3, .int .u8 0, .int .u8 0, .int .u8 0, .int .u8 17, .int .u8 17, .int .i64 9, .int .u8 0, .int .u8 0, .int .u8 0, .int .u8 26, .int .u8 27, .int .i64 0, .int .u8 0, .int .u8 0, .int .u8 0, .int .u8 32, .int .u8 36, .int .i64 3, .int .u8 0, .int .u8 0, .int .u8 0, .int .u8 40, .int .u8 40, .int .i64 4, .int .u8 127, .int .u8 0, .int .u8 127, .int .u8 41, .int .u8 41, .int .i64 4, .int .u8 127, .int .u8 0, .int .u8 126, .int .u8 44, .int .u8 47, .int .i64 4, .int .u8 127, .int .u8 0, .int .u8 127, .int .u8 48, .int .u8 53, .int .i64 4, .int .u8 127, .int .u8 0, .int .u8 126, .int .u8 54, .int .u8 54, .int .i64 4, .int .u8 127, .int .u8 127, .int .u8 0, .int .u8 55, .int .u8 55, .int .i64 4, .int .u8 127, .int .u8 126, .int .u8 0, .int .u8 58, .int .u8 59, .int .i64 4, .int .u8 127, .int .u8 127, .int .u8 0, .int .u8 60, .int .u8 62, .int .i64 4, .int .u8 127, .int .u8 126, .int .u8 0, .int .u8 63, .int .u8 63, .int .i64 5, .int .u8 0, .int .u8 0, .int .u8 127, .int .u8 64, .int .u8 64, .int .i64 5, .int .u8 127, .int .u8 0, .int .u8 127, .int .u8 65, .int .u8 65, .int .i64 1, .int .u8 0, .int .u8 0, .int .u8 127, .int .u8 66, .int .u8 66, .int .i64 2, .int .u8 0, .int .u8 0, .int .u8 126, .int .u8 69, .int .u8 69, .int .i64 0, .int .u8 127, .int .u8 0, .int .u8 127, .int .u8 70, .int .u8 79, .int .i64 0, .int .u8 127, .int .u8 127, .int .u8 127, .int .u8 80, .int .u8 80, .int .i64 0, .int .u8 126, .int .u8 0, .int .u8 127, .int .u8 81, .int .u8 90, .int .i64 0, .int .u8 126, .int .u8 126, .int .u8 127, .int .u8 103, .int .u8 105, .int .i64 0, .int .u8 127, .int .u8 0, .int .u8 127, .int .u8 106, .int .u8 120, .int .i64 0, .int .u8 127, .int .u8 127, .int .u8 127, .int .u8 121, .int .u8 123, .int .i64 0, .int .u8 126, .int .u8 0, .int .u8 126, .int .u8 124, .int .u8 138, .int .i64 0, .int .u8 126, .int .u8 126, .int .u8 126, .int .u8 167, .int .u8 167, .int .i64 0, .int .u8 126, .int .u8 0, .int .u8 127, .int .u8 172, .int .u8 173, .int .i64 0, .int .u8 127, .int .u8 0, .int .u8 126] t frozen | o => o) } : World).forCall (fun _ _ => 0) ⟨#[], args, []⟩).memory :=
  laidMetH_of_parts (laidMet_of_run' 8 (by kernel_rfl) (by kernel_rfl)) (by kernel_rfl)

set_option maxRecDepth 100000 in
theorem lifted (os : Os) (started : os.Started) (H : Type) (enc : TypeId × Value → H) :
    ReturnsInHanded {} Tryd.checked os 3 .any (fun w args => (Rows.flowRingsSpec.pre enc Tryd.prog Tryd.f3 [] false w args ∧ laidMetH Tryd.prog Rows.flowRingsRow.laid w) ∧ sizedMet enc Tryd.prog Tryd.f3 (OpenSpec.ofChange Rows.flowRingsSpec) false w args) (Rows.flowRingsSpec.post enc Tryd.prog Tryd.f3 false true false false) := by
  refine returnsInHanded_of_change_and (C := Tryd.checked) (X := fun w _ => laidMetH Tryd.prog Rows.flowRingsRow.laid w) (fun _ _ _ hh h => h.of_heap hh) own started (by kernel_rfl) Tryd.func3
    (ChangeSpec.witness_at (enc := enc) (C := Tryd.checked) (os := os) (X := fun w _ => laidMetH Tryd.prog Rows.flowRingsRow.laid w) false ({ World.holding Tryd.prog os ⟨#[], #[], []⟩ with heap := ((World.holding Tryd.prog os ⟨#[], #[], []⟩).heap.modify 0 fun | .cells _ t frozen => .cells #[.int .u8 0, .int .u8 1, .int .i64 0, .int .u8 0, .int .u8 0, .int .u8 0, .int .u8 2, .int .u8 3, .int .i64 6, .int .u8 0, .int .u8 0, .int .u8 0, .int .u8 4, .int .u8 4, .int .i64 7, .int .u8 0, .int .u8 0, .int .u8 0, .int .u8 12, .int .u8 13, .int .i64 3, .int .u8 0, .int .u8 0, .int .u8 0, .int .u8 14, .int .u8 14, .int .i64 8, .int .u8 0, .int .u8 0, .int .u8 0, .int .u8 15, .int .u8 15, .int .i64 0, .int .u8 0, .int .u8 0, .int .u8 0, .int .u8 16, .int .u8 16, .int .i64 3, .int .u8 0, .int .u8 0, .int .u8 0, .int .u8 17, .int .u8 17, .int .i64 9, .int .u8 0, .int .u8 0, .int .u8 0, .int .u8 26, .int .u8 27, .int .i64 0, .int .u8 0, .int .u8 0, .int .u8 0, .int .u8 32, .int .u8 36, .int .i64 3, .int .u8 0, .int .u8 0, .int .u8 0, .int .u8 40, .int .u8 40, .int .i64 4, .int .u8 127, .int .u8 0, .int .u8 127, .int .u8 41, .int .u8 41, .int .i64 4, .int .u8 127, .int .u8 0, .int .u8 126, .int .u8 44, .int .u8 47, .int .i64 4, .int .u8 127, .int .u8 0, .int .u8 127, .int .u8 48, .int .u8 53, .int .i64 4, .int .u8 127, .int .u8 0, .int .u8 126, .int .u8 54, .int .u8 54, .int .i64 4, .int .u8 127, .int .u8 127, .int .u8 0, .int .u8 55, .int .u8 55, .int .i64 4, .int .u8 127, .int .u8 126, .int .u8 0, .int .u8 58, .int .u8 59, .int .i64 4, .int .u8 127, .int .u8 127, .int .u8 0, .int .u8 60, .int .u8 62, .int .i64 4, .int .u8 127, .int .u8 126, .int .u8 0, .int .u8 63, .int .u8 63, .int .i64 5, .int .u8 0, .int .u8 0, .int .u8 127, .int .u8 64, .int .u8 64, .int .i64 5, .int .u8 127, .int .u8 0, .int .u8 127, .int .u8 65, .int .u8 65, .int .i64 1, .int .u8 0, .int .u8 0, .int .u8 127, .int .u8 66, .int .u8 66, .int .i64 2, .int .u8 0, .int .u8 0, .int .u8 126, .int .u8 69, .int .u8 69, .int .i64 0, .int .u8 127, .int .u8 0, .int .u8 127, .int .u8 70, .int .u8 79, .int .i64 0, .int .u8 127, .int .u8 127, .int .u8 127, .int .u8 80, .int .u8 80, .int .i64 0, .int .u8 126, .int .u8 0, .int .u8 127, .int .u8 81, .int .u8 90, .int .i64 0, .int .u8 126, .int .u8 126, .int .u8 127, .int .u8 103, .int .u8 105, .int .i64 0, .int .u8 127, .int .u8 0, .int .u8 127, .int .u8 106, .int .u8 120, .int .i64 0, .int .u8 127, .int .u8 127, .int .u8 127, .int .u8 121, .int .u8 123, .int .i64 0, .int .u8 126, .int .u8 0, .int .u8 126, .int .u8 124, .int .u8 138, .int .i64 0, .int .u8 126, .int .u8 126, .int .u8 126, .int .u8 167, .int .u8 167, .int .i64 0, .int .u8 126, .int .u8 0, .int .u8 127, .int .u8 172, .int .u8 173, .int .i64 0, .int .u8 127, .int .u8 0, .int .u8 126] t frozen | o => o) } : World) #[.int .i64 0, .int .i64 0] 8 rfl (by kernel_rfl) (by kernel_rfl) (by kernel_rfl) (by kernel_rfl) (by kernel_rfl) (laidWorld_met os _)) ?_
  intro W base args ds gs before hval0 hW _ _ hL _
  have hLL : laidMet Tryd.prog [("mandrel/ops.families", Rows.laid_mandrel_ops_families)] W := hL
  have hgFm : Vc.Fms W := families_laid hLL
  have hval : ∀ (j : Nat) t v, Tryd.f3.params[j]? = some t → args[j]? = some v → Value.okWide Tryd.prog W .any base t v := hval0
  have hW' := hW
  obtain ⟨p, q, hA0, hV, rfl, hfz, hnd⟩ := hW
  have hA : DataW.TrodAll enc Tryd.prog W 0 (fun _ => true) true Tryd.f3.params.toList args.toList ds p := hA0
  rw [Tryd.params3] at hA hval
  obtain ⟨v0, vs0, d0, ds0, p0, q0, hargs, rfl, rfl, h0, r0⟩ := trodAll_cons hA
  obtain ⟨v1, vs1, d1, ds1, p1, q1, rfl, rfl, rfl, h1, r1⟩ := trodAll_cons r0
  obtain ⟨rfl, rfl, rfl⟩ := trodAll_nil r1
  obtain rfl : args = #[v0, v1] := by cases args; simp_all
  obtain ⟨rfl, rfl⟩ := trodVars_none hV
  obtain ⟨a0, rfl, rfl, rfl, w0⟩ := open_int Tryd.underlying3 (hval 0 3 v0 rfl rfl) h0
  obtain ⟨a1, rfl, rfl, rfl, w1⟩ := open_int Tryd.underlying3 (hval 1 3 v1 rfl rfl) h1
  clear hA0 hval0
  refine (walk a0 a1 w0 w1 W hgFm).mono fun e W' ⟨he, bel⟩ => ?_
  subst he
  exact ⟨_, rfl, _, _, _, [], _, [], hW', trodAll_mk1 (shut_bool Tryd.underlying4 _), (trodAll_cons_mk (shut_int Tryd.underlying3 w0) (trodAll_cons_mk (shut_int Tryd.underlying3 w1) trodAll_mk0)), rfl, bel.frame _, fun h => by cases h⟩

theorem over : Rows.flowRingsRow.holds Tryd.pinned (OpenSpec.ofChange Rows.flowRingsSpec) :=
  OpenClaim.holds_of_wide 3 Tryd.f3 rfl rfl rfl rfl rfl rfl rfl ⟨rfl, rfl, rfl, rfl, rfl⟩ rfl rfl rfl rfl rfl (by kernel_rfl) Tryd.func3 (by kernel_rfl)
    (of_decide_eq_true (by kernel_rfl)) (by unfold Func.isWrapper; first | (rw [if_pos (by decide +kernel)]; kernel_rfl) | (rw [if_neg (by decide +kernel)]; exact ⟨rfl, rfl⟩))
    (fun os started H enc _ => lifted os started H enc)

theorem proved : Rows.FlowRingsSaid :=
  over
end Go.Proofs.YtpecnljcgiicaaaDoor.flowRings

namespace Go.Proofs.YtpecnljcgiicaaaDoor
theorem flowRings_holds : Rows.FlowRingsSaid := flowRings.proved
theorem flowRings_card : Rows.FlowRingsCardSaid :=
  Claim7.holds_tied_plain_at .later [] [.data] true (true, "5b3bdf5ae41091a1037b5aee1b274a61383ec27bb747103d7e2692bf8d652572") false
    flowRings_holds (fun _ h => by cases h) (by kernel_rfl) (fun _ h => by cases h) flowRings_row_tie rfl ⟨rfl, rfl⟩ (by kernel_rfl) rfl
    (fun f fn hf hfn => by
      obtain rfl : 3 = f := Option.some.inj (Eq.trans (by kernel_rfl) hf)
      obtain rfl : fn = Tryd.f3 := (Option.some.inj (Tryd.func3.symm.trans hfn)).symm
      exact ⟨by kernel_rfl, fun j t ht => by
        rw [Tryd.params3] at ht
        rcases j with _ | _ | j
        · obtain rfl : t = 3 := by simpa using ht.symm
          exact (show Tryd.prog.wantsStandIn 3 = false by kernel_rfl)
        · obtain rfl : t = 3 := by simpa using ht.symm
          exact (show Tryd.prog.wantsStandIn 3 = false by kernel_rfl)
        · simp at ht⟩)
    (by kernel_rfl)
end Go.Proofs.YtpecnljcgiicaaaDoor
