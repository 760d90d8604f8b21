/- vcode.Text. -/
import Derived.Test.YtgelkfmdkmopbaaDoorVcK
namespace Go.Proofs.YtgelkfmdkmopbaaDoor
open Go.RowKit
namespace Vc
set_option linter.unusedVariables false

theorem ret_se {a b : ByteArray} {u v : Value} (h : a = b) (h2 : u = v) : Ending.returned (.tuple #[.string a, u]) = .returned (.tuple #[.string b, v]) := by rw [h, h2]
def hdB (i : Int) (d : Int) : List UInt8 := [98, 108, 111, 99, 107, 32] ++ dec i ++ [32, 100, 101, 112, 116, 104, 32] ++ dec d ++ [10]
def insT (l : List In) (next : List Int) : List UInt8 := l.flatMap fun x => line x next
def txtB : Nat → List Bl → List UInt8
  | _, [] => []
  | i, b :: r => (hdB i b.dep ++ insT b.ins b.next) ++ txtB (i + 1) r
theorem txtB_snoc (b : Bl) : ∀ (l : List Bl) (i : Nat), txtB i (l ++ [b]) = txtB i l ++ (hdB ((i + l.length : Nat) : Int) b.dep ++ insT b.ins b.next)
  | [], i => by simp [txtB]
  | x :: r, i => by
    rw [List.cons_append, txtB, txtB_snoc b r (i + 1), txtB, List.length_cons, show i + 1 + r.length = i + (r.length + 1) by omega]; simp
theorem txtB_take (l : List Bl) (j : Nat) (b : Bl) (h : l[j]? = some b) : txtB 0 (l.take (j + 1)) = txtB 0 (l.take j) ++ (hdB (j : Int) b.dep ++ insT b.ins b.next) := by
  have hj := (List.getElem?_eq_some_iff.1 h).1
  have hb : l[j] = b := (List.getElem?_eq_some_iff.1 h).2
  have hl : (l.take j).length = j := by rw [List.length_take]; omega
  rw [List.take_succ_eq_append_getElem hj, hb, txtB_snoc, hl, Nat.zero_add]
theorem txtB_app : ∀ (l r : List Bl) (i : Nat), (txtB i l).length ≤ (txtB i (l ++ r)).length
  | [], r, i => by simp [txtB]
  | x :: l, r, i => by
    have := txtB_app l r (i + 1)
    simp only [List.cons_append, txtB, List.length_append]; omega
theorem txtB_le (l : List Bl) (j : Nat) : (txtB 0 (l.take j)).length ≤ (txtB 0 l).length := by
  have := txtB_app (l.take j) (l.drop j) 0
  rwa [List.take_append_drop] at this
def txt (c : Co) : List UInt8 := first c ++ txtB 0 c.bl
theorem it_take (l : List In) (next : List Int) (j : Nat) (z : In) (h : l[j]? = some z) : insT (l.take (j + 1)) next = insT (l.take j) next ++ line z next := by
  have hj := (List.getElem?_eq_some_iff.1 h).1
  have hb : l[j] = z := (List.getElem?_eq_some_iff.1 h).2
  unfold insT
  rw [List.take_succ_eq_append_getElem hj, hb, List.flatMap_append]; simp
theorem it_le (l : List In) (next : List Int) (j : Nat) : (insT (l.take j) next).length ≤ (insT l next).length := by
  unfold insT
  conv => rhs; rw [← List.take_append_drop j l]
  rw [List.flatMap_append, List.length_append]; omega
/-- what Text gives -/
def txS (c : Co) : List UInt8 := if chk c then (if (txt c).length ≤ 65536 then txt c else []) else []
def txE (c : Co) : Int := if chk c then (if (txt c).length ≤ 65536 then 0 else 2) else 1
theorem errV_2 : errV 2 = .iface 60 (.int .i64 2) := by simp [errV]

set_option maxRecDepth 100000 in
set_option maxHeartbeats 6400000 in
theorem text_any (c : Co) (hc : WfC c) (g : Nat → Prop) (v : Value) (w : World) (hT : Fms w) (hN : Nms w) (hP : P10 w) (hv : Bls w g c.bl v) (hg : ∀ k, g k → k < w.heap.size) (hz : siz c.bl ≤ 1099511627776) (hl : (txt c).length ≤ 1099511627776) :
    Calls Tryd.prog 10 #[.agg #[.int .i64 c.pa, .int .i64 c.re, .bool c.rs, v]] w fun e w' => e = .returned (.tuple #[.string (str (txS c)), errV (txE c)]) ∧ Below w.heap.size w w' := by
  have hK := fun W a b => check_any c hc g v W a b hz
  have hF := fun W a => first_any c hc.pa hc.re v (by obtain ⟨a, k, e, _⟩ := hv; exact ⟨_, _, _, e⟩) W a
  have hL : (first c).length + (txtB 0 c.bl).length ≤ 1099511627776 := by rw [← List.length_append]; exact hl
  have hlen := hc.len
  have HTb := hide (Tbs.of hT hN hP)
  have HV := hide hv; have HG := hide hg; have HC := hide hc
  have hS : txS c = if chk c then (if (txt c).length ≤ 65536 then txt c else []) else [] := rfl
  have hE : txE c = if chk c then (if (txt c).length ≤ 65536 then 0 else 2) else 1 := rfl
  have hbt := fun j b h => txtB_take c.bl j b h
  have hbl := fun j => txtB_le c.bl j
  have ht : first c ++ txtB 0 c.bl = txt c := rfl
  obtain ⟨a, cp, rfl, hcp, _, hA⟩ := hv
  obtain ⟨F1, hF1⟩ : ∃ F, first c = F := ⟨_, rfl⟩
  obtain ⟨T1, hT1⟩ : ∃ T, txt c = T := ⟨_, rfl⟩
  rw [hF1] at hF hL ht
  rw [hT1] at hS hE ht
  have HK := hide hK; have HF := hide hF; have HL := hide hL; have HS := hide hS; have HE := hide hE; have HA := hide hA; have HBt := hide hbt; have HBl := hide hbl; have HTt := hide ht
  clear hK hF hL hS hE hA hT hN hP hg hz hl hbt hbl ht hF1 hT1
  generalize txS c = SS at *
  generalize txE c = EE at *
  have hb0 := one_alloc w (.cells #[.int .i64 c.pa, .int .i64 c.re, .bool c.rs, .slice a c.bl.length cp] 29)
  have rB := heap_alloc_new w (.cells #[.int .i64 c.pa, .int .i64 c.re, .bool c.rs, .slice a c.bl.length cp] 29)
  have hk0 := unhide HK _ (TC.below (unhide HTb).f hb0) ((unhide HV).below hb0)
  generalize hck : chk c = K at *
  have HCk := hide hck; clear hck
  have HK0 := hide hk0; clear hk0 HK
  clear hc
  obtain ⟨pa, re, rs, bl⟩ := c
  simp only at *
  generalize hnb : bl.length = n at *
  have HNb := hide hnb; clear hnb
  cases K with
  | false =>
    simp only [Bool.false_eq_true, if_false] at HK0 HS HE
    rw [errV_1] at HK0
    have HB0 := hide hb0
    have HSS := hide (show str SS = ⟨#[]⟩ by rw [unhide HS]; rfl)
    have HEE := hide (show errV EE = .iface 60 (.int .i64 1) by rw [unhide HE]; exact errV_1)
    clear hb0 rB
    go_enter Tryd.func10, Tryd.ntmps10
    go_wp2_with fail
    refine (unhide HK0).mono ?_
    rintro e w1 ⟨rfl, hb1⟩
    have HB1 := hide (Below.on (unhide HB0) hb1); clear hb1
    go_wp2
    go_ret2
    exact ⟨ret_se (unhide HSS).symm (unhide HEE).symm, unhide HB1⟩
  | true =>
    simp only [if_true] at HK0 HS HE
    rw [errV_0] at HK0
    go_enter Tryd.func10, Tryd.ntmps10
    go_wp2_with fail
    refine (unhide HK0).mono ?_
    rintro e w1 ⟨rfl, hb1⟩
    generalize w.alloc (.cells #[.int .i64 pa, .int .i64 re, .bool rs, .slice a n cp] 29) = W0 at *
    have hBW : w.heap.size ≤ W0.heap.size := hb0.size
    have hce : ∀ wx, Fr w.heap.size W0 wx → w.heap.size < wx.heap.size ∧ wx.cell? ⟨w.heap.size, 0, none⟩ = some (.int .i64 pa) ∧ wx.cell? ⟨w.heap.size, 1, none⟩ = some (.int .i64 re) ∧ wx.cell? ⟨w.heap.size, 2, none⟩ = some (.bool rs) ∧ wx.cell? ⟨w.heap.size, 3, none⟩ = some (.slice a n cp) := by
      intro wx hf
      have q := hf.row (by decide) rB
      refine ⟨(Array.getElem?_eq_some_iff.1 q).1, ?_, ?_, ?_, ?_⟩ <;> (rw [cell_of_row wx _ _ _ _ _ q]; rfl)
    have hsz : ∀ wx, Fr w.heap.size W0 wx → w.heap.size ≤ wx.heap.size := fun wx hf => Nat.le_trans hBW hf.1.size
    have htb : ∀ wx, Fr w.heap.size W0 wx → Tbs w.heap.size wx := fun wx hf => ((unhide HTb).fr hb0).fr hf.1
    have hlo : ∀ wx, Fr w.heap.size W0 wx → Below w.heap.size w wx := fun wx hf => hb0.trans hf.1
    have F1' : Fr w.heap.size W0 w1 := Fr.of hBW hb1
    have HCE := hide hce; have HSz := hide hsz; have HTB := hide htb; have HLo := hide hlo; have HF1 := hide F1'
    obtain ⟨z0, k0, k1, k2, k3⟩ := hce w1 F1'
    have HFi := hide (unhide HF w1 (htb w1 F1').p)
    clear hBW hce hsz htb hlo F1' hb0 hb1 rB HK0 HF
    go_wp2_with fail
    refine (unhide HFi).mono ?_
    rintro e w2 ⟨a2, n2, c2, rfl, hbd2, hb2⟩
    have hF2 := Fr.on (unhide HF1) (Fr.of (unhide HSz _ (unhide HF1)) hb2)
    have HBd2 := hide (hbd2.mono (unhide HSz _ (unhide HF1))); have HF2 := hide hF2
    clear k0 k1 k2 k3 z0 hbd2 hb2 HFi HF1
    obtain ⟨z0, k0, k1, k2, k3⟩ := unhide HCE _ hF2
    clear hF2
    go_wp2_with fail
    go_loopw [5, 20] (fun v c wr => ∃ j : Nat, c = .int .i64 j ∧ (j : Int) ≤ n ∧ Iv w.heap.size W0 v (F1 ++ txtB 0 (bl.take j)) wr) (fun _ c _ => n - (intOf c).toNat)
    case atStart => exact ⟨0, rfl, by omega, _, _, _, rfl, by simpa [txtB] using unhide HBd2, unhide HF2⟩
    case round =>
      obtain ⟨j, rfl, hj, a3, n3, c3, rfl, hbd3, hfr3⟩ := hrel
      have HBd3 := hide hbd3; have HF3 := hide hfr3
      clear k0 k1 k2 k3 z0 hbd3
      obtain ⟨z0, k0, k1, k2, k3⟩ := unhide HCE _ hfr3
      by_cases hlt : (j : Int) < n
      · obtain ⟨x, hx⟩ : ∃ x, bl[j]? = some x := ⟨_, List.getElem?_eq_getElem (by have := unhide HNb; omega)⟩
        have hmem : x ∈ bl := List.mem_of_getElem? hx
        have hlow := unhide HLo _ hfr3
        obtain ⟨b, o, rfl, hgb, hblt, hit⟩ := unhide HA (by omega)
        obtain ⟨cs, hcl, ⟨vi, vn, rfl, hi, hn⟩, hce⟩ := hit j x hx
        have cc := fun i u hu => (hlow.cell (p := ⟨b, o + j * 3 + i, none⟩) hblt).trans (hce i u hu)
        have e0 := cc 0 _ rfl; have e1 := cc 1 _ rfl; have e2 := cc 2 _ rfl
        simp only [Nat.add_zero] at e0
        have hb1 : b < wr.heap.size := World.block_lt_of_cell? wr _ e0
        have HI := hide hi; have HN := hide hn
        have hwf := (unhide HC).bl x hmem
        obtain ⟨ai, ci, rfl, _, _, hii⟩ := hi
        obtain ⟨an, cn, rfl, _⟩ := hn
        have HII := hide hii
        have hq := unhide HBt j x hx
        have hq2 := unhide HBl (j + 1)
        have HWf := hide hwf; have HLw := hide hlow
        obtain ⟨P1, hP1⟩ : ∃ P, F1 ++ txtB 0 (bl.take j) = P := ⟨_, rfl⟩
        have hP2 : F1 ++ txtB 0 (bl.take (j + 1)) = P1 ++ (hdB (j : Int) x.dep ++ insT x.ins x.next) := by rw [hq, ← hP1]; simp
        have hPl : P1.length + ((hdB (j : Int) x.dep).length + (insT x.ins x.next).length) ≤ 1099511627776 := by
          have a1 : (F1 ++ txtB 0 (bl.take (j + 1))).length = P1.length + ((hdB (j : Int) x.dep).length + (insT x.ins x.next).length) := by rw [hP2]; simp
          rw [List.length_append] at a1; have := unhide HL; omega
        rw [hP1] at HBd3
        have HP2 := hide hP2; have HPl := hide hPl
        clear hx hit hcl hce cc hmem hq hq2 hP1 hP2 hPl hlow hii hwf
        obtain ⟨ins, next, dep⟩ := x
        simp only at *
        obtain ⟨H1, hH1⟩ : ∃ H, hdB (j : Int) dep = H := ⟨_, rfl⟩
        rw [hH1] at HP2 HPl
        have hdep := (unhide HWf).dep; simp only at hdep
        have hji : i64 (j : Int) := ⟨by omega, by omega⟩
        have hI1 := fun W hW => itoa_any (j : Int) hji W hW
        have hI2 := fun W hW => itoa_any dep hdep W hW
        have dl1 := dec_len _ hji; have dl2 := dec_len _ hdep
        obtain ⟨d1, hd1⟩ : ∃ d, dec (j : Int) = d := ⟨_, rfl⟩
        obtain ⟨d2, hd2⟩ : ∃ d, dec dep = d := ⟨_, rfl⟩
        rw [hd1] at hI1 dl1
        rw [hd2] at hI2 dl2
        obtain ⟨s1, hs1⟩ : ∃ s, [98, 108, 111, 99, 107, 32] ++ d1 = s := ⟨_, rfl⟩
        obtain ⟨s2, hs2⟩ : ∃ s, s1 ++ [32, 100, 101, 112, 116, 104, 32] = s := ⟨_, rfl⟩
        obtain ⟨s3, hs3⟩ : ∃ s, s2 ++ d2 = s := ⟨_, rfl⟩
        have hH2 : s3 ++ [10] = H1 := by rw [← hs3, ← hs2, ← hs1, ← hH1, ← hd1, ← hd2]; simp [hdB]
        have ll1 : s1.length ≤ 30 := by rw [← hs1]; simp; omega
        have ll2 : s2.length ≤ 40 := by rw [← hs2]; simp; omega
        have ll3 : s3.length ≤ 70 := by rw [← hs3]; simp; omega
        have q1 := fun w => cat (A := ⟨#[98, 108, 111, 99, 107, 32]⟩) (B := str d1) (C := str s1) rfl rfl (by rw [hs1]) (by simp; omega) w
        have q2 := fun w => cat (A := str s1) (B := ⟨#[32, 100, 101, 112, 116, 104, 32]⟩) (C := str s2) rfl rfl (by rw [← hs2]) (by simp; omega) w
        have q3 := fun w => cat (A := str s2) (B := str d2) (C := str s3) rfl rfl (by rw [← hs3]) (by omega) w
        have q4 := fun w => cat (A := str s3) (B := ⟨#[10]⟩) (C := str H1) rfl rfl (by rw [← hH2]) (by simp; omega) w
        have HI1 := hide hI1; have HI2 := hide hI2
        clear hI1 hI2 dl1 dl2 hd1 hd2 hs1 hs2 hs3 hH1 hH2 ll1 ll2 ll3 hji hdep
        generalize hil : ins.length = il at *
        generalize hnl : next.length = nl at *
        have Hil := hide hil; have Hnl := hide hnl; clear hil hnl
        go_upto_region 8 with fail
        have hal := one_alloc wr (.cells #[.slice ai il ci, .slice an nl cn, .int .i64 dep] 47)
        have rn := heap_alloc_new wr (.cells #[.slice ai il ci, .slice an nl cn, .int .i64 dep] 47)
        generalize wr.alloc (.cells #[.slice ai il ci, .slice an nl cn, .int .i64 dep] 47) = W1 at *
        have FW1 : Fr w.heap.size W0 W1 := Fr.on hfr3 (Fr.of (unhide HSz _ hfr3) hal)
        have hbce : ∀ wx, Fr w.heap.size W1 wx → wr.heap.size < wx.heap.size ∧ wx.cell? ⟨wr.heap.size, 0, none⟩ = some (.slice ai il ci) ∧ wx.cell? ⟨wr.heap.size, 1, none⟩ = some (.slice an nl cn) ∧ wx.cell? ⟨wr.heap.size, 2, none⟩ = some (.int .i64 dep) := by
          intro wx hf
          have q := hf.row (by decide) rn
          refine ⟨(Array.getElem?_eq_some_iff.1 q).1, ?_, ?_, ?_⟩ <;> (rw [cell_of_row wx _ _ _ _ _ q]; rfl)
        have HBCE := hide hbce; have HFW1 := hide FW1
        have HBdW := hide ((unhide HBd3).below hal)
        have HWc := hide (Fr.of (unhide HSz _ FW1) (drewn W1 1))
        have HBdc := hide ((unhide HBdW).below (drewn W1 1))
        obtain ⟨b0, b1, b2, b3⟩ := hbce W1 (Fr.refl _ _)
        clear e0 e1 e2 k0 k1 k2 k3 z0 hal rn hbce FW1 hb1 hfr3
        generalize wr.heap.size = NB at *
        go_region_held3 (fun w' => w'.cell? ⟨NB, 2, none⟩ = some (.int .i64 dep))
          (first | go_keep | exact hk)
          (first
            | (go_at_call_of 24 (Value.int .i64 (j : Int)); refine (unhide HI1 _ (unhide HTB _ (Fr.on (unhide HFW1) (unhide HWc))).p).mono ?_; rintro e w5 ⟨rfl, hb5⟩; have HBdc := hide (Bd.below (unhide HBdc) hb5); have HWc := hide (Fr.on (unhide HWc) (Fr.of (unhide HSz _ (Fr.on (unhide HFW1) (unhide HWc))) hb5)); clear hb5; have hk := (unhide HBCE _ (unhide HWc)).2.2.2)
            | (go_at_call_of 24 (Value.int .i64 dep); refine (unhide HI2 _ (unhide HTB _ (Fr.on (unhide HFW1) (unhide HWc))).p).mono ?_; rintro e w6 ⟨rfl, hb6⟩; have HBdc := hide (Bd.below (unhide HBdc) hb6); have HWc := hide (Fr.on (unhide HWc) (Fr.of (unhide HSz _ (Fr.on (unhide HFW1) (unhide HWc))) hb6)); clear hb6; have hk := (unhide HBCE _ (unhide HWc)).2.2.2)
            | (refine step_app _ (by rfl) _ _ (by rfl) w.heap.size _ P1 H1 (by rfl) (unhide HBdc) (by rfl) (by have := unhide HPl; omega) (unhide HSz _ (Fr.on (unhide HFW1) (unhide HWc))) ?_; intro a7 n7 c7 w7 hbd7 hfr7; have HBd7 := hide hbd7; have HF7 := hide (Fr.on (unhide HWc) hfr7); clear hbd7 hfr7; have hk := (unhide HBCE _ (unhide HF7)).2.2.2)
            | fail)
        clear hk HWc HBdc HBdW HI1 HI2 q1 q2 q3 q4
        obtain ⟨Q1, hQ1⟩ : ∃ Q, P1 ++ H1 = Q := ⟨_, rfl⟩
        rw [hQ1] at HBd7
        have HP3 := hide (show F1 ++ txtB 0 (bl.take (j + 1)) = Q1 ++ insT ins next by rw [unhide HP2, ← hQ1]; simp)
        have HPl2 := hide (show Q1.length + (insT ins next).length ≤ 1099511627776 by rw [← hQ1, List.length_append]; have := unhide HPl; omega)
        clear hQ1 HP2 HPl b0 b1 b2 b3
        have hit := fun k z h => it_take ins next k z h
        have hil2 := fun k => it_le ins next k
        have HIt := hide hit; have HIl2 := hide hil2; clear hit hil2
        obtain ⟨b0, b1, b2, b3⟩ := unhide HBCE _ (unhide HF7)
        have hile := (unhide HWf).len; simp only at hile; rw [unhide Hil] at hile
        go_wp2_with fail
        go_loopw [5, 39] (fun v c wq => ∃ k : Nat, c = .int .i64 k ∧ (k : Int) ≤ il ∧ Iv w.heap.size W1 v (Q1 ++ insT (ins.take k) next) wq) (fun _ c _ => il - (intOf c).toNat)
        case atStart => exact ⟨0, rfl, by omega, _, _, _, rfl, by simpa [insT] using unhide HBd7, unhide HF7⟩
        case round =>
          obtain ⟨k, rfl, hk, a8, n8, c8, rfl, hbd8, hfr8⟩ := hrel
          have HBd8 := hide hbd8; have HF8 := hide hfr8
          clear b0 b1 b2 b3 hbd8
          obtain ⟨b0, b1, b2, b3⟩ := unhide HBCE _ hfr8
          by_cases hlt2 : (k : Int) < il
          · obtain ⟨y, hy⟩ : ∃ y, ins[k]? = some y := ⟨_, List.getElem?_eq_getElem (by have := unhide Hil; omega)⟩
            have hmem : y ∈ ins := List.mem_of_getElem? hy
            have hF0 := Fr.on (unhide HFW1) hfr8
            have hlow := unhide HLo _ hF0
            obtain ⟨bi, oi, rfl, hgi, hbi, hit⟩ := unhide HII (by have := unhide Hil; omega)
            obtain ⟨cs, hcl, ⟨vs, rfl, hs⟩, hce⟩ := hit k y hy
            have cc := fun i u hu => (hlow.cell (p := ⟨bi, oi + k * 5 + i, none⟩) hbi).trans (hce i u hu)
            have e0 := cc 0 _ rfl; have e1 := cc 1 _ rfl; have e2 := cc 2 _ rfl; have e3 := cc 3 _ rfl; have e4 := cc 4 _ rfl
            simp only [Nat.add_zero] at e0
            have hbi2 : bi < wr.heap.size := World.block_lt_of_cell? wr _ e0
            have hwy := (unhide HWf).ins y hmem
            have HSs := hide hs
            obtain ⟨sa, sc, rfl, _⟩ := hs
            obtain ⟨R1, hR1⟩ : ∃ R, Q1 ++ insT (ins.take k) next = R := ⟨_, rfl⟩
            have hR2 : Q1 ++ insT (ins.take (k + 1)) next = R1 ++ line y next := by rw [← hR1, unhide HIt k y hy]; simp
            have hRl : R1.length + (line y next).length ≤ 1099511627776 := by
              have a1 := unhide HIl2 (k + 1)
              have a2 : (Q1 ++ insT (ins.take (k + 1)) next).length = R1.length + (line y next).length := by rw [hR2, List.length_append]
              rw [List.length_append] at a2; have := unhide HPl2; omega
            rw [hR1] at HBd8
            have HR2 := hide hR2; have HRl := hide hRl; have HWy := hide hwy; have HLow := hide hlow
            clear hy hit hcl hce cc hmem hR1 hR2 hRl hlow hwy hk
            obtain ⟨op, dst, src, nn, of⟩ := y
            simp only at *
            generalize hsl : src.length = sl at *
            have HSl := hide hsl; clear hsl
            go_upto_region 12 with fail
            have hal := one_alloc wr (.cells #[.int .u8 (op : Int), .int .i64 dst, .slice sa sl sc, .int .i64 nn, .int .u32 of] 50)
            have rn := heap_alloc_new wr (.cells #[.int .u8 (op : Int), .int .i64 dst, .slice sa sl sc, .int .i64 nn, .int .u32 of] 50)
            generalize wr.alloc (.cells #[.int .u8 (op : Int), .int .i64 dst, .slice sa sl sc, .int .i64 nn, .int .u32 of] 50) = W3 at *
            have hF3 : Fr w.heap.size W1 W3 := Fr.on hfr8 (Fr.of (unhide HSz _ hF0) hal)
            have hF30 := Fr.on (unhide HFW1) hF3
            have hlow3 := unhide HLo _ hF30
            have HC3 := hide (line_any ⟨op, dst, src, nn, of⟩ (unhide HWy) next (unhide HWf).next (unhide HWf).nlen g (.slice sa sl sc) (.slice an nl cn) (.slice a8 n8 c8) R1 w.heap.size W3 (unhide HTB _ hF30) ((unhide HSs).fr hlow3 (unhide HG)) ((unhide HN).fr hlow3 (unhide HG)) (unhide HG) (unhide HSz _ hF30) ((unhide HBd8).below hal) (unhide HRl))
            clear b0 b1 b2 b3 e0 e1 e2 e3 e4
            obtain ⟨b0, b1, b2, b3⟩ := unhide HBCE _ hF3
            have e0 : W3.cell? ⟨wr.heap.size, 0, none⟩ = some (.int .u8 (op : Int)) := by rw [cell_of_row W3 _ 0 _ _ _ rn]; rfl
            have e1 : W3.cell? ⟨wr.heap.size, 1, none⟩ = some (.int .i64 dst) := by rw [cell_of_row W3 _ 1 _ _ _ rn]; rfl
            have e2 : W3.cell? ⟨wr.heap.size, 2, none⟩ = some (.slice sa sl sc) := by rw [cell_of_row W3 _ 2 _ _ _ rn]; rfl
            have e3 : W3.cell? ⟨wr.heap.size, 3, none⟩ = some (.int .i64 nn) := by rw [cell_of_row W3 _ 3 _ _ _ rn]; rfl
            have e4 : W3.cell? ⟨wr.heap.size, 4, none⟩ = some (.int .u32 of) := by rw [cell_of_row W3 _ 4 _ _ _ rn]; rfl
            have HF3' := hide hF3
            clear hal rn hF3 hF30 hlow3 hfr8 hF0 hbi2
            go_wp2_with fail
            refine (unhide HC3).mono ?_
            rintro e w9 ⟨v9, rfl, a9, n9, c9, rfl, hbd9, hfr9⟩
            have HBd9 := hide hbd9; have HF9 := hide (Fr.on (unhide HF3') hfr9)
            clear hbd9 hfr9 HC3 b0 b1 b2 b3 e0 e1 e2 e3 e4
            go_wp2
            go_roundw
            case rel => exact ⟨k + 1, by go_num, by omega, _, _, _, rfl, by rw [unhide HR2]; exact unhide HBd9, unhide HF9⟩
            case measure => simp [intOf]; omega
          · obtain rfl : k = il := by omega
            have HBd9 := hide (show Bd wr w.heap.size (.slice a8 n8 c8) (F1 ++ txtB 0 (bl.take (j + 1))) by
              have := unhide HBd8
              rw [← unhide Hil, List.take_length] at this
              rw [unhide HP3]; exact this)
            have HF9 := hide (Fr.on (unhide HFW1) hfr8)
            clear hk hlt2 HBd8 hfr8 b0 b1 b2 b3
            go_wp2
            go_roundw
            case rel => exact ⟨j + 1, by go_num, by omega, _, _, _, rfl, unhide HBd9, unhide HF9⟩
            case measure => simp [intOf]; omega
      · obtain rfl : j = n := by omega
        have hbdT : Bd wr w.heap.size (.slice a3 n3 c3) T1 := by
          have := unhide HBd3
          rw [← unhide HNb, List.take_length] at this
          rw [← unhide HTt]; exact this
        have hlow := unhide HLo _ hfr3
        obtain ⟨_, _, esh, _⟩ := hbdT.shape
        simp only [Value.slice.injEq] at esh
        obtain ⟨eq1, rfl, eq2⟩ := esh
        clear eq1 eq2
        have hback := back_bd hbdT
        have HLw := hide hlow
        clear hj hlt HBd3 hfr3 hlow hbdT k0 k1 k2 k3 z0
        generalize hTl : T1.length = tl at *
        by_cases h6 : tl ≤ 65536
        · rw [if_pos h6] at HS HE
          have t6 : decide ((tl : Int) > 65536) = false := by simp; omega
          have t7 : decide ((65536 : Int) < tl) = false := by simp; omega
          have HSS := hide (show str SS = str T1 by rw [unhide HS])
          have HEE := hide (show errV EE = .nilIface by rw [unhide HE]; exact errV_0)
          clear h6 HS HE hTl
          go_wp2
          go_ret2
          exact ⟨ret_se (unhide HSS).symm (unhide HEE).symm, unhide HLw⟩
        · rw [if_neg h6] at HS HE
          have t6 : (65536 : Int) < tl := by omega
          have HSS := hide (show str SS = ⟨#[]⟩ by rw [unhide HS]; rfl)
          have HEE := hide (show errV EE = .iface 60 (.int .i64 2) by rw [unhide HE]; exact errV_2)
          clear h6 HS HE hTl
          go_wp2
          go_ret2
          exact ⟨ret_se (unhide HSS).symm (unhide HEE).symm, unhide HLw⟩
end Vc
end Go.Proofs.YtgelkfmdkmopbaaDoor
