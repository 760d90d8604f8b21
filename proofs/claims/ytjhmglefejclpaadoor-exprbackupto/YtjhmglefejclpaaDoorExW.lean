/- The checker's list; expr.Check. -/
import Derived.Test.YtjhmglefejclpaaDoorExV
import Derived.Test.YtjhmglefejclpaaDoorExE
namespace Go.Proofs.YtjhmglefejclpaaDoor
open Go.RowKit
namespace Ex
set_option linter.unusedVariables false

theorem okL_many {q nest : Nat} {l : List Ins} (h : 16384 < q + l.length) : okL q nest l = false := by
  have := cnt_len l
  simp [okL]; intro h1; omega
theorem okL_deep {q nest : Nat} {l : List Ins} (h : 64 < nest) : okL q nest l = false := by
  simp [okL]; intro h1 h2; omega
theorem okL_item {q nest j : Nat} {l : List Ins} (hj : j < l.length) (h : okI (q + cnt (l.take j) + l.length - j) nest l[j] = false) (hle : cnt (l.take j) + l.length ≥ j) : okL q nest l = false := by
  unfold okI at h
  unfold okL
  cases hm : mayI nest l[j] with
  | false => rw [may_not (List.getElem_mem hj) hm]; simp
  | true =>
    rw [hm] at h
    simp only [Bool.true_and, decide_eq_false_iff_not] at h
    have h1 := cnt_take hj
    have h2 := cnt_take_le l (j + 1)
    have : ¬ q + cnt l ≤ 16384 := by omega
    simp [this]
theorem okL_yes {q nest : Nat} {l : List Ins} (h : q + cnt l ≤ 16384) (hn : nest ≤ 64) (hm : ∀ j (hj : j < l.length), mayI nest l[j] = true) : okL q nest l = true := by
  unfold okL
  rw [may_of fun i hi => by obtain ⟨j, hj, rfl⟩ := List.mem_iff_getElem.1 hi; exact hm j hj]
  simp [h, hn]
theorem okI_may {q nest : Nat} {i : Ins} (h : okI q nest i = true) : mayI nest i = true ∧ q + cnt i.body + cnt i.els ≤ 16384 := by
  unfold okI at h
  simpa using h

set_option maxRecDepth 100000 in
set_option maxHeartbeats 3200000 in
theorem chk_any (l : List Ins) : ChkP l := by
  refine ind2 (P := ChkP) (fun l ih => ?_) l
  intro N q nest g v w hk hv hT hq hn hl hs hw
  obtain ⟨a, ca, rfl, hca, _, hA⟩ := hv
  have c0 := hk.c0; have fz := hk.fz
  have hk1 := hk.set (q + l.length)
  have ht1 := Tn.set N 0 w (.int .i64 ((q + l.length : Nat) : Int))
  rw [show (((q + l.length : Nat)) : Int) = (q : Int) + (l.length : Int) by omega] at hk1 ht1
  have c1 := hk1.c0
  rw [show (((q + l.length : Nat)) : Int) = (q : Int) + (l.length : Int) by omega] at c1
  by_cases h1 : 16384 < q + l.length
  · have hno := okL_many (nest := nest) h1
    rw [hno]
    have h1' : (16384 : Int) < (q : Int) + (l.length : Int) := by omega
    have HK := hide hk1; have HT := hide ht1
    generalize l.length = n at *
    clear hno hA ih hs hw hk hk1 ht1 hT h1
    go_enter Tryd.func31, Tryd.ntmps31
    go_wp2
    go_ret
    exact ⟨_, rfl, unhide HK, unhide HT, fun e => absurd e (by decide)⟩
  by_cases h2 : 64 < nest
  · have hno := okL_deep (q := q) (l := l) h2
    rw [hno]
    have h1' : (q : Int) + (l.length : Int) ≤ 16384 := by omega
    have h2' : (64 : Int) < (nest : Int) := by omega
    have HK := hide hk1; have HT := hide ht1
    generalize l.length = n at *
    clear hno hA ih hs hw hk hk1 ht1 hT h1 h2
    go_enter Tryd.func31, Tryd.ntmps31
    go_wp2
    go_ret
    exact ⟨_, rfl, unhide HK, unhide HT, fun e => absurd e (by decide)⟩
  have h1' : (q : Int) + (l.length : Int) ≤ 16384 := by omega
  have h2' : (nest : Int) ≤ 64 := by omega
  have HK := hide hk; have HT := hide hT; have HIh := hide ih; have HSz := hide hs; have HWf := hide hw; have HK1 := hide hk1; have HT1 := hide ht1
  clear hk hT ih hs hw hk1 ht1 h1 h2
  by_cases h0 : 0 < l.length
  · obtain ⟨ba, oa, rfl, hgb, hla⟩ := hA h0
    have HLa := hide hla
    clear hA hla
    generalize hln : l.length = n at *
    have HN := hide hln; clear hln
    go_enter Tryd.func31, Tryd.ntmps31
    go_wp2_with fail
    generalize w.setCell ⟨N, 0, none⟩ (.int .i64 ((q : Int) + (n : Int))) = w1 at *
    go_loopw [29] (fun c wr => ∃ j : Nat, c = .int .i64 j ∧ (j : Int) ≤ n ∧ Ck wr N (q + cnt (l.take j) + n - j) ∧ q + cnt (l.take j) + n - j ≤ 16384 ∧ Tn N w wr ∧ (∀ i (h : i < l.length), i < j → mayI nest l[i] = true)) (fun c _ => n - (intOf c).toNat)
    case atStart => exact ⟨0, rfl, by omega, by simpa [cnt_nil] using unhide HK1, by simp [cnt_nil]; omega, unhide HT1, fun i _ hi => absurd hi (by omega)⟩
    case round =>
      clear c1 c0 fz
      obtain ⟨j, rfl, hj, hkr, hqr, htr, hall⟩ := hrel
      have HAll := hide hall; have HTr := hide htr; have HKr := hide hkr
      by_cases hlt : (j : Int) < n
      · have ja : j < l.length := by have := unhide HN; omega
        have hm := Ck.moves (unhide HK) htr g
        have hbk : wr.heap[ba]? = w.heap[ba]? := htr.block ba (Items_lt (unhide HLa) (by omega)) (fun e => (unhide HK).kin (by cases e; exact Items_kin (unhide HLa) (by omega)))
        have iA := ItemAt.move hm hbk (Items_get (unhide HLa) j ja)
        have hI := unhide HIh l[j] (List.getElem_mem ja)
        have sA := Sz_get (unhide HSz) l[j] (List.getElem_mem ja)
        have wA := Wf_get (unhide HWf) l[j] (List.getElem_mem ja)
        have hT := cnt_take ja
        have hge : cnt (l.take j) + n ≥ j := by omega
        have hno := fun h => okL_item (q := q) (nest := nest) ja h (by have := unhide HN; omega)
        rw [unhide HN] at hno
        have hTb := Ck.tb (unhide HK) htr (unhide HT)
        generalize hx : l[j] = x at *
        have HX := hide hx
        obtain ⟨vb, ve, vl, hc, k1, k2, k3⟩ := iA
        have K1 := hide k1; have K2 := hide k2; have K3 := hide k3
        obtain ⟨d1, db1, rfl, _⟩ := k1
        obtain ⟨d2, db2, rfl, _⟩ := k2
        obtain ⟨d3, db3, rfl, _⟩ := k3
        obtain ⟨e0, e1, e2, e3, e4, e5, e6, e7⟩ := hc
        have hb0 := one_alloc wr (.cells #[.int .u8 x.op, .int .i64 x.n, .int .u32 x.al, .int .u32 x.of, .int .u8 x.re, .slice d1 x.body.length db1, .slice d2 x.els.length db2, .slice d3 x.ls.length db3] 50)
        have hci := chki_any x hI.1 hI.2 (nest := nest) (hkr.below hb0) ((unhide K1).below hb0) ((unhide K2).below hb0) (Labs.below (unhide K3) hb0) (hTb.below hb0) hqr (by omega) sA wA
        have HCi := hide hci; have HNo := hide hno; have HT2 := hide hT; have HB0 := hide hb0; have HQr := hide hqr; have HGe := hide hge; have HTk := hide (show cnt (l.take (j + 1)) + n ≤ cnt l + (j + 1) from by have := cnt_take_le l (j + 1); rw [unhide HN] at this; exact this)
        clear hci hno hT hx hI sA wA hTb hm hbk hb0 hall hkr hqr htr hj hge
        go_wp2_with fail
        refine (unhide HCi).mono ?_
        rintro e w3 ⟨q', rfl, hk3, ht3, hq3⟩
        have HK3 := hide hk3; have HT3 := hide (Tn.on (unhide HTr) (Tn.on (Tn.of (N := N) (unhide HB0)) ht3)); have HQ3 := hide hq3
        clear hk3 ht3 hq3 e0 e1 e2 e3 e4 e5 e6 e7
        cases hoi : okI (q + cnt (l.take j) + n - j) nest x with
        | false =>
          have HF := hide (unhide HNo hoi)
          clear hoi
          go_wp2
          go_ret
          exact ⟨_, ret_bool (unhide HF).symm, unhide HK3, unhide HT3, fun e => absurd (e.symm.trans (unhide HF)) (by decide)⟩
        | true =>
          have hmm := okI_may hoi
          have hqq := unhide HQ3 hoi
          have hq4 : q' = q + cnt (l.take (j + 1)) + n - (j + 1) := by have := unhide HT2; have := unhide HGe; omega
          subst hq4
          have HMm := hide hmm
          clear hoi hmm hqq
          go_wp2
          go_roundw
          case rel => exact ⟨j + 1, by go_num, by omega, unhide HK3, by have := (unhide HMm).2; have := unhide HT2; have := unhide HGe; omega, unhide HT3, fun i hi hij => by
            by_cases e : i = j
            · subst e; rw [unhide HX]; exact (unhide HMm).1
            · exact unhide HAll i hi (by omega)⟩
          case measure => simp [intOf]; omega
      · obtain rfl : j = n := by omega
        have htk : l.take j = l := by rw [← unhide HN]; exact List.take_length
        rw [htk] at hkr hqr
        have HY := hide (show okL q nest l = true from okL_yes (by omega) (by omega) (fun i hi => unhide HAll i hi (by have := unhide HN; omega)))
        have hkr' : Ck wr N (q + cnt l) := by rw [show q + cnt l + j - j = q + cnt l by omega] at hkr; exact hkr
        have HKr2 := hide hkr'
        clear hj hlt hkr hqr htk hkr' htr hall
        go_wp2
        go_ret
        exact ⟨_, ret_bool (unhide HY).symm, unhide HKr2, unhide HTr, fun _ => rfl⟩
  · have hlz : l = [] := List.eq_nil_of_length_eq_zero (by omega)
    subst hlz
    simp only [List.length_nil] at *
    have HY := hide (show okL q nest [] = true from okL_yes (by rw [cnt_nil]; omega) (by omega) (fun i hi => absurd hi (by simp)))
    have HKn := hide (show Ck (w.setCell ⟨N, 0, none⟩ (.int .i64 (q : Int))) N q by have := unhide HK1; simpa using this)
    have HTn := hide (show Tn N w (w.setCell ⟨N, 0, none⟩ (.int .i64 (q : Int))) by have := unhide HT1; simpa using this)
    have c1' : (w.setCell ⟨N, 0, none⟩ (.int .i64 (q : Int))).cell? ⟨N, 0, none⟩ = some (.int .i64 (q : Int)) := (unhide HKn).c0
    clear hA hca h0 c1 HK1 HT1
    go_enter Tryd.func31, Tryd.ntmps31
    go_wp2_with fail
    go_loopw [29] (fun c wr => c = .int .i64 0 ∧ wr = w.setCell ⟨N, 0, none⟩ (.int .i64 (q : Int))) (fun c _ => 0)
    case atStart => exact ⟨rfl, rfl⟩
    case round =>
      obtain ⟨rfl, rfl⟩ := hrel
      go_wp2
      go_ret
      exact ⟨q, ret_bool (unhide HY).symm, unhide HKn, unhide HTn, fun _ => by rw [cnt_nil]; rfl⟩

/-- may they be? -/
def mayB (l : List Ins) : Bool := okL 0 0 l
set_option maxRecDepth 100000 in
set_option maxHeartbeats 800000 in
theorem check_any (l : List Ins) {g : Nat → Prop} {v : Value} {w : World} (hv : Code w g l v) (hT : Tb w) (hl : l.length ≤ 1099511627776) (hs : Sz 1099511627776 l) (hw : Wf l) :
    Calls Tryd.prog 19 #[v] w fun e w' => e = .returned (errV (if mayB l = true then 0 else 1)) ∧ Below w.heap.size w w' := by
  have hb := one_alloc w (.cells #[.int .i64 0] 68)
  have hk : Ck (w.alloc (.cells #[.int .i64 0] 68)) w.heap.size 0 := heap_alloc_new w _
  have hc := chk_any l w.heap.size 0 0 g v _ hk (hv.below hb) (hT.below hb) (by omega) (by omega) hl hs hw
  obtain ⟨a, ca, rfl, _⟩ := hv
  have HC := hide hc; have HB := hide hb
  clear hc hk hb hT hs hw
  unfold mayB
  cases hm : okL 0 0 l with
  | true =>
    rw [hm] at HC
    rw [if_pos rfl, errV_0]
    clear hm
    go_enter Tryd.func19, Tryd.ntmps19
    go_wp2_with fail
    refine (unhide HC).mono ?_
    rintro e w1 ⟨q', rfl, _, ht, _⟩
    have HT := hide (Tn.below (unhide HB) ht); clear ht
    go_wp2
    go_ret
    exact ⟨rfl, unhide HT⟩
  | false =>
    rw [hm] at HC
    rw [if_neg (by decide), errV_1]
    clear hm
    go_enter Tryd.func19, Tryd.ntmps19
    go_wp2_with fail
    refine (unhide HC).mono ?_
    rintro e w1 ⟨q', rfl, _, ht, _⟩
    have HT := hide (Tn.below (unhide HB) ht); clear ht
    go_wp2
    go_ret
    exact ⟨rfl, unhide HT⟩
end Ex
end Go.Proofs.YtjhmglefejclpaaDoor
