/- The document's each: may each be, so deep within others? -/
import Derived.Test.YtjhmglefejclpaaDoorF2
import Derived.Test.YtjhmglefejclpaaDoorF1
import Derived.Test.YtjhmglefejclpaaDoorGB

/- The document's each: may each be, so deep within others? -/
namespace Go.Proofs.YtjhmglefejclpaaDoor
open Go.RowKit
namespace Ex
set_option linter.unusedVariables false
set_option linter.unusedSimpArgs false
attribute [local go_sem ↓] Go.wp_at_zero Go.wp_at_succ

theorem boxi {w w2 : World} {A : Array Value} {t : TypeId} (hb : Below (w.alloc (.cells A t)).heap.size (w.alloc (.cells A t)) w2) (j : Nat) : w2.cell? ⟨w.heap.size, j, none⟩ = A[j]? := by
  rw [hb.cell (p := ⟨w.heap.size, j, none⟩) (by simp)]
  simp
def EachP (l : List Ins) : Prop := ∀ (g : Nat → Prop) (v : Value) (d : Nat) (w : World), Code w g l v → l.length ≤ 1099511627776 → Sz 1099511627776 l → Wf l → d ≤ 64 → FormH →
  Calls Tryd.prog 29 #[v, .int .i64 d] w fun e w' => e = .returned (.bool (may d l)) ∧ Below w.heap.size w w'
set_option maxRecDepth 100000 in
set_option maxHeartbeats 12800000 in
theorem each_any (l : List Ins) : EachP l := by
  refine ind2 (P := EachP) (fun l ih => ?_) l
  intro g v d w hv hll hsz hwf hd hF
  obtain ⟨a, ca, rfl, hca, _, hA⟩ := hv
  have HA := hide hA; have HIh := hide ih; have HSz := hide hsz; have HWf := hide hwf; have HF := hide hF
  clear hA ih hsz hwf hF
  go_enter Tryd.func29, Tryd.ntmps29
  go_wp2_with fail
  go_loopg [5] (l.length + 1) (fun gk s5 wr => ∃ (j : Nat), s5 = .int .i64 j ∧ j ≤ l.length ∧ l.length - j < gk ∧ Hid (∀ i (h : i < l.length), i < j → mayI d l[i] = true) ∧ Hid (Below w.heap.size w wr))
  case atStart => exact ⟨0, rfl, by omega, by omega, hide (fun i h hi => by omega), hide (Below.refl _ _)⟩
  case round =>
    obtain ⟨j, rfl, hjl, hgk, HU, HB⟩ := hrel
    by_cases hj : j < l.length
    · obtain ⟨g', rfl⟩ : ∃ g', gk = g' + 1 := ⟨gk - 1, by omega⟩
      have hjz : (j : Int) < (l.length : Int) := by omega
      obtain ⟨ba, oa, rfl, hga, hla⟩ := unhide HA (by omega)
      have hmA : Moves w wr g g := moves_below (unhide HB) (fun _ _ h => h)
      have iA := ItemAt.move hmA ((unhide HB).block ba (Items_lt hla (by omega))) (Items_get hla j hj)
      have HIn := hide (List.getElem_mem hj)
      have HWi := hide (Wf_get (unhide HWf) l[j] (List.getElem_mem hj))
      have HSi := hide (Sz_get (unhide HSz) l[j] (List.getElem_mem hj))
      have HI := hide (unhide HIh l[j] (List.getElem_mem hj))
      have hU2 : mayI d l[j] = true → ∀ i (h : i < l.length), i < j + 1 → mayI d l[i] = true := by
        intro hm i h hi
        rcases Nat.lt_or_ge i j with h1 | h1
        · exact unhide HU i h h1
        · obtain rfl : i = j := by omega
          exact hm
      have HN := hide hU2
      clear hU2 hmA hla hga HU
      generalize l[j] = x at *
      obtain ⟨op, n, al, of, re, bo, el, ls⟩ := x
      obtain ⟨vb, ve, vl, hc, q1, q2, q3⟩ := iA
      simp only at hc q1 q2 q3 HWi HSi HI
      have H1 := hide q1; have H2 := hide q2
      obtain ⟨xb, cb, rfl, _⟩ := q1
      obtain ⟨xe, ce, rfl, _⟩ := q2
      obtain ⟨xl, cl, rfl, _⟩ := q3
      obtain ⟨e0, e1, e2, e3, e4, e5, e6, e7⟩ := hc
      obtain ⟨ho0, ho1⟩ := (unhide HWi).1.1
      have hfm := fun W => unhide HF op W ho0 ho1
      have hal := one_alloc wr (.cells #[.int .u8 op, .int .i64 n, .int .u32 al, .int .u32 of, .int .u8 re, .slice xb bo.length cb, .slice xe el.length ce, .slice xl ls.length cl] 55)
      have HAl := hide hal; clear hal
      cases hs : (frm op).isSome with
      | false =>
        rw [hs] at hfm
        have hmf : mayI d ⟨op, n, al, of, re, bo, el, ls⟩ = false := by unfold mayI one; simp only [hs]; simp
        have HMf := hide hmf; have HFm := hide hfm
        clear hmf hfm
        go_wp2_with fail
        refine (unhide HFm _).mono ?_
        rintro e w2 ⟨rfl, hb2⟩
        have HB2 := hide (Below.on (unhide HB) (Below.on (unhide HAl) hb2)); clear hb2
        go_wp2
        go_ret
        exact ⟨by rw [may_not (unhide HIn) (unhide HMf)]; rfl, unhide HB2⟩
      | true =>
        obtain ⟨hf0, hf9⟩ := fr_bd ho0 ho1 hs
        obtain ⟨f, hf⟩ : ∃ f, fr op = f := ⟨_, rfl⟩
        rw [hf] at hf0 hf9
        rw [hs, hf] at hfm
        have halx := fun W => alone_any f hf0 hf9 op n al of re xb xe xl bo.length cb el.length ce ls.length cl W
        cases halo : alo f n al of re bo.length el.length ls.length with
        | false =>
          rw [halo] at halx
          have hmf : mayI d ⟨op, n, al, of, re, bo, el, ls⟩ = false := by unfold mayI one; simp only [hf, halo]; simp
          have HMf := hide hmf; have HFm := hide hfm; have HAx := hide halx
          clear hmf hfm halx halo hf0 hf9
          go_wp2_with fail
          refine (unhide HFm _).mono ?_
          rintro e w2 ⟨rfl, hb2⟩
          have c0 : w2.cell? ⟨wr.heap.size, 0, none⟩ = some (.int .u8 op) := boxi hb2 0
          have c1 : w2.cell? ⟨wr.heap.size, 1, none⟩ = some (.int .i64 n) := boxi hb2 1
          have c2 : w2.cell? ⟨wr.heap.size, 2, none⟩ = some (.int .u32 al) := boxi hb2 2
          have c3 : w2.cell? ⟨wr.heap.size, 3, none⟩ = some (.int .u32 of) := boxi hb2 3
          have c4 : w2.cell? ⟨wr.heap.size, 4, none⟩ = some (.int .u8 re) := boxi hb2 4
          have c5 : w2.cell? ⟨wr.heap.size, 5, none⟩ = some (.slice xb bo.length cb) := boxi hb2 5
          have c6 : w2.cell? ⟨wr.heap.size, 6, none⟩ = some (.slice xe el.length ce) := boxi hb2 6
          have c7 : w2.cell? ⟨wr.heap.size, 7, none⟩ = some (.slice xl ls.length cl) := boxi hb2 7
          have HB2 := hide (Below.on (unhide HB) (Below.on (unhide HAl) hb2)); clear hb2
          go_wp2_with fail
          refine (unhide HAx _).mono ?_
          rintro e w3 ⟨rfl, hb3⟩
          have HB3 := hide (Below.on (unhide HB2) hb3); clear hb3
          go_wp2
          go_ret
          exact ⟨by rw [may_not (unhide HIn) (unhide HMf)]; rfl, unhide HB3⟩
        | true =>
          rw [halo] at halx
          have HFm := hide hfm; have HAx := hide halx
          clear hfm halx
          go_wp2_with fail
          refine (unhide HFm _).mono ?_
          rintro e w2 ⟨rfl, hb2⟩
          have b0 : w2.cell? ⟨wr.heap.size, 0, none⟩ = some (.int .u8 op) := boxi hb2 0
          have b1 : w2.cell? ⟨wr.heap.size, 1, none⟩ = some (.int .i64 n) := boxi hb2 1
          have b2 : w2.cell? ⟨wr.heap.size, 2, none⟩ = some (.int .u32 al) := boxi hb2 2
          have b3 : w2.cell? ⟨wr.heap.size, 3, none⟩ = some (.int .u32 of) := boxi hb2 3
          have b4 : w2.cell? ⟨wr.heap.size, 4, none⟩ = some (.int .u8 re) := boxi hb2 4
          have b5 : w2.cell? ⟨wr.heap.size, 5, none⟩ = some (.slice xb bo.length cb) := boxi hb2 5
          have b6 : w2.cell? ⟨wr.heap.size, 6, none⟩ = some (.slice xe el.length ce) := boxi hb2 6
          have b7 : w2.cell? ⟨wr.heap.size, 7, none⟩ = some (.slice xl ls.length cl) := boxi hb2 7
          have hlt2 : wr.heap.size < w2.heap.size := by have := hb2.size; simp at this; omega
          have HB12 := hide (Below.on (unhide HAl) hb2)
          have HB2 := hide (Below.on (unhide HB) (Below.on (unhide HAl) hb2)); clear hb2
          go_wp2_with fail
          refine (unhide HAx _).mono ?_
          rintro e w3 ⟨rfl, hb3⟩
          have c1 : w3.cell? ⟨wr.heap.size, 1, none⟩ = some (.int .i64 n) := (hb3.cell (p := ⟨wr.heap.size, 1, none⟩) hlt2).trans b1
          have c4 : w3.cell? ⟨wr.heap.size, 4, none⟩ = some (.int .u8 re) := (hb3.cell (p := ⟨wr.heap.size, 4, none⟩) hlt2).trans b4
          have c5 : w3.cell? ⟨wr.heap.size, 5, none⟩ = some (.slice xb bo.length cb) := (hb3.cell (p := ⟨wr.heap.size, 5, none⟩) hlt2).trans b5
          have c6 : w3.cell? ⟨wr.heap.size, 6, none⟩ = some (.slice xe el.length ce) := (hb3.cell (p := ⟨wr.heap.size, 6, none⟩) hlt2).trans b6
          have c7 : w3.cell? ⟨wr.heap.size, 7, none⟩ = some (.slice xl ls.length cl) := (hb3.cell (p := ⟨wr.heap.size, 7, none⟩) hlt2).trans b7
          have hlt3 : wr.heap.size < w3.heap.size := by have := hb3.size; omega
          have HB13 := hide (Below.on (unhide HB12) hb3)
          have HB3 := hide (Below.on (unhide HB2) hb3)
          clear hb3 b0 b1 b2 b3 b4 b5 b6 b7 hlt2 e0 e1 e2 e3 e4 e5 e6 e7 HAx HFm HB12
          rcases (show f = 0 ∨ f = 1 ∨ f = 2 ∨ f = 3 ∨ f = 4 ∨ f = 5 ∨ f = 6 ∨ f = 7 ∨ f = 8 ∨ f = 9 from by omega) with rfl | rfl | rfl | rfl | rfl | rfl | rfl | rfl | rfl | rfl
          · have hmi := unhide HN (by unfold mayI one; simp only [hs, hf, halo, Bool.true_and, Bool.and_true]; simp [bnd, blk])
            have HMi := hide hmi; clear hmi
            go_wp2
            go_roundg g'
            case measure => omega
            case rel => exact ⟨j + 1, by simp, by omega, by omega, HMi, HB3⟩
          · by_cases t1 : n < -2147483648
            · have t1b : decide (n < -2147483648) = true := decide_eq_true t1
              go_wp2
              go_ret
              exact ⟨by rw [may_not (unhide HIn) (by unfold mayI one; simp only [hs, hf, halo, Bool.true_and, Bool.and_true]; simp [bnd, blk]; omega)]; rfl, unhide HB3⟩
            · have t1b : decide (n < -2147483648) = false := decide_eq_false t1
              by_cases t2 : 2147483648 ≤ n
              · have t2b : decide (2147483648 ≤ n) = true := decide_eq_true t2
                go_wp2
                go_ret
                exact ⟨by rw [may_not (unhide HIn) (by unfold mayI one; simp only [hs, hf, halo, Bool.true_and, Bool.and_true]; simp [bnd, blk]; omega)]; rfl, unhide HB3⟩
              · have t2b : decide (2147483648 ≤ n) = false := decide_eq_false t2
                have hmi := unhide HN (by unfold mayI one; simp only [hs, hf, halo, Bool.true_and, Bool.and_true]; simp [bnd, blk]; omega)
                have HMi := hide hmi; clear hmi
                go_wp2
                go_roundg g'
                case measure => omega
                case rel => exact ⟨j + 1, by simp, by omega, by omega, HMi, HB3⟩
          · have hmi := unhide HN (by unfold mayI one; simp only [hs, hf, halo, Bool.true_and, Bool.and_true]; simp [bnd, blk])
            have HMi := hide hmi; clear hmi
            go_wp2
            go_roundg g'
            case measure => omega
            case rel => exact ⟨j + 1, by simp, by omega, by omega, HMi, HB3⟩
          · by_cases t1 : n < 0
            · have t1b : decide (n < 0) = true := decide_eq_true t1
              go_wp2
              go_ret
              exact ⟨by rw [may_not (unhide HIn) (by unfold mayI one; simp only [hs, hf, halo, Bool.true_and, Bool.and_true]; simp [bnd, blk]; omega)]; rfl, unhide HB3⟩
            · have t1b : decide (n < 0) = false := decide_eq_false t1
              by_cases t2 : 4294967296 ≤ n
              · have t2b : decide (4294967296 ≤ n) = true := decide_eq_true t2
                go_wp2
                go_ret
                exact ⟨by rw [may_not (unhide HIn) (by unfold mayI one; simp only [hs, hf, halo, Bool.true_and, Bool.and_true]; simp [bnd, blk]; omega)]; rfl, unhide HB3⟩
              · have t2b : decide (4294967296 ≤ n) = false := decide_eq_false t2
                have hmi := unhide HN (by unfold mayI one; simp only [hs, hf, halo, Bool.true_and, Bool.and_true]; simp [bnd, blk]; omega)
                have HMi := hide hmi; clear hmi
                go_wp2
                go_roundg g'
                case measure => omega
                case rel => exact ⟨j + 1, by simp, by omega, by omega, HMi, HB3⟩
          · have hmi := unhide HN (by unfold mayI one; simp only [hs, hf, halo, Bool.true_and, Bool.and_true]; simp [bnd, blk])
            have HMi := hide hmi; clear hmi
            go_wp2
            go_roundg g'
            case measure => omega
            case rel => exact ⟨j + 1, by simp, by omega, by omega, HMi, HB3⟩
          · have hmi := unhide HN (by unfold mayI one; simp only [hs, hf, halo, Bool.true_and, Bool.and_true]; simp [bnd, blk])
            have HMi := hide hmi; clear hmi
            go_wp2
            go_roundg g'
            case measure => omega
            case rel => exact ⟨j + 1, by simp, by omega, by omega, HMi, HB3⟩
          · by_cases t1 : 64 ≤ d
            · have t1z : (64 : Int) ≤ (d : Int) := by omega
              have t1n : ¬ d < 64 := by omega
              have hmf : mayI d ⟨op, n, al, of, re, bo, el, ls⟩ = false := by unfold mayI; simp [hf, blk, t1n]
              have HMf := hide hmf; clear hmf
              go_wp2
              go_ret
              exact ⟨by rw [may_not (unhide HIn) (unhide HMf)]; rfl, unhide HB3⟩
            · have t1z : ¬ (64 : Int) ≤ (d : Int) := by omega
              have t1y : (d : Int) < 64 := by omega
              by_cases t2 : re = 0 ∨ re = 127 ∨ re = 126
              · have QB := hide (fun wx (hb : Below wr.heap.size wr wx) => (unhide HI).1 g _ (d + 1) wx ((unhide H1).below hb) (by have := unhide HSi; exact this.1) (unhide HSi).2.2.2.1 (unhide HWi).2.1 (by omega) (unhide HF))
                have QE := hide (fun wx (hb : Below wr.heap.size wr wx) => (unhide HI).2 g _ (d + 1) wx ((unhide H2).below hb) (by have := unhide HSi; exact this.2.1) (unhide HSi).2.2.2.2 (unhide HWi).2.2 (by omega) (unhide HF))
                have hd1 : ((d + 1 : Nat) : Int) = (d : Int) + 1 := by omega
                rw [hd1] at QB QE
                have hbd : bnd 6 n re ls.length = true := by simp [bnd]; omega
                have hres : (re = 0 ∧ True) ∨ (¬ re = 0 ∧ re = 127) ∨ (¬ re = 0 ∧ ¬ re = 127 ∧ re = 126) := by
                  rcases t2 with h | h | h
                  · exact .inl ⟨h, trivial⟩
                  · exact .inr (.inl ⟨by rw [h]; decide, h⟩)
                  · exact .inr (.inr ⟨by rw [h]; decide, by rw [h]; decide, h⟩)
                rcases hres with ⟨rfl, _⟩ | ⟨hr0, rfl⟩ | ⟨hr0, hr1, rfl⟩
                · cases hmb : may (d + 1) bo with
                  | false =>
                    have hmf : mayI d ⟨op, n, al, of, 0, bo, el, ls⟩ = false := by unfold mayI; simp only [hmb, hf]; simp [blk]
                    have HMf := hide hmf; clear hmf
                    rw [hmb] at QB
                    go_wp2_with fail
                    refine (unhide QB _ (unhide HB13)).mono ?_
                    rintro e w4 ⟨rfl, hb4⟩
                    have HB4 := hide (Below.on (unhide HB3) hb4); clear hb4
                    go_wp2
                    go_ret
                    exact ⟨by rw [may_not (unhide HIn) (unhide HMf)]; rfl, unhide HB4⟩
                  | true =>
                    cases hme : may (d + 1) el with
                    | false =>
                      have hmf : mayI d ⟨op, n, al, of, 0, bo, el, ls⟩ = false := by unfold mayI; simp only [hme, hf]; simp [blk]
                      have HMf := hide hmf; clear hmf
                      rw [hmb] at QB
                      rw [hme] at QE
                      go_wp2_with fail
                      refine (unhide QB _ (unhide HB13)).mono ?_
                      rintro e w4 ⟨rfl, hb4⟩
                      have d6 : w4.cell? ⟨wr.heap.size, 6, none⟩ = some (.slice xe el.length ce) := (hb4.cell (p := ⟨wr.heap.size, 6, none⟩) hlt3).trans c6
                      have HB14 := hide (Below.on (unhide HB13) hb4)
                      have HB4 := hide (Below.on (unhide HB3) hb4); clear hb4
                      go_wp2_with fail
                      refine (unhide QE _ (unhide HB14)).mono ?_
                      rintro e w5 ⟨rfl, hb5⟩
                      have HB5 := hide (Below.on (unhide HB4) hb5); clear hb5
                      go_wp2
                      go_ret
                      exact ⟨by rw [may_not (unhide HIn) (unhide HMf)]; rfl, unhide HB5⟩
                    | true =>
                      have hmf : mayI d ⟨op, n, al, of, 0, bo, el, ls⟩ = true := by
                        unfold mayI one
                        simp only [hs, hf, halo, hbd, hmb, hme]
                        simp [blk]; omega
                      have hmi := unhide HN hmf
                      have HMi := hide hmi; clear hmi hmf
                      rw [hmb] at QB
                      rw [hme] at QE
                      go_wp2_with fail
                      refine (unhide QB _ (unhide HB13)).mono ?_
                      rintro e w4 ⟨rfl, hb4⟩
                      have d6 : w4.cell? ⟨wr.heap.size, 6, none⟩ = some (.slice xe el.length ce) := (hb4.cell (p := ⟨wr.heap.size, 6, none⟩) hlt3).trans c6
                      have HB14 := hide (Below.on (unhide HB13) hb4)
                      have HB4 := hide (Below.on (unhide HB3) hb4); clear hb4
                      go_wp2_with fail
                      refine (unhide QE _ (unhide HB14)).mono ?_
                      rintro e w5 ⟨rfl, hb5⟩
                      have HB5 := hide (Below.on (unhide HB4) hb5); clear hb5
                      go_wp2
                      go_roundg g'
                      case measure => omega
                      case rel => exact ⟨j + 1, by simp, by omega, by omega, HMi, HB5⟩
                · cases hmb : may (d + 1) bo with
                  | false =>
                    have hmf : mayI d ⟨op, n, al, of, 127, bo, el, ls⟩ = false := by unfold mayI; simp only [hmb, hf]; simp [blk]
                    have HMf := hide hmf; clear hmf
                    rw [hmb] at QB
                    go_wp2_with fail
                    refine (unhide QB _ (unhide HB13)).mono ?_
                    rintro e w4 ⟨rfl, hb4⟩
                    have HB4 := hide (Below.on (unhide HB3) hb4); clear hb4
                    go_wp2
                    go_ret
                    exact ⟨by rw [may_not (unhide HIn) (unhide HMf)]; rfl, unhide HB4⟩
                  | true =>
                    cases hme : may (d + 1) el with
                    | false =>
                      have hmf : mayI d ⟨op, n, al, of, 127, bo, el, ls⟩ = false := by unfold mayI; simp only [hme, hf]; simp [blk]
                      have HMf := hide hmf; clear hmf
                      rw [hmb] at QB
                      rw [hme] at QE
                      go_wp2_with fail
                      refine (unhide QB _ (unhide HB13)).mono ?_
                      rintro e w4 ⟨rfl, hb4⟩
                      have d6 : w4.cell? ⟨wr.heap.size, 6, none⟩ = some (.slice xe el.length ce) := (hb4.cell (p := ⟨wr.heap.size, 6, none⟩) hlt3).trans c6
                      have HB14 := hide (Below.on (unhide HB13) hb4)
                      have HB4 := hide (Below.on (unhide HB3) hb4); clear hb4
                      go_wp2_with fail
                      refine (unhide QE _ (unhide HB14)).mono ?_
                      rintro e w5 ⟨rfl, hb5⟩
                      have HB5 := hide (Below.on (unhide HB4) hb5); clear hb5
                      go_wp2
                      go_ret
                      exact ⟨by rw [may_not (unhide HIn) (unhide HMf)]; rfl, unhide HB5⟩
                    | true =>
                      have hmf : mayI d ⟨op, n, al, of, 127, bo, el, ls⟩ = true := by
                        unfold mayI one
                        simp only [hs, hf, halo, hbd, hmb, hme]
                        simp [blk]; omega
                      have hmi := unhide HN hmf
                      have HMi := hide hmi; clear hmi hmf
                      rw [hmb] at QB
                      rw [hme] at QE
                      go_wp2_with fail
                      refine (unhide QB _ (unhide HB13)).mono ?_
                      rintro e w4 ⟨rfl, hb4⟩
                      have d6 : w4.cell? ⟨wr.heap.size, 6, none⟩ = some (.slice xe el.length ce) := (hb4.cell (p := ⟨wr.heap.size, 6, none⟩) hlt3).trans c6
                      have HB14 := hide (Below.on (unhide HB13) hb4)
                      have HB4 := hide (Below.on (unhide HB3) hb4); clear hb4
                      go_wp2_with fail
                      refine (unhide QE _ (unhide HB14)).mono ?_
                      rintro e w5 ⟨rfl, hb5⟩
                      have HB5 := hide (Below.on (unhide HB4) hb5); clear hb5
                      go_wp2
                      go_roundg g'
                      case measure => omega
                      case rel => exact ⟨j + 1, by simp, by omega, by omega, HMi, HB5⟩
                · cases hmb : may (d + 1) bo with
                  | false =>
                    have hmf : mayI d ⟨op, n, al, of, 126, bo, el, ls⟩ = false := by unfold mayI; simp only [hmb, hf]; simp [blk]
                    have HMf := hide hmf; clear hmf
                    rw [hmb] at QB
                    go_wp2_with fail
                    refine (unhide QB _ (unhide HB13)).mono ?_
                    rintro e w4 ⟨rfl, hb4⟩
                    have HB4 := hide (Below.on (unhide HB3) hb4); clear hb4
                    go_wp2
                    go_ret
                    exact ⟨by rw [may_not (unhide HIn) (unhide HMf)]; rfl, unhide HB4⟩
                  | true =>
                    cases hme : may (d + 1) el with
                    | false =>
                      have hmf : mayI d ⟨op, n, al, of, 126, bo, el, ls⟩ = false := by unfold mayI; simp only [hme, hf]; simp [blk]
                      have HMf := hide hmf; clear hmf
                      rw [hmb] at QB
                      rw [hme] at QE
                      go_wp2_with fail
                      refine (unhide QB _ (unhide HB13)).mono ?_
                      rintro e w4 ⟨rfl, hb4⟩
                      have d6 : w4.cell? ⟨wr.heap.size, 6, none⟩ = some (.slice xe el.length ce) := (hb4.cell (p := ⟨wr.heap.size, 6, none⟩) hlt3).trans c6
                      have HB14 := hide (Below.on (unhide HB13) hb4)
                      have HB4 := hide (Below.on (unhide HB3) hb4); clear hb4
                      go_wp2_with fail
                      refine (unhide QE _ (unhide HB14)).mono ?_
                      rintro e w5 ⟨rfl, hb5⟩
                      have HB5 := hide (Below.on (unhide HB4) hb5); clear hb5
                      go_wp2
                      go_ret
                      exact ⟨by rw [may_not (unhide HIn) (unhide HMf)]; rfl, unhide HB5⟩
                    | true =>
                      have hmf : mayI d ⟨op, n, al, of, 126, bo, el, ls⟩ = true := by
                        unfold mayI one
                        simp only [hs, hf, halo, hbd, hmb, hme]
                        simp [blk]; omega
                      have hmi := unhide HN hmf
                      have HMi := hide hmi; clear hmi hmf
                      rw [hmb] at QB
                      rw [hme] at QE
                      go_wp2_with fail
                      refine (unhide QB _ (unhide HB13)).mono ?_
                      rintro e w4 ⟨rfl, hb4⟩
                      have d6 : w4.cell? ⟨wr.heap.size, 6, none⟩ = some (.slice xe el.length ce) := (hb4.cell (p := ⟨wr.heap.size, 6, none⟩) hlt3).trans c6
                      have HB14 := hide (Below.on (unhide HB13) hb4)
                      have HB4 := hide (Below.on (unhide HB3) hb4); clear hb4
                      go_wp2_with fail
                      refine (unhide QE _ (unhide HB14)).mono ?_
                      rintro e w5 ⟨rfl, hb5⟩
                      have HB5 := hide (Below.on (unhide HB4) hb5); clear hb5
                      go_wp2
                      go_roundg g'
                      case measure => omega
                      case rel => exact ⟨j + 1, by simp, by omega, by omega, HMi, HB5⟩
              · have r1 : (re == 0) = false := by simp; omega
                have r2 : (re == 127) = false := by simp; omega
                have r3 : (re == 126) = false := by simp; omega
                have q1 : ¬ re = 0 := by omega
                have q2 : ¬ re = 127 := by omega
                have q3 : ¬ re = 126 := by omega
                go_wp2
                go_ret
                exact ⟨by rw [may_not (unhide HIn) (by unfold mayI one; simp only [hs, hf, halo, Bool.true_and, Bool.and_true]; simp [bnd, blk, q1, q2, q3])]; rfl, unhide HB3⟩
          · by_cases t1 : 64 ≤ d
            · have t1z : (64 : Int) ≤ (d : Int) := by omega
              have t1n : ¬ d < 64 := by omega
              have hmf : mayI d ⟨op, n, al, of, re, bo, el, ls⟩ = false := by unfold mayI; simp [hf, blk, t1n]
              have HMf := hide hmf; clear hmf
              go_wp2
              go_ret
              exact ⟨by rw [may_not (unhide HIn) (unhide HMf)]; rfl, unhide HB3⟩
            · have t1z : ¬ (64 : Int) ≤ (d : Int) := by omega
              have t1y : (d : Int) < 64 := by omega
              by_cases t2 : re = 0 ∨ re = 127 ∨ re = 126
              · have QB := hide (fun wx (hb : Below wr.heap.size wr wx) => (unhide HI).1 g _ (d + 1) wx ((unhide H1).below hb) (by have := unhide HSi; exact this.1) (unhide HSi).2.2.2.1 (unhide HWi).2.1 (by omega) (unhide HF))
                have QE := hide (fun wx (hb : Below wr.heap.size wr wx) => (unhide HI).2 g _ (d + 1) wx ((unhide H2).below hb) (by have := unhide HSi; exact this.2.1) (unhide HSi).2.2.2.2 (unhide HWi).2.2 (by omega) (unhide HF))
                have hd1 : ((d + 1 : Nat) : Int) = (d : Int) + 1 := by omega
                rw [hd1] at QB QE
                have hbd : bnd 7 n re ls.length = true := by simp [bnd]; omega
                have hres : (re = 0 ∧ True) ∨ (¬ re = 0 ∧ re = 127) ∨ (¬ re = 0 ∧ ¬ re = 127 ∧ re = 126) := by
                  rcases t2 with h | h | h
                  · exact .inl ⟨h, trivial⟩
                  · exact .inr (.inl ⟨by rw [h]; decide, h⟩)
                  · exact .inr (.inr ⟨by rw [h]; decide, by rw [h]; decide, h⟩)
                rcases hres with ⟨rfl, _⟩ | ⟨hr0, rfl⟩ | ⟨hr0, hr1, rfl⟩
                · cases hmb : may (d + 1) bo with
                  | false =>
                    have hmf : mayI d ⟨op, n, al, of, 0, bo, el, ls⟩ = false := by unfold mayI; simp only [hmb, hf]; simp [blk]
                    have HMf := hide hmf; clear hmf
                    rw [hmb] at QB
                    go_wp2_with fail
                    refine (unhide QB _ (unhide HB13)).mono ?_
                    rintro e w4 ⟨rfl, hb4⟩
                    have HB4 := hide (Below.on (unhide HB3) hb4); clear hb4
                    go_wp2
                    go_ret
                    exact ⟨by rw [may_not (unhide HIn) (unhide HMf)]; rfl, unhide HB4⟩
                  | true =>
                    cases hme : may (d + 1) el with
                    | false =>
                      have hmf : mayI d ⟨op, n, al, of, 0, bo, el, ls⟩ = false := by unfold mayI; simp only [hme, hf]; simp [blk]
                      have HMf := hide hmf; clear hmf
                      rw [hmb] at QB
                      rw [hme] at QE
                      go_wp2_with fail
                      refine (unhide QB _ (unhide HB13)).mono ?_
                      rintro e w4 ⟨rfl, hb4⟩
                      have d6 : w4.cell? ⟨wr.heap.size, 6, none⟩ = some (.slice xe el.length ce) := (hb4.cell (p := ⟨wr.heap.size, 6, none⟩) hlt3).trans c6
                      have HB14 := hide (Below.on (unhide HB13) hb4)
                      have HB4 := hide (Below.on (unhide HB3) hb4); clear hb4
                      go_wp2_with fail
                      refine (unhide QE _ (unhide HB14)).mono ?_
                      rintro e w5 ⟨rfl, hb5⟩
                      have HB5 := hide (Below.on (unhide HB4) hb5); clear hb5
                      go_wp2
                      go_ret
                      exact ⟨by rw [may_not (unhide HIn) (unhide HMf)]; rfl, unhide HB5⟩
                    | true =>
                      have hmf : mayI d ⟨op, n, al, of, 0, bo, el, ls⟩ = true := by
                        unfold mayI one
                        simp only [hs, hf, halo, hbd, hmb, hme]
                        simp [blk]; omega
                      have hmi := unhide HN hmf
                      have HMi := hide hmi; clear hmi hmf
                      rw [hmb] at QB
                      rw [hme] at QE
                      go_wp2_with fail
                      refine (unhide QB _ (unhide HB13)).mono ?_
                      rintro e w4 ⟨rfl, hb4⟩
                      have d6 : w4.cell? ⟨wr.heap.size, 6, none⟩ = some (.slice xe el.length ce) := (hb4.cell (p := ⟨wr.heap.size, 6, none⟩) hlt3).trans c6
                      have HB14 := hide (Below.on (unhide HB13) hb4)
                      have HB4 := hide (Below.on (unhide HB3) hb4); clear hb4
                      go_wp2_with fail
                      refine (unhide QE _ (unhide HB14)).mono ?_
                      rintro e w5 ⟨rfl, hb5⟩
                      have HB5 := hide (Below.on (unhide HB4) hb5); clear hb5
                      go_wp2
                      go_roundg g'
                      case measure => omega
                      case rel => exact ⟨j + 1, by simp, by omega, by omega, HMi, HB5⟩
                · cases hmb : may (d + 1) bo with
                  | false =>
                    have hmf : mayI d ⟨op, n, al, of, 127, bo, el, ls⟩ = false := by unfold mayI; simp only [hmb, hf]; simp [blk]
                    have HMf := hide hmf; clear hmf
                    rw [hmb] at QB
                    go_wp2_with fail
                    refine (unhide QB _ (unhide HB13)).mono ?_
                    rintro e w4 ⟨rfl, hb4⟩
                    have HB4 := hide (Below.on (unhide HB3) hb4); clear hb4
                    go_wp2
                    go_ret
                    exact ⟨by rw [may_not (unhide HIn) (unhide HMf)]; rfl, unhide HB4⟩
                  | true =>
                    cases hme : may (d + 1) el with
                    | false =>
                      have hmf : mayI d ⟨op, n, al, of, 127, bo, el, ls⟩ = false := by unfold mayI; simp only [hme, hf]; simp [blk]
                      have HMf := hide hmf; clear hmf
                      rw [hmb] at QB
                      rw [hme] at QE
                      go_wp2_with fail
                      refine (unhide QB _ (unhide HB13)).mono ?_
                      rintro e w4 ⟨rfl, hb4⟩
                      have d6 : w4.cell? ⟨wr.heap.size, 6, none⟩ = some (.slice xe el.length ce) := (hb4.cell (p := ⟨wr.heap.size, 6, none⟩) hlt3).trans c6
                      have HB14 := hide (Below.on (unhide HB13) hb4)
                      have HB4 := hide (Below.on (unhide HB3) hb4); clear hb4
                      go_wp2_with fail
                      refine (unhide QE _ (unhide HB14)).mono ?_
                      rintro e w5 ⟨rfl, hb5⟩
                      have HB5 := hide (Below.on (unhide HB4) hb5); clear hb5
                      go_wp2
                      go_ret
                      exact ⟨by rw [may_not (unhide HIn) (unhide HMf)]; rfl, unhide HB5⟩
                    | true =>
                      have hmf : mayI d ⟨op, n, al, of, 127, bo, el, ls⟩ = true := by
                        unfold mayI one
                        simp only [hs, hf, halo, hbd, hmb, hme]
                        simp [blk]; omega
                      have hmi := unhide HN hmf
                      have HMi := hide hmi; clear hmi hmf
                      rw [hmb] at QB
                      rw [hme] at QE
                      go_wp2_with fail
                      refine (unhide QB _ (unhide HB13)).mono ?_
                      rintro e w4 ⟨rfl, hb4⟩
                      have d6 : w4.cell? ⟨wr.heap.size, 6, none⟩ = some (.slice xe el.length ce) := (hb4.cell (p := ⟨wr.heap.size, 6, none⟩) hlt3).trans c6
                      have HB14 := hide (Below.on (unhide HB13) hb4)
                      have HB4 := hide (Below.on (unhide HB3) hb4); clear hb4
                      go_wp2_with fail
                      refine (unhide QE _ (unhide HB14)).mono ?_
                      rintro e w5 ⟨rfl, hb5⟩
                      have HB5 := hide (Below.on (unhide HB4) hb5); clear hb5
                      go_wp2
                      go_roundg g'
                      case measure => omega
                      case rel => exact ⟨j + 1, by simp, by omega, by omega, HMi, HB5⟩
                · cases hmb : may (d + 1) bo with
                  | false =>
                    have hmf : mayI d ⟨op, n, al, of, 126, bo, el, ls⟩ = false := by unfold mayI; simp only [hmb, hf]; simp [blk]
                    have HMf := hide hmf; clear hmf
                    rw [hmb] at QB
                    go_wp2_with fail
                    refine (unhide QB _ (unhide HB13)).mono ?_
                    rintro e w4 ⟨rfl, hb4⟩
                    have HB4 := hide (Below.on (unhide HB3) hb4); clear hb4
                    go_wp2
                    go_ret
                    exact ⟨by rw [may_not (unhide HIn) (unhide HMf)]; rfl, unhide HB4⟩
                  | true =>
                    cases hme : may (d + 1) el with
                    | false =>
                      have hmf : mayI d ⟨op, n, al, of, 126, bo, el, ls⟩ = false := by unfold mayI; simp only [hme, hf]; simp [blk]
                      have HMf := hide hmf; clear hmf
                      rw [hmb] at QB
                      rw [hme] at QE
                      go_wp2_with fail
                      refine (unhide QB _ (unhide HB13)).mono ?_
                      rintro e w4 ⟨rfl, hb4⟩
                      have d6 : w4.cell? ⟨wr.heap.size, 6, none⟩ = some (.slice xe el.length ce) := (hb4.cell (p := ⟨wr.heap.size, 6, none⟩) hlt3).trans c6
                      have HB14 := hide (Below.on (unhide HB13) hb4)
                      have HB4 := hide (Below.on (unhide HB3) hb4); clear hb4
                      go_wp2_with fail
                      refine (unhide QE _ (unhide HB14)).mono ?_
                      rintro e w5 ⟨rfl, hb5⟩
                      have HB5 := hide (Below.on (unhide HB4) hb5); clear hb5
                      go_wp2
                      go_ret
                      exact ⟨by rw [may_not (unhide HIn) (unhide HMf)]; rfl, unhide HB5⟩
                    | true =>
                      have hmf : mayI d ⟨op, n, al, of, 126, bo, el, ls⟩ = true := by
                        unfold mayI one
                        simp only [hs, hf, halo, hbd, hmb, hme]
                        simp [blk]; omega
                      have hmi := unhide HN hmf
                      have HMi := hide hmi; clear hmi hmf
                      rw [hmb] at QB
                      rw [hme] at QE
                      go_wp2_with fail
                      refine (unhide QB _ (unhide HB13)).mono ?_
                      rintro e w4 ⟨rfl, hb4⟩
                      have d6 : w4.cell? ⟨wr.heap.size, 6, none⟩ = some (.slice xe el.length ce) := (hb4.cell (p := ⟨wr.heap.size, 6, none⟩) hlt3).trans c6
                      have HB14 := hide (Below.on (unhide HB13) hb4)
                      have HB4 := hide (Below.on (unhide HB3) hb4); clear hb4
                      go_wp2_with fail
                      refine (unhide QE _ (unhide HB14)).mono ?_
                      rintro e w5 ⟨rfl, hb5⟩
                      have HB5 := hide (Below.on (unhide HB4) hb5); clear hb5
                      go_wp2
                      go_roundg g'
                      case measure => omega
                      case rel => exact ⟨j + 1, by simp, by omega, by omega, HMi, HB5⟩
              · have r1 : (re == 0) = false := by simp; omega
                have r2 : (re == 127) = false := by simp; omega
                have r3 : (re == 126) = false := by simp; omega
                have q1 : ¬ re = 0 := by omega
                have q2 : ¬ re = 127 := by omega
                have q3 : ¬ re = 126 := by omega
                go_wp2
                go_ret
                exact ⟨by rw [may_not (unhide HIn) (by unfold mayI one; simp only [hs, hf, halo, Bool.true_and, Bool.and_true]; simp [bnd, blk, q1, q2, q3])]; rfl, unhide HB3⟩
          · have HLs := hide (rfl : ls.length = ls.length)
            obtain ⟨L, hL⟩ : ∃ L, ls.length = L := ⟨_, rfl⟩
            rw [hL] at c7 halo ⊢
            by_cases t1 : L = 0
            · have hmf : mayI d ⟨op, n, al, of, re, bo, el, ls⟩ = false := by unfold mayI one; simp only [hs, hf, hL, halo, Bool.true_and, Bool.and_true]; simp [bnd, blk]; omega
              have HMf := hide hmf; clear hmf halo hL
              subst t1
              go_wp2
              go_ret
              exact ⟨by rw [may_not (unhide HIn) (unhide HMf)]; rfl, unhide HB3⟩
            · have t1z : ¬ (L : Int) = 0 := by omega
              have t1b : ((L : Int) == 0) = false := by simp; omega
              have t1c : (L == 0) = false := by simp; omega
              by_cases t2 : 257 < L
              · have hmf : mayI d ⟨op, n, al, of, re, bo, el, ls⟩ = false := by unfold mayI one; simp only [hs, hf, hL, halo, Bool.true_and, Bool.and_true]; simp [bnd, blk]; omega
                have HMf := hide hmf; clear hmf halo hL
                have t2z : (257 : Int) < (L : Int) := by omega
                have t2b : decide (257 < L) = true := decide_eq_true t2
                go_wp2
                go_ret
                exact ⟨by rw [may_not (unhide HIn) (unhide HMf)]; rfl, unhide HB3⟩
              · have hmf : mayI d ⟨op, n, al, of, re, bo, el, ls⟩ = true := by unfold mayI one; simp only [hs, hf, hL, halo, Bool.true_and, Bool.and_true]; simp [bnd, blk]; omega
                have HMf := hide hmf; clear hmf halo hL
                have t2z : ¬ (257 : Int) < (L : Int) := by omega
                have t2b : decide (257 < L) = false := decide_eq_false t2
                have t2c : decide ((257 : Int) < (L : Int)) = false := decide_eq_false t2z
                have hmi := unhide HN (unhide HMf)
                have HMi := hide hmi; clear hmi
                go_wp2
                go_roundg g'
                case measure => omega
                case rel => exact ⟨j + 1, by simp, by omega, by omega, HMi, HB3⟩
          · by_cases t1 : n < 0
            · have t1b : decide (n < 0) = true := decide_eq_true t1
              go_wp2
              go_ret
              exact ⟨by rw [may_not (unhide HIn) (by unfold mayI one; simp only [hs, hf, halo, Bool.true_and, Bool.and_true]; simp [bnd, blk]; omega)]; rfl, unhide HB3⟩
            · have t1b : decide (n < 0) = false := decide_eq_false t1
              by_cases t2 : 4294967296 ≤ n
              · have t2b : decide (4294967296 ≤ n) = true := decide_eq_true t2
                go_wp2
                go_ret
                exact ⟨by rw [may_not (unhide HIn) (by unfold mayI one; simp only [hs, hf, halo, Bool.true_and, Bool.and_true]; simp [bnd, blk]; omega)]; rfl, unhide HB3⟩
              · have t2b : decide (4294967296 ≤ n) = false := decide_eq_false t2
                have hmi := unhide HN (by unfold mayI one; simp only [hs, hf, halo, Bool.true_and, Bool.and_true]; simp [bnd, blk]; omega)
                have HMi := hide hmi; clear hmi
                go_wp2
                go_roundg g'
                case measure => omega
                case rel => exact ⟨j + 1, by simp, by omega, by omega, HMi, HB3⟩
    · obtain rfl : j = l.length := by omega
      have hjz : ¬ ((l.length : Int) < (l.length : Int)) := by omega
      have hm : may d l = true := may_of fun i hi => by
        obtain ⟨q, hq, rfl⟩ := List.getElem_of_mem hi
        exact unhide HU q hq hq
      go_wp2
      go_ret
      exact ⟨by first | rfl | (rw [hm]; rfl), unhide HB⟩
end Ex
end Go.Proofs.YtjhmglefejclpaaDoor
