/- slices.EqualFunc at expr.Same's closure; expr.Same. -/
import Derived.Test.YtjhmglefejclpaaDoorExT
namespace Go.Proofs.YtjhmglefejclpaaDoor
open Go.RowKit
namespace Ex
set_option linter.unusedVariables false

set_option maxRecDepth 100000 in
set_option maxHeartbeats 1600000 in
theorem eqf_any (a : List Ins) (ih : ∀ i ∈ a, SameP i.body ∧ SameP i.els) (b : List Ins) {g g2 : Nat → Prop} {va vb : Value} (w : World) (ha : Code w g a va) (hb : Code w g2 b vb)
    (l1 : a.length ≤ 1099511627776) (z1 : Sz 1099511627776 a) (l2 : b.length ≤ 1099511627776) (z2 : Sz 1099511627776 b) :
    Calls Tryd.prog 26 #[va, vb, .func (.func 27) #[] #[]] w fun e w' => e = .returned (.bool (same a b)) ∧ Below w.heap.size w w' := by
  obtain ⟨aa, ca, rfl, hca, _, hA⟩ := ha
  obtain ⟨ab, cb, rfl, hcb, _, hB⟩ := hb
  by_cases hl : a.length = b.length
  · rw [← hl] at hB hcb ⊢
    have HIh := hide ih; have HL := hide hl; have Z1 := hide z1; have Z2 := hide z2
    clear ih hl z1 z2 l2
    by_cases h0 : 0 < a.length
    · obtain ⟨ba, oa, rfl, _, hla⟩ := hA h0
      obtain ⟨bb, ob, rfl, _, hlb⟩ := hB h0
      have HLa := hide hla; have HLb := hide hlb
      clear hA hB hla hlb
      generalize hn : a.length = n at *
      have HN := hide hn; clear hn
      go_enter Tryd.func26, Tryd.ntmps26
      go_wp2_with fail
      go_loopw [17] (fun c wr => ∃ j : Nat, c = .int .i64 j ∧ (j : Int) ≤ n ∧ (∀ i (h1 : i < a.length) (h2 : i < b.length), i < j → sameI a[i] b[i] = true) ∧ Below w.heap.size w wr) (fun c _ => n - (intOf c).toNat)
      case atStart => exact ⟨0, rfl, by omega, fun i _ _ hi => absurd hi (by omega), Below.refl _ _⟩
      case round =>
        obtain ⟨j, rfl, hj, hall, hbel⟩ := hrel
        have HAll := hide hall; have HBel := hide hbel; clear hall hbel
        by_cases hlt : (j : Int) < n
        · have ja : j < a.length := by have := unhide HN; omega
          have jb : j < b.length := by have := unhide HN; have := unhide HL; omega
          have hmA : Moves w wr g g := moves_below (unhide HBel) (fun _ _ h => h)
          have hmB : Moves w wr g2 g2 := moves_below (unhide HBel) (fun _ _ h => h)
          have iA := ItemAt.move hmA ((unhide HBel).block ba (Items_lt (unhide HLa) (by omega))) (Items_get (unhide HLa) j ja)
          have iB := ItemAt.move hmB ((unhide HBel).block bb (Items_lt (unhide HLb) (by omega))) (Items_get (unhide HLb) j jb)
          have hI := unhide HIh a[j] (List.getElem_mem ja)
          have sA := Sz_get (unhide Z1) a[j] (List.getElem_mem ja)
          have sB := Sz_get (unhide Z2) b[j] (List.getElem_mem jb)
          have hS : sameI a[j] b[j] = sameI a[j] b[j] := rfl
          generalize hx : a[j] = x at *
          generalize hy : b[j] = y at *
          obtain ⟨vb, ve, vl, hc, h1, h2, h3⟩ := iA
          obtain ⟨vb2, ve2, vl2, hd, k1, k2, k3⟩ := iB
          have H1 := hide h1; have H2 := hide h2; have H3 := hide h3; have K1 := hide k1; have K2 := hide k2; have K3 := hide k3
          have HI := hide hI; have SA := hide sA; have SB := hide sB; have HX := hide hx; have HY := hide hy
          obtain ⟨c1, cb1, rfl, _⟩ := h1
          obtain ⟨c2, cb2, rfl, _⟩ := h2
          obtain ⟨c3, cb3, rfl, _⟩ := h3
          obtain ⟨d1, db1, rfl, _⟩ := k1
          obtain ⟨d2, db2, rfl, _⟩ := k2
          obtain ⟨d3, db3, rfl, _⟩ := k3
          obtain ⟨e0, e1, e2, e3, e4, e5, e6, e7⟩ := hc
          obtain ⟨f0, f1, f2, f3, f4, f5, f6, f7⟩ := hd
          clear hx hy hI sA sB hS hmA hmB hj
          have hlb : bb < wr.heap.size := World.block_lt_of_cell? wr _ f0
          go_wp2_with fail
          have hb0 := two_allocs wr (.cells #[.int .u8 x.op, .int .i64 x.n, .int .u32 x.al, .int .u32 x.of, .int .u8 x.re, .slice c1 x.body.length cb1, .slice c2 x.els.length cb2, .slice c3 x.ls.length cb3] 50) (.cells #[.int .u8 y.op, .int .i64 y.n, .int .u32 y.al, .int .u32 y.of, .int .u8 y.re, .slice d1 y.body.length db1, .slice d2 y.els.length db2, .slice d3 y.ls.length db3] 50)
          refine (same1 x y (unhide HI).1 (unhide HI).2 _ ((unhide H1).below hb0) ((unhide H2).below hb0) (Labs.below (unhide H3) hb0) ((unhide K1).below hb0) ((unhide K2).below hb0) (Labs.below (unhide K3) hb0) (unhide SA) (unhide SB)).mono ?_
          rintro e w3 ⟨rfl, hb3⟩
          have hbb := Below.on (unhide HBel) (Below.on hb0 hb3)
          have HBB := hide hbb
          clear hbb hb0 hb3 hlb e0 e1 e2 e3 e4 e5 e6 e7 f0 f1 f2 f3 f4 f5 f6 f7 H1 H2 H3 K1 K2 K3 HBel
          cases hs : sameI x y with
          | false =>
            have HF := hide (show same a b = false from same_not j ja jb (by rw [unhide HX, unhide HY]; exact hs))
            clear hs
            go_wp2
            go_ret
            exact ⟨ret_bool (unhide HF).symm, unhide HBB⟩
          | true =>
            have HT := hide hs
            clear hs
            go_wp2
            go_roundw
            case rel => exact ⟨j + 1, by go_num, by omega, fun i i1 i2 hi => by
              by_cases e : i = j
              · subst e; rw [unhide HX, unhide HY]; exact unhide HT
              · exact unhide HAll i i1 i2 (by omega), unhide HBB⟩
            case measure => simp [intOf]; omega
        · obtain rfl : j = n := by omega
          have HF := hide (show same a b = true from same_upto ((unhide HN).trans (unhide HL)) fun i i1 i2 => unhide HAll i i1 i2 (by have := unhide HN; omega))
          clear hj hlt
          go_wp2
          go_ret
          exact ⟨ret_bool (unhide HF).symm, unhide HBel⟩
    · have hz : a.length = 0 := by omega
      have ht : same a b = true := same_upto (unhide HL) fun i i1 i2 => absurd i1 (by omega)
      rw [ht, hz]
      clear ht hA hB hcb hca h0 hz HL l1
      go_enter Tryd.func26, Tryd.ntmps26
      go_wp2_with fail
      go_loopw [17] (fun c wr => c = .int .i64 0 ∧ wr = w) (fun c _ => 0)
      case atStart => exact ⟨rfl, rfl⟩
      case round =>
        obtain ⟨rfl, rfl⟩ := hrel
        go_wp2
        go_ret
        exact ⟨rfl, Below.refl _ _⟩
  · have hf : same a b = false := same_len hl
    have t : ((a.length : Int) != (b.length : Int)) = true := by simp; omega
    rw [hf]
    clear hf hl hA hB
    generalize a.length = n at *
    generalize b.length = m at *
    go_enter Tryd.func26, Tryd.ntmps26
    go_wp2
    go_ret
    exact ⟨rfl, Below.refl _ _⟩

set_option maxRecDepth 100000 in
theorem same_any (a : List Ins) : SameP a := by
  refine ind2 (P := SameP) (fun a ih => ?_) a
  intro b g g2 va vb w ha hb l1 z1 l2 z2
  have hq := eqf_any a ih b w ha hb l1 z1 l2 z2
  obtain ⟨aa, ca, rfl, _⟩ := ha
  obtain ⟨ab, cb, rfl, _⟩ := hb
  have HQ := hide hq; clear hq ih z1 z2
  go_enter Tryd.func16, Tryd.ntmps16
  go_wp2_with fail
  refine (unhide HQ).mono ?_
  rintro e w1 ⟨rfl, hb⟩
  have HB := hide hb; clear hb
  go_wp2
  go_ret
  exact ⟨rfl, unhide HB⟩
end Ex
end Go.Proofs.YtjhmglefejclpaaDoor
