/- slices.Equal of labels. -/
import Derived.Test.YtjhmglefejclpaaDoorExH
import Derived.Deep.QuietTactic
import Derived.BigQuiet
namespace Go.Proofs.YtjhmglefejclpaaDoor
open Go.RowKit
namespace Ex
set_option linter.unusedVariables false

theorem ls_ne {la lb : List Int} (j : Nat) (h : ¬ la.getD j 0 = lb.getD j 0) : (la == lb) = false := by
  rw [beq_eq_false_iff_ne]; rintro rfl; exact h rfl
theorem ls_eq {la lb : List Int} (hl : la.length = lb.length) (h : ∀ i, i < la.length → la.getD i 0 = lb.getD i 0) : (la == lb) = true := by
  rw [beq_iff_eq]
  refine List.ext_getElem hl fun j h1 h2 => ?_
  have := h j h1
  simpa [List.getD, List.getElem?_eq_getElem h1, List.getElem?_eq_getElem h2] using this
theorem drewN_add (w : World) (a b : Nat) : (w.drewN a).drewN b = w.drewN (a + b) := by
  rw [World.drewN_drewN]

set_option maxRecDepth 100000 in
set_option maxHeartbeats 1000000 in
theorem equal_any {g g2 : Nat → Prop} {va vb : Value} {la lb : List Int} {w : World} (ha : Lies g la.length (Lab w la) va) (hb : Lies g2 lb.length (Lab w lb) vb) (h1 : la.length ≤ 1099511627776) (h2 : lb.length ≤ 1099511627776) :
    Calls Tryd.prog 28 #[va, vb] w fun e w' => e = .returned (.bool (la == lb)) ∧ Below w.heap.size w w' := by
  obtain ⟨a, ca, rfl, hca, _, hA⟩ := ha
  obtain ⟨b, cb, rfl, hcb, _, hB⟩ := hb
  by_cases hl : la.length = lb.length
  · rw [← hl] at hB hcb ⊢
    have heq := fun h => ls_eq hl h
    have HEq := hide heq; have HL := hide hl; clear heq hl h2
    by_cases h0 : 0 < la.length
    · obtain ⟨ba, oa, rfl, _, hla⟩ := hA h0
      obtain ⟨bb, ob, rfl, _, hlb⟩ := hB h0
      have HLa := hide hla; have HLb := hide hlb
      clear hA hB hla hlb
      have hne := fun j h => ls_ne (la := la) (lb := lb) j h
      have HNe := hide hne; clear hne
      unfold Lab at HLa HLb
      generalize hn : la.length = n at *
      have HN := hide hn; clear hn
      go_enter Tryd.func28, Tryd.ntmps28
      go_wp2_with fail
      go_loopw [13] (fun c wr => ∃ j : Nat, c = .int .i64 j ∧ (j : Int) ≤ n ∧ (∀ i, i < j → la.getD i 0 = lb.getD i 0) ∧ ∃ k, wr = w.drewN k) (fun c _ => n - (intOf c).toNat)
      case atStart => exact ⟨0, rfl, by omega, fun i hi => absurd hi (by omega), 0, rfl⟩
      case round =>
        obtain ⟨j, rfl, hj, hall, k, rfl⟩ := hrel
        have HAll := hide hall; clear hall
        by_cases hlt : (j : Int) < n
        · have c1 := unhide HLa j (by omega)
          have c2 := unhide HLb j (by have := unhide HN; have := unhide HL; omega)
          generalize hx : la.getD j 0 = x at *
          generalize hy : lb.getD j 0 = y at *
          have HX := hide hx; have HY := hide hy; clear hx hy hj
          by_cases he : x = y
          · subst he
            go_wp2_with fail
            go_quiet (fail)
            go_wp2
            go_roundw
            case rel => exact ⟨j + 1, by go_num, by omega, fun i hi => by
              by_cases e : i = j
              · subst e; rw [unhide HX, unhide HY]
              · exact unhide HAll i (by omega), _, rfl⟩
            case measure => simp [intOf]; omega
          · have t : (x != y) = true := by simpa using he
            have hf := unhide HNe j (by rw [unhide HX, unhide HY]; exact he)
            have HF := hide hf
            clear he hf
            go_wp2_with fail
            go_quiet (fail)
            go_wp2
            go_ret
            exact ⟨ret_bool (unhide HF).symm, ⟨rfl, rfl, rfl, Nat.le_refl _, fun _ _ => rfl⟩⟩
        · obtain rfl : j = n := by omega
          have hf := unhide HEq (unhide HAll)
          have HF := hide hf
          clear hf hj hlt
          go_wp2
          go_ret
          exact ⟨ret_bool (unhide HF).symm, ⟨rfl, rfl, rfl, Nat.le_refl _, fun _ _ => rfl⟩⟩
    · have hz : la.length = 0 := by omega
      have ht := unhide HEq (fun i hi => absurd hi (by omega))
      rw [ht, hz]
      clear ht HEq hA hB hcb hca h0 hz h1 HL
      go_enter Tryd.func28, Tryd.ntmps28
      go_wp2_with fail
      go_loopw [13] (fun c wr => c = .int .i64 0 ∧ wr = w) (fun c _ => 0)
      case atStart => exact ⟨rfl, rfl⟩
      case round =>
        obtain ⟨rfl, rfl⟩ := hrel
        go_wp2
        go_ret
        exact ⟨rfl, Below.refl _ _⟩
  · have hf : (la == lb) = false := by rw [beq_eq_false_iff_ne]; rintro rfl; exact hl rfl
    have t : ((la.length : Int) != (lb.length : Int)) = true := by simp; omega
    rw [hf]
    clear hf hl hA hB
    generalize la.length = n at *
    generalize lb.length = m at *
    go_enter Tryd.func28, Tryd.ntmps28
    go_wp2
    go_ret
    exact ⟨rfl, Below.refl _ _⟩
end Ex
end Go.Proofs.YtjhmglefejclpaaDoor
