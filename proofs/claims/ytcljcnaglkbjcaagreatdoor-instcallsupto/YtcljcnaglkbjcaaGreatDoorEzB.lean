/- The statements' count and large: a number, whatever the list; nothing old turns. -/
import Derived.Test.YtcljcnaglkbjcaaGreatDoorEzA
namespace Go.Proofs.YtcljcnaglkbjcaaGreatDoor
open Go.RowKit
namespace Ex
set_option linter.unusedVariables false
attribute [local go_sem ↓] Go.wp_at_zero Go.wp_at_succ

def CtP (l : List Ins) : Prop := ∀ (g : Nat → Prop) (v : Value) (m d : Int) (w : World), Code w g l v → l.length ≤ 1099511627776 →  Sz 1099511627776 l →
  Calls Tryz.prog 34 #[v, .int .i64 m, .int .i64 d] w fun e w' => ∃ n, e = .returned (.int .i64 n) ∧ Below w.heap.size w w'

set_option maxRecDepth 100000 in
set_option maxHeartbeats 3200000 in
theorem ct_any (l : List Ins) : CtP l := by
  refine ind2 (P := CtP) (fun l ih => ?_) l
  intro g v m d w hv hm hsz
  obtain ⟨a, ca, rfl, hca, _, hA⟩ := hv
  have HA := hide hA; have HIh := hide ih; have HSz := hide (Sz_get hsz)
  clear hA ih hsz
  generalize hn : l.length = n at *
  have HN := hide hn; clear hn
  go_enter Tryz.func34, Tryz.ntmps34
  by_cases h1 : (n : Int) > m
  · go_wp2
    go_ret
    first | exact ⟨⟨_, rfl⟩, Below.refl _ _⟩ | exact ⟨_, rfl, Below.refl _ _⟩ | exact Below.refl _ _
  by_cases h2 : d > 80
  · go_wp2
    go_ret
    first | exact ⟨⟨_, rfl⟩, Below.refl _ _⟩ | exact ⟨_, rfl, Below.refl _ _⟩ | exact Below.refl _ _
  go_wp2_with fail
  clear h1 h2
  go_loopw [7, 8] (fun s c wr => ∃ (j : Nat) (k : Int), c = .int .i64 j ∧ s = .int .i64 k ∧ (j : Int) ≤ n ∧ Below w.heap.size w wr) (fun _ c _ => n - (intOf c).toNat)
  case atStart => exact ⟨0, n, rfl, rfl, by omega, Below.refl _ _⟩
  case round =>
    obtain ⟨j, k, rfl, rfl, hj, hbel⟩ := hrel
    have HBel := hide hbel
    by_cases hlt : (j : Int) < n
    · by_cases hk : k < m
      · have ja : j < l.length := by have := unhide HN; omega
        obtain ⟨ba, oa, rfl, hga, hla⟩ := unhide HA (by have := unhide HN; omega)
        have hmA : Moves w wr g g := moves_below hbel (fun _ _ h => h)
        have hba : ba < wr.heap.size := by have := Items_lt hla (by omega); have := hbel.size; omega
        have iA := ItemAt.move hmA (hbel.block ba (Items_lt hla (by omega))) (Items_get hla j ja)
        have hI := unhide HIh l[j] (List.getElem_mem ja)
        have hZ := unhide HSz l[j] (List.getElem_mem ja)
        generalize l[j] = x at *
        obtain ⟨vb, ve, vl, hc, h1, h2, h3⟩ := iA
        have H1 := hide h1; have H2 := hide h2
        obtain ⟨c1, cb1, rfl, _⟩ := h1
        obtain ⟨c2, cb2, rfl, _⟩ := h2
        obtain ⟨c3, cb3, rfl, _⟩ := h3
        obtain ⟨e0, e1, e2, e3, e4, e5, e6, e7⟩ := hc
        have qb : ∀ wx m d, Below wr.heap.size wr wx → Calls Tryz.prog 34 #[.slice c1 x.body.length cb1, .int .i64 m, .int .i64 d] wx fun e w' => ∃ n, e = .returned (.int .i64 n) ∧ Below wx.heap.size wx w' := fun wx m d hwx =>
          hI.1 g _ m d wx ((unhide H1).below hwx) hZ.1 hZ.2.2.2.1
        have qe : ∀ wx m d, Below wr.heap.size wr wx → Calls Tryz.prog 34 #[.slice c2 x.els.length cb2, .int .i64 m, .int .i64 d] wx fun e w' => ∃ n, e = .returned (.int .i64 n) ∧ Below wx.heap.size wx w' := fun wx m d hwx =>
          hI.2 g _ m d wx ((unhide H2).below hwx) hZ.2.1 hZ.2.2.2.2
        have QB := hide qb; have QE := hide qe; have HBa := hide hba
        have hll := hZ.2.2.1
        clear hmA hla hga hI hZ hbel qb qe hba e0 e1 e2 e3 e4 H1 H2
        generalize x.body.length = lb at *
        generalize x.els.length = le at *
        generalize x.ls.length = ll at *
        by_cases hmn : m < (ll : Int)
        · have hmn4 : ¬ (ll : Int) ≤ m := by omega
          go_wp2_with fail
          go_region_held3 (fun w' => w'.cell? ⟨ba, oa + j * 8 + 5, none⟩ = some (.slice c1 lb cb1) ∧ w'.cell? ⟨ba, oa + j * 8 + 6, none⟩ = some (.slice c2 le cb2) ∧ w'.cell? ⟨ba, oa + j * 8 + 7, none⟩ = some (.slice c3 ll cb3))
            (first | go_keep | exact ⟨(hk2 _).trans e5, (hk2 _).trans e6, (hk2 _).trans e7⟩)
            (first
              | (go_at_call_of 34 (Value.slice c1 lb cb1); refine (unhide QB _ _ _ (below_drew wr)).mono ?_; rintro e w3 ⟨k1, rfl, hb3⟩; have HB3 := hide (Below.on (below_drew wr) hb3); clear hb3; have hk2 : ∀ o, w3.cell? ⟨ba, o, none⟩ = wr.cell? ⟨ba, o, none⟩ := fun o => fin_cell (unhide HB3) (unhide HBa) o)
              | (go_at_call_of 34 (Value.slice c2 le cb2); refine (unhide QE _ _ _ (unhide HB3)).mono ?_; rintro e w4 ⟨k2, rfl, hb4⟩; have HB4 := hide (Below.on (unhide HB3) hb4); clear hb4; have hk2 : ∀ o, w4.cell? ⟨ba, o, none⟩ = wr.cell? ⟨ba, o, none⟩ := fun o => fin_cell (unhide HB4) (unhide HBa) o))
          all_goals (
            have HBB := hide (Below.on (unhide HBel) (unhide HB4))
            clear hk2 e5 e6 e7 HB3 HB4
            go_wp2
            go_roundw
            case rel => exact ⟨j + 1, _, by go_num, rfl, by omega, unhide HBB⟩
            case measure => simp [intOf]; omega)
        · have hmn4 : (ll : Int) ≤ m := by omega
          go_wp2_with fail
          go_region_held3 (fun w' => w'.cell? ⟨ba, oa + j * 8 + 5, none⟩ = some (.slice c1 lb cb1) ∧ w'.cell? ⟨ba, oa + j * 8 + 6, none⟩ = some (.slice c2 le cb2) ∧ w'.cell? ⟨ba, oa + j * 8 + 7, none⟩ = some (.slice c3 ll cb3))
            (first | go_keep | exact ⟨(hk2 _).trans e5, (hk2 _).trans e6, (hk2 _).trans e7⟩)
            (first
              | (go_at_call_of 34 (Value.slice c1 lb cb1); refine (unhide QB _ _ _ (below_drew wr)).mono ?_; rintro e w3 ⟨k1, rfl, hb3⟩; have HB3 := hide (Below.on (below_drew wr) hb3); clear hb3; have hk2 : ∀ o, w3.cell? ⟨ba, o, none⟩ = wr.cell? ⟨ba, o, none⟩ := fun o => fin_cell (unhide HB3) (unhide HBa) o)
              | (go_at_call_of 34 (Value.slice c2 le cb2); refine (unhide QE _ _ _ (unhide HB3)).mono ?_; rintro e w4 ⟨k2, rfl, hb4⟩; have HB4 := hide (Below.on (unhide HB3) hb4); clear hb4; have hk2 : ∀ o, w4.cell? ⟨ba, o, none⟩ = wr.cell? ⟨ba, o, none⟩ := fun o => fin_cell (unhide HB4) (unhide HBa) o))
          all_goals (
            have HBB := hide (Below.on (unhide HBel) (unhide HB4))
            clear hk2 e5 e6 e7 HB3 HB4
            go_wp2
            go_roundw
            case rel => exact ⟨j + 1, _, by go_num, rfl, by omega, unhide HBB⟩
            case measure => simp [intOf]; omega)
      · go_wp2
        go_ret
        first | exact ⟨⟨_, rfl⟩, unhide HBel⟩ | exact ⟨_, rfl, unhide HBel⟩ | exact unhide HBel
    · go_wp2
      go_ret
      first | exact ⟨⟨_, rfl⟩, unhide HBel⟩ | exact ⟨_, rfl, unhide HBel⟩ | exact unhide HBel
end Ex
end Go.Proofs.YtcljcnaglkbjcaaGreatDoor
