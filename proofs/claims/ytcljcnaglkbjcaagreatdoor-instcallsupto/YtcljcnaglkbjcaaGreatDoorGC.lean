/- The statements' bigModule. -/
import Derived.Test.YtcljcnaglkbjcaaGreatDoorGL
import Derived.Test.YtcljcnaglkbjcaaGreatDoorEzB

/- The statements' bigModule. -/
namespace Go.Proofs.YtcljcnaglkbjcaaGreatDoor
open Go.RowKit
namespace Gm
set_option linter.unusedVariables false
set_option linter.unusedSimpArgs false
attribute [local go_sem ↓] Go.wp_at_zero Go.wp_at_succ
def IsB (e : Ending) : Prop := ∃ b, e = .returned (.bool b)
theorem new_below9 (w : World) (o : Obj) : Below w.heap.size w (w.drew.alloc o) := (drew_below9 w).alloc (Nat.le_refl _) o
theorem new_below0 (w : World) (o : Obj) : Below w.heap.size w (w.alloc o) := (Below.refl _ _).alloc (Nat.le_refl _) o
theorem new_at0 (w : World) (cs : Array Value) (t : TypeId) : (w.alloc (.cells cs t)).heap[w.heap.size]? = some (.cells cs t (0, 0)) := heap_alloc_new w (.cells cs t)
theorem new_at9 (w : World) (cs : Array Value) (t : TypeId) : (w.drew.alloc (.cells cs t)).heap[w.heap.size]? = some (.cells cs t (0, 0)) := heap_alloc_new w.drew (.cells cs t)
theorem Below.on0 {B : Nat} {w W W' : World} (h : Below B w W) (h2 : Below W.heap.size W W') (hB : B ≤ W.heap.size) : Below B w W' := h.trans (h2.mono hB)
theorem count_one {x : Ex.Ins} {g : Nat → Prop} {vb ve vl : Value} {W : World} {b t : Nat} {m d : Int} (hb : W.heap[b]? = some (.cells #[.int .u8 x.op, .int .i64 x.n, .int .u32 x.al, .int .u32 x.of, .int .u8 x.re, vb, ve, vl] t (0, 0)))
    (h1 : Ex.Code W g x.body vb) (h2 : Ex.Code W g x.els ve) (h3 : Ex.Lies g x.ls.length (Ex.Lab W x.ls) vl) (hs : Ex.SzI 1099511627776 x) :
    Calls Tryz.prog 34 #[.slice (some ⟨b, 0, none⟩) 1 1, .int .i64 m, .int .i64 d] W fun e w' => ∃ n, e = .returned (.int .i64 n) ∧ Below W.heap.size W w' := by
  refine Ex.ct_any [x] (fun k => g k ∨ k = b) _ m d W ?_ (by simp) (by rw [Ex.Sz_cons]; exact ⟨hs, Ex.Sz_nil _⟩)
  refine ⟨_, _, rfl, by simp, by simp, fun _ => ⟨_, _, rfl, .inr rfl, ?_⟩⟩
  rw [Ex.Items_cons]
  exact ⟨⟨_, _, _, Ex.cel8 hb, h1.any fun k _ h => .inl h, h2.any fun k _ h => .inl h, Ex.Labs.any h3 fun k _ h => .inl h⟩, Ex.Items_nil _ _ _ _⟩
set_option maxRecDepth 1000000 in
set_option maxHeartbeats 6400000 in
theorem big_any (M : Mod) (g : Nat → Prop) (v0 v1 v2 v3 v4 v5 v6 v7 : Value) (w : World) (hM : ModL w g M v0 v1 v2 v3 v4 v5 v6 v7) (hs : SzM M) :
    Calls Tryz.prog 9 #[.agg #[v0, v1, v2, v3, v4, v5, v6, v7]] w fun e w' => IsB e ∧ Below w.heap.size w w' := by
  have HM0 := hide hM; have HSz := hide hs
  obtain ⟨h0, h1, h2, h3, h4, h5, h6, h7⟩ := hM
  obtain ⟨sa0, sc0, rfl, -⟩ := h0
  obtain ⟨sa1, sc1, rfl, -⟩ := h1
  obtain ⟨sa2, sc2, rfl, -⟩ := h2
  obtain ⟨sa3, sc3, rfl, -⟩ := h3
  obtain ⟨sa4, sc4, rfl, -⟩ := h4
  obtain ⟨sa5, sc5, rfl, -⟩ := h5
  obtain ⟨sa6, sc6, rfl, -⟩ := h6
  obtain ⟨sa7, sc7, rfl, -⟩ := h7
  clear hs
  by_cases c0 : (M.types.length : Int) > 300
  · skip
    go_enter Tryz.func9, Tryz.ntmps9
    go_wp2
    go_ret
    first | exact ⟨⟨true, rfl⟩, (Below.refl w.heap.size w).alloc (Nat.le_refl _) _⟩ | exact ⟨_, rfl, (Below.refl w.heap.size w).alloc (Nat.le_refl _) _⟩ | exact (Below.refl w.heap.size w).alloc (Nat.le_refl _) _
  by_cases c1 : (M.funcs.length : Int) > 300
  · skip
    go_enter Tryz.func9, Tryz.ntmps9
    go_wp2
    go_ret
    first | exact ⟨⟨true, rfl⟩, (Below.refl w.heap.size w).alloc (Nat.le_refl _) _⟩ | exact ⟨_, rfl, (Below.refl w.heap.size w).alloc (Nat.le_refl _) _⟩ | exact (Below.refl w.heap.size w).alloc (Nat.le_refl _) _
  by_cases c2 : (M.tables.length : Int) > 300
  · skip
    go_enter Tryz.func9, Tryz.ntmps9
    go_wp2
    go_ret
    first | exact ⟨⟨true, rfl⟩, (Below.refl w.heap.size w).alloc (Nat.le_refl _) _⟩ | exact ⟨_, rfl, (Below.refl w.heap.size w).alloc (Nat.le_refl _) _⟩ | exact (Below.refl w.heap.size w).alloc (Nat.le_refl _) _
  by_cases c3 : (M.mems.length : Int) > 300
  · skip
    go_enter Tryz.func9, Tryz.ntmps9
    go_wp2
    go_ret
    first | exact ⟨⟨true, rfl⟩, (Below.refl w.heap.size w).alloc (Nat.le_refl _) _⟩ | exact ⟨_, rfl, (Below.refl w.heap.size w).alloc (Nat.le_refl _) _⟩ | exact (Below.refl w.heap.size w).alloc (Nat.le_refl _) _
  by_cases c4 : (M.globs.length : Int) > 300
  · skip
    go_enter Tryz.func9, Tryz.ntmps9
    go_wp2
    go_ret
    first | exact ⟨⟨true, rfl⟩, (Below.refl w.heap.size w).alloc (Nat.le_refl _) _⟩ | exact ⟨_, rfl, (Below.refl w.heap.size w).alloc (Nat.le_refl _) _⟩ | exact (Below.refl w.heap.size w).alloc (Nat.le_refl _) _
  by_cases c5 : (M.exps.length : Int) > 300
  · skip
    go_enter Tryz.func9, Tryz.ntmps9
    go_wp2
    go_ret
    first | exact ⟨⟨true, rfl⟩, (Below.refl w.heap.size w).alloc (Nat.le_refl _) _⟩ | exact ⟨_, rfl, (Below.refl w.heap.size w).alloc (Nat.le_refl _) _⟩ | exact (Below.refl w.heap.size w).alloc (Nat.le_refl _) _
  by_cases c6 : (M.elems.length : Int) > 300
  · skip
    go_enter Tryz.func9, Tryz.ntmps9
    go_wp2
    go_ret
    first | exact ⟨⟨true, rfl⟩, (Below.refl w.heap.size w).alloc (Nat.le_refl _) _⟩ | exact ⟨_, rfl, (Below.refl w.heap.size w).alloc (Nat.le_refl _) _⟩ | exact (Below.refl w.heap.size w).alloc (Nat.le_refl _) _
  by_cases c7 : (M.datas.length : Int) > 300
  · skip
    go_enter Tryz.func9, Tryz.ntmps9
    go_wp2
    go_ret
    first | exact ⟨⟨true, rfl⟩, (Below.refl w.heap.size w).alloc (Nat.le_refl _) _⟩ | exact ⟨_, rfl, (Below.refl w.heap.size w).alloc (Nat.le_refl _) _⟩ | exact (Below.refl w.heap.size w).alloc (Nat.le_refl _) _
  have HM := hide ((unhide HM0).moved (Mv.below (g' := g) ((Below.refl _ _).alloc (Nat.le_refl _) (.cells #[.slice sa0 M.types.length sc0, .slice sa1 M.funcs.length sc1, .slice sa2 M.tables.length sc2, .slice sa3 M.mems.length sc3, .slice sa4 M.globs.length sc4, .slice sa5 M.exps.length sc5, .slice sa6 M.elems.length sc6, .slice sa7 M.datas.length sc7] 30)) (fun _ _ h => h)) (by simp))
  have HMb := hide (heap_alloc_new w (.cells #[.slice sa0 M.types.length sc0, .slice sa1 M.funcs.length sc1, .slice sa2 M.tables.length sc2, .slice sa3 M.mems.length sc3, .slice sa4 M.globs.length sc4, .slice sa5 M.exps.length sc5, .slice sa6 M.elems.length sc6, .slice sa7 M.datas.length sc7] 30))
  have HBW := hide ((Below.refl w.heap.size w).alloc (Nat.le_refl _) (.cells #[.slice sa0 M.types.length sc0, .slice sa1 M.funcs.length sc1, .slice sa2 M.tables.length sc2, .slice sa3 M.mems.length sc3, .slice sa4 M.globs.length sc4, .slice sa5 M.exps.length sc5, .slice sa6 M.elems.length sc6, .slice sa7 M.datas.length sc7] 30))
  have HS0 := hide (show w.heap.size < (w.alloc (.cells #[.slice sa0 M.types.length sc0, .slice sa1 M.funcs.length sc1, .slice sa2 M.tables.length sc2, .slice sa3 M.mems.length sc3, .slice sa4 M.globs.length sc4, .slice sa5 M.exps.length sc5, .slice sa6 M.elems.length sc6, .slice sa7 M.datas.length sc7] 30)).heap.size by simp)
  clear HM0
  go_enter Tryz.func9, Tryz.ntmps9
  go_wp2_with fail
  clear c0 c1 c2 c3 c4 c5 c6 c7
  generalize w.alloc (.cells #[.slice sa0 M.types.length sc0, .slice sa1 M.funcs.length sc1, .slice sa2 M.tables.length sc2, .slice sa3 M.mems.length sc3, .slice sa4 M.globs.length sc4, .slice sa5 M.exps.length sc5, .slice sa6 M.elems.length sc6, .slice sa7 M.datas.length sc7] 30) = W0 at *
  go_loopw [3, 4] (fun s c wr => ∃ (j : Nat) (k : Int), c = .int .i64 j ∧ s = .int .i64 k ∧ (j : Int) ≤ (M.types.length : Int) ∧ Below W0.heap.size W0 wr) (fun _ c _ => M.types.length - (intOf c).toNat)
  case atStart => exact ⟨0, _, rfl, rfl, by omega, Below.refl _ _⟩
  case round =>
    obtain ⟨j, k, rfl, rfl, hj, hbel⟩ := hrel
    have HBel := hide hbel
    have hnn : (M.types.length : Int) ≤ 1048576 := by have := (unhide HSz).n0; omega
    have hmc : wr.cell? ⟨w.heap.size, 0, none⟩ = some (.slice sa0 M.types.length sc0) := by rw [cell_of_row wr _ 0 _ _ _ ((hbel.block _ (unhide HS0)).trans (unhide HMb))]; rfl
    have hmlt : w.heap.size < wr.heap.size := by have := hbel.size; have := unhide HS0; omega
    by_cases hlt : (j : Int) < (M.types.length : Int)
    · have jl : j < M.types.length := by omega
      have hsw := (unhide HM).l0.moved (Mv.below (g' := g) hbel (fun _ _ h => h)) hbel.size (fun _ _ q => TypC.moved (Mv.below (g' := g) hbel (fun _ _ h => h)) q)
      obtain ⟨sa', cp', es, hcpl, _, hsr⟩ := hsw
      simp only [Value.slice.injEq] at es
      obtain ⟨rfl, _, rfl⟩ := es
      obtain ⟨ba, oa, rfl, hgb, hblt, hits⟩ := hsr (by omega)
      obtain ⟨cs, hcl, hit, hcs⟩ := hits j jl
      have hokx := (unhide HSz).s0 M.types[j] (List.getElem_mem jl)
      generalize M.types[j] = x at *
      obtain ⟨vp, rfl, hp⟩ := hit
      obtain ⟨pa, pc, rfl, -⟩ := hp
      have d0 : wr.cell? ⟨ba, oa + j * 2, none⟩ = some (.slice pa x.ps.length pc) := hcs 0 _ rfl
      skip
      clear hbel hgb hits hcs hcl hokx hsr 
      generalize x.ps.length = ll at *
      by_cases hmn : (5000 : Int) < (ll : Int)
      · have hmn4 : ¬ (ll : Int) ≤ 5000 := by omega
        go_wp2
        go_roundw
        case rel => exact ⟨j + 1, _, by go_num, rfl, by omega, unhide HBel⟩
        case measure => simp [intOf]; omega
      · have hmn4 : (ll : Int) ≤ 5000 := by omega
        go_wp2
        go_roundw
        case rel => exact ⟨j + 1, _, by go_num, rfl, by omega, unhide HBel⟩
        case measure => simp [intOf]; omega
    · have hj2 : (j : Int) = (M.types.length : Int) := by omega
      clear hj hbel
      have HB1 := HBel
      clear HBel
      go_wp2_with fail
      go_loopw [3, 5] (fun s c wr => ∃ (j : Nat) (k : Int), c = .int .i64 j ∧ s = .int .i64 k ∧ (j : Int) ≤ (M.funcs.length : Int) ∧ Below W0.heap.size W0 wr) (fun _ c _ => M.funcs.length - (intOf c).toNat)
      case atStart => exact ⟨0, _, rfl, rfl, by omega, unhide HB1⟩
      case round =>
        obtain ⟨j, k, rfl, rfl, hj, hbel⟩ := hrel
        have HBel := hide hbel
        have hnn : (M.funcs.length : Int) ≤ 1048576 := by have := (unhide HSz).n1; omega
        have hmc : wr.cell? ⟨w.heap.size, 1, none⟩ = some (.slice sa1 M.funcs.length sc1) := by rw [cell_of_row wr _ 1 _ _ _ ((hbel.block _ (unhide HS0)).trans (unhide HMb))]; rfl
        have hmlt : w.heap.size < wr.heap.size := by have := hbel.size; have := unhide HS0; omega
        by_cases hlt : (j : Int) < (M.funcs.length : Int)
        · have jl : j < M.funcs.length := by omega
          have hsw := (unhide HM).l1.moved (Mv.below (g' := g) hbel (fun _ _ h => h)) hbel.size (fun _ _ q => FncC.moved (Mv.below (g' := g) hbel (fun _ _ h => h)) q)
          obtain ⟨sa', cp', es, hcpl, _, hsr⟩ := hsw
          simp only [Value.slice.injEq] at es
          obtain ⟨rfl, _, rfl⟩ := es
          obtain ⟨ba, oa, rfl, hgb, hblt, hits⟩ := hsr (by omega)
          obtain ⟨cs, hcl, hit, hcs⟩ := hits j jl
          have hokx := (unhide HSz).s1 M.funcs[j] (List.getElem_mem jl)
          generalize M.funcs[j] = x at *
          obtain ⟨vp, vq, rfl, hp, hq⟩ := hit
          have HQ := hide hq
          obtain ⟨pa, pc, rfl, -⟩ := hp
          obtain ⟨qa, qc, rfl, -⟩ := hq
          have d1 : wr.cell? ⟨ba, oa + j * 3 + 1, none⟩ = some (.slice pa x.ls.length pc) := hcs 1 _ rfl
          have d2 : wr.cell? ⟨ba, oa + j * 3 + 2, none⟩ = some (.slice qa x.body.length qc) := hcs 2 _ rfl
          have hc : ∀ W, Below wr.heap.size wr W → Calls Tryz.prog 34 #[.slice qa x.body.length qc, .int .i64 3000, .int .i64 0] W fun e w' => ∃ n, e = .returned (.int .i64 n) ∧ Below W.heap.size W w' := fun W hW =>
            Ex.ct_any x.body g _ _ _ W ((unhide HQ).move (Mv.below (g' := g) hW (fun _ _ h => h)).moves) (by have := hokx.2.2.1; omega) (Ex.Sz_mono (by omega) _ hokx.2.2.2)
          have HC := hide hc
          clear hbel hgb hits hcs hcl hokx hsr hc
          generalize x.ls.length = ll at *
          by_cases hmn : (5000 : Int) < (ll : Int)
          · have hmn4 : ¬ (ll : Int) ≤ 5000 := by omega
            go_wp2_with fail
            go_region_held3 (fun w' => w'.cell? ⟨w.heap.size, 1, none⟩ = some (.slice (some ⟨ba, oa, none⟩) M.funcs.length sc1) ∧ w'.cell? ⟨ba, oa + j * 3 + 1, none⟩ = some (.slice pa ll pc) ∧ w'.cell? ⟨ba, oa + j * 3 + 2, none⟩ = some (.slice qa x.body.length qc))
              (first | go_keep | exact ⟨hmc, d1, d2⟩ | exact ⟨(hk2 _ _ hmlt).trans hmc, (hk2 _ _ hblt).trans d1, (hk2 _ _ hblt).trans d2⟩)
              (first | (go_at_call 34; refine (unhide HC _ (drew_below9 wr)).mono ?_; rintro e w3 ⟨k1, rfl, hb3⟩; have HB3 := hide (Below.on (drew_below9 wr) hb3); clear hb3; have hk2 : ∀ b o, b < wr.heap.size → w3.cell? ⟨b, o, none⟩ = wr.cell? ⟨b, o, none⟩ := fun b o hlt => (unhide HB3).cell (p := ⟨b, o, none⟩) hlt))
            all_goals (
              have HBB := hide (Below.on (unhide HBel) (unhide HB3))
              clear hk2 HB3
              go_wp2
              go_roundw
              case rel => exact ⟨j + 1, _, by go_num, rfl, by omega, unhide HBB⟩
              case measure => simp [intOf]; omega)
          · have hmn4 : (ll : Int) ≤ 5000 := by omega
            go_wp2_with fail
            go_region_held3 (fun w' => w'.cell? ⟨w.heap.size, 1, none⟩ = some (.slice (some ⟨ba, oa, none⟩) M.funcs.length sc1) ∧ w'.cell? ⟨ba, oa + j * 3 + 1, none⟩ = some (.slice pa ll pc) ∧ w'.cell? ⟨ba, oa + j * 3 + 2, none⟩ = some (.slice qa x.body.length qc))
              (first | go_keep | exact ⟨hmc, d1, d2⟩ | exact ⟨(hk2 _ _ hmlt).trans hmc, (hk2 _ _ hblt).trans d1, (hk2 _ _ hblt).trans d2⟩)
              (first | (go_at_call 34; refine (unhide HC _ (drew_below9 wr)).mono ?_; rintro e w3 ⟨k1, rfl, hb3⟩; have HB3 := hide (Below.on (drew_below9 wr) hb3); clear hb3; have hk2 : ∀ b o, b < wr.heap.size → w3.cell? ⟨b, o, none⟩ = wr.cell? ⟨b, o, none⟩ := fun b o hlt => (unhide HB3).cell (p := ⟨b, o, none⟩) hlt))
            all_goals (
              have HBB := hide (Below.on (unhide HBel) (unhide HB3))
              clear hk2 HB3
              go_wp2
              go_roundw
              case rel => exact ⟨j + 1, _, by go_num, rfl, by omega, unhide HBB⟩
              case measure => simp [intOf]; omega)
        · have hj2 : (j : Int) = (M.funcs.length : Int) := by omega
          clear hj hbel
          have HB2 := HBel
          clear HBel HB1
          go_wp2_with fail
          go_loopw [3, 6] (fun s c wr => ∃ (j : Nat) (k : Int), c = .int .i64 j ∧ s = .int .i64 k ∧ (j : Int) ≤ (M.exps.length : Int) ∧ Below W0.heap.size W0 wr) (fun _ c _ => M.exps.length - (intOf c).toNat)
          case atStart => exact ⟨0, _, rfl, rfl, by omega, unhide HB2⟩
          case round =>
            obtain ⟨j, k, rfl, rfl, hj, hbel⟩ := hrel
            have HBel := hide hbel
            have hnn : (M.exps.length : Int) ≤ 1048576 := by have := (unhide HSz).n5; omega
            have hmc : wr.cell? ⟨w.heap.size, 5, none⟩ = some (.slice sa5 M.exps.length sc5) := by rw [cell_of_row wr _ 5 _ _ _ ((hbel.block _ (unhide HS0)).trans (unhide HMb))]; rfl
            have hmlt : w.heap.size < wr.heap.size := by have := hbel.size; have := unhide HS0; omega
            by_cases hlt : (j : Int) < (M.exps.length : Int)
            · have jl : j < M.exps.length := by omega
              have hsw := (unhide HM).l5.moved (Mv.below (g' := g) hbel (fun _ _ h => h)) hbel.size (fun _ _ q => ExoC.moved (Mv.below (g' := g) hbel (fun _ _ h => h)) q)
              obtain ⟨sa', cp', es, hcpl, _, hsr⟩ := hsw
              simp only [Value.slice.injEq] at es
              obtain ⟨rfl, _, rfl⟩ := es
              obtain ⟨ba, oa, rfl, hgb, hblt, hits⟩ := hsr (by omega)
              obtain ⟨cs, hcl, hit, hcs⟩ := hits j jl
              have hokx := (unhide HSz).s5 M.exps[j] (List.getElem_mem jl)
              generalize M.exps[j] = x at *
              obtain rfl : cs = [.string x.nm, .int .u8 x.wh, .int .u32 x.ix] := hit
              have d0 : wr.cell? ⟨ba, oa + j * 3, none⟩ = some (.string x.nm) := hcs 0 _ rfl
              skip
              clear hbel hgb hits hcs hcl hokx hsr 
              generalize x.nm.size = ll at *
              by_cases hmn : (5000 : Int) < (ll : Int)
              · have hmn4 : ¬ (ll : Int) ≤ 5000 := by omega
                go_wp2
                go_roundw
                case rel => exact ⟨j + 1, _, by go_num, rfl, by omega, unhide HBel⟩
                case measure => simp [intOf]; omega
              · have hmn4 : (ll : Int) ≤ 5000 := by omega
                go_wp2
                go_roundw
                case rel => exact ⟨j + 1, _, by go_num, rfl, by omega, unhide HBel⟩
                case measure => simp [intOf]; omega
            · have hj2 : (j : Int) = (M.exps.length : Int) := by omega
              clear hj hbel
              have HB3 := HBel
              clear HBel HB2
              go_wp2_with fail
              go_loopw [3, 7] (fun s c wr => ∃ (j : Nat) (k : Int), c = .int .i64 j ∧ s = .int .i64 k ∧ (j : Int) ≤ (M.elems.length : Int) ∧ Below W0.heap.size W0 wr) (fun _ c _ => M.elems.length - (intOf c).toNat)
              case atStart => exact ⟨0, _, rfl, rfl, by omega, unhide HB3⟩
              case round =>
                obtain ⟨j, k, rfl, rfl, hj, hbel⟩ := hrel
                have HBel := hide hbel
                have hnn : (M.elems.length : Int) ≤ 1048576 := by have := (unhide HSz).n6; omega
                have hmc : wr.cell? ⟨w.heap.size, 6, none⟩ = some (.slice sa6 M.elems.length sc6) := by rw [cell_of_row wr _ 6 _ _ _ ((hbel.block _ (unhide HS0)).trans (unhide HMb))]; rfl
                have hmlt : w.heap.size < wr.heap.size := by have := hbel.size; have := unhide HS0; omega
                by_cases hlt : (j : Int) < (M.elems.length : Int)
                · have jl : j < M.elems.length := by omega
                  have hsw := (unhide HM).l6.moved (Mv.below (g' := g) hbel (fun _ _ h => h)) hbel.size (fun _ _ q => ElmC.moved (Mv.below (g' := g) hbel (fun _ _ h => h)) q)
                  obtain ⟨sa', cp', es, hcpl, _, hsr⟩ := hsw
                  simp only [Value.slice.injEq] at es
                  obtain ⟨rfl, _, rfl⟩ := es
                  obtain ⟨ba, oa, rfl, hgb, hblt, hits⟩ := hsr (by omega)
                  obtain ⟨cs, hcl, hit, hcs⟩ := hits j jl
                  have hokx := (unhide HSz).s6 M.elems[j] (List.getElem_mem jl)
                  generalize M.elems[j] = x at *
                  obtain ⟨ds, vf, rfl, ⟨vb, ve, vl, rfl, h1, h2, h3⟩, hf⟩ := hit
                  have H1 := hide h1; have H2 := hide h2; have H3 := hide h3
                  obtain ⟨iba, ibc, rfl, -⟩ := h1
                  obtain ⟨iea, iec, rfl, -⟩ := h2
                  obtain ⟨ila, ilc, rfl, -⟩ := h3
                  obtain ⟨fa, fc, rfl, -⟩ := hf
                  have d1 : wr.cell? ⟨ba, oa + j * 10 + 1, none⟩ = some (.int .u8 x.off.op) := hcs 1 _ rfl
                  have d2 : wr.cell? ⟨ba, oa + j * 10 + 2, none⟩ = some (.int .i64 x.off.n) := hcs 2 _ rfl
                  have d3 : wr.cell? ⟨ba, oa + j * 10 + 3, none⟩ = some (.int .u32 x.off.al) := hcs 3 _ rfl
                  have d4 : wr.cell? ⟨ba, oa + j * 10 + 4, none⟩ = some (.int .u32 x.off.of) := hcs 4 _ rfl
                  have d5 : wr.cell? ⟨ba, oa + j * 10 + 5, none⟩ = some (.int .u8 x.off.re) := hcs 5 _ rfl
                  have d6 : wr.cell? ⟨ba, oa + j * 10 + 6, none⟩ = some (.slice iba x.off.body.length ibc) := hcs 6 _ rfl
                  have d7 : wr.cell? ⟨ba, oa + j * 10 + 7, none⟩ = some (.slice iea x.off.els.length iec) := hcs 7 _ rfl
                  have d8 : wr.cell? ⟨ba, oa + j * 10 + 8, none⟩ = some (.slice ila x.off.ls.length ilc) := hcs 8 _ rfl
                  have d9 : wr.cell? ⟨ba, oa + j * 10 + 9, none⟩ = some (.slice fa x.fs.length fc) := hcs 9 _ rfl
                  have hc : ∀ W, Below wr.heap.size wr W → ∀ b t, W.heap[b]? = some (.cells #[.int .u8 x.off.op, .int .i64 x.off.n, .int .u32 x.off.al, .int .u32 x.off.of, .int .u8 x.off.re, .slice iba x.off.body.length ibc, .slice iea x.off.els.length iec, .slice ila x.off.ls.length ilc] t (0, 0)) → Calls Tryz.prog 34 #[.slice (some ⟨b, 0, none⟩) 1 1, .int .i64 3000, .int .i64 0] W fun e w' => ∃ n, e = .returned (.int .i64 n) ∧ Below W.heap.size W w' := fun W hW b t hb =>
                    count_one hb ((unhide H1).move (Mv.below (g' := g) hW (fun _ _ h => h)).moves) ((unhide H2).move (Mv.below (g' := g) hW (fun _ _ h => h)).moves) (Ex.Labs.move (Mv.below (g' := g) hW (fun _ _ h => h)).moves (unhide H3)) (szI_mono hokx)
                  have HC := hide hc
                  clear hbel hgb hits hcs hcl hokx hsr hc
                  generalize x.fs.length = ll at *
                  by_cases hmn : (5000 : Int) < (ll : Int)
                  · have hmn4 : ¬ (ll : Int) ≤ 5000 := by omega
                    go_wp2_with fail
                    go_region_held3 (fun w' => w'.cell? ⟨w.heap.size, 6, none⟩ = some (.slice (some ⟨ba, oa, none⟩) M.elems.length sc6) ∧ w'.cell? ⟨ba, oa + j * 10 + 1, none⟩ = some (.int .u8 x.off.op) ∧ w'.cell? ⟨ba, oa + j * 10 + 2, none⟩ = some (.int .i64 x.off.n) ∧ w'.cell? ⟨ba, oa + j * 10 + 3, none⟩ = some (.int .u32 x.off.al) ∧ w'.cell? ⟨ba, oa + j * 10 + 4, none⟩ = some (.int .u32 x.off.of) ∧ w'.cell? ⟨ba, oa + j * 10 + 5, none⟩ = some (.int .u8 x.off.re) ∧ w'.cell? ⟨ba, oa + j * 10 + 6, none⟩ = some (.slice iba x.off.body.length ibc) ∧ w'.cell? ⟨ba, oa + j * 10 + 7, none⟩ = some (.slice iea x.off.els.length iec) ∧ w'.cell? ⟨ba, oa + j * 10 + 8, none⟩ = some (.slice ila x.off.ls.length ilc) ∧ w'.cell? ⟨ba, oa + j * 10 + 9, none⟩ = some (.slice fa ll fc))
                      (first | go_keep | exact ⟨hmc, d1, d2, d3, d4, d5, d6, d7, d8, d9⟩ | exact ⟨(hk2 _ _ hmlt).trans hmc, (hk2 _ _ hblt).trans d1, (hk2 _ _ hblt).trans d2, (hk2 _ _ hblt).trans d3, (hk2 _ _ hblt).trans d4, (hk2 _ _ hblt).trans d5, (hk2 _ _ hblt).trans d6, (hk2 _ _ hblt).trans d7, (hk2 _ _ hblt).trans d8, (hk2 _ _ hblt).trans d9⟩)
                      (first | (go_at_call 34; refine (unhide HC _ (new_below9 wr _) _ _ (new_at9 wr _ _)).mono ?_; rintro e w3 ⟨k1, rfl, hb3⟩; have HB3 := hide (Below.on (new_below9 wr _) hb3); clear hb3; have hk2 : ∀ b o, b < wr.heap.size → w3.cell? ⟨b, o, none⟩ = wr.cell? ⟨b, o, none⟩ := fun b o hlt => (unhide HB3).cell (p := ⟨b, o, none⟩) hlt))
                    all_goals (
                      have HBB := hide (Below.on (unhide HBel) (unhide HB3))
                      clear hk2 HB3
                      go_wp2
                      go_roundw
                      case rel => exact ⟨j + 1, _, by go_num, rfl, by omega, unhide HBB⟩
                      case measure => simp [intOf]; omega)
                  · have hmn4 : (ll : Int) ≤ 5000 := by omega
                    go_wp2_with fail
                    go_region_held3 (fun w' => w'.cell? ⟨w.heap.size, 6, none⟩ = some (.slice (some ⟨ba, oa, none⟩) M.elems.length sc6) ∧ w'.cell? ⟨ba, oa + j * 10 + 1, none⟩ = some (.int .u8 x.off.op) ∧ w'.cell? ⟨ba, oa + j * 10 + 2, none⟩ = some (.int .i64 x.off.n) ∧ w'.cell? ⟨ba, oa + j * 10 + 3, none⟩ = some (.int .u32 x.off.al) ∧ w'.cell? ⟨ba, oa + j * 10 + 4, none⟩ = some (.int .u32 x.off.of) ∧ w'.cell? ⟨ba, oa + j * 10 + 5, none⟩ = some (.int .u8 x.off.re) ∧ w'.cell? ⟨ba, oa + j * 10 + 6, none⟩ = some (.slice iba x.off.body.length ibc) ∧ w'.cell? ⟨ba, oa + j * 10 + 7, none⟩ = some (.slice iea x.off.els.length iec) ∧ w'.cell? ⟨ba, oa + j * 10 + 8, none⟩ = some (.slice ila x.off.ls.length ilc) ∧ w'.cell? ⟨ba, oa + j * 10 + 9, none⟩ = some (.slice fa ll fc))
                      (first | go_keep | exact ⟨hmc, d1, d2, d3, d4, d5, d6, d7, d8, d9⟩ | exact ⟨(hk2 _ _ hmlt).trans hmc, (hk2 _ _ hblt).trans d1, (hk2 _ _ hblt).trans d2, (hk2 _ _ hblt).trans d3, (hk2 _ _ hblt).trans d4, (hk2 _ _ hblt).trans d5, (hk2 _ _ hblt).trans d6, (hk2 _ _ hblt).trans d7, (hk2 _ _ hblt).trans d8, (hk2 _ _ hblt).trans d9⟩)
                      (first | (go_at_call 34; refine (unhide HC _ (new_below9 wr _) _ _ (new_at9 wr _ _)).mono ?_; rintro e w3 ⟨k1, rfl, hb3⟩; have HB3 := hide (Below.on (new_below9 wr _) hb3); clear hb3; have hk2 : ∀ b o, b < wr.heap.size → w3.cell? ⟨b, o, none⟩ = wr.cell? ⟨b, o, none⟩ := fun b o hlt => (unhide HB3).cell (p := ⟨b, o, none⟩) hlt))
                    all_goals (
                      have HBB := hide (Below.on (unhide HBel) (unhide HB3))
                      clear hk2 HB3
                      go_wp2
                      go_roundw
                      case rel => exact ⟨j + 1, _, by go_num, rfl, by omega, unhide HBB⟩
                      case measure => simp [intOf]; omega)
                · have hj2 : (j : Int) = (M.elems.length : Int) := by omega
                  clear hj hbel
                  have HB4 := HBel
                  clear HBel HB3
                  go_wp2_with fail
                  go_loopw [3, 8] (fun s c wr => ∃ (j : Nat) (k : Int), c = .int .i64 j ∧ s = .int .i64 k ∧ (j : Int) ≤ (M.datas.length : Int) ∧ Below W0.heap.size W0 wr) (fun _ c _ => M.datas.length - (intOf c).toNat)
                  case atStart => exact ⟨0, _, rfl, rfl, by omega, unhide HB4⟩
                  case round =>
                    obtain ⟨j, k, rfl, rfl, hj, hbel⟩ := hrel
                    have HBel := hide hbel
                    have hnn : (M.datas.length : Int) ≤ 1048576 := by have := (unhide HSz).n7; omega
                    have hmc : wr.cell? ⟨w.heap.size, 7, none⟩ = some (.slice sa7 M.datas.length sc7) := by rw [cell_of_row wr _ 7 _ _ _ ((hbel.block _ (unhide HS0)).trans (unhide HMb))]; rfl
                    have hmlt : w.heap.size < wr.heap.size := by have := hbel.size; have := unhide HS0; omega
                    by_cases hlt : (j : Int) < (M.datas.length : Int)
                    · have jl : j < M.datas.length := by omega
                      have hsw := (unhide HM).l7.moved (Mv.below (g' := g) hbel (fun _ _ h => h)) hbel.size (fun _ _ q => DatC.moved (Mv.below (g' := g) hbel (fun _ _ h => h)) q)
                      obtain ⟨sa', cp', es, hcpl, _, hsr⟩ := hsw
                      simp only [Value.slice.injEq] at es
                      obtain ⟨rfl, _, rfl⟩ := es
                      obtain ⟨ba, oa, rfl, hgb, hblt, hits⟩ := hsr (by omega)
                      obtain ⟨cs, hcl, hit, hcs⟩ := hits j jl
                      have hokx := (unhide HSz).s7 M.datas[j] (List.getElem_mem jl)
                      generalize M.datas[j] = x at *
                      obtain ⟨ds, vf, rfl, ⟨vb, ve, vl, rfl, h1, h2, h3⟩, hf⟩ := hit
                      have H1 := hide h1; have H2 := hide h2; have H3 := hide h3
                      obtain ⟨iba, ibc, rfl, -⟩ := h1
                      obtain ⟨iea, iec, rfl, -⟩ := h2
                      obtain ⟨ila, ilc, rfl, -⟩ := h3
                      obtain ⟨fa, fc, rfl, -⟩ := hf
                      have d1 : wr.cell? ⟨ba, oa + j * 10 + 1, none⟩ = some (.int .u8 x.off.op) := hcs 1 _ rfl
                      have d2 : wr.cell? ⟨ba, oa + j * 10 + 2, none⟩ = some (.int .i64 x.off.n) := hcs 2 _ rfl
                      have d3 : wr.cell? ⟨ba, oa + j * 10 + 3, none⟩ = some (.int .u32 x.off.al) := hcs 3 _ rfl
                      have d4 : wr.cell? ⟨ba, oa + j * 10 + 4, none⟩ = some (.int .u32 x.off.of) := hcs 4 _ rfl
                      have d5 : wr.cell? ⟨ba, oa + j * 10 + 5, none⟩ = some (.int .u8 x.off.re) := hcs 5 _ rfl
                      have d6 : wr.cell? ⟨ba, oa + j * 10 + 6, none⟩ = some (.slice iba x.off.body.length ibc) := hcs 6 _ rfl
                      have d7 : wr.cell? ⟨ba, oa + j * 10 + 7, none⟩ = some (.slice iea x.off.els.length iec) := hcs 7 _ rfl
                      have d8 : wr.cell? ⟨ba, oa + j * 10 + 8, none⟩ = some (.slice ila x.off.ls.length ilc) := hcs 8 _ rfl
                      have d9 : wr.cell? ⟨ba, oa + j * 10 + 9, none⟩ = some (.slice fa x.bs.length fc) := hcs 9 _ rfl
                      have hc : ∀ W, Below wr.heap.size wr W → ∀ b t, W.heap[b]? = some (.cells #[.int .u8 x.off.op, .int .i64 x.off.n, .int .u32 x.off.al, .int .u32 x.off.of, .int .u8 x.off.re, .slice iba x.off.body.length ibc, .slice iea x.off.els.length iec, .slice ila x.off.ls.length ilc] t (0, 0)) → Calls Tryz.prog 34 #[.slice (some ⟨b, 0, none⟩) 1 1, .int .i64 3000, .int .i64 0] W fun e w' => ∃ n, e = .returned (.int .i64 n) ∧ Below W.heap.size W w' := fun W hW b t hb =>
                        count_one hb ((unhide H1).move (Mv.below (g' := g) hW (fun _ _ h => h)).moves) ((unhide H2).move (Mv.below (g' := g) hW (fun _ _ h => h)).moves) (Ex.Labs.move (Mv.below (g' := g) hW (fun _ _ h => h)).moves (unhide H3)) (szI_mono hokx)
                      have HC := hide hc
                      clear hbel hgb hits hcs hcl hokx hsr hc
                      generalize x.bs.length = ll at *
                      by_cases hmn : (5000 : Int) < (ll : Int)
                      · have hmn4 : ¬ (ll : Int) ≤ 5000 := by omega
                        go_wp2_with fail
                        go_region_held3 (fun w' => w'.cell? ⟨w.heap.size, 7, none⟩ = some (.slice (some ⟨ba, oa, none⟩) M.datas.length sc7) ∧ w'.cell? ⟨ba, oa + j * 10 + 1, none⟩ = some (.int .u8 x.off.op) ∧ w'.cell? ⟨ba, oa + j * 10 + 2, none⟩ = some (.int .i64 x.off.n) ∧ w'.cell? ⟨ba, oa + j * 10 + 3, none⟩ = some (.int .u32 x.off.al) ∧ w'.cell? ⟨ba, oa + j * 10 + 4, none⟩ = some (.int .u32 x.off.of) ∧ w'.cell? ⟨ba, oa + j * 10 + 5, none⟩ = some (.int .u8 x.off.re) ∧ w'.cell? ⟨ba, oa + j * 10 + 6, none⟩ = some (.slice iba x.off.body.length ibc) ∧ w'.cell? ⟨ba, oa + j * 10 + 7, none⟩ = some (.slice iea x.off.els.length iec) ∧ w'.cell? ⟨ba, oa + j * 10 + 8, none⟩ = some (.slice ila x.off.ls.length ilc) ∧ w'.cell? ⟨ba, oa + j * 10 + 9, none⟩ = some (.slice fa ll fc))
                          (first | go_keep | exact ⟨hmc, d1, d2, d3, d4, d5, d6, d7, d8, d9⟩ | exact ⟨(hk2 _ _ hmlt).trans hmc, (hk2 _ _ hblt).trans d1, (hk2 _ _ hblt).trans d2, (hk2 _ _ hblt).trans d3, (hk2 _ _ hblt).trans d4, (hk2 _ _ hblt).trans d5, (hk2 _ _ hblt).trans d6, (hk2 _ _ hblt).trans d7, (hk2 _ _ hblt).trans d8, (hk2 _ _ hblt).trans d9⟩)
                          (first | (go_at_call 34; refine (unhide HC _ (new_below9 wr _) _ _ (new_at9 wr _ _)).mono ?_; rintro e w3 ⟨k1, rfl, hb3⟩; have HB3 := hide (Below.on (new_below9 wr _) hb3); clear hb3; have hk2 : ∀ b o, b < wr.heap.size → w3.cell? ⟨b, o, none⟩ = wr.cell? ⟨b, o, none⟩ := fun b o hlt => (unhide HB3).cell (p := ⟨b, o, none⟩) hlt))
                        all_goals (
                          have HBB := hide (Below.on (unhide HBel) (unhide HB3))
                          clear hk2 HB3
                          go_wp2
                          go_roundw
                          case rel => exact ⟨j + 1, _, by go_num, rfl, by omega, unhide HBB⟩
                          case measure => simp [intOf]; omega)
                      · have hmn4 : (ll : Int) ≤ 5000 := by omega
                        go_wp2_with fail
                        go_region_held3 (fun w' => w'.cell? ⟨w.heap.size, 7, none⟩ = some (.slice (some ⟨ba, oa, none⟩) M.datas.length sc7) ∧ w'.cell? ⟨ba, oa + j * 10 + 1, none⟩ = some (.int .u8 x.off.op) ∧ w'.cell? ⟨ba, oa + j * 10 + 2, none⟩ = some (.int .i64 x.off.n) ∧ w'.cell? ⟨ba, oa + j * 10 + 3, none⟩ = some (.int .u32 x.off.al) ∧ w'.cell? ⟨ba, oa + j * 10 + 4, none⟩ = some (.int .u32 x.off.of) ∧ w'.cell? ⟨ba, oa + j * 10 + 5, none⟩ = some (.int .u8 x.off.re) ∧ w'.cell? ⟨ba, oa + j * 10 + 6, none⟩ = some (.slice iba x.off.body.length ibc) ∧ w'.cell? ⟨ba, oa + j * 10 + 7, none⟩ = some (.slice iea x.off.els.length iec) ∧ w'.cell? ⟨ba, oa + j * 10 + 8, none⟩ = some (.slice ila x.off.ls.length ilc) ∧ w'.cell? ⟨ba, oa + j * 10 + 9, none⟩ = some (.slice fa ll fc))
                          (first | go_keep | exact ⟨hmc, d1, d2, d3, d4, d5, d6, d7, d8, d9⟩ | exact ⟨(hk2 _ _ hmlt).trans hmc, (hk2 _ _ hblt).trans d1, (hk2 _ _ hblt).trans d2, (hk2 _ _ hblt).trans d3, (hk2 _ _ hblt).trans d4, (hk2 _ _ hblt).trans d5, (hk2 _ _ hblt).trans d6, (hk2 _ _ hblt).trans d7, (hk2 _ _ hblt).trans d8, (hk2 _ _ hblt).trans d9⟩)
                          (first | (go_at_call 34; refine (unhide HC _ (new_below9 wr _) _ _ (new_at9 wr _ _)).mono ?_; rintro e w3 ⟨k1, rfl, hb3⟩; have HB3 := hide (Below.on (new_below9 wr _) hb3); clear hb3; have hk2 : ∀ b o, b < wr.heap.size → w3.cell? ⟨b, o, none⟩ = wr.cell? ⟨b, o, none⟩ := fun b o hlt => (unhide HB3).cell (p := ⟨b, o, none⟩) hlt))
                        all_goals (
                          have HBB := hide (Below.on (unhide HBel) (unhide HB3))
                          clear hk2 HB3
                          go_wp2
                          go_roundw
                          case rel => exact ⟨j + 1, _, by go_num, rfl, by omega, unhide HBB⟩
                          case measure => simp [intOf]; omega)
                    · have hj2 : (j : Int) = (M.datas.length : Int) := by omega
                      clear hj hbel
                      have HB5 := HBel
                      clear HBel HB4
                      go_wp2_with fail
                      go_loopw [3, 9] (fun s c wr => ∃ (j : Nat) (k : Int), c = .int .i64 j ∧ s = .int .i64 k ∧ (j : Int) ≤ (M.globs.length : Int) ∧ Below W0.heap.size W0 wr) (fun _ c _ => M.globs.length - (intOf c).toNat)
                      case atStart => exact ⟨0, _, rfl, rfl, by omega, unhide HB5⟩
                      case round =>
                        obtain ⟨j, k, rfl, rfl, hj, hbel⟩ := hrel
                        have HBel := hide hbel
                        have hnn : (M.globs.length : Int) ≤ 1048576 := by have := (unhide HSz).n4; omega
                        have hmc : wr.cell? ⟨w.heap.size, 4, none⟩ = some (.slice sa4 M.globs.length sc4) := by rw [cell_of_row wr _ 4 _ _ _ ((hbel.block _ (unhide HS0)).trans (unhide HMb))]; rfl
                        have hmlt : w.heap.size < wr.heap.size := by have := hbel.size; have := unhide HS0; omega
                        by_cases hlt : (j : Int) < (M.globs.length : Int)
                        · have jl : j < M.globs.length := by omega
                          have hsw := (unhide HM).l4.moved (Mv.below (g' := g) hbel (fun _ _ h => h)) hbel.size (fun _ _ q => GloC.moved (Mv.below (g' := g) hbel (fun _ _ h => h)) q)
                          obtain ⟨sa', cp', es, hcpl, _, hsr⟩ := hsw
                          simp only [Value.slice.injEq] at es
                          obtain ⟨rfl, _, rfl⟩ := es
                          obtain ⟨ba, oa, rfl, hgb, hblt, hits⟩ := hsr (by omega)
                          obtain ⟨cs, hcl, hit, hcs⟩ := hits j jl
                          have hokx := (unhide HSz).s4 M.globs[j] (List.getElem_mem jl)
                          generalize M.globs[j] = x at *
                          obtain ⟨ds, rfl, vb, ve, vl, rfl, h1, h2, h3⟩ := hit
                          have H1 := hide h1; have H2 := hide h2; have H3 := hide h3
                          obtain ⟨iba, ibc, rfl, -⟩ := h1
                          obtain ⟨iea, iec, rfl, -⟩ := h2
                          obtain ⟨ila, ilc, rfl, -⟩ := h3
                          have d2 : wr.cell? ⟨ba, oa + j * 10 + 2, none⟩ = some (.int .u8 x.ini.op) := hcs 2 _ rfl
                          have d3 : wr.cell? ⟨ba, oa + j * 10 + 3, none⟩ = some (.int .i64 x.ini.n) := hcs 3 _ rfl
                          have d4 : wr.cell? ⟨ba, oa + j * 10 + 4, none⟩ = some (.int .u32 x.ini.al) := hcs 4 _ rfl
                          have d5 : wr.cell? ⟨ba, oa + j * 10 + 5, none⟩ = some (.int .u32 x.ini.of) := hcs 5 _ rfl
                          have d6 : wr.cell? ⟨ba, oa + j * 10 + 6, none⟩ = some (.int .u8 x.ini.re) := hcs 6 _ rfl
                          have d7 : wr.cell? ⟨ba, oa + j * 10 + 7, none⟩ = some (.slice iba x.ini.body.length ibc) := hcs 7 _ rfl
                          have d8 : wr.cell? ⟨ba, oa + j * 10 + 8, none⟩ = some (.slice iea x.ini.els.length iec) := hcs 8 _ rfl
                          have d9 : wr.cell? ⟨ba, oa + j * 10 + 9, none⟩ = some (.slice ila x.ini.ls.length ilc) := hcs 9 _ rfl
                          have hc : ∀ W, Below wr.heap.size wr W → ∀ b t, W.heap[b]? = some (.cells #[.int .u8 x.ini.op, .int .i64 x.ini.n, .int .u32 x.ini.al, .int .u32 x.ini.of, .int .u8 x.ini.re, .slice iba x.ini.body.length ibc, .slice iea x.ini.els.length iec, .slice ila x.ini.ls.length ilc] t (0, 0)) → Calls Tryz.prog 34 #[.slice (some ⟨b, 0, none⟩) 1 1, .int .i64 3000, .int .i64 0] W fun e w' => ∃ n, e = .returned (.int .i64 n) ∧ Below W.heap.size W w' := fun W hW b t hb =>
                            count_one hb ((unhide H1).move (Mv.below (g' := g) hW (fun _ _ h => h)).moves) ((unhide H2).move (Mv.below (g' := g) hW (fun _ _ h => h)).moves) (Ex.Labs.move (Mv.below (g' := g) hW (fun _ _ h => h)).moves (unhide H3)) (szI_mono hokx)
                          have HC := hide hc
                          clear hbel hgb hits hcs hcl hokx hsr hc
                          go_wp2_with (go_at_call 34; refine (unhide HC _ (new_below0 wr _) _ _ (new_at0 wr _ _)).mono ?_; rintro e w3 ⟨k1, rfl, hb3⟩; have HB3 := hide (Below.on (new_below0 wr _) hb3); clear hb3; have hk2 : ∀ b o, b < wr.heap.size → w3.cell? ⟨b, o, none⟩ = wr.cell? ⟨b, o, none⟩ := fun b o hlt => (unhide HB3).cell (p := ⟨b, o, none⟩) hlt)
                          have HBB := hide (Below.on (unhide HBel) (unhide HB3))
                          clear hk2 HB3
                          go_wp2
                          go_roundw
                          case rel => exact ⟨j + 1, _, by go_num, rfl, by omega, unhide HBB⟩
                          case measure => simp [intOf]; omega
                        · have hj2 : (j : Int) = (M.globs.length : Int) := by omega
                          clear hj hbel
                          have HB6 := HBel
                          clear HBel HB5
                          by_cases hgt : (k : Int) > 1000
                          · go_wp2
                            go_ret
                            first | exact Below.on0 (unhide HBW) (unhide HB6) (unhide HBW).size | exact ⟨⟨_, rfl⟩, Below.on0 (unhide HBW) (unhide HB6) (unhide HBW).size⟩ | exact ⟨_, rfl, Below.on0 (unhide HBW) (unhide HB6) (unhide HBW).size⟩
                          · go_wp2
                            go_ret
                            first | exact Below.on0 (unhide HBW) (unhide HB6) (unhide HBW).size | exact ⟨⟨_, rfl⟩, Below.on0 (unhide HBW) (unhide HB6) (unhide HBW).size⟩ | exact ⟨_, rfl, Below.on0 (unhide HBW) (unhide HB6) (unhide HBW).size⟩
end Gm
end Go.Proofs.YtcljcnaglkbjcaaGreatDoor
