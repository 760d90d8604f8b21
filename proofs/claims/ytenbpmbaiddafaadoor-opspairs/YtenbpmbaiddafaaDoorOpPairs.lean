/- OpsPairs: its walk. -/
import Derived.Test.YtenbpmbaiddafaaDoorOpL
namespace Go.Proofs.YtenbpmbaiddafaaDoor
open Go.RowKit
set_option linter.unusedVariables false

/-- the numbers of a pair -/
def pA (k : Nat) : Nat := if k ≤ 10 then 69 + k else 92 + k
def pB (k : Nat) : Nat := if k ≤ 10 then 80 + k else 110 + k
def famD (n : Nat) : Fam := (fam n).getD zf
set_option maxRecDepth 100000 in
theorem pair_all : ∀ k, k < 29 → (nm (pA k) = [105, 51, 50, 46] ++ (nm (pA k)).drop 4 ∧ nm (pB k) = [105, 54, 52, 46] ++ (nm (pA k)).drop 4 ∧ 1 ≤ ((nm (pA k)).drop 4).length ∧ ((nm (pA k)).drop 4).length < 100)
    ∧ (fam (pA k)).isSome = true ∧ (fam (pB k)).isSome = true ∧ (famD (pA k)).g = 127 ∧ (famD (pB k)).g = (if k ≤ 10 then 127 else 126)
    ∧ 1 ≤ (pk (famD (pA k)).x (famD (pA k)).y 2).length ∧ (pk (famD (pA k)).x (famD (pA k)).y 2).length ≤ 2
    ∧ (pk (famD (pA k)).x (famD (pA k)).y 2) = List.replicate (pk (famD (pA k)).x (famD (pA k)).y 2).length 127
    ∧ (pk (famD (pB k)).x (famD (pB k)).y 2) = List.replicate (pk (famD (pA k)).x (famD (pA k)).y 2).length 126 := by decide
theorem fam_of {n : Nat} (h : (fam n).isSome = true) : fam n = some (famD n) := by
  unfold famD
  cases hx : fam n with
  | none => rw [hx] at h; cases h
  | some x => rfl
theorem own_kinds {w : World} {B m : Nat} {v : Value} {z : Int} (h : w.ownsRow B 38 1 v m ((List.replicate m z).map (Value.int .u8))) (hm : 1 ≤ m) :
    ∃ g cap, v = .slice (some ⟨g, 0, none⟩) m cap ∧ m ≤ cap ∧ g < w.heap.size ∧ ∀ j, j < m → w.cell? ⟨g, j, none⟩ = some (.int .u8 z) := by
  rcases h.2 with ⟨_, h0⟩ | ⟨g, cap, cur, rfl, hg, hb, hc, _⟩
  · omega
  · refine ⟨g, cap, rfl, hc, (Array.getElem?_eq_some_iff.1 hb).1, fun i hi => ?_⟩
    have := h.cellAt i (by omega)
    rw [this]
    simp [hi]
/-- what Sign gives of one of a pair -/
theorem sign_pair (n : Nat) (hn : n < 256) (h36 : 36 < n) (x : Fam) (hf : fam n = some x) (m : Nat) (z : Int) (hm : 1 ≤ m) (hp : pk x.x x.y 2 = List.replicate m z) (w : World) (hT : Tb w) :
    Calls Tryd.prog 17 #[.int .u8 n] w fun e w' => ∃ g cap, e = .returned (.tuple #[.agg #[.slice (some ⟨g, 0, none⟩) m cap, .int .u8 x.g], .nilIface]) ∧ m ≤ cap ∧ g < w'.heap.size ∧ (∀ j, j < m → w'.cell? ⟨g, j, none⟩ = some (.int .u8 z)) ∧ Below w.heap.size w w' := by
  refine (sign_yes n hn w hT.2.1 x hf (by omega)).mono ?_
  rintro e w1 ⟨v, rfl, ho, hb⟩
  unfold kRow at ho
  rw [hp] at ho
  simp only [List.length_replicate] at ho
  obtain ⟨g, cap, rfl, h1, h2, h3⟩ := own_kinds ho hm
  exact ⟨g, cap, by rw [errV_0], h1, h2, h3, hb⟩

set_option maxRecDepth 100000 in
set_option maxHeartbeats 3200000 in
theorem pairs_core (n : Int) (k : Nat) (hk : k < 29) (hn : (IntKind.u64.wrap n).tmod 29 = (k : Int)) (w : World) (hT : Tb w) :
    Calls Tryd.prog 6 #[.int .i64 n] w fun e w' => e = .returned (.bool true) ∧ Below w.heap.size w w' := by
  obtain ⟨⟨e1, e2, e3, e4⟩, f5, f6, e7, e8, e9, e10, e11, e12⟩ := pair_all k hk
  have e5 := fam_of f5
  have e6 := fam_of f6
  clear f5 f6
  have a36 : 36 < pA k ∧ pA k < 256 ∧ 36 < pB k ∧ pB k < 256 := by unfold pA pB; split <;> omega
  have hA := name_any (pA k) a36.2.1 w hT.1
  have hB := name_any (pB k) a36.2.2.2 w hT.1
  have hC := sign_pair (pA k) a36.2.1 a36.1 _ e5 _ 127 e9 e11 w hT
  have hD := fun wx (h : Tb wx) => sign_pair (pB k) a36.2.2.2 a36.2.2.1 _ e6 _ 126 e9 e12 wx h
  rw [e7] at hC
  rw [e8] at hD
  rw [e2] at hB
  rw [e1] at hA
  generalize (nm (pA k)).drop 4 = r at *
  generalize (pk (famD (pA k)).x (famD (pA k)).y 2).length = m at *
  clear e1 e2 e5 e6 e7 e8 e11 e12 a36
  have hSu := fun wx (h : Tb wx) => sure_any wx h
  have HT := hide hT; have HSu := hide hSu
  clear hT hSu
  by_cases h10 : k ≤ 10
  · rw [show pA k = 69 + k by unfold pA; rw [if_pos h10]] at hA hC
    rw [show pB k = 80 + k by unfold pB; rw [if_pos h10]] at hB hD
    simp only [if_pos h10] at hD
    rw [show ((69 + k : Nat) : Int) = 69 + (k : Int) by omega] at hA hC
    rw [show ((80 + k : Nat) : Int) = 80 + (k : Int) by omega] at hB hD
    have HA := hide hA; have HB := hide hB; have HC := hide hC; have HD := hide hD
    clear hA hB hC hD
    have hk10 : (k : Int) ≤ 10 := by omega
    clear h10 hk
    generalize hsx : str ([105, 51, 50, 46] ++ r) = sx at *
    generalize hsy : str ([105, 54, 52, 46] ++ r) = sy at *
    have z1 : ¬ (sx.size : Int) < 5 := by rw [← hsx, str_size]; simp; omega
    have z2 : sy.size = sx.size := by rw [← hsx, ← hsy, str_size, str_size]; simp
    have HS := hide (And.intro hsx hsy); clear hsx hsy
    go_enter Tryd.func6, Tryd.ntmps6
    go_wp2_with fail
    refine (unhide HA).mono ?_
    rintro e w1 ⟨rfl, rfl⟩
    go_wp2_with fail
    refine (unhide HB).mono ?_
    rintro e w1 ⟨rfl, rfl⟩
    go_wp2_with fail
    refine (unhide HC).mono ?_
    rintro e w1 ⟨g, cap, rfl, c1, g1, hc, hb1⟩
    have hB1 : Below w.heap.size w (w1.alloc (.cells #[.slice (some ⟨g, 0, none⟩) m cap, .int .u8 127] 40)) := hb1.alloc hb1.size _
    have HB1 := hide hB1; have HT1 := hide ((unhide HT).below hB1); clear hb1 hB1
    have HC1 := hide hc; clear hc
    go_wp2_with fail
    refine (unhide HD _ (unhide HT1)).mono ?_
    rintro e w2 ⟨g', cap', rfl, c2, g2, hc', hb2⟩
    have hz := hb2.size
    rw [show (w1.alloc (.cells #[.slice (some ⟨g, 0, none⟩) m cap, .int .u8 127] 40)).heap.size = w1.heap.size + 1 by show (w1.heap.push _).size = _; rw [Array.size_push]] at hz
    have hlt : w1.heap.size < w2.heap.size := by omega
    have hW1 : ∀ a, a.block < w1.heap.size + 1 → w2.cell? a = (w1.alloc (.cells #[.slice (some ⟨g, 0, none⟩) m cap, .int .u8 127] 40)).cell? a := fun a ha => hb2.cell (by show a.block < (w1.heap.push _).size; rw [Array.size_push]; exact ha)
    have r0 : (w1.alloc (.cells #[.slice (some ⟨g, 0, none⟩) m cap, .int .u8 127] 40)).heap[w1.heap.size]? = some (.cells #[.slice (some ⟨g, 0, none⟩) m cap, .int .u8 127] 40 (0, 0)) := by show (w1.heap.push _)[w1.heap.size]? = _; rw [Array.getElem?_push_size]
    have d0 : w2.cell? ⟨w1.heap.size, 0, none⟩ = some (.slice (some ⟨g, 0, none⟩) m cap) := by rw [hW1 _ (by simp), cell_of_row _ _ 0 _ _ _ r0]; rfl
    have d1 : w2.cell? ⟨w1.heap.size, 1, none⟩ = some (.int .u8 127) := by rw [hW1 _ (by simp), cell_of_row _ _ 1 _ _ _ r0]; rfl
    have dg : ∀ j, j < m → w2.cell? ⟨g, j, none⟩ = some (.int .u8 127) := fun j hj => by
      rw [hW1 _ (by simp; omega)]
      exact (((Below.refl w1.heap.size w1).alloc (Nat.le_refl _) _).cell (p := ⟨g, j, none⟩) g1).trans (unhide HC1 j hj)
    have g3 : g < w2.heap.size := by omega
    have hB2 : Below w.heap.size w w2 := Below.on (unhide HB1) hb2
    have HB2 := hide (hB2.alloc hB2.size (.cells #[.slice (some ⟨g', 0, none⟩) m cap', .int .u8 127] 40))
    have HDG := hide dg; have HCG := hide hc'
    clear hW1 r0 hb2 hz dg hc' hB2 HC HD HC1 g1 HT1 HB1
    have u1 : ((sx.extract 0 4).toList == [105, 51, 50, 46]) = true := by
      rw [← (unhide HS).1, str_extract, str_toList]; rfl
    have u2 : ((sy.extract 0 4).toList == [105, 54, 52, 46]) = true := by
      rw [← (unhide HS).2, str_extract, str_toList]; rfl
    have u3 : ((sx.extract 4 sx.size).toList == (sy.extract 4 sx.size).toList) = true := by
      rw [← (unhide HS).1, ← (unhide HS).2, str_extract, str_extract, str_toList, str_toList]; simp
    go_wp2_with fail
    have z3 : (4 : Int) ≤ (sx.size : Int) := by omega
    have z4 : (4 : Int) ≤ (sy.size : Int) := by omega
    go_quiet (fail)
    go_wp2_with fail
    generalize hW3 : (w2.alloc (.cells #[.slice (some ⟨g', 0, none⟩) m cap', .int .u8 127] 40)).drewN nq = W3 at *
    have hb3 : Below w2.heap.size w2 W3 := by rw [← hW3]; exact Below.on ((Below.refl w2.heap.size w2).alloc (Nat.le_refl _) _) (Below.drewn _ nq)
    have r3 : W3.heap[w2.heap.size]? = some (.cells #[.slice (some ⟨g', 0, none⟩) m cap', .int .u8 127] 40 (0, 0)) := by rw [← hW3]; show (w2.heap.push _)[w2.heap.size]? = _; rw [Array.getElem?_push_size]
    have b0 : W3.cell? ⟨w1.heap.size, 0, none⟩ = some (.slice (some ⟨g, 0, none⟩) m cap) := (hb3.cell (p := ⟨w1.heap.size, 0, none⟩) hlt).trans d0
    have b1 : W3.cell? ⟨w1.heap.size, 1, none⟩ = some (.int .u8 127) := (hb3.cell (p := ⟨w1.heap.size, 1, none⟩) hlt).trans d1
    have b2 : W3.cell? ⟨w2.heap.size, 0, none⟩ = some (.slice (some ⟨g', 0, none⟩) m cap') := by rw [cell_of_row _ _ 0 _ _ _ r3]; rfl
    have b3 : W3.cell? ⟨w2.heap.size, 1, none⟩ = some (.int .u8 127) := by rw [cell_of_row _ _ 1 _ _ _ r3]; rfl
    have hg1 : ∀ j, j < m → W3.cell? ⟨g, j, none⟩ = some (.int .u8 127) := fun j hj => (hb3.cell (p := ⟨g, j, none⟩) g3).trans (unhide HDG j hj)
    have hg2 : ∀ j, j < m → W3.cell? ⟨g', j, none⟩ = some (.int .u8 126) := fun j hj => (hb3.cell (p := ⟨g', j, none⟩) g2).trans (unhide HCG j hj)
    have hB3 : Below w.heap.size w W3 := by rw [← hW3]; exact Below.on (unhide HB2) (Below.drewn _ nq)
    have HB3 := hide hB3; have HG1 := hide hg1; have HG2 := hide hg2
    have HSS := hide (unhide HSu W3 ((unhide HT).below hB3))
    clear hb3 r3 hg1 hg2 hB3 hW3 HB2 HDG HCG d0 d1 g2 g3 u1 u2 u3 z1 z2 z3 z4 HS HT HSu hlt e3 e4
    generalize w1.heap.size = B1 at *
    generalize w2.heap.size = B2 at *
    go_loop [12] (fun i => ∃ j : Nat, (j : Int) ≤ m ∧ i = .int .i64 j) (fun i => (m - intOf i).toNat)
    case atStart => exact ⟨0, by omega, rfl⟩
    case round =>
      obtain ⟨j, hj, rfl⟩ := hrel
      by_cases hjm : (j : Int) < m
      · have q1 := unhide HG1 j (by omega)
        have q2 := unhide HG2 j (by omega)
        clear hj
        go_wp2
        go_round
        case rel => exact ⟨j + 1, by omega, by go_num⟩
        case measure => simp [intOf]; omega
      · obtain rfl : j = m := by omega
        clear hj
        go_wp2_with fail
        refine (unhide HSS).mono ?_
        rintro e w4 ⟨rfl, hb4⟩
        have HB4 := hide hb4; clear hb4
        go_wp2
        go_ret
        exact ⟨rfl, Below.on (unhide HB3) (unhide HB4)⟩
  · rw [show pA k = 92 + k by unfold pA; rw [if_neg h10]] at hA hC
    rw [show pB k = 110 + k by unfold pB; rw [if_neg h10]] at hB hD
    simp only [if_neg h10] at hD
    rw [show ((92 + k : Nat) : Int) = 103 + (k : Int) - 11 by omega] at hA hC
    rw [show ((110 + k : Nat) : Int) = 121 + (k : Int) - 11 by omega] at hB hD
    have HA := hide hA; have HB := hide hB; have HC := hide hC; have HD := hide hD
    clear hA hB hC hD
    have hk10 : ¬ (k : Int) ≤ 10 := by omega
    have hk29 : (k : Int) < 29 := by omega
    clear h10 hk
    generalize hsx : str ([105, 51, 50, 46] ++ r) = sx at *
    generalize hsy : str ([105, 54, 52, 46] ++ r) = sy at *
    have z1 : ¬ (sx.size : Int) < 5 := by rw [← hsx, str_size]; simp; omega
    have z2 : sy.size = sx.size := by rw [← hsx, ← hsy, str_size, str_size]; simp
    have HS := hide (And.intro hsx hsy); clear hsx hsy
    go_enter Tryd.func6, Tryd.ntmps6
    go_wp2_with fail
    refine (unhide HA).mono ?_
    rintro e w1 ⟨rfl, rfl⟩
    go_wp2_with fail
    refine (unhide HB).mono ?_
    rintro e w1 ⟨rfl, rfl⟩
    go_wp2_with fail
    refine (unhide HC).mono ?_
    rintro e w1 ⟨g, cap, rfl, c1, g1, hc, hb1⟩
    have hB1 : Below w.heap.size w (w1.alloc (.cells #[.slice (some ⟨g, 0, none⟩) m cap, .int .u8 127] 40)) := hb1.alloc hb1.size _
    have HB1 := hide hB1; have HT1 := hide ((unhide HT).below hB1); clear hb1 hB1
    have HC1 := hide hc; clear hc
    go_wp2_with fail
    refine (unhide HD _ (unhide HT1)).mono ?_
    rintro e w2 ⟨g', cap', rfl, c2, g2, hc', hb2⟩
    have hz := hb2.size
    rw [show (w1.alloc (.cells #[.slice (some ⟨g, 0, none⟩) m cap, .int .u8 127] 40)).heap.size = w1.heap.size + 1 by show (w1.heap.push _).size = _; rw [Array.size_push]] at hz
    have hlt : w1.heap.size < w2.heap.size := by omega
    have hW1 : ∀ a, a.block < w1.heap.size + 1 → w2.cell? a = (w1.alloc (.cells #[.slice (some ⟨g, 0, none⟩) m cap, .int .u8 127] 40)).cell? a := fun a ha => hb2.cell (by show a.block < (w1.heap.push _).size; rw [Array.size_push]; exact ha)
    have r0 : (w1.alloc (.cells #[.slice (some ⟨g, 0, none⟩) m cap, .int .u8 127] 40)).heap[w1.heap.size]? = some (.cells #[.slice (some ⟨g, 0, none⟩) m cap, .int .u8 127] 40 (0, 0)) := by show (w1.heap.push _)[w1.heap.size]? = _; rw [Array.getElem?_push_size]
    have d0 : w2.cell? ⟨w1.heap.size, 0, none⟩ = some (.slice (some ⟨g, 0, none⟩) m cap) := by rw [hW1 _ (by simp), cell_of_row _ _ 0 _ _ _ r0]; rfl
    have d1 : w2.cell? ⟨w1.heap.size, 1, none⟩ = some (.int .u8 127) := by rw [hW1 _ (by simp), cell_of_row _ _ 1 _ _ _ r0]; rfl
    have dg : ∀ j, j < m → w2.cell? ⟨g, j, none⟩ = some (.int .u8 127) := fun j hj => by
      rw [hW1 _ (by simp; omega)]
      exact (((Below.refl w1.heap.size w1).alloc (Nat.le_refl _) _).cell (p := ⟨g, j, none⟩) g1).trans (unhide HC1 j hj)
    have g3 : g < w2.heap.size := by omega
    have hB2 : Below w.heap.size w w2 := Below.on (unhide HB1) hb2
    have HB2 := hide (hB2.alloc hB2.size (.cells #[.slice (some ⟨g', 0, none⟩) m cap', .int .u8 126] 40))
    have HDG := hide dg; have HCG := hide hc'
    clear hW1 r0 hb2 hz dg hc' hB2 HC HD HC1 g1 HT1 HB1
    have u1 : ((sx.extract 0 4).toList == [105, 51, 50, 46]) = true := by
      rw [← (unhide HS).1, str_extract, str_toList]; rfl
    have u2 : ((sy.extract 0 4).toList == [105, 54, 52, 46]) = true := by
      rw [← (unhide HS).2, str_extract, str_toList]; rfl
    have u3 : ((sx.extract 4 sx.size).toList == (sy.extract 4 sx.size).toList) = true := by
      rw [← (unhide HS).1, ← (unhide HS).2, str_extract, str_extract, str_toList, str_toList]; simp
    go_wp2_with fail
    have z3 : (4 : Int) ≤ (sx.size : Int) := by omega
    have z4 : (4 : Int) ≤ (sy.size : Int) := by omega
    go_quiet (fail)
    go_wp2_with fail
    generalize hW3 : (w2.alloc (.cells #[.slice (some ⟨g', 0, none⟩) m cap', .int .u8 126] 40)).drewN nq = W3 at *
    have hb3 : Below w2.heap.size w2 W3 := by rw [← hW3]; exact Below.on ((Below.refl w2.heap.size w2).alloc (Nat.le_refl _) _) (Below.drewn _ nq)
    have r3 : W3.heap[w2.heap.size]? = some (.cells #[.slice (some ⟨g', 0, none⟩) m cap', .int .u8 126] 40 (0, 0)) := by rw [← hW3]; show (w2.heap.push _)[w2.heap.size]? = _; rw [Array.getElem?_push_size]
    have b0 : W3.cell? ⟨w1.heap.size, 0, none⟩ = some (.slice (some ⟨g, 0, none⟩) m cap) := (hb3.cell (p := ⟨w1.heap.size, 0, none⟩) hlt).trans d0
    have b1 : W3.cell? ⟨w1.heap.size, 1, none⟩ = some (.int .u8 127) := (hb3.cell (p := ⟨w1.heap.size, 1, none⟩) hlt).trans d1
    have b2 : W3.cell? ⟨w2.heap.size, 0, none⟩ = some (.slice (some ⟨g', 0, none⟩) m cap') := by rw [cell_of_row _ _ 0 _ _ _ r3]; rfl
    have b3 : W3.cell? ⟨w2.heap.size, 1, none⟩ = some (.int .u8 126) := by rw [cell_of_row _ _ 1 _ _ _ r3]; rfl
    have hg1 : ∀ j, j < m → W3.cell? ⟨g, j, none⟩ = some (.int .u8 127) := fun j hj => (hb3.cell (p := ⟨g, j, none⟩) g3).trans (unhide HDG j hj)
    have hg2 : ∀ j, j < m → W3.cell? ⟨g', j, none⟩ = some (.int .u8 126) := fun j hj => (hb3.cell (p := ⟨g', j, none⟩) g2).trans (unhide HCG j hj)
    have hB3 : Below w.heap.size w W3 := by rw [← hW3]; exact Below.on (unhide HB2) (Below.drewn _ nq)
    have HB3 := hide hB3; have HG1 := hide hg1; have HG2 := hide hg2
    have HSS := hide (unhide HSu W3 ((unhide HT).below hB3))
    clear hb3 r3 hg1 hg2 hB3 hW3 HB2 HDG HCG d0 d1 g2 g3 u1 u2 u3 z1 z2 z3 z4 HS HT HSu hlt e3 e4
    generalize w1.heap.size = B1 at *
    generalize w2.heap.size = B2 at *
    go_loop [12] (fun i => ∃ j : Nat, (j : Int) ≤ m ∧ i = .int .i64 j) (fun i => (m - intOf i).toNat)
    case atStart => exact ⟨0, by omega, rfl⟩
    case round =>
      obtain ⟨j, hj, rfl⟩ := hrel
      by_cases hjm : (j : Int) < m
      · have q1 := unhide HG1 j (by omega)
        have q2 := unhide HG2 j (by omega)
        clear hj
        go_wp2
        go_round
        case rel => exact ⟨j + 1, by omega, by go_num⟩
        case measure => simp [intOf]; omega
      · obtain rfl : j = m := by omega
        clear hj
        go_wp2_with fail
        refine (unhide HSS).mono ?_
        rintro e w4 ⟨rfl, hb4⟩
        have HB4 := hide hb4; clear hb4
        go_wp2
        go_ret
        exact ⟨rfl, Below.on (unhide HB3) (unhide HB4)⟩
theorem pairs_any (n : Int) (w : World) (hT : Tb w) :
    Calls Tryd.prog 6 #[.int .i64 n] w fun e w' => e = .returned (.bool true) ∧ Below w.heap.size w w' := by
  have h0 : 0 ≤ IntKind.u64.wrap n := by rw [IntKind.wrap_u64]; omega
  have h1 : (IntKind.u64.wrap n).tmod 29 = IntKind.u64.wrap n % 29 := Int.tmod_eq_emod_of_nonneg h0
  exact pairs_core n ((IntKind.u64.wrap n).tmod 29).toNat (by omega) (by omega) w hT
end Go.Proofs.YtenbpmbaiddafaaDoor
