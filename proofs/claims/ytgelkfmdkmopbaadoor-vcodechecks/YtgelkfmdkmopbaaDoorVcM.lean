/- vcode.Pure; the statements' sure. -/
import Derived.Test.YtgelkfmdkmopbaaDoorVcL
namespace Go.Proofs.YtgelkfmdkmopbaaDoor
open Go.RowKit
namespace Vc
set_option linter.unusedVariables false
set_option linter.unusedSimpArgs false

/-- is it one of layer 2? -/
def rck (n : Nat) : Bool := (sgn n).isSome && decide (66 < n)
def dvd (n : Nat) : Bool := (decide (109 ≤ n) && decide (n ≤ 112)) || (decide (127 ≤ n) && decide (n ≤ 130))
def pur (n : Nat) : Bool := decide (n = 66 ∨ n = 192 ∨ n = 27 ∨ n = 63 ∨ n = 35) || (rck n && !dvd n)

set_option maxRecDepth 100000 in
set_option maxHeartbeats 1600000 in
theorem rck_any (n : Nat) (hn : n < 256) (w : World) (hT : Fms w) :
    Calls Tryd.prog 35 #[.int .u8 n] w fun e w' => e = .returned (.bool (rck n)) ∧ Below w.heap.size w w' := by
  have hr : rck n = ((sgn n).isSome && decide (66 < n)) := rfl
  by_cases h36 : n ≤ 36
  · have HR := hide (show rck n = false by rw [hr]; simp; omega)
    have hc : Calls Tryd.prog 60 #[.int .u8 n] w fun e w' => e = .returned (.tuple #[.agg #[.slice none 0 0, .int .u8 0], errV 1]) ∧ Below w.heap.size w w' := by
      cases hf : fam n with
      | none => exact sign_none n hn _ hT hf
      | some x => exact sign_low n hn _ hT x hf (by omega)
    rw [errV_1] at hc
    have HC := hide hc
    clear hc hr hT h36
    go_enter Tryd.func35, Tryd.ntmps35
    go_wp2_with fail
    refine (unhide HC).mono ?_
    rintro e w1 ⟨rfl, hb⟩
    have HB := hide hb; clear hb
    go_wp2
    go_ret
    exact ⟨ret_bool (unhide HR).symm, (unhide HB).alloc (unhide HB).size _⟩
  · cases hf : fam n with
    | none =>
      have HR := hide (show rck n = false by rw [hr]; simp [sgn, h36, hf])
      have hc := sign_none n hn w hT hf
      rw [errV_1] at hc
      have HC := hide hc
      clear hc hr hT h36 hf
      go_enter Tryd.func35, Tryd.ntmps35
      go_wp2_with fail
      refine (unhide HC).mono ?_
      rintro e w1 ⟨rfl, hb⟩
      have HB := hide hb; clear hb
      go_wp2
      go_ret
      exact ⟨ret_bool (unhide HR).symm, (unhide HB).alloc (unhide HB).size _⟩
    | some x =>
      have HR := hide (show rck n = decide ((66 : Int) < n) by rw [hr]; simp [sgn, h36, hf]; omega)
      have hc := sign_yes n hn w hT x hf (by omega)
      rw [errV_0] at hc
      have HC := hide hc
      clear hc hr hT h36 hf
      go_enter Tryd.func35, Tryd.ntmps35
      go_wp2_with fail
      refine (unhide HC).mono ?_
      rintro e w1 ⟨v, rfl, ho, hb⟩
      obtain ⟨va, vc, rfl⟩ := own_slice ho
      have HB := hide hb; clear hb ho
      generalize (pk x.x x.y 2).length = pl at *
      go_wp2
      go_ret
      exact ⟨ret_bool (unhide HR).symm, (unhide HB).alloc (unhide HB).size _⟩
set_option maxRecDepth 100000 in
set_option maxHeartbeats 1600000 in
theorem dvd_any (n : Nat) (hn : n < 256) (w : World) :
    Calls Tryd.prog 36 #[.int .u8 n] w fun e w' => e = .returned (.bool (dvd n)) ∧ w' = w := by
  by_cases a1 : (109 : Int) ≤ n
  · by_cases a2 : (n : Int) ≤ 112
    · have HR := hide (show dvd n = true by simp [dvd]; omega)
      go_enter Tryd.func36, Tryd.ntmps36
      go_wp2
      go_ret
      exact ⟨ret_bool (unhide HR).symm, rfl⟩
    · by_cases a3 : (127 : Int) ≤ n
      · by_cases a4 : (n : Int) ≤ 130
        · have HR := hide (show dvd n = true by simp [dvd]; omega)
          go_enter Tryd.func36, Tryd.ntmps36
          go_wp2
          go_ret
          exact ⟨ret_bool (unhide HR).symm, rfl⟩
        · have HR := hide (show dvd n = false by simp [dvd]; omega)
          have t1 : decide ((n : Int) ≤ 112) = false := by simpa using a2
          have t2 : decide ((n : Int) ≤ 130) = false := by simpa using a4
          clear a2 a4
          go_enter Tryd.func36, Tryd.ntmps36
          go_wp2
          go_ret
          exact ⟨ret_bool (unhide HR).symm, rfl⟩
      · have HR := hide (show dvd n = false by simp [dvd]; omega)
        have t1 : decide ((n : Int) ≤ 112) = false := by simpa using a2
        have t2 : decide ((127 : Int) ≤ n) = false := by simpa using a3
        clear a2 a3
        go_enter Tryd.func36, Tryd.ntmps36
        go_wp2
        go_ret
        exact ⟨ret_bool (unhide HR).symm, rfl⟩
  · have HR := hide (show dvd n = false by simp [dvd]; omega)
    have t1 : decide ((109 : Int) ≤ n) = false := by simpa using a1
    have t2 : decide ((127 : Int) ≤ n) = false := by simp; omega
    clear a1
    go_enter Tryd.func36, Tryd.ntmps36
    go_wp2
    go_ret
    exact ⟨ret_bool (unhide HR).symm, rfl⟩
set_option maxRecDepth 100000 in
set_option maxHeartbeats 1600000 in
theorem pur_any (n : Nat) (hn : n < 256) (w : World) (hT : Fms w) :
    Calls Tryd.prog 20 #[.int .u8 n] w fun e w' => e = .returned (.bool (pur n)) ∧ Below w.heap.size w w' := by
  by_cases hs : n = 66 ∨ n = 192 ∨ n = 27 ∨ n = 63 ∨ n = 35
  · have HR := hide (show pur n = true by simp [pur, hs])
    rcases hs with rfl | rfl | rfl | rfl | rfl
    all_goals
      go_enter Tryd.func20, Tryd.ntmps20
      go_wp2
      go_ret
      exact ⟨ret_bool (unhide HR).symm, Below.refl _ _⟩
  · have hpp : pur n = (rck n && !dvd n) := by simp only [pur, hs, decide_false, Bool.false_or]
    have t0 : ((n : Int) == 66) = false := by simp; omega
    have t1 : ((n : Int) == 192) = false := by simp; omega
    have t2 : ((n : Int) == 27) = false := by simp; omega
    have t3 : ((n : Int) == 63) = false := by simp; omega
    have t4 : ((n : Int) == 35) = false := by simp; omega
    have hc := rck_any n hn w hT
    have hd := fun W => dvd_any n hn W
    have HD := hide hd
    cases hr : rck n with
    | false =>
      rw [hr] at hc
      have HR := hide (show pur n = false by rw [hpp, hr]; rfl)
      have HC := hide hc
      clear hc hr hpp hs hd hT
      go_enter Tryd.func20, Tryd.ntmps20
      go_wp2_with fail
      refine (unhide HC).mono ?_
      rintro e w1 ⟨rfl, hb⟩
      have HB := hide hb; clear hb
      go_wp2
      go_ret
      exact ⟨ret_bool (unhide HR).symm, unhide HB⟩
    | true =>
      rw [hr] at hc
      have HR := hide (show pur n = !dvd n by rw [hpp, hr]; rfl)
      have HC := hide hc
      clear hc hr hpp hs hd hT
      go_enter Tryd.func20, Tryd.ntmps20
      go_wp2_with fail
      refine (unhide HC).mono ?_
      rintro e w1 ⟨rfl, hb⟩
      have HB := hide hb; clear hb
      go_wp2_with fail
      refine (unhide HD _).mono ?_
      rintro e w2 ⟨rfl, rfl⟩
      go_wp2
      go_ret
      exact ⟨ret_bool (unhide HR).symm, unhide HB⟩

/-- sure's code -/
def co0 : Co := ⟨1, 2, true, [⟨[⟨106, 1, [0, 0], 0, 0⟩, ⟨15, -1, [1], 0, 0⟩], [], 0⟩]⟩
def tx0 : List UInt8 := [114, 101, 103, 115, 32, 50, 32, 112, 97, 114, 97, 109, 115, 32, 49, 32, 114, 101, 115, 117, 108, 116, 10, 98, 108, 111, 99, 107, 32, 48, 32, 100, 101, 112, 116, 104, 32, 48, 10, 32, 32, 114, 49, 32, 61, 32, 105, 51, 50, 46, 97, 100, 100, 32, 114, 48, 32, 114, 48, 10, 32, 32, 114, 101, 116, 117, 114, 110, 32, 114, 49, 10]
theorem dec0 : dec 0 = [48] := by show Lib.itoa ((0 : Nat) : Int) = _; rw [Lib.itoa_nonneg, Lib.decDigits_one (by decide)]; rfl
theorem dec1 : dec 1 = [49] := by show Lib.itoa ((1 : Nat) : Int) = _; rw [Lib.itoa_nonneg, Lib.decDigits_one (by decide)]; rfl
theorem dec2 : dec 2 = [50] := by show Lib.itoa ((2 : Nat) : Int) = _; rw [Lib.itoa_nonneg, Lib.decDigits_one (by decide)]; rfl
theorem chk0 : chk co0 = true := by decide +kernel
theorem txt0 : txt co0 = tx0 := by
  have h1 : nam 106 = [105, 51, 50, 46, 97, 100, 100] := by decide +kernel
  have h2 : nam 15 = [114, 101, 116, 117, 114, 110] := by decide +kernel
  have h3 : numd 106 = false := by decide
  have h4 : numd 15 = false := by decide
  have h5 : acc 106 = false := by decide +kernel
  have h6 : acc 15 = false := by decide +kernel
  have h7 : ends 106 = false := by decide
  have h8 : ends 15 = true := by decide
  simp [txt, first, co0, txtB, hdB, insT, line, pGiv, pSrc, pNum, pOf, pNext, pTo, dec0, dec1, dec2, h1, h2, h3, h4, h5, h6, h7, h8, tx0]
theorem pur0 : pur 106 = true := by decide +kernel
theorem wf0 : WfC co0 := by
  refine ⟨⟨by decide, by decide⟩, ⟨by decide, by decide⟩, fun b hb => ?_, by decide⟩
  simp only [co0, List.mem_singleton] at hb
  subst hb
  refine ⟨fun y hy => ?_, by simp, ⟨by decide, by decide⟩, by decide, by decide⟩
  simp only [List.mem_cons, List.not_mem_nil, or_false] at hy
  rcases hy with rfl | rfl
  · exact ⟨by decide, ⟨by decide, by decide⟩, by simp [i64], ⟨by decide, by decide⟩, by decide, by decide, by decide⟩
  · exact ⟨by decide, ⟨by decide, by decide⟩, by simp [i64], ⟨by decide, by decide⟩, by decide, by decide, by decide⟩

/-- the world in which sure's code lies -/
def wo0 (w : World) : World := ((((w.alloc (.cells #[.int .i64 0, .int .i64 0] 3)).alloc (.cells #[.int .i64 1] 3)).alloc (.cells #[.int .u8 106, .int .i64 1, .slice (some ⟨w.heap.size, 0, none⟩) 2 2, .int .i64 0, .int .u32 0, .int .u8 15, .int .i64 (-1), .slice (some ⟨w.heap.size + 1, 0, none⟩) 1 1, .int .i64 0, .int .u32 0] 50)).alloc (.cells #[.slice (some ⟨w.heap.size + 2, 0, none⟩) 2 2, .slice none 0 0, .int .i64 0] 47))
theorem wo0_rows (w : World) : Below w.heap.size w (wo0 w) ∧ (wo0 w).heap.size = w.heap.size + 4 ∧ (wo0 w).heap[w.heap.size]? = some (.cells #[.int .i64 0, .int .i64 0] 3 (0, 0)) ∧ (wo0 w).heap[w.heap.size + 1]? = some (.cells #[.int .i64 1] 3 (0, 0)) ∧
    (wo0 w).heap[w.heap.size + 2]? = some (.cells #[.int .u8 106, .int .i64 1, .slice (some ⟨w.heap.size, 0, none⟩) 2 2, .int .i64 0, .int .u32 0, .int .u8 15, .int .i64 (-1), .slice (some ⟨w.heap.size + 1, 0, none⟩) 1 1, .int .i64 0, .int .u32 0] 50 (0, 0)) ∧
    (wo0 w).heap[w.heap.size + 3]? = some (.cells #[.slice (some ⟨w.heap.size + 2, 0, none⟩) 2 2, .slice none 0 0, .int .i64 0] 47 (0, 0)) := by
  unfold wo0
  generalize hO1 : Obj.cells #[Value.int .i64 0, .int .i64 0] 3 = O1
  generalize hO2 : Obj.cells #[Value.int .i64 1] 3 = O2
  generalize hO3 : Obj.cells #[Value.int .u8 106, .int .i64 1, .slice (some ⟨w.heap.size, 0, none⟩) 2 2, .int .i64 0, .int .u32 0, .int .u8 15, .int .i64 (-1), .slice (some ⟨w.heap.size + 1, 0, none⟩) 1 1, .int .i64 0, .int .u32 0] 50 = O3
  generalize hO4 : Obj.cells #[Value.slice (some ⟨w.heap.size + 2, 0, none⟩) 2 2, .slice none 0 0, .int .i64 0] 47 = O4
  have s1 : (w.alloc O1).heap.size = w.heap.size + 1 := by simp
  have s2 : ((w.alloc O1).alloc O2).heap.size = w.heap.size + 2 := by simp
  have s3 : (((w.alloc O1).alloc O2).alloc O3).heap.size = w.heap.size + 3 := by simp
  have s4 : ((((w.alloc O1).alloc O2).alloc O3).alloc O4).heap.size = w.heap.size + 4 := by simp
  have a0 := heap_alloc_new w O1
  have a1 := heap_alloc_new (w.alloc O1) O2
  have a2 := heap_alloc_new ((w.alloc O1).alloc O2) O3
  have a3 := heap_alloc_new (((w.alloc O1).alloc O2).alloc O3) O4
  rw [s1] at a1; rw [s2] at a2; rw [s3] at a3
  refine ⟨?_, s4, ?_, ?_, ?_, a3⟩
  · exact ((((Below.refl _ _).alloc (Nat.le_refl _) _).alloc (by omega) _).alloc (by omega) _).alloc (by omega) _
  · rw [Below.heap_alloc _ _ _ (by omega), Below.heap_alloc _ _ _ (by omega), Below.heap_alloc _ _ _ (by omega)]; exact a0
  · rw [Below.heap_alloc _ _ _ (by omega), Below.heap_alloc _ _ _ (by omega)]; exact a1
  · rw [Below.heap_alloc _ _ _ (by omega)]; exact a2
theorem bls0 (w : World) : Bls (wo0 w) (fun k => k < (wo0 w).heap.size) co0.bl (.slice (some ⟨w.heap.size + 3, 0, none⟩) 1 1) := by
  obtain ⟨_, hz, r0, r1, r2, r3⟩ := wo0_rows w
  generalize wo0 w = W at *
  generalize w.heap.size = N at *
  have num0 : NumsL W (fun k => k < W.heap.size) [0, 0] (.slice (some ⟨N, 0, none⟩) 2 2) := ⟨_, _, rfl, Nat.le_refl _, by simp, fun _ => ⟨N, 0, rfl, by show N < W.heap.size; omega, fun j hj => by
    rw [cell_of_row W N _ _ _ _ r0]
    match j, hj with
    | 0, _ => rfl
    | 1, _ => rfl⟩⟩
  have num1 : NumsL W (fun k => k < W.heap.size) [1] (.slice (some ⟨N + 1, 0, none⟩) 1 1) := ⟨_, _, rfl, Nat.le_refl _, by simp, fun _ => ⟨N + 1, 0, rfl, by show N + 1 < W.heap.size; omega, fun j hj => by
    rw [cell_of_row W (N + 1) _ _ _ _ r1]
    match j, hj with
    | 0, _ => rfl⟩⟩
  refine ⟨_, _, rfl, Nat.le_refl _, by simp, fun _ => ⟨N + 3, 0, rfl, by show N + 3 < W.heap.size; omega, by omega, fun i x hi => ?_⟩⟩
  match i, hi with
  | 0, hi =>
    obtain rfl := Option.some.inj hi
    refine ⟨[.slice (some ⟨N + 2, 0, none⟩) 2 2, .slice none 0 0, .int .i64 0], rfl, ⟨_, _, rfl, ?_, ⟨_, _, rfl, Nat.le_refl _, by simp, fun h => absurd h (by decide)⟩⟩, fun j u hu => by rw [cell_of_row W (N + 3) _ _ _ _ r3]; simpa using hu⟩
    refine ⟨_, _, rfl, Nat.le_refl _, by simp, fun _ => ⟨N + 2, 0, rfl, by show N + 2 < W.heap.size; omega, by omega, fun k y hk => ?_⟩⟩
    match k, hk with
    | 0, hk =>
      obtain rfl := Option.some.inj hk
      refine ⟨[.int .u8 106, .int .i64 1, .slice (some ⟨N, 0, none⟩) 2 2, .int .i64 0, .int .u32 0], rfl, ⟨_, rfl, num0⟩, fun j u hu => ?_⟩
      rw [cell_of_row W (N + 2) _ _ _ _ r2]
      match j, hu with
      | 0, hu => simpa using hu
      | 1, hu => simpa using hu
      | 2, hu => simpa using hu
      | 3, hu => simpa using hu
      | 4, hu => simpa using hu
      | j + 5, hu => simp at hu
    | 1, hk =>
      obtain rfl := Option.some.inj hk
      refine ⟨[.int .u8 15, .int .i64 (-1), .slice (some ⟨N + 1, 0, none⟩) 1 1, .int .i64 0, .int .u32 0], rfl, ⟨_, rfl, num1⟩, fun j u hu => ?_⟩
      rw [cell_of_row W (N + 2) _ _ _ _ r2]
      match j, hu with
      | 0, hu => simpa using hu
      | 1, hu => simpa using hu
      | 2, hu => simpa using hu
      | 3, hu => simpa using hu
      | 4, hu => simpa using hu
      | j + 5, hu => simp at hu
    | k + 2, hk => simp [co0] at hk
  | i + 1, hi => simp [co0] at hi
end Vc
end Go.Proofs.YtgelkfmdkmopbaaDoor
