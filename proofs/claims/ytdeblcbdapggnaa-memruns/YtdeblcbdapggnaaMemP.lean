/- The document's Has and Grow. -/
import Derived.Test.YtdeblcbdapggnaaMemO
namespace Go.Proofs.Ytdeblcbdapggnaa
open Go.RowKit Mm
set_option linter.unusedVariables false

set_option maxHeartbeats 2000000 in
theorem has_any (P cap m : Nat) (ad : Option Addr) (k a o s : Int) (w : World) (hP : P ≤ 16) (ha : U64 a) (ho : U64 o) :
    Calls Try.prog 19 #[.agg #[.int .i64 P, .int .i64 k, .slice ad m cap], .int .u64 a, .int .u64 o, .int .i64 s] w fun e w' => e = .returned (.bool (fits (P * 4096) a o s)) ∧ Below w.heap.size w w' := by
  obtain ⟨a0, a1⟩ := ha
  obtain ⟨o0, o1⟩ := ho
  have hw1 : Below w.heap.size w (w.alloc (.cells #[.int .i64 P, .int .i64 k, .slice ad m cap] 31)) := (Below.refl _ _).alloc (Nat.le_refl _) _
  have HW := hide hw1; clear hw1
  by_cases hz : s = 1 ∨ s = 2 ∨ s = 4 ∨ s = 8
  · by_cases c1 : a ≤ (P : Int) * 4096
    · by_cases c2 : o ≤ (P : Int) * 4096
      · by_cases c3 : a + o + s ≤ (P : Int) * 4096
        · have hf : fits (P * 4096) a o s = true := fits_iff.2 ⟨hz, by omega⟩
          rw [hf]; clear hf
          rcases hz with rfl | rfl | rfl | rfl
          all_goals
            go_enter Try.func19, Try.ntmps19
            go_wp2
            go_ret
            exact ⟨rfl, unhide HW⟩
        · have hf : fits (P * 4096) a o s = false := fits_no.2 (by omega)
          rw [hf]; clear hf
          rcases hz with rfl | rfl | rfl | rfl
          all_goals
            have c4 := decide_eq_false c3
            clear c3
            go_enter Try.func19, Try.ntmps19
            go_wp2
            go_ret
            exact ⟨rfl, unhide HW⟩
      · have hf : fits (P * 4096) a o s = false := fits_no.2 (by omega)
        rw [hf]; clear hf
        rcases hz with rfl | rfl | rfl | rfl
        all_goals
          go_enter Try.func19, Try.ntmps19
          go_wp2
          go_ret
          exact ⟨rfl, unhide HW⟩
    · have hf : fits (P * 4096) a o s = false := fits_no.2 (by omega)
      rw [hf]; clear hf
      rcases hz with rfl | rfl | rfl | rfl
      all_goals
        go_enter Try.func19, Try.ntmps19
        go_wp2
        go_ret
        exact ⟨rfl, unhide HW⟩
  · have hf : fits (P * 4096) a o s = false := fits_no.2 (by omega)
    rw [hf]; clear hf
    have z1 : (s == 1) = false := by simp; omega
    have z2 : (s == 2) = false := by simp; omega
    have z4 : (s == 4) = false := by simp; omega
    have z8 : (s == 8) = false := by simp; omega
    clear hz
    go_enter Try.func19, Try.ntmps19
    go_wp2
    go_ret
    exact ⟨rfl, unhide HW⟩

set_option maxHeartbeats 1000000 in
theorem refGrow_yes (P cap m : Nat) (ad : Option Addr) (k v : Int) (w : World) (h0 : 0 ≤ v) (hv : v + P ≤ k) (hk : k ≤ 16) :
    Calls Try.prog 8 #[.agg #[.int .i64 P, .int .i64 k, .slice ad m cap], .int .u64 v] w fun e w' =>
      e = .returned (.tuple #[.agg #[.int .i64 ((P : Int) + v), .int .i64 k, .slice ad m cap], .int .i64 P]) ∧ Below w.heap.size w w' := by
  have h1 : v ≤ k := by omega
  have h2 : (P : Int) + v ≤ k := by omega
  clear hv
  go_enter Try.func8, Try.ntmps8
  go_wp2
  exact bodyPost_ret (v := .tuple #[.agg #[.int .i64 ((P : Int) + v), .int .i64 k, .slice ad m cap], .int .i64 P]) (by simp [results, Try.results8, go_sem]) rfl ⟨rfl, ((Below.refl _ _).alloc (Nat.le_refl _) _).alloc (by simp) _⟩

set_option maxHeartbeats 1000000 in
theorem refGrow_no (P cap m : Nat) (ad : Option Addr) (k v : Int) (w : World) (h0 : 0 ≤ v) (hv : ¬ v + P ≤ k) (hk : (P : Int) ≤ k ∧ k ≤ 16) :
    Calls Try.prog 8 #[.agg #[.int .i64 P, .int .i64 k, .slice ad m cap], .int .u64 v] w fun e w' =>
      e = .returned (.tuple #[.agg #[.int .i64 (P : Int), .int .i64 k, .slice ad m cap], .int .i64 (-1)]) ∧ Below w.heap.size w w' := by
  obtain ⟨k1, k2⟩ := hk
  by_cases h1 : v ≤ k
  · have h2 : k < (P : Int) + v := by omega
    clear hv
    go_enter Try.func8, Try.ntmps8
    go_wp2
    exact bodyPost_ret (v := .tuple #[.agg #[.int .i64 (P : Int), .int .i64 k, .slice ad m cap], .int .i64 (-1)]) (by simp [results, Try.results8, go_sem]) rfl ⟨rfl, ((Below.refl _ _).alloc (Nat.le_refl _) _).alloc (by simp) _⟩
  · have h2 : k < v := by omega
    clear hv h1
    go_enter Try.func8, Try.ntmps8
    go_wp2
    exact bodyPost_ret (v := .tuple #[.agg #[.int .i64 (P : Int), .int .i64 k, .slice ad m cap], .int .i64 (-1)]) (by simp [results, Try.results8, go_sem]) rfl ⟨rfl, ((Below.refl _ _).alloc (Nat.le_refl _) _).alloc (by simp) _⟩
end Go.Proofs.Ytdeblcbdapggnaa
