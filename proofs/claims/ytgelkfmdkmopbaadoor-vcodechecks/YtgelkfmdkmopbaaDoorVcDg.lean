/- The document's digits of a number. -/
import Derived.Test.YtgelkfmdkmopbaaDoorVcJ
import Derived.Deep.Cut
namespace Go.Proofs.YtgelkfmdkmopbaaDoor
open Go.RowKit
namespace Vc
set_option linter.unusedVariables false
set_option linter.unusedSimpArgs false

/-- as digits are laid: what is left, what is laid -/
def Dg (u m : Nat) (l : List UInt8) : Prop := (l = [] ∧ m = u) ∨ (l ≠ [] ∧ (m = 0 → l = Lib.decDigits u) ∧ (m ≠ 0 → Lib.decDigits m ++ l = Lib.decDigits u))
theorem Dg.step {u m : Nat} {l : List UInt8} (h : Dg u m l) (hm : m ≠ 0 ∨ l = []) : Dg u (m / 10) (UInt8.ofNat (48 + m % 10) :: l) := by
  right
  have key : (m / 10 = 0 → Lib.decDigits m = [UInt8.ofNat (48 + m % 10)]) ∧ (m / 10 ≠ 0 → Lib.decDigits m = Lib.decDigits (m / 10) ++ [UInt8.ofNat (48 + m % 10)]) := by
    constructor
    · intro h0
      have : m < 10 := by omega
      rw [Lib.decDigits, dif_pos this, Nat.mod_eq_of_lt this]
    · intro h0
      rw [Lib.decDigits, dif_neg (by omega)]
  have hall : Lib.decDigits m ++ l = Lib.decDigits u := by
    rcases h with ⟨rfl, rfl⟩ | ⟨h1, h2, h3⟩
    · simp
    · rcases hm with hm | hm
      · exact h3 hm
      · exact absurd hm h1
  refine ⟨by simp, fun h0 => ?_, fun h0 => ?_⟩
  · rw [← hall, key.1 h0]; rfl
  · rw [← hall, key.2 h0]; simp
theorem Dg.len {u m : Nat} {l : List UInt8} (h : Dg u m l) : l.length ≤ (Lib.decDigits u).length := by
  rcases h with ⟨rfl, _⟩ | ⟨_, h2, h3⟩
  · simp
  · by_cases h0 : m = 0
    · rw [h2 h0]; exact Nat.le_refl _
    · rw [← h3 h0, List.length_append]; omega
theorem digit_at (d : Nat) (h : d < 10) : (⟨#[48, 49, 50, 51, 52, 53, 54, 55, 56, 57]⟩ : ByteArray).extract d (d + 1) = str [UInt8.ofNat (48 + d)] := by
  have : ∀ d : Fin 10, (⟨#[48, 49, 50, 51, 52, 53, 54, 55, 56, 57]⟩ : ByteArray).extract d.val (d.val + 1) = str [UInt8.ofNat (48 + d.val)] := by decide +kernel
  exact this ⟨d, h⟩

theorem ret_str {a b : ByteArray} (h : a = b) : Ending.returned (.string a) = .returned (.string b) := by rw [h]
def strE : Value → Nat
  | .string b => if b.size = 0 then 1 else 0
  | _ => 0
theorem strE_str (l : List UInt8) : strE (.string (str l)) = if l.length = 0 then 1 else 0 := rfl
set_option maxRecDepth 100000 in
set_option maxHeartbeats 1600000 in
theorem rdig_nat (u : Nat) (hu : (u : Int) ≤ 9223372036854775807) (w : World) :
    Calls Tryd.prog 32 #[.int .i64 u] w fun e w' => e = .returned (.string (str (Lib.decDigits u))) ∧ w' = w := by
  have hlen : (Lib.decDigits u).length ≤ 21 := by
    have := dec_len (u : Int) ⟨by omega, hu⟩
    rwa [show dec (u : Int) = Lib.decDigits u from Lib.itoa_nonneg u] at this
  have HL := hide hlen; clear hlen
  have t1 : ((u : Int) == -9223372036854775808) = false := by simp <;> omega
  have t2 : decide ((u : Int) < 0) = false := by simp
  go_enter Tryd.func32, Tryd.ntmps32
  go_wp2_with fail
  go_loopw [0, 3] (fun n s wr => ∃ (m : Nat) (l : List UInt8), n = .int .i64 m ∧ s = .string (str l) ∧ (m : Int) ≤ u ∧ Dg u m l ∧ wr = w) (fun n s _ => 2 * (intOf n).toNat + strE s)
  case atStart => exact ⟨u, [], rfl, rfl, by omega, .inl ⟨rfl, rfl⟩, rfl⟩
  case round =>
    obtain ⟨m, l, rfl, rfl, hm, hD, rfl⟩ := hrel
    have HD := hide hD
    have hll := hD.len
    have hl1 : (l.length : Int) ≤ 30 := by have := unhide HL; omega
    clear hll
    have hq := digit_at (m % 10) (by omega)
    obtain ⟨L, hL⟩ : ∃ L, UInt8.ofNat (48 + m % 10) :: l = L := ⟨_, rfl⟩
    have hcat := fun W => cat (A := (⟨#[48, 49, 50, 51, 52, 53, 54, 55, 56, 57]⟩ : ByteArray).extract (m % 10) (m % 10 + 1)) (B := str l) (C := str L) hq rfl (by rw [← hL]; rfl) (by simp; omega) W
    have HLL := hide hL
    have hLl : L.length = l.length + 1 := by rw [← hL]; rfl
    have HLl := hide hLl
    have HSt := hide (fun (h : m ≠ 0 ∨ l = []) => show Dg u (m / 10) L by rw [← hL]; exact hD.step h)
    clear hD hq hL hLl
    by_cases hm0 : (0 : Int) < m
    · have HS2 := hide (unhide HSt (.inl (by omega)))
      go_wp2
      go_roundw
      case rel => exact ⟨m / 10, L, by go_num, rfl, by omega, unhide HS2, trivial⟩
      case measure =>
        rw [strE_str, strE_str, if_neg (by have := unhide HLl; omega)]
        simp [intOf]; omega
    · obtain rfl : m = 0 := by omega
      cases l with
      | nil =>
        have HS2 := hide (unhide HSt (.inr rfl))
        have eE : (str []).toList.isEmpty = true := by rw [str_toList]; rfl
        go_wp2
        go_roundw
        case rel => exact ⟨0, L, by go_num, rfl, by omega, unhide HS2, trivial⟩
        case measure =>
          rw [strE_str, strE_str, if_neg (by have := unhide HLl; omega)]
          simp [intOf]
      | cons x t =>
        have hfin : str (x :: t) = str (Lib.decDigits u) := by
          rcases unhide HD with ⟨h, _⟩ | ⟨_, h2, _⟩
          · cases h
          · rw [h2 rfl]
        have HF := hide hfin
        have eE : (str (x :: t)).toList.isEmpty = false := by rw [str_toList]; rfl
        generalize str (x :: t) = S at *
        clear hfin hcat
        go_wp2
        go_ret
        exact ⟨ret_str (unhide HF), rfl⟩
set_option maxRecDepth 100000 in
set_option maxHeartbeats 1600000 in
theorem rdig_any (n : Int) (h : i64 n) (w : World) :
    Calls Tryd.prog 32 #[.int .i64 n] w fun e w' => e = .returned (.string (str (dec n))) ∧ w' = w := by
  by_cases hn : n < 0
  · by_cases hm : n = -9223372036854775808
    · subst hm
      have hd : str (dec (-9223372036854775808)) = ⟨#[45, 57, 50, 50, 51, 51, 55, 50, 48, 51, 54, 56, 53, 52, 55, 55, 53, 56, 48, 56]⟩ := by
        have h2 : Lib.decDigits 9223372036854775808 = [57, 50, 50, 51, 51, 55, 50, 48, 51, 54, 56, 53, 52, 55, 55, 53, 56, 48, 56] := by
          repeat (rw [Lib.decDigits]; simp only [Nat.reduceDiv, Nat.reduceMod, Nat.reduceLT, dite_true, dite_false])
          all_goals decide
        have h3 : dec (-9223372036854775808) = 45 :: Lib.decDigits 9223372036854775808 := Lib.itoa_neg 9223372036854775808 (by omega)
        rw [h3, h2]; rfl
      have HD := hide hd.symm; clear hd h hn
      generalize str (dec (-9223372036854775808)) = SS at *
      go_enter Tryd.func32, Tryd.ntmps32
      go_wp2
      go_ret
      exact ⟨ret_str (unhide HD), rfl⟩
    · obtain ⟨u, hu⟩ : ∃ u : Nat, n = -(u : Int) := ⟨n.natAbs, by omega⟩
      obtain ⟨h1, h2⟩ := h
      have hc := rdig_nat u (by omega) w
      have hd : str (dec n) = str (45 :: Lib.decDigits u) := by rw [hu, show dec (-(u : Int)) = 45 :: Lib.decDigits u from Lib.itoa_neg u (by omega)]
      have hlen : (Lib.decDigits u).length ≤ 21 := by
        have := dec_len (u : Int) ⟨by omega, by omega⟩
        rwa [show dec (u : Int) = Lib.decDigits u from Lib.itoa_nonneg u] at this
      have hcat := fun W => cat (A := (⟨#[45]⟩ : ByteArray)) (B := str (Lib.decDigits u)) (C := str (45 :: Lib.decDigits u)) rfl rfl rfl (by simp; omega) W
      have hm1 : -9223372036854775807 ≤ n := by omega
      have t1 : (n == -9223372036854775808) = false := by simpa using hm
      rw [show (u : Int) = -n by omega] at hc
      have w1 : wrap64 (-n) = -n := by unfold wrap64; omega
      have w2 : IntKind.i64.wrap (-n) = -n := by rw [IntKind.wrap_i64]; omega
      have HC := hide hc; have HD := hide hd.symm
      clear hc hd hlen hm h1 h2 hu
      generalize str (dec n) = SS at *
      generalize 45 :: Lib.decDigits u = L at *
      generalize Lib.decDigits u = L0 at *
      go_enter Tryd.func32, Tryd.ntmps32
      go_wp2_with fail
      refine (unhide HC).mono ?_
      rintro e w1 ⟨rfl, rfl⟩
      go_wp2
      go_ret
      exact ⟨ret_str (unhide HD), rfl⟩
  · obtain ⟨u, rfl⟩ : ∃ u : Nat, n = (u : Int) := ⟨n.toNat, by omega⟩
    rw [show dec (u : Int) = Lib.decDigits u from Lib.itoa_nonneg u]
    exact rdig_nat u h.2 w
end Vc
end Go.Proofs.YtgelkfmdkmopbaaDoor
