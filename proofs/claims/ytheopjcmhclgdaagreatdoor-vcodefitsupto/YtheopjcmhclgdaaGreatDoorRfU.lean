/- mandrelref04.Sign: what it returns. -/
import Derived.Test.YtheopjcmhclgdaaGreatDoorRfT1
import Derived.Test.YtheopjcmhclgdaaGreatDoorRfT2
namespace Go.Proofs.YtheopjcmhclgdaaGreatDoor
open Go.RowKit
set_option linter.unusedVariables false

/-- what is taken and given by a name, layer 2's name, and bits -/
def signF (l q : List UInt8) (W : Nat) : List Int × Int :=
  if formF l = 1 ∨ formF l = 2 then ([], kindF l)
  else if l = [109, 101, 109, 111, 114, 121, 46, 115, 105, 122, 101] then ([], 127)
  else if l = [109, 101, 109, 111, 114, 121, 46, 103, 114, 111, 119] then ([127], 127)
  else if formF l = 4 then (if hasF (l.drop 4) [108, 111, 97, 100] = true then ([127], kindF l) else ([127, kindF l], 0))
  else if q = [119, 114, 97, 112] then (if W = 64 then ([126], 127) else ([126], 127))
  else if q = [101, 120, 116, 101, 110, 100, 95, 115] then (if W = 64 then ([127], 126) else ([127], 126))
  else if q = [101, 120, 116, 101, 110, 100, 95, 117] then (if W = 64 then ([127], 126) else ([127], 126))
  else if q = [101, 113, 122] then (if W = 64 then ([126], 127) else ([127], 127))
  else if q = [99, 108, 122] then (if W = 64 then ([126], 126) else ([127], 127))
  else if q = [99, 116, 122] then (if W = 64 then ([126], 126) else ([127], 127))
  else if q = [112, 111, 112, 99, 110, 116] then (if W = 64 then ([126], 126) else ([127], 127))
  else if q = [101, 113] then (if W = 64 then ([126, 126], 127) else ([127, 127], 127))
  else if q = [110, 101] then (if W = 64 then ([126, 126], 127) else ([127, 127], 127))
  else if q = [108, 116, 95, 115] then (if W = 64 then ([126, 126], 127) else ([127, 127], 127))
  else if q = [108, 116, 95, 117] then (if W = 64 then ([126, 126], 127) else ([127, 127], 127))
  else if q = [103, 116, 95, 115] then (if W = 64 then ([126, 126], 127) else ([127, 127], 127))
  else if q = [103, 116, 95, 117] then (if W = 64 then ([126, 126], 127) else ([127, 127], 127))
  else if q = [108, 101, 95, 115] then (if W = 64 then ([126, 126], 127) else ([127, 127], 127))
  else if q = [108, 101, 95, 117] then (if W = 64 then ([126, 126], 127) else ([127, 127], 127))
  else if q = [103, 101, 95, 115] then (if W = 64 then ([126, 126], 127) else ([127, 127], 127))
  else if q = [103, 101, 95, 117] then (if W = 64 then ([126, 126], 127) else ([127, 127], 127))
  else (if W = 64 then ([126, 126], 126) else ([127, 127], 127))
theorem signr_any (n : Nat) (l : List UInt8) (h : NameIs n l) (hn : l ≠ []) (hl : l.length < 100) (h36 : ¬ (n : Int) ≤ 36) (h255 : n < 256) (q : List UInt8) (W : Nat) (hW : ¬ formF l = 1 → ¬ formF l = 2 → ¬ formF l = 4 → ¬ l = [109, 101, 109, 111, 114, 121, 46, 115, 105, 122, 101] → ¬ l = [109, 101, 109, 111, 114, 121, 46, 103, 114, 111, 119] → W = 32 ∨ W = 64) (h4 : formF l = 4 → 4 ≤ l.length)
    (hq : ∀ w, Calls Tryz.prog 73 #[.int .u8 n] w fun e w' => e = .returned (.tuple #[.string (str q), .int .i64 W]) ∧ Below w.heap.size w w') : SignIs n (signF l q W).1 (signF l q W).2 true := by
  have hf := formr_any n l h hn hl
  by_cases a1 : formF l = 1
  · rw [a1] at hf
    rw [show signF l q W = ([], kindF l) by unfold signF; rw [if_pos (.inl a1)]]
    exact s_const1 n l h hn hl h36 h255 hf
  by_cases a2 : formF l = 2
  · rw [a2] at hf
    rw [show signF l q W = ([], kindF l) by unfold signF; rw [if_pos (.inr a2)]]
    exact s_const2 n l h hn hl h36 h255 hf
  have a12 : ¬ (formF l = 1 ∨ formF l = 2) := fun e => e.elim a1 a2
  by_cases b1 : l = [109, 101, 109, 111, 114, 121, 46, 115, 105, 122, 101]
  · rw [show signF l q W = ([], 127) by unfold signF; rw [if_neg a12, if_pos b1]]
    subst b1
    exact s_size n h h36 h255 hf
  by_cases b2 : l = [109, 101, 109, 111, 114, 121, 46, 103, 114, 111, 119]
  · rw [show signF l q W = ([127], 127) by unfold signF; rw [if_neg a12, if_neg b1, if_pos b2]]
    subst b2
    exact s_grow n h h36 h255 hf
  by_cases a4 : formF l = 4
  · rw [show signF l q W = (if hasF (l.drop 4) [108, 111, 97, 100] = true then ([127], kindF l) else ([127, kindF l], 0)) by unfold signF; rw [if_neg a12, if_neg b1, if_neg b2, if_pos a4]]
    rw [a4] at hf
    rcases hh : hasF (l.drop 4) [108, 111, 97, 100] with _ | _
    · exact s_store n l h hn hl h36 h255 hf b1 b2 (h4 a4) hh
    · exact s_load n l h hn hl h36 h255 hf b1 b2 (h4 a4) hh
  have f1 : (formF l == 1) = false := by simpa using a1
  have f2 : (formF l == 2) = false := by simpa using a2
  have f4 : (formF l == 4) = false := by simpa using a4
  by_cases g0 : q = [119, 114, 97, 112]
  · rw [show signF l q W = (if W = 64 then ([126], 127) else ([126], 127)) by unfold signF; rw [if_neg a12, if_neg b1, if_neg b2, if_neg a4, if_pos g0]]
    subst g0
    rcases hW a1 a2 a4 b1 b2 with rfl | rfl
    · exact s32_wrap n l h hn hl h36 h255 _ hf f1 f2 f4 b1 b2 hq
    · exact s64_wrap n l h hn hl h36 h255 _ hf f1 f2 f4 b1 b2 hq
  by_cases g1 : q = [101, 120, 116, 101, 110, 100, 95, 115]
  · rw [show signF l q W = (if W = 64 then ([127], 126) else ([127], 126)) by unfold signF; rw [if_neg a12, if_neg b1, if_neg b2, if_neg a4, if_neg g0, if_pos g1]]
    subst g1
    rcases hW a1 a2 a4 b1 b2 with rfl | rfl
    · exact s32_extend_s n l h hn hl h36 h255 _ hf f1 f2 f4 b1 b2 hq
    · exact s64_extend_s n l h hn hl h36 h255 _ hf f1 f2 f4 b1 b2 hq
  by_cases g2 : q = [101, 120, 116, 101, 110, 100, 95, 117]
  · rw [show signF l q W = (if W = 64 then ([127], 126) else ([127], 126)) by unfold signF; rw [if_neg a12, if_neg b1, if_neg b2, if_neg a4, if_neg g0, if_neg g1, if_pos g2]]
    subst g2
    rcases hW a1 a2 a4 b1 b2 with rfl | rfl
    · exact s32_extend_u n l h hn hl h36 h255 _ hf f1 f2 f4 b1 b2 hq
    · exact s64_extend_u n l h hn hl h36 h255 _ hf f1 f2 f4 b1 b2 hq
  by_cases g3 : q = [101, 113, 122]
  · rw [show signF l q W = (if W = 64 then ([126], 127) else ([127], 127)) by unfold signF; rw [if_neg a12, if_neg b1, if_neg b2, if_neg a4, if_neg g0, if_neg g1, if_neg g2, if_pos g3]]
    subst g3
    rcases hW a1 a2 a4 b1 b2 with rfl | rfl
    · exact s32_eqz n l h hn hl h36 h255 _ hf f1 f2 f4 b1 b2 hq
    · exact s64_eqz n l h hn hl h36 h255 _ hf f1 f2 f4 b1 b2 hq
  by_cases g4 : q = [99, 108, 122]
  · rw [show signF l q W = (if W = 64 then ([126], 126) else ([127], 127)) by unfold signF; rw [if_neg a12, if_neg b1, if_neg b2, if_neg a4, if_neg g0, if_neg g1, if_neg g2, if_neg g3, if_pos g4]]
    subst g4
    rcases hW a1 a2 a4 b1 b2 with rfl | rfl
    · exact s32_clz n l h hn hl h36 h255 _ hf f1 f2 f4 b1 b2 hq
    · exact s64_clz n l h hn hl h36 h255 _ hf f1 f2 f4 b1 b2 hq
  by_cases g5 : q = [99, 116, 122]
  · rw [show signF l q W = (if W = 64 then ([126], 126) else ([127], 127)) by unfold signF; rw [if_neg a12, if_neg b1, if_neg b2, if_neg a4, if_neg g0, if_neg g1, if_neg g2, if_neg g3, if_neg g4, if_pos g5]]
    subst g5
    rcases hW a1 a2 a4 b1 b2 with rfl | rfl
    · exact s32_ctz n l h hn hl h36 h255 _ hf f1 f2 f4 b1 b2 hq
    · exact s64_ctz n l h hn hl h36 h255 _ hf f1 f2 f4 b1 b2 hq
  by_cases g6 : q = [112, 111, 112, 99, 110, 116]
  · rw [show signF l q W = (if W = 64 then ([126], 126) else ([127], 127)) by unfold signF; rw [if_neg a12, if_neg b1, if_neg b2, if_neg a4, if_neg g0, if_neg g1, if_neg g2, if_neg g3, if_neg g4, if_neg g5, if_pos g6]]
    subst g6
    rcases hW a1 a2 a4 b1 b2 with rfl | rfl
    · exact s32_popcnt n l h hn hl h36 h255 _ hf f1 f2 f4 b1 b2 hq
    · exact s64_popcnt n l h hn hl h36 h255 _ hf f1 f2 f4 b1 b2 hq
  by_cases g7 : q = [101, 113]
  · rw [show signF l q W = (if W = 64 then ([126, 126], 127) else ([127, 127], 127)) by unfold signF; rw [if_neg a12, if_neg b1, if_neg b2, if_neg a4, if_neg g0, if_neg g1, if_neg g2, if_neg g3, if_neg g4, if_neg g5, if_neg g6, if_pos g7]]
    subst g7
    rcases hW a1 a2 a4 b1 b2 with rfl | rfl
    · exact s32_eq n l h hn hl h36 h255 _ hf f1 f2 f4 b1 b2 hq
    · exact s64_eq n l h hn hl h36 h255 _ hf f1 f2 f4 b1 b2 hq
  by_cases g8 : q = [110, 101]
  · rw [show signF l q W = (if W = 64 then ([126, 126], 127) else ([127, 127], 127)) by unfold signF; rw [if_neg a12, if_neg b1, if_neg b2, if_neg a4, if_neg g0, if_neg g1, if_neg g2, if_neg g3, if_neg g4, if_neg g5, if_neg g6, if_neg g7, if_pos g8]]
    subst g8
    rcases hW a1 a2 a4 b1 b2 with rfl | rfl
    · exact s32_ne n l h hn hl h36 h255 _ hf f1 f2 f4 b1 b2 hq
    · exact s64_ne n l h hn hl h36 h255 _ hf f1 f2 f4 b1 b2 hq
  by_cases g9 : q = [108, 116, 95, 115]
  · rw [show signF l q W = (if W = 64 then ([126, 126], 127) else ([127, 127], 127)) by unfold signF; rw [if_neg a12, if_neg b1, if_neg b2, if_neg a4, if_neg g0, if_neg g1, if_neg g2, if_neg g3, if_neg g4, if_neg g5, if_neg g6, if_neg g7, if_neg g8, if_pos g9]]
    subst g9
    rcases hW a1 a2 a4 b1 b2 with rfl | rfl
    · exact s32_lt_s n l h hn hl h36 h255 _ hf f1 f2 f4 b1 b2 hq
    · exact s64_lt_s n l h hn hl h36 h255 _ hf f1 f2 f4 b1 b2 hq
  by_cases g10 : q = [108, 116, 95, 117]
  · rw [show signF l q W = (if W = 64 then ([126, 126], 127) else ([127, 127], 127)) by unfold signF; rw [if_neg a12, if_neg b1, if_neg b2, if_neg a4, if_neg g0, if_neg g1, if_neg g2, if_neg g3, if_neg g4, if_neg g5, if_neg g6, if_neg g7, if_neg g8, if_neg g9, if_pos g10]]
    subst g10
    rcases hW a1 a2 a4 b1 b2 with rfl | rfl
    · exact s32_lt_u n l h hn hl h36 h255 _ hf f1 f2 f4 b1 b2 hq
    · exact s64_lt_u n l h hn hl h36 h255 _ hf f1 f2 f4 b1 b2 hq
  by_cases g11 : q = [103, 116, 95, 115]
  · rw [show signF l q W = (if W = 64 then ([126, 126], 127) else ([127, 127], 127)) by unfold signF; rw [if_neg a12, if_neg b1, if_neg b2, if_neg a4, if_neg g0, if_neg g1, if_neg g2, if_neg g3, if_neg g4, if_neg g5, if_neg g6, if_neg g7, if_neg g8, if_neg g9, if_neg g10, if_pos g11]]
    subst g11
    rcases hW a1 a2 a4 b1 b2 with rfl | rfl
    · exact s32_gt_s n l h hn hl h36 h255 _ hf f1 f2 f4 b1 b2 hq
    · exact s64_gt_s n l h hn hl h36 h255 _ hf f1 f2 f4 b1 b2 hq
  by_cases g12 : q = [103, 116, 95, 117]
  · rw [show signF l q W = (if W = 64 then ([126, 126], 127) else ([127, 127], 127)) by unfold signF; rw [if_neg a12, if_neg b1, if_neg b2, if_neg a4, if_neg g0, if_neg g1, if_neg g2, if_neg g3, if_neg g4, if_neg g5, if_neg g6, if_neg g7, if_neg g8, if_neg g9, if_neg g10, if_neg g11, if_pos g12]]
    subst g12
    rcases hW a1 a2 a4 b1 b2 with rfl | rfl
    · exact s32_gt_u n l h hn hl h36 h255 _ hf f1 f2 f4 b1 b2 hq
    · exact s64_gt_u n l h hn hl h36 h255 _ hf f1 f2 f4 b1 b2 hq
  by_cases g13 : q = [108, 101, 95, 115]
  · rw [show signF l q W = (if W = 64 then ([126, 126], 127) else ([127, 127], 127)) by unfold signF; rw [if_neg a12, if_neg b1, if_neg b2, if_neg a4, if_neg g0, if_neg g1, if_neg g2, if_neg g3, if_neg g4, if_neg g5, if_neg g6, if_neg g7, if_neg g8, if_neg g9, if_neg g10, if_neg g11, if_neg g12, if_pos g13]]
    subst g13
    rcases hW a1 a2 a4 b1 b2 with rfl | rfl
    · exact s32_le_s n l h hn hl h36 h255 _ hf f1 f2 f4 b1 b2 hq
    · exact s64_le_s n l h hn hl h36 h255 _ hf f1 f2 f4 b1 b2 hq
  by_cases g14 : q = [108, 101, 95, 117]
  · rw [show signF l q W = (if W = 64 then ([126, 126], 127) else ([127, 127], 127)) by unfold signF; rw [if_neg a12, if_neg b1, if_neg b2, if_neg a4, if_neg g0, if_neg g1, if_neg g2, if_neg g3, if_neg g4, if_neg g5, if_neg g6, if_neg g7, if_neg g8, if_neg g9, if_neg g10, if_neg g11, if_neg g12, if_neg g13, if_pos g14]]
    subst g14
    rcases hW a1 a2 a4 b1 b2 with rfl | rfl
    · exact s32_le_u n l h hn hl h36 h255 _ hf f1 f2 f4 b1 b2 hq
    · exact s64_le_u n l h hn hl h36 h255 _ hf f1 f2 f4 b1 b2 hq
  by_cases g15 : q = [103, 101, 95, 115]
  · rw [show signF l q W = (if W = 64 then ([126, 126], 127) else ([127, 127], 127)) by unfold signF; rw [if_neg a12, if_neg b1, if_neg b2, if_neg a4, if_neg g0, if_neg g1, if_neg g2, if_neg g3, if_neg g4, if_neg g5, if_neg g6, if_neg g7, if_neg g8, if_neg g9, if_neg g10, if_neg g11, if_neg g12, if_neg g13, if_neg g14, if_pos g15]]
    subst g15
    rcases hW a1 a2 a4 b1 b2 with rfl | rfl
    · exact s32_ge_s n l h hn hl h36 h255 _ hf f1 f2 f4 b1 b2 hq
    · exact s64_ge_s n l h hn hl h36 h255 _ hf f1 f2 f4 b1 b2 hq
  by_cases g16 : q = [103, 101, 95, 117]
  · rw [show signF l q W = (if W = 64 then ([126, 126], 127) else ([127, 127], 127)) by unfold signF; rw [if_neg a12, if_neg b1, if_neg b2, if_neg a4, if_neg g0, if_neg g1, if_neg g2, if_neg g3, if_neg g4, if_neg g5, if_neg g6, if_neg g7, if_neg g8, if_neg g9, if_neg g10, if_neg g11, if_neg g12, if_neg g13, if_neg g14, if_neg g15, if_pos g16]]
    subst g16
    rcases hW a1 a2 a4 b1 b2 with rfl | rfl
    · exact s32_ge_u n l h hn hl h36 h255 _ hf f1 f2 f4 b1 b2 hq
    · exact s64_ge_u n l h hn hl h36 h255 _ hf f1 f2 f4 b1 b2 hq
  rw [show signF l q W = (if W = 64 then ([126, 126], 126) else ([127, 127], 127)) by unfold signF; rw [if_neg a12, if_neg b1, if_neg b2, if_neg a4, if_neg g0, if_neg g1, if_neg g2, if_neg g3, if_neg g4, if_neg g5, if_neg g6, if_neg g7, if_neg g8, if_neg g9, if_neg g10, if_neg g11, if_neg g12, if_neg g13, if_neg g14, if_neg g15, if_neg g16]]
  rcases hW a1 a2 a4 b1 b2 with rfl | rfl
  · exact s32_all n l h hn hl h36 h255 _ hf f1 f2 f4 b1 b2 q g0 g1 g2 g3 g4 g5 g6 g7 g8 g9 g10 g11 g12 g13 g14 g15 g16 hq
  · exact s64_all n l h hn hl h36 h255 _ hf f1 f2 f4 b1 b2 q g0 g1 g2 g3 g4 g5 g6 g7 g8 g9 g10 g11 g12 g13 g14 g15 g16 hq
end Go.Proofs.YtheopjcmhclgdaaGreatDoor
