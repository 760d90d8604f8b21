/- The document's alone: has an instruction nothing but what its form has? -/
import Derived.Test.YtjhmglefejclpaaDoorE1

/- The document's alone: has an instruction nothing but what its form has? -/
namespace Go.Proofs.YtjhmglefejclpaaDoor
open Go.RowKit
namespace Ex
set_option linter.unusedVariables false
set_option linter.unusedSimpArgs false

set_option maxRecDepth 100000 in
set_option maxHeartbeats 1600000 in
theorem alone_0 (op n al of re : Int) (ba ea la : Option Addr) (lb bc le ec ll lc : Nat) (w : World) :
    Calls Tryd.prog 38 #[.agg #[.int .u8 op, .int .i64 n, .int .u32 al, .int .u32 of, .int .u8 re, .slice ba lb bc, .slice ea le ec, .slice la ll lc], .int .i64 0] w fun e w' => e = .returned (.bool (alo 0 n al of re lb le ll)) ∧ Below w.heap.size w w' := by
  by_cases hn : n = 0
  case neg =>
    have hbn : (((n : Int)) == 0) = false := by simp; omega
    have hcn : ¬ (n : Int) = 0 := by omega
    go_enter Tryd.func38, Tryd.ntmps38
    go_wp2
    go_ret
    exact ⟨by simp [alo, hn], one_alloc _ _⟩
  subst hn
  by_cases hal : al = 0
  case neg =>
    have hbal : (((al : Int)) == 0) = false := by simp; omega
    have hcal : ¬ (al : Int) = 0 := by omega
    go_enter Tryd.func38, Tryd.ntmps38
    go_wp2
    go_ret
    exact ⟨by simp [alo, hal], one_alloc _ _⟩
  subst hal
  by_cases hof : of = 0
  case neg =>
    have hbof : (((of : Int)) == 0) = false := by simp; omega
    have hcof : ¬ (of : Int) = 0 := by omega
    go_enter Tryd.func38, Tryd.ntmps38
    go_wp2
    go_ret
    exact ⟨by simp [alo, hof], one_alloc _ _⟩
  subst hof
  by_cases hre : re = 0
  case neg =>
    have hbre : (((re : Int)) == 0) = false := by simp; omega
    have hcre : ¬ (re : Int) = 0 := by omega
    go_enter Tryd.func38, Tryd.ntmps38
    go_wp2
    go_ret
    exact ⟨by simp [alo, hre], one_alloc _ _⟩
  subst hre
  by_cases hlb : lb = 0
  case neg =>
    have hblb : (((lb : Int)) == 0) = false := by simp; omega
    have hclb : ¬ (lb : Int) = 0 := by omega
    go_enter Tryd.func38, Tryd.ntmps38
    go_wp2
    go_ret
    exact ⟨by simp [alo, hlb], one_alloc _ _⟩
  subst hlb
  by_cases hle : le = 0
  case neg =>
    have hble : (((le : Int)) == 0) = false := by simp; omega
    have hcle : ¬ (le : Int) = 0 := by omega
    go_enter Tryd.func38, Tryd.ntmps38
    go_wp2
    go_ret
    exact ⟨by simp [alo, hle], one_alloc _ _⟩
  subst hle
  by_cases hll : ll = 0
  case neg =>
    have hbll : (((ll : Int)) == 0) = false := by simp; omega
    have hcll : ¬ (ll : Int) = 0 := by omega
    go_enter Tryd.func38, Tryd.ntmps38
    go_wp2
    go_ret
    exact ⟨by simp [alo, hll], one_alloc _ _⟩
  subst hll
  go_enter Tryd.func38, Tryd.ntmps38
  go_wp2
  go_ret
  exact ⟨by simp [alo], one_alloc _ _⟩
set_option maxRecDepth 100000 in
set_option maxHeartbeats 1600000 in
theorem alone_1 (op n al of re : Int) (ba ea la : Option Addr) (lb bc le ec ll lc : Nat) (w : World) :
    Calls Tryd.prog 38 #[.agg #[.int .u8 op, .int .i64 n, .int .u32 al, .int .u32 of, .int .u8 re, .slice ba lb bc, .slice ea le ec, .slice la ll lc], .int .i64 1] w fun e w' => e = .returned (.bool (alo 1 n al of re lb le ll)) ∧ Below w.heap.size w w' := by
  by_cases hal : al = 0
  case neg =>
    have hbal : (((al : Int)) == 0) = false := by simp; omega
    have hcal : ¬ (al : Int) = 0 := by omega
    go_enter Tryd.func38, Tryd.ntmps38
    go_wp2
    go_ret
    exact ⟨by simp [alo, hal], one_alloc _ _⟩
  subst hal
  by_cases hof : of = 0
  case neg =>
    have hbof : (((of : Int)) == 0) = false := by simp; omega
    have hcof : ¬ (of : Int) = 0 := by omega
    go_enter Tryd.func38, Tryd.ntmps38
    go_wp2
    go_ret
    exact ⟨by simp [alo, hof], one_alloc _ _⟩
  subst hof
  by_cases hre : re = 0
  case neg =>
    have hbre : (((re : Int)) == 0) = false := by simp; omega
    have hcre : ¬ (re : Int) = 0 := by omega
    go_enter Tryd.func38, Tryd.ntmps38
    go_wp2
    go_ret
    exact ⟨by simp [alo, hre], one_alloc _ _⟩
  subst hre
  by_cases hlb : lb = 0
  case neg =>
    have hblb : (((lb : Int)) == 0) = false := by simp; omega
    have hclb : ¬ (lb : Int) = 0 := by omega
    go_enter Tryd.func38, Tryd.ntmps38
    go_wp2
    go_ret
    exact ⟨by simp [alo, hlb], one_alloc _ _⟩
  subst hlb
  by_cases hle : le = 0
  case neg =>
    have hble : (((le : Int)) == 0) = false := by simp; omega
    have hcle : ¬ (le : Int) = 0 := by omega
    go_enter Tryd.func38, Tryd.ntmps38
    go_wp2
    go_ret
    exact ⟨by simp [alo, hle], one_alloc _ _⟩
  subst hle
  by_cases hll : ll = 0
  case neg =>
    have hbll : (((ll : Int)) == 0) = false := by simp; omega
    have hcll : ¬ (ll : Int) = 0 := by omega
    go_enter Tryd.func38, Tryd.ntmps38
    go_wp2
    go_ret
    exact ⟨by simp [alo, hll], one_alloc _ _⟩
  subst hll
  go_enter Tryd.func38, Tryd.ntmps38
  go_wp2
  go_ret
  exact ⟨by simp [alo], one_alloc _ _⟩
set_option maxRecDepth 100000 in
set_option maxHeartbeats 1600000 in
theorem alone_2 (op n al of re : Int) (ba ea la : Option Addr) (lb bc le ec ll lc : Nat) (w : World) :
    Calls Tryd.prog 38 #[.agg #[.int .u8 op, .int .i64 n, .int .u32 al, .int .u32 of, .int .u8 re, .slice ba lb bc, .slice ea le ec, .slice la ll lc], .int .i64 2] w fun e w' => e = .returned (.bool (alo 2 n al of re lb le ll)) ∧ Below w.heap.size w w' := by
  by_cases hal : al = 0
  case neg =>
    have hbal : (((al : Int)) == 0) = false := by simp; omega
    have hcal : ¬ (al : Int) = 0 := by omega
    go_enter Tryd.func38, Tryd.ntmps38
    go_wp2
    go_ret
    exact ⟨by simp [alo, hal], one_alloc _ _⟩
  subst hal
  by_cases hof : of = 0
  case neg =>
    have hbof : (((of : Int)) == 0) = false := by simp; omega
    have hcof : ¬ (of : Int) = 0 := by omega
    go_enter Tryd.func38, Tryd.ntmps38
    go_wp2
    go_ret
    exact ⟨by simp [alo, hof], one_alloc _ _⟩
  subst hof
  by_cases hre : re = 0
  case neg =>
    have hbre : (((re : Int)) == 0) = false := by simp; omega
    have hcre : ¬ (re : Int) = 0 := by omega
    go_enter Tryd.func38, Tryd.ntmps38
    go_wp2
    go_ret
    exact ⟨by simp [alo, hre], one_alloc _ _⟩
  subst hre
  by_cases hlb : lb = 0
  case neg =>
    have hblb : (((lb : Int)) == 0) = false := by simp; omega
    have hclb : ¬ (lb : Int) = 0 := by omega
    go_enter Tryd.func38, Tryd.ntmps38
    go_wp2
    go_ret
    exact ⟨by simp [alo, hlb], one_alloc _ _⟩
  subst hlb
  by_cases hle : le = 0
  case neg =>
    have hble : (((le : Int)) == 0) = false := by simp; omega
    have hcle : ¬ (le : Int) = 0 := by omega
    go_enter Tryd.func38, Tryd.ntmps38
    go_wp2
    go_ret
    exact ⟨by simp [alo, hle], one_alloc _ _⟩
  subst hle
  by_cases hll : ll = 0
  case neg =>
    have hbll : (((ll : Int)) == 0) = false := by simp; omega
    have hcll : ¬ (ll : Int) = 0 := by omega
    go_enter Tryd.func38, Tryd.ntmps38
    go_wp2
    go_ret
    exact ⟨by simp [alo, hll], one_alloc _ _⟩
  subst hll
  go_enter Tryd.func38, Tryd.ntmps38
  go_wp2
  go_ret
  exact ⟨by simp [alo], one_alloc _ _⟩
set_option maxRecDepth 100000 in
set_option maxHeartbeats 1600000 in
theorem alone_3 (op n al of re : Int) (ba ea la : Option Addr) (lb bc le ec ll lc : Nat) (w : World) :
    Calls Tryd.prog 38 #[.agg #[.int .u8 op, .int .i64 n, .int .u32 al, .int .u32 of, .int .u8 re, .slice ba lb bc, .slice ea le ec, .slice la ll lc], .int .i64 3] w fun e w' => e = .returned (.bool (alo 3 n al of re lb le ll)) ∧ Below w.heap.size w w' := by
  by_cases hal : al = 0
  case neg =>
    have hbal : (((al : Int)) == 0) = false := by simp; omega
    have hcal : ¬ (al : Int) = 0 := by omega
    go_enter Tryd.func38, Tryd.ntmps38
    go_wp2
    go_ret
    exact ⟨by simp [alo, hal], one_alloc _ _⟩
  subst hal
  by_cases hof : of = 0
  case neg =>
    have hbof : (((of : Int)) == 0) = false := by simp; omega
    have hcof : ¬ (of : Int) = 0 := by omega
    go_enter Tryd.func38, Tryd.ntmps38
    go_wp2
    go_ret
    exact ⟨by simp [alo, hof], one_alloc _ _⟩
  subst hof
  by_cases hre : re = 0
  case neg =>
    have hbre : (((re : Int)) == 0) = false := by simp; omega
    have hcre : ¬ (re : Int) = 0 := by omega
    go_enter Tryd.func38, Tryd.ntmps38
    go_wp2
    go_ret
    exact ⟨by simp [alo, hre], one_alloc _ _⟩
  subst hre
  by_cases hlb : lb = 0
  case neg =>
    have hblb : (((lb : Int)) == 0) = false := by simp; omega
    have hclb : ¬ (lb : Int) = 0 := by omega
    go_enter Tryd.func38, Tryd.ntmps38
    go_wp2
    go_ret
    exact ⟨by simp [alo, hlb], one_alloc _ _⟩
  subst hlb
  by_cases hle : le = 0
  case neg =>
    have hble : (((le : Int)) == 0) = false := by simp; omega
    have hcle : ¬ (le : Int) = 0 := by omega
    go_enter Tryd.func38, Tryd.ntmps38
    go_wp2
    go_ret
    exact ⟨by simp [alo, hle], one_alloc _ _⟩
  subst hle
  by_cases hll : ll = 0
  case neg =>
    have hbll : (((ll : Int)) == 0) = false := by simp; omega
    have hcll : ¬ (ll : Int) = 0 := by omega
    go_enter Tryd.func38, Tryd.ntmps38
    go_wp2
    go_ret
    exact ⟨by simp [alo, hll], one_alloc _ _⟩
  subst hll
  go_enter Tryd.func38, Tryd.ntmps38
  go_wp2
  go_ret
  exact ⟨by simp [alo], one_alloc _ _⟩
set_option maxRecDepth 100000 in
set_option maxHeartbeats 1600000 in
theorem alone_4 (op n al of re : Int) (ba ea la : Option Addr) (lb bc le ec ll lc : Nat) (w : World) :
    Calls Tryd.prog 38 #[.agg #[.int .u8 op, .int .i64 n, .int .u32 al, .int .u32 of, .int .u8 re, .slice ba lb bc, .slice ea le ec, .slice la ll lc], .int .i64 4] w fun e w' => e = .returned (.bool (alo 4 n al of re lb le ll)) ∧ Below w.heap.size w w' := by
  by_cases hn : n = 0
  case neg =>
    have hbn : (((n : Int)) == 0) = false := by simp; omega
    have hcn : ¬ (n : Int) = 0 := by omega
    go_enter Tryd.func38, Tryd.ntmps38
    go_wp2
    go_ret
    exact ⟨by simp [alo, hn], one_alloc _ _⟩
  subst hn
  by_cases hre : re = 0
  case neg =>
    have hbre : (((re : Int)) == 0) = false := by simp; omega
    have hcre : ¬ (re : Int) = 0 := by omega
    go_enter Tryd.func38, Tryd.ntmps38
    go_wp2
    go_ret
    exact ⟨by simp [alo, hre], one_alloc _ _⟩
  subst hre
  by_cases hlb : lb = 0
  case neg =>
    have hblb : (((lb : Int)) == 0) = false := by simp; omega
    have hclb : ¬ (lb : Int) = 0 := by omega
    go_enter Tryd.func38, Tryd.ntmps38
    go_wp2
    go_ret
    exact ⟨by simp [alo, hlb], one_alloc _ _⟩
  subst hlb
  by_cases hle : le = 0
  case neg =>
    have hble : (((le : Int)) == 0) = false := by simp; omega
    have hcle : ¬ (le : Int) = 0 := by omega
    go_enter Tryd.func38, Tryd.ntmps38
    go_wp2
    go_ret
    exact ⟨by simp [alo, hle], one_alloc _ _⟩
  subst hle
  by_cases hll : ll = 0
  case neg =>
    have hbll : (((ll : Int)) == 0) = false := by simp; omega
    have hcll : ¬ (ll : Int) = 0 := by omega
    go_enter Tryd.func38, Tryd.ntmps38
    go_wp2
    go_ret
    exact ⟨by simp [alo, hll], one_alloc _ _⟩
  subst hll
  go_enter Tryd.func38, Tryd.ntmps38
  go_wp2
  go_ret
  exact ⟨by simp [alo], one_alloc _ _⟩
set_option maxRecDepth 100000 in
set_option maxHeartbeats 1600000 in
theorem alone_5 (op n al of re : Int) (ba ea la : Option Addr) (lb bc le ec ll lc : Nat) (w : World) :
    Calls Tryd.prog 38 #[.agg #[.int .u8 op, .int .i64 n, .int .u32 al, .int .u32 of, .int .u8 re, .slice ba lb bc, .slice ea le ec, .slice la ll lc], .int .i64 5] w fun e w' => e = .returned (.bool (alo 5 n al of re lb le ll)) ∧ Below w.heap.size w w' := by
  by_cases hn : n = 0
  case neg =>
    have hbn : (((n : Int)) == 0) = false := by simp; omega
    have hcn : ¬ (n : Int) = 0 := by omega
    go_enter Tryd.func38, Tryd.ntmps38
    go_wp2
    go_ret
    exact ⟨by simp [alo, hn], one_alloc _ _⟩
  subst hn
  by_cases hal : al = 0
  case neg =>
    have hbal : (((al : Int)) == 0) = false := by simp; omega
    have hcal : ¬ (al : Int) = 0 := by omega
    go_enter Tryd.func38, Tryd.ntmps38
    go_wp2
    go_ret
    exact ⟨by simp [alo, hal], one_alloc _ _⟩
  subst hal
  by_cases hof : of = 0
  case neg =>
    have hbof : (((of : Int)) == 0) = false := by simp; omega
    have hcof : ¬ (of : Int) = 0 := by omega
    go_enter Tryd.func38, Tryd.ntmps38
    go_wp2
    go_ret
    exact ⟨by simp [alo, hof], one_alloc _ _⟩
  subst hof
  by_cases hre : re = 0
  case neg =>
    have hbre : (((re : Int)) == 0) = false := by simp; omega
    have hcre : ¬ (re : Int) = 0 := by omega
    go_enter Tryd.func38, Tryd.ntmps38
    go_wp2
    go_ret
    exact ⟨by simp [alo, hre], one_alloc _ _⟩
  subst hre
  by_cases hlb : lb = 0
  case neg =>
    have hblb : (((lb : Int)) == 0) = false := by simp; omega
    have hclb : ¬ (lb : Int) = 0 := by omega
    go_enter Tryd.func38, Tryd.ntmps38
    go_wp2
    go_ret
    exact ⟨by simp [alo, hlb], one_alloc _ _⟩
  subst hlb
  by_cases hle : le = 0
  case neg =>
    have hble : (((le : Int)) == 0) = false := by simp; omega
    have hcle : ¬ (le : Int) = 0 := by omega
    go_enter Tryd.func38, Tryd.ntmps38
    go_wp2
    go_ret
    exact ⟨by simp [alo, hle], one_alloc _ _⟩
  subst hle
  by_cases hll : ll = 0
  case neg =>
    have hbll : (((ll : Int)) == 0) = false := by simp; omega
    have hcll : ¬ (ll : Int) = 0 := by omega
    go_enter Tryd.func38, Tryd.ntmps38
    go_wp2
    go_ret
    exact ⟨by simp [alo, hll], one_alloc _ _⟩
  subst hll
  go_enter Tryd.func38, Tryd.ntmps38
  go_wp2
  go_ret
  exact ⟨by simp [alo], one_alloc _ _⟩
set_option maxRecDepth 100000 in
set_option maxHeartbeats 1600000 in
theorem alone_6 (op n al of re : Int) (ba ea la : Option Addr) (lb bc le ec ll lc : Nat) (w : World) :
    Calls Tryd.prog 38 #[.agg #[.int .u8 op, .int .i64 n, .int .u32 al, .int .u32 of, .int .u8 re, .slice ba lb bc, .slice ea le ec, .slice la ll lc], .int .i64 6] w fun e w' => e = .returned (.bool (alo 6 n al of re lb le ll)) ∧ Below w.heap.size w w' := by
  by_cases hn : n = 0
  case neg =>
    have hbn : (((n : Int)) == 0) = false := by simp; omega
    have hcn : ¬ (n : Int) = 0 := by omega
    go_enter Tryd.func38, Tryd.ntmps38
    go_wp2
    go_ret
    exact ⟨by simp [alo, hn], one_alloc _ _⟩
  subst hn
  by_cases hal : al = 0
  case neg =>
    have hbal : (((al : Int)) == 0) = false := by simp; omega
    have hcal : ¬ (al : Int) = 0 := by omega
    go_enter Tryd.func38, Tryd.ntmps38
    go_wp2
    go_ret
    exact ⟨by simp [alo, hal], one_alloc _ _⟩
  subst hal
  by_cases hof : of = 0
  case neg =>
    have hbof : (((of : Int)) == 0) = false := by simp; omega
    have hcof : ¬ (of : Int) = 0 := by omega
    go_enter Tryd.func38, Tryd.ntmps38
    go_wp2
    go_ret
    exact ⟨by simp [alo, hof], one_alloc _ _⟩
  subst hof
  by_cases hle : le = 0
  case neg =>
    have hble : (((le : Int)) == 0) = false := by simp; omega
    have hcle : ¬ (le : Int) = 0 := by omega
    go_enter Tryd.func38, Tryd.ntmps38
    go_wp2
    go_ret
    exact ⟨by simp [alo, hle], one_alloc _ _⟩
  subst hle
  by_cases hll : ll = 0
  case neg =>
    have hbll : (((ll : Int)) == 0) = false := by simp; omega
    have hcll : ¬ (ll : Int) = 0 := by omega
    go_enter Tryd.func38, Tryd.ntmps38
    go_wp2
    go_ret
    exact ⟨by simp [alo, hll], one_alloc _ _⟩
  subst hll
  go_enter Tryd.func38, Tryd.ntmps38
  go_wp2
  go_ret
  exact ⟨by simp [alo], one_alloc _ _⟩
set_option maxRecDepth 100000 in
set_option maxHeartbeats 1600000 in
theorem alone_7 (op n al of re : Int) (ba ea la : Option Addr) (lb bc le ec ll lc : Nat) (w : World) :
    Calls Tryd.prog 38 #[.agg #[.int .u8 op, .int .i64 n, .int .u32 al, .int .u32 of, .int .u8 re, .slice ba lb bc, .slice ea le ec, .slice la ll lc], .int .i64 7] w fun e w' => e = .returned (.bool (alo 7 n al of re lb le ll)) ∧ Below w.heap.size w w' := by
  by_cases hn : n = 0
  case neg =>
    have hbn : (((n : Int)) == 0) = false := by simp; omega
    have hcn : ¬ (n : Int) = 0 := by omega
    go_enter Tryd.func38, Tryd.ntmps38
    go_wp2
    go_ret
    exact ⟨by simp [alo, hn], one_alloc _ _⟩
  subst hn
  by_cases hal : al = 0
  case neg =>
    have hbal : (((al : Int)) == 0) = false := by simp; omega
    have hcal : ¬ (al : Int) = 0 := by omega
    go_enter Tryd.func38, Tryd.ntmps38
    go_wp2
    go_ret
    exact ⟨by simp [alo, hal], one_alloc _ _⟩
  subst hal
  by_cases hof : of = 0
  case neg =>
    have hbof : (((of : Int)) == 0) = false := by simp; omega
    have hcof : ¬ (of : Int) = 0 := by omega
    go_enter Tryd.func38, Tryd.ntmps38
    go_wp2
    go_ret
    exact ⟨by simp [alo, hof], one_alloc _ _⟩
  subst hof
  by_cases hll : ll = 0
  case neg =>
    have hbll : (((ll : Int)) == 0) = false := by simp; omega
    have hcll : ¬ (ll : Int) = 0 := by omega
    go_enter Tryd.func38, Tryd.ntmps38
    go_wp2
    go_ret
    exact ⟨by simp [alo, hll], one_alloc _ _⟩
  subst hll
  go_enter Tryd.func38, Tryd.ntmps38
  go_wp2
  go_ret
  exact ⟨by simp [alo], one_alloc _ _⟩
set_option maxRecDepth 100000 in
set_option maxHeartbeats 1600000 in
theorem alone_8 (op n al of re : Int) (ba ea la : Option Addr) (lb bc le ec ll lc : Nat) (w : World) :
    Calls Tryd.prog 38 #[.agg #[.int .u8 op, .int .i64 n, .int .u32 al, .int .u32 of, .int .u8 re, .slice ba lb bc, .slice ea le ec, .slice la ll lc], .int .i64 8] w fun e w' => e = .returned (.bool (alo 8 n al of re lb le ll)) ∧ Below w.heap.size w w' := by
  by_cases hn : n = 0
  case neg =>
    have hbn : (((n : Int)) == 0) = false := by simp; omega
    have hcn : ¬ (n : Int) = 0 := by omega
    go_enter Tryd.func38, Tryd.ntmps38
    go_wp2
    go_ret
    exact ⟨by simp [alo, hn], one_alloc _ _⟩
  subst hn
  by_cases hal : al = 0
  case neg =>
    have hbal : (((al : Int)) == 0) = false := by simp; omega
    have hcal : ¬ (al : Int) = 0 := by omega
    go_enter Tryd.func38, Tryd.ntmps38
    go_wp2
    go_ret
    exact ⟨by simp [alo, hal], one_alloc _ _⟩
  subst hal
  by_cases hof : of = 0
  case neg =>
    have hbof : (((of : Int)) == 0) = false := by simp; omega
    have hcof : ¬ (of : Int) = 0 := by omega
    go_enter Tryd.func38, Tryd.ntmps38
    go_wp2
    go_ret
    exact ⟨by simp [alo, hof], one_alloc _ _⟩
  subst hof
  by_cases hre : re = 0
  case neg =>
    have hbre : (((re : Int)) == 0) = false := by simp; omega
    have hcre : ¬ (re : Int) = 0 := by omega
    go_enter Tryd.func38, Tryd.ntmps38
    go_wp2
    go_ret
    exact ⟨by simp [alo, hre], one_alloc _ _⟩
  subst hre
  by_cases hlb : lb = 0
  case neg =>
    have hblb : (((lb : Int)) == 0) = false := by simp; omega
    have hclb : ¬ (lb : Int) = 0 := by omega
    go_enter Tryd.func38, Tryd.ntmps38
    go_wp2
    go_ret
    exact ⟨by simp [alo, hlb], one_alloc _ _⟩
  subst hlb
  by_cases hle : le = 0
  case neg =>
    have hble : (((le : Int)) == 0) = false := by simp; omega
    have hcle : ¬ (le : Int) = 0 := by omega
    go_enter Tryd.func38, Tryd.ntmps38
    go_wp2
    go_ret
    exact ⟨by simp [alo, hle], one_alloc _ _⟩
  subst hle
  go_enter Tryd.func38, Tryd.ntmps38
  go_wp2
  go_ret
  exact ⟨by simp [alo], one_alloc _ _⟩
set_option maxRecDepth 100000 in
set_option maxHeartbeats 1600000 in
theorem alone_9 (op n al of re : Int) (ba ea la : Option Addr) (lb bc le ec ll lc : Nat) (w : World) :
    Calls Tryd.prog 38 #[.agg #[.int .u8 op, .int .i64 n, .int .u32 al, .int .u32 of, .int .u8 re, .slice ba lb bc, .slice ea le ec, .slice la ll lc], .int .i64 9] w fun e w' => e = .returned (.bool (alo 9 n al of re lb le ll)) ∧ Below w.heap.size w w' := by
  by_cases hal : al = 0
  case neg =>
    have hbal : (((al : Int)) == 0) = false := by simp; omega
    have hcal : ¬ (al : Int) = 0 := by omega
    go_enter Tryd.func38, Tryd.ntmps38
    go_wp2
    go_ret
    exact ⟨by simp [alo, hal], one_alloc _ _⟩
  subst hal
  by_cases hof : of = 0
  case neg =>
    have hbof : (((of : Int)) == 0) = false := by simp; omega
    have hcof : ¬ (of : Int) = 0 := by omega
    go_enter Tryd.func38, Tryd.ntmps38
    go_wp2
    go_ret
    exact ⟨by simp [alo, hof], one_alloc _ _⟩
  subst hof
  by_cases hre : re = 0
  case neg =>
    have hbre : (((re : Int)) == 0) = false := by simp; omega
    have hcre : ¬ (re : Int) = 0 := by omega
    go_enter Tryd.func38, Tryd.ntmps38
    go_wp2
    go_ret
    exact ⟨by simp [alo, hre], one_alloc _ _⟩
  subst hre
  by_cases hlb : lb = 0
  case neg =>
    have hblb : (((lb : Int)) == 0) = false := by simp; omega
    have hclb : ¬ (lb : Int) = 0 := by omega
    go_enter Tryd.func38, Tryd.ntmps38
    go_wp2
    go_ret
    exact ⟨by simp [alo, hlb], one_alloc _ _⟩
  subst hlb
  by_cases hle : le = 0
  case neg =>
    have hble : (((le : Int)) == 0) = false := by simp; omega
    have hcle : ¬ (le : Int) = 0 := by omega
    go_enter Tryd.func38, Tryd.ntmps38
    go_wp2
    go_ret
    exact ⟨by simp [alo, hle], one_alloc _ _⟩
  subst hle
  by_cases hll : ll = 0
  case neg =>
    have hbll : (((ll : Int)) == 0) = false := by simp; omega
    have hcll : ¬ (ll : Int) = 0 := by omega
    go_enter Tryd.func38, Tryd.ntmps38
    go_wp2
    go_ret
    exact ⟨by simp [alo, hll], one_alloc _ _⟩
  subst hll
  go_enter Tryd.func38, Tryd.ntmps38
  go_wp2
  go_ret
  exact ⟨by simp [alo], one_alloc _ _⟩
theorem alone_any (f : Int) (h0 : 0 ≤ f) (h9 : f ≤ 9) (op n al of re : Int) (ba ea la : Option Addr) (lb bc le ec ll lc : Nat) (w : World) :
    Calls Tryd.prog 38 #[.agg #[.int .u8 op, .int .i64 n, .int .u32 al, .int .u32 of, .int .u8 re, .slice ba lb bc, .slice ea le ec, .slice la ll lc], .int .i64 f] w fun e w' => e = .returned (.bool (alo f n al of re lb le ll)) ∧ Below w.heap.size w w' := by
  rcases (show f = 0 ∨ f = 1 ∨ f = 2 ∨ f = 3 ∨ f = 4 ∨ f = 5 ∨ f = 6 ∨ f = 7 ∨ f = 8 ∨ f = 9 from by omega) with rfl | rfl | rfl | rfl | rfl | rfl | rfl | rfl | rfl | rfl
  · exact alone_0 op n al of re ba ea la lb bc le ec ll lc w
  · exact alone_1 op n al of re ba ea la lb bc le ec ll lc w
  · exact alone_2 op n al of re ba ea la lb bc le ec ll lc w
  · exact alone_3 op n al of re ba ea la lb bc le ec ll lc w
  · exact alone_4 op n al of re ba ea la lb bc le ec ll lc w
  · exact alone_5 op n al of re ba ea la lb bc le ec ll lc w
  · exact alone_6 op n al of re ba ea la lb bc le ec ll lc w
  · exact alone_7 op n al of re ba ea la lb bc le ec ll lc w
  · exact alone_8 op n al of re ba ea la lb bc le ec ll lc w
  · exact alone_9 op n al of re ba ea la lb bc le ec ll lc w
end Ex
end Go.Proofs.YtjhmglefejclpaaDoor
