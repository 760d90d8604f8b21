/- The document's has and Kind. -/
import Derived.Test.YtheopjcmhclgdaaGreatDoorRfA
namespace Go.Proofs.YtheopjcmhclgdaaGreatDoor
open Go.RowKit
set_option linter.unusedVariables false

/-- does a text begin with another one? -/
def hasF (l b : List UInt8) : Bool := decide (b.length ≤ l.length) && (l.take b.length == b)
set_option maxRecDepth 100000 in
set_option maxHeartbeats 1600000 in
theorem hasr_any (l b : List UInt8) (w : World) (hl : l.length < 1000) (hb : b.length < 1000) :
    Calls Tryz.prog 74 #[.string (str l), .string (str b)] w fun e w' => e = .returned (.bool (hasF l b)) ∧ w = w' := by
  have hz := str_size l
  have hy := str_size b
  generalize hs : str l = s at *
  generalize hq : str b = q at *
  have HS := hide (And.intro hs hq); clear hs hq
  by_cases h2 : b.length ≤ l.length
  · have h3 : (q.size : Int) ≤ (s.size : Int) := by omega
    have h4 : s.size < 1000 := by omega
    have h5 : q.size < 1000 := by omega
    have HZ := hide (And.intro hz hy); clear hz hy hl hb
    have H2 := hide h2; clear h2
    go_enter Tryz.func74, Tryz.ntmps74
    go_wp2
    go_ret
    refine ⟨ret_bool ?_, rfl⟩
    have e1 := (unhide HZ).2
    rw [e1]
    rw [← (unhide HS).1, ← (unhide HS).2, str_extract, str_toList, str_toList]
    unfold hasF
    simp [unhide H2]
  · have h3 : ¬ (q.size : Int) ≤ (s.size : Int) := by omega
    have e : hasF l b = false := by unfold hasF; simp [h2]
    rw [e]
    clear hz hy hl hb h2
    go_enter Tryz.func74, Tryz.ntmps74
    go_wp2
    go_ret
    exact ⟨rfl, rfl⟩
def kindF (l : List UInt8) : Int := if hasF l [105, 54, 52, 46] = true then 126 else 127
set_option maxRecDepth 100000 in
set_option maxHeartbeats 1600000 in
theorem kindr_any (l : List UInt8) (w : World) (hl : l.length < 1000) :
    Calls Tryz.prog 82 #[.string (str l)] w fun e w' => e = .returned (.int .u8 (kindF l)) ∧ w = w' := by
  have hc := hasr_any l [105, 54, 52, 46] w hl (by decide)
  unfold kindF
  generalize hasF l [105, 54, 52, 46] = b at *
  have HC := hide hc; clear hc
  generalize str l = s at *
  cases b
  all_goals
    go_enter Tryz.func82, Tryz.ntmps82
    go_wp2_with fail
    refine (unhide HC).mono ?_
    rintro e w1 ⟨rfl, rfl⟩
    go_wp2
    go_ret
    exact ⟨rfl, rfl⟩
end Go.Proofs.YtheopjcmhclgdaaGreatDoor
