/- ops.Form, family's params. -/
import Derived.Test.YtjhmglefejclpaaDoorOpE
namespace Go.Proofs.YtjhmglefejclpaaDoor
open Go.RowKit
set_option linter.unusedVariables false

theorem infoK : (Tryd.prog.info? 47).map (fun i => (i.zero, i.size, i.bytes)) = some (some (.int .u8 0), 1, 1) := by kernel_rfl

def formR (o : Option Fam) : Value := match o with
  | some x => .tuple #[.int .i64 x.o, errV 0]
  | none => .tuple #[.int .i64 0, errV 1]

set_option maxRecDepth 100000 in
set_option maxHeartbeats 1600000 in
theorem form_any (n : Nat) (hn : n < 256) (w : World) (hT : TC w 2 fmV) :
    Calls Tryd.prog 52 #[.int .u8 n] w fun e w' => e = .returned (formR (fam n)) ∧ Below w.heap.size w w' := by
  have hf := family_any n hn w hT
  cases hx : fam n with
  | none =>
    rw [hx] at hf
    simp only [famR, errV_1] at hf
    simp only [formR, errV_1]
    have HF := hide hf; clear hf hx hT
    go_enter Tryd.func52, Tryd.ntmps52
    go_wp2_with fail
    refine (unhide HF).mono ?_
    rintro e w1 ⟨rfl, hb⟩
    have HB := hide hb; clear hb
    go_wp2
    go_ret2
    exact ⟨rfl, (unhide HB).alloc (unhide HB).size _⟩
  | some x =>
    rw [hx] at hf
    obtain ⟨a, b, o, y, z, g⟩ := x
    simp only [famR, errV_0] at hf
    simp only [formR, errV_0]
    have HF := hide hf; clear hf hx hT
    go_enter Tryd.func52, Tryd.ntmps52
    go_wp2_with fail
    refine (unhide HF).mono ?_
    rintro e w1 ⟨rfl, hb⟩
    have HB := hide hb; clear hb
    go_wp2
    go_ret2
    exact ⟨rfl, (unhide HB).alloc (unhide HB).size _⟩
end Go.Proofs.YtjhmglefejclpaaDoor
