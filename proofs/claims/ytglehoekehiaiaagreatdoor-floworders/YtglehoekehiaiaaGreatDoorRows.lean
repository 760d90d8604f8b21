/-
  NARROWER THAN 'FOR EVERY INPUT', by the rows' own cells (each row's printed sentence says how): FlowOrders: laid · FlowTurns: laid.
  DERIVED. THE GIVEN ROWS OF THIS SEAT. 2 by the template 'for every input the law returns true; each argument reads behind the call as it read before'; 0 by the template 'total and deterministic' (their statements: YtglehoekehiaiaaGreatDoorTotals.lean).
  GIVEN WITH THE SEED: the statements are not yours to turn. If you find one false, say at which input.
  Laid BY PROGRAM, IN A SANDBOX (cutbox-rows.mjs): the forced cells as the released guide's own fill.sh prints them over the translation d0e778851cbeaa49… (all of the seat's roots in one cut). By AI agents, Wed Nov 11 2026. No macro, syntax, notation, axiom, sorry.
-/
import Derived.Test.YtglehoekehiaiaaGreatDoorChecked
import GoSem.Claim
import GoSem.ClaimJoined
import GoSem.ClaimMapViews
import Derived.JoinedTies
import Derived.KernelRfl
namespace Go.Proofs.YtglehoekehiaiaaGreatDoor
/- THE CELL 'sum', in the pinned program and in every row, IS THE sha256 OF THE DUMP (.gsa) THAT YtglehoekehiaiaaGreatDoorProg.lean LOADS. Nothing in Lean hashes anything: it is a label: what it is worth is what the hold of that sum in a sandbox is worth. -/
noncomputable def Tryz.pinned : Pinned := { name := "ytglehoekehiaiaagreatdoor", sum := "d0e778851cbeaa49465493a0cde27024472e97c220063be0b0434cc21c937f05", checked := Tryz.checked }
namespace Rows
def none {H : Type} : Left H := { results := [], args := [] }

/- WHAT THE LISTED PACKAGE-LEVEL VARIABLES READ AS WHEN THE CALL BEGINS. Each datum BY PROGRAM (the guide's laid-datum.mjs) off the statement by which the dump's own 'gosem.cut.vars' lays the variable. In a bare row this is a premise. The card (YtglehoekehiaiaaGreatDoorCards.lean) ties it to the program's text. -/
def laid_errors_errorType {H : Type} : DataW H := .iface "internal/reflectlite.rtype" (.agg [.ptr (.lit (.string [101, 114, 114, 111, 114]))])
def laid_mandrel_ops_families {H : Type} : DataW H := .agg [.agg [.lit (.int .u8 0), .lit (.int .u8 1), .lit (.int .i64 0), .lit (.int .u8 0), .lit (.int .u8 0), .lit (.int .u8 0)], .agg [.lit (.int .u8 2), .lit (.int .u8 3), .lit (.int .i64 6), .lit (.int .u8 0), .lit (.int .u8 0), .lit (.int .u8 0)], .agg [.lit (.int .u8 4), .lit (.int .u8 4), .lit (.int .i64 7), .lit (.int .u8 0), .lit (.int .u8 0), .lit (.int .u8 0)], .agg [.lit (.int .u8 12), .lit (.int .u8 13), .lit (.int .i64 3), .lit (.int .u8 0), .lit (.int .u8 0), .lit (.int .u8 0)], .agg [.lit (.int .u8 14), .lit (.int .u8 14), .lit (.int .i64 8), .lit (.int .u8 0), .lit (.int .u8 0), .lit (.int .u8 0)], .agg [.lit (.int .u8 15), .lit (.int .u8 15), .lit (.int .i64 0), .lit (.int .u8 0), .lit (.int .u8 0), .lit (.int .u8 0)], .agg [.lit (.int .u8 16), .lit (.int .u8 16), .lit (.int .i64 3), .lit (.int .u8 0), .lit (.int .u8 0), .lit (.int .u8 0)], .agg [.lit (.int .u8 17), .lit (.int .u8 17), .lit (.int .i64 9), .lit (.int .u8 0), .lit (.int .u8 0), .lit (.int .u8 0)], .agg [.lit (.int .u8 26), .lit (.int .u8 27), .lit (.int .i64 0), .lit (.int .u8 0), .lit (.int .u8 0), .lit (.int .u8 0)], .agg [.lit (.int .u8 32), .lit (.int .u8 36), .lit (.int .i64 3), .lit (.int .u8 0), .lit (.int .u8 0), .lit (.int .u8 0)], .agg [.lit (.int .u8 40), .lit (.int .u8 40), .lit (.int .i64 4), .lit (.int .u8 127), .lit (.int .u8 0), .lit (.int .u8 127)], .agg [.lit (.int .u8 41), .lit (.int .u8 41), .lit (.int .i64 4), .lit (.int .u8 127), .lit (.int .u8 0), .lit (.int .u8 126)], .agg [.lit (.int .u8 44), .lit (.int .u8 47), .lit (.int .i64 4), .lit (.int .u8 127), .lit (.int .u8 0), .lit (.int .u8 127)], .agg [.lit (.int .u8 48), .lit (.int .u8 53), .lit (.int .i64 4), .lit (.int .u8 127), .lit (.int .u8 0), .lit (.int .u8 126)], .agg [.lit (.int .u8 54), .lit (.int .u8 54), .lit (.int .i64 4), .lit (.int .u8 127), .lit (.int .u8 127), .lit (.int .u8 0)], .agg [.lit (.int .u8 55), .lit (.int .u8 55), .lit (.int .i64 4), .lit (.int .u8 127), .lit (.int .u8 126), .lit (.int .u8 0)], .agg [.lit (.int .u8 58), .lit (.int .u8 59), .lit (.int .i64 4), .lit (.int .u8 127), .lit (.int .u8 127), .lit (.int .u8 0)], .agg [.lit (.int .u8 60), .lit (.int .u8 62), .lit (.int .i64 4), .lit (.int .u8 127), .lit (.int .u8 126), .lit (.int .u8 0)], .agg [.lit (.int .u8 63), .lit (.int .u8 63), .lit (.int .i64 5), .lit (.int .u8 0), .lit (.int .u8 0), .lit (.int .u8 127)], .agg [.lit (.int .u8 64), .lit (.int .u8 64), .lit (.int .i64 5), .lit (.int .u8 127), .lit (.int .u8 0), .lit (.int .u8 127)], .agg [.lit (.int .u8 65), .lit (.int .u8 65), .lit (.int .i64 1), .lit (.int .u8 0), .lit (.int .u8 0), .lit (.int .u8 127)], .agg [.lit (.int .u8 66), .lit (.int .u8 66), .lit (.int .i64 2), .lit (.int .u8 0), .lit (.int .u8 0), .lit (.int .u8 126)], .agg [.lit (.int .u8 69), .lit (.int .u8 69), .lit (.int .i64 0), .lit (.int .u8 127), .lit (.int .u8 0), .lit (.int .u8 127)], .agg [.lit (.int .u8 70), .lit (.int .u8 79), .lit (.int .i64 0), .lit (.int .u8 127), .lit (.int .u8 127), .lit (.int .u8 127)], .agg [.lit (.int .u8 80), .lit (.int .u8 80), .lit (.int .i64 0), .lit (.int .u8 126), .lit (.int .u8 0), .lit (.int .u8 127)], .agg [.lit (.int .u8 81), .lit (.int .u8 90), .lit (.int .i64 0), .lit (.int .u8 126), .lit (.int .u8 126), .lit (.int .u8 127)], .agg [.lit (.int .u8 103), .lit (.int .u8 105), .lit (.int .i64 0), .lit (.int .u8 127), .lit (.int .u8 0), .lit (.int .u8 127)], .agg [.lit (.int .u8 106), .lit (.int .u8 120), .lit (.int .i64 0), .lit (.int .u8 127), .lit (.int .u8 127), .lit (.int .u8 127)], .agg [.lit (.int .u8 121), .lit (.int .u8 123), .lit (.int .i64 0), .lit (.int .u8 126), .lit (.int .u8 0), .lit (.int .u8 126)], .agg [.lit (.int .u8 124), .lit (.int .u8 138), .lit (.int .i64 0), .lit (.int .u8 126), .lit (.int .u8 126), .lit (.int .u8 126)], .agg [.lit (.int .u8 167), .lit (.int .u8 167), .lit (.int .i64 0), .lit (.int .u8 126), .lit (.int .u8 0), .lit (.int .u8 127)], .agg [.lit (.int .u8 172), .lit (.int .u8 173), .lit (.int .i64 0), .lit (.int .u8 127), .lit (.int .u8 0), .lit (.int .u8 126)]]

/-- 'mandrellaw14.FlowOrders': WHATEVER THE INPUT: true; the input reads as it did. -/
def flowOrdersSpec : ChangeSpec := { name := "flowOrders", fn := fun _ => fun
  | [d] => { results := [.lit (.bool true)], args := [d] }
  | _ => none }
def flowOrdersRow : OpenClaim := { program := "ytglehoekehiaiaagreatdoor", sum := "d0e778851cbeaa49465493a0cde27024472e97c220063be0b0434cc21c937f05", func := "mandrel/mandrellaw14.FlowOrders", spec := "flowOrders", inPlace := ["internal/reflectlite.ValueOf", "(internal/reflectlite.Value).Type", "(internal/reflectlite.Value).IsNil", "internal/reflectlite.TypeOf", "(internal/reflectlite.Value).Elem", "(internal/reflectlite.Value).Set"], unfollowed := true, recurses := true, named := ["mandrel/ops.families", "errors.errorType"], apart := false, laid := [("errors.errorType", laid_errors_errorType), ("mandrel/ops.families", laid_mandrel_ops_families)] }
def FlowOrdersSaid : Prop := flowOrdersRow.holds Tryz.pinned (OpenSpec.ofChange flowOrdersSpec)

/-- ITS FALSE NEIGHBOUR: 'it returns false'. Refute it at one input. -/
def flowOrdersWrong : ChangeSpec := { name := "flowOrders", fn := fun _ => fun
  | [d] => { results := [.lit (.bool false)], args := [d] }
  | _ => none }
def FlowOrdersWrongFalsely : Prop := flowOrdersRow.holds Tryz.pinned (OpenSpec.ofChange flowOrdersWrong)

/-- 'mandrellaw14.FlowTurns': WHATEVER THE INPUT: true; the input reads as it did. -/
def flowTurnsSpec : ChangeSpec := { name := "flowTurns", fn := fun _ => fun
  | [d] => { results := [.lit (.bool true)], args := [d] }
  | _ => none }
def flowTurnsRow : OpenClaim := { program := "ytglehoekehiaiaagreatdoor", sum := "d0e778851cbeaa49465493a0cde27024472e97c220063be0b0434cc21c937f05", func := "mandrel/mandrellaw14.FlowTurns", spec := "flowTurns", inPlace := ["internal/reflectlite.ValueOf", "(internal/reflectlite.Value).Type", "(internal/reflectlite.Value).IsNil", "internal/reflectlite.TypeOf", "(internal/reflectlite.Value).Elem", "(internal/reflectlite.Value).Set"], unfollowed := true, recurses := true, named := ["mandrel/ops.families", "errors.errorType"], apart := false, laid := [("errors.errorType", laid_errors_errorType), ("mandrel/ops.families", laid_mandrel_ops_families)] }
def FlowTurnsSaid : Prop := flowTurnsRow.holds Tryz.pinned (OpenSpec.ofChange flowTurnsSpec)

/-- ITS FALSE NEIGHBOUR: 'it returns false'. Refute it at one input. -/
def flowTurnsWrong : ChangeSpec := { name := "flowTurns", fn := fun _ => fun
  | [d] => { results := [.lit (.bool false)], args := [d] }
  | _ => none }
def FlowTurnsWrongFalsely : Prop := flowTurnsRow.holds Tryz.pinned (OpenSpec.ofChange flowTurnsWrong)

/- THE SECOND FORM. 'bulk': how many values and letters a reading holds, each counted each time it is reached (what is shared counts as often as it is met; a slice's spare places count too). A statement '..UptoSaid' is the law's where the arguments, and the package variables that the reading takes, are together of bulk at most 1048576: NARROWER than '..Said'. Prove '..Said' where nothing that the law and all that it calls make is longer than what came in: it says more and counts as full. Else prove '..UptoSaid'. A law counts once. -/
mutual
def uptoBulk {H : Type} : DataW H → Nat
  | .lit (.string bytes) => bytes.length + 1
  | .lit _ => 1
  | .nil => 1
  | .ptr d => uptoBulk d + 1
  | .slice elems spare => uptoBulkAll elems + uptoBulkAll spare + 1
  | .agg parts => uptoBulkAll parts + 1
  | .iface _ d => uptoBulk d + 1
  | .map entries => uptoBulkEntries entries + 1
  | .held _ => 1
def uptoBulkAll {H : Type} : List (DataW H) → Nat
  | [] => 0
  | d :: r => uptoBulk d + uptoBulkAll r
def uptoBulkEntries {H : Type} : List (Lit × DataW H) → Nat
  | [] => 0
  | x :: r => uptoBulkEntry x + uptoBulkEntries r
def uptoBulkEntry {H : Type} : Lit × DataW H → Nat
  | (.string bytes, d) => bytes.length + uptoBulk d + 1
  | (_, d) => uptoBulk d + 1
 end
def uptoSmall : (H : Type) → List (DataW H) → Bool := fun _ ds => decide (uptoBulkAll ds ≤ 1048576)
def OpenSpec.upto (s : _root_.Go.ChangeSpec) : _root_.Go.OpenSpec := { _root_.Go.OpenSpec.ofChange s with cond := some uptoSmall }

/-- 'mandrellaw14.FlowOrders', WHERE WHAT IT READS IS OF BULK AT MOST 1048576: true; the input reads as it did. -/
def flowOrdersUptoRow : OpenClaim := { program := "ytglehoekehiaiaagreatdoor", sum := "d0e778851cbeaa49465493a0cde27024472e97c220063be0b0434cc21c937f05", func := "mandrel/mandrellaw14.FlowOrders", spec := "flowOrders", inPlace := ["internal/reflectlite.ValueOf", "(internal/reflectlite.Value).Type", "(internal/reflectlite.Value).IsNil", "internal/reflectlite.TypeOf", "(internal/reflectlite.Value).Elem", "(internal/reflectlite.Value).Set"], unfollowed := true, recurses := true, named := ["mandrel/ops.families", "errors.errorType"], apart := false, laid := [("errors.errorType", laid_errors_errorType), ("mandrel/ops.families", laid_mandrel_ops_families)], narrowed := true }
def FlowOrdersUptoSaid : Prop := flowOrdersUptoRow.holds Tryz.pinned (OpenSpec.upto flowOrdersSpec)

/-- 'mandrellaw14.FlowTurns', WHERE WHAT IT READS IS OF BULK AT MOST 1048576: true; the input reads as it did. -/
def flowTurnsUptoRow : OpenClaim := { program := "ytglehoekehiaiaagreatdoor", sum := "d0e778851cbeaa49465493a0cde27024472e97c220063be0b0434cc21c937f05", func := "mandrel/mandrellaw14.FlowTurns", spec := "flowTurns", inPlace := ["internal/reflectlite.ValueOf", "(internal/reflectlite.Value).Type", "(internal/reflectlite.Value).IsNil", "internal/reflectlite.TypeOf", "(internal/reflectlite.Value).Elem", "(internal/reflectlite.Value).Set"], unfollowed := true, recurses := true, named := ["mandrel/ops.families", "errors.errorType"], apart := false, laid := [("errors.errorType", laid_errors_errorType), ("mandrel/ops.families", laid_mandrel_ops_families)], narrowed := true }
def FlowTurnsUptoSaid : Prop := flowTurnsUptoRow.holds Tryz.pinned (OpenSpec.upto flowTurnsSpec)

end Rows
end Go.Proofs.YtglehoekehiaiaaGreatDoor
