/-
  NARROWER THAN 'FOR EVERY INPUT', by the rows' own cells (each row's printed sentence says how): ExprEncodes: loops, laid · ExprDecodes: laid · ExprBack: loops, laid · ExprDeep: laid · ExprSame: loops, laid · ExprMany: laid.
  DERIVED. THE GIVEN ROWS OF THIS SEAT. 6 by the template 'for every input the law returns true; each argument reads behind the call as it read before'; 0 by the template 'total and deterministic' (their statements: YtjhmglefejclpaaDoorTotals.lean).
  GIVEN WITH THE SEED: the statements are not yours to turn. If you find one false, say at which input.
  Laid BY PROGRAM, IN A SANDBOX (cutbox-rows.mjs): the forced cells as the released guide's own fill.sh prints them over the translation 2d21bd016b138bf4… (all of the seat's roots in one cut). By AI agents, Wed Nov 11 2026. No macro, syntax, notation, axiom, sorry.
-/
import Derived.Test.YtjhmglefejclpaaDoorChecked
import GoSem.Claim
import GoSem.ClaimJoined
import GoSem.ClaimMapViews
import Derived.JoinedTies
import Derived.KernelRfl
namespace Go.Proofs.YtjhmglefejclpaaDoor
/- THE CELL 'sum', in the pinned program and in every row, IS THE sha256 OF THE DUMP (.gsa) THAT YtjhmglefejclpaaDoorProg.lean LOADS. Nothing in Lean hashes anything: it is a label: what it is worth is what the hold of that sum in a sandbox is worth. -/
noncomputable def Tryd.pinned : Pinned := { name := "ytjhmglefejclpaadoor", sum := "2d21bd016b138bf49f60b81f3864d9dfce56d8c622c0cbc50855c7c09e6bfc09", checked := Tryd.checked }
namespace Rows
def none {H : Type} : Left H := { results := [], args := [] }

/- WHAT THE LISTED PACKAGE-LEVEL VARIABLES READ AS WHEN THE CALL BEGINS. Each datum BY PROGRAM (the guide's laid-datum.mjs) off the statement by which the dump's own 'gosem.cut.vars' lays the variable. In a bare row this is a premise. The card (YtjhmglefejclpaaDoorCards.lean) ties it to the program's text. -/
def laid_errors_errorType {H : Type} : DataW H := .iface "internal/reflectlite.rtype" (.agg [.ptr (.lit (.string [101, 114, 114, 111, 114]))])
def laid_mandrel_ops_floats {H : Type} : DataW H := .agg [.agg [.lit (.int .u8 42), .lit (.int .u8 43)], .agg [.lit (.int .u8 56), .lit (.int .u8 57)], .agg [.lit (.int .u8 67), .lit (.int .u8 68)], .agg [.lit (.int .u8 91), .lit (.int .u8 102)], .agg [.lit (.int .u8 139), .lit (.int .u8 166)], .agg [.lit (.int .u8 168), .lit (.int .u8 171)], .agg [.lit (.int .u8 174), .lit (.int .u8 191)]]
def laid_mandrel_ops_families {H : Type} : DataW H := .agg [.agg [.lit (.int .u8 0), .lit (.int .u8 1), .lit (.int .i64 0), .lit (.int .u8 0), .lit (.int .u8 0), .lit (.int .u8 0)], .agg [.lit (.int .u8 2), .lit (.int .u8 3), .lit (.int .i64 6), .lit (.int .u8 0), .lit (.int .u8 0), .lit (.int .u8 0)], .agg [.lit (.int .u8 4), .lit (.int .u8 4), .lit (.int .i64 7), .lit (.int .u8 0), .lit (.int .u8 0), .lit (.int .u8 0)], .agg [.lit (.int .u8 12), .lit (.int .u8 13), .lit (.int .i64 3), .lit (.int .u8 0), .lit (.int .u8 0), .lit (.int .u8 0)], .agg [.lit (.int .u8 14), .lit (.int .u8 14), .lit (.int .i64 8), .lit (.int .u8 0), .lit (.int .u8 0), .lit (.int .u8 0)], .agg [.lit (.int .u8 15), .lit (.int .u8 15), .lit (.int .i64 0), .lit (.int .u8 0), .lit (.int .u8 0), .lit (.int .u8 0)], .agg [.lit (.int .u8 16), .lit (.int .u8 16), .lit (.int .i64 3), .lit (.int .u8 0), .lit (.int .u8 0), .lit (.int .u8 0)], .agg [.lit (.int .u8 17), .lit (.int .u8 17), .lit (.int .i64 9), .lit (.int .u8 0), .lit (.int .u8 0), .lit (.int .u8 0)], .agg [.lit (.int .u8 26), .lit (.int .u8 27), .lit (.int .i64 0), .lit (.int .u8 0), .lit (.int .u8 0), .lit (.int .u8 0)], .agg [.lit (.int .u8 32), .lit (.int .u8 36), .lit (.int .i64 3), .lit (.int .u8 0), .lit (.int .u8 0), .lit (.int .u8 0)], .agg [.lit (.int .u8 40), .lit (.int .u8 40), .lit (.int .i64 4), .lit (.int .u8 127), .lit (.int .u8 0), .lit (.int .u8 127)], .agg [.lit (.int .u8 41), .lit (.int .u8 41), .lit (.int .i64 4), .lit (.int .u8 127), .lit (.int .u8 0), .lit (.int .u8 126)], .agg [.lit (.int .u8 44), .lit (.int .u8 47), .lit (.int .i64 4), .lit (.int .u8 127), .lit (.int .u8 0), .lit (.int .u8 127)], .agg [.lit (.int .u8 48), .lit (.int .u8 53), .lit (.int .i64 4), .lit (.int .u8 127), .lit (.int .u8 0), .lit (.int .u8 126)], .agg [.lit (.int .u8 54), .lit (.int .u8 54), .lit (.int .i64 4), .lit (.int .u8 127), .lit (.int .u8 127), .lit (.int .u8 0)], .agg [.lit (.int .u8 55), .lit (.int .u8 55), .lit (.int .i64 4), .lit (.int .u8 127), .lit (.int .u8 126), .lit (.int .u8 0)], .agg [.lit (.int .u8 58), .lit (.int .u8 59), .lit (.int .i64 4), .lit (.int .u8 127), .lit (.int .u8 127), .lit (.int .u8 0)], .agg [.lit (.int .u8 60), .lit (.int .u8 62), .lit (.int .i64 4), .lit (.int .u8 127), .lit (.int .u8 126), .lit (.int .u8 0)], .agg [.lit (.int .u8 63), .lit (.int .u8 63), .lit (.int .i64 5), .lit (.int .u8 0), .lit (.int .u8 0), .lit (.int .u8 127)], .agg [.lit (.int .u8 64), .lit (.int .u8 64), .lit (.int .i64 5), .lit (.int .u8 127), .lit (.int .u8 0), .lit (.int .u8 127)], .agg [.lit (.int .u8 65), .lit (.int .u8 65), .lit (.int .i64 1), .lit (.int .u8 0), .lit (.int .u8 0), .lit (.int .u8 127)], .agg [.lit (.int .u8 66), .lit (.int .u8 66), .lit (.int .i64 2), .lit (.int .u8 0), .lit (.int .u8 0), .lit (.int .u8 126)], .agg [.lit (.int .u8 69), .lit (.int .u8 69), .lit (.int .i64 0), .lit (.int .u8 127), .lit (.int .u8 0), .lit (.int .u8 127)], .agg [.lit (.int .u8 70), .lit (.int .u8 79), .lit (.int .i64 0), .lit (.int .u8 127), .lit (.int .u8 127), .lit (.int .u8 127)], .agg [.lit (.int .u8 80), .lit (.int .u8 80), .lit (.int .i64 0), .lit (.int .u8 126), .lit (.int .u8 0), .lit (.int .u8 127)], .agg [.lit (.int .u8 81), .lit (.int .u8 90), .lit (.int .i64 0), .lit (.int .u8 126), .lit (.int .u8 126), .lit (.int .u8 127)], .agg [.lit (.int .u8 103), .lit (.int .u8 105), .lit (.int .i64 0), .lit (.int .u8 127), .lit (.int .u8 0), .lit (.int .u8 127)], .agg [.lit (.int .u8 106), .lit (.int .u8 120), .lit (.int .i64 0), .lit (.int .u8 127), .lit (.int .u8 127), .lit (.int .u8 127)], .agg [.lit (.int .u8 121), .lit (.int .u8 123), .lit (.int .i64 0), .lit (.int .u8 126), .lit (.int .u8 0), .lit (.int .u8 126)], .agg [.lit (.int .u8 124), .lit (.int .u8 138), .lit (.int .i64 0), .lit (.int .u8 126), .lit (.int .u8 126), .lit (.int .u8 126)], .agg [.lit (.int .u8 167), .lit (.int .u8 167), .lit (.int .i64 0), .lit (.int .u8 126), .lit (.int .u8 0), .lit (.int .u8 127)], .agg [.lit (.int .u8 172), .lit (.int .u8 173), .lit (.int .i64 0), .lit (.int .u8 127), .lit (.int .u8 0), .lit (.int .u8 126)]]

/-- 'mandrellaw05.ExprEncodes': WHATEVER THE INPUT: true; the input reads as it did. -/
def exprEncodesSpec : ChangeSpec := { name := "exprEncodes", fn := fun _ => fun
  | [d] => { results := [.lit (.bool true)], args := [d] }
  | _ => none }
def exprEncodesRow : OpenClaim := { program := "ytjhmglefejclpaadoor", sum := "2d21bd016b138bf49f60b81f3864d9dfce56d8c622c0cbc50855c7c09e6bfc09", func := "mandrel/mandrellaw05.ExprEncodes", spec := "exprEncodes", inPlace := ["internal/reflectlite.ValueOf", "(internal/reflectlite.Value).Type", "(internal/reflectlite.Value).IsNil", "internal/reflectlite.TypeOf", "(internal/reflectlite.Value).Elem", "(internal/reflectlite.Value).Set"], unfollowed := true, recurses := true, named := ["mandrel/ops.floats", "mandrel/ops.families", "errors.errorType"], loops := true, apart := false, laid := [("errors.errorType", laid_errors_errorType), ("mandrel/ops.floats", laid_mandrel_ops_floats), ("mandrel/ops.families", laid_mandrel_ops_families)] }
def ExprEncodesSaid : Prop := exprEncodesRow.holds Tryd.pinned (OpenSpec.ofChange exprEncodesSpec)

/-- ITS FALSE NEIGHBOUR: 'it returns false'. Refute it at one input. -/
def exprEncodesWrong : ChangeSpec := { name := "exprEncodes", fn := fun _ => fun
  | [d] => { results := [.lit (.bool false)], args := [d] }
  | _ => none }
def ExprEncodesWrongFalsely : Prop := exprEncodesRow.holds Tryd.pinned (OpenSpec.ofChange exprEncodesWrong)

/-- 'mandrellaw05.ExprDecodes': WHATEVER THE INPUT: true; the input reads as it did. -/
def exprDecodesSpec : ChangeSpec := { name := "exprDecodes", fn := fun _ => fun
  | [d] => { results := [.lit (.bool true)], args := [d] }
  | _ => none }
def exprDecodesRow : OpenClaim := { program := "ytjhmglefejclpaadoor", sum := "2d21bd016b138bf49f60b81f3864d9dfce56d8c622c0cbc50855c7c09e6bfc09", func := "mandrel/mandrellaw05.ExprDecodes", spec := "exprDecodes", inPlace := ["internal/reflectlite.ValueOf", "(internal/reflectlite.Value).Type", "(internal/reflectlite.Value).IsNil", "internal/reflectlite.TypeOf", "(internal/reflectlite.Value).Elem", "(internal/reflectlite.Value).Set"], unfollowed := true, recurses := true, named := ["mandrel/ops.floats", "mandrel/ops.families", "errors.errorType"], apart := false, laid := [("errors.errorType", laid_errors_errorType), ("mandrel/ops.floats", laid_mandrel_ops_floats), ("mandrel/ops.families", laid_mandrel_ops_families)] }
def ExprDecodesSaid : Prop := exprDecodesRow.holds Tryd.pinned (OpenSpec.ofChange exprDecodesSpec)

/-- ITS FALSE NEIGHBOUR: 'it returns false'. Refute it at one input. -/
def exprDecodesWrong : ChangeSpec := { name := "exprDecodes", fn := fun _ => fun
  | [d] => { results := [.lit (.bool false)], args := [d] }
  | _ => none }
def ExprDecodesWrongFalsely : Prop := exprDecodesRow.holds Tryd.pinned (OpenSpec.ofChange exprDecodesWrong)

/-- 'mandrellaw05.ExprBack': WHATEVER THE INPUT: true; the input reads as it did. -/
def exprBackSpec : ChangeSpec := { name := "exprBack", fn := fun _ => fun
  | [d1, d2, d3] => { results := [.lit (.bool true)], args := [d1, d2, d3] }
  | _ => none }
def exprBackRow : OpenClaim := { program := "ytjhmglefejclpaadoor", sum := "2d21bd016b138bf49f60b81f3864d9dfce56d8c622c0cbc50855c7c09e6bfc09", func := "mandrel/mandrellaw05.ExprBack", spec := "exprBack", inPlace := ["internal/reflectlite.ValueOf", "(internal/reflectlite.Value).Type", "(internal/reflectlite.Value).IsNil", "internal/reflectlite.TypeOf", "(internal/reflectlite.Value).Elem", "(internal/reflectlite.Value).Set"], unfollowed := true, recurses := true, named := ["mandrel/ops.floats", "mandrel/ops.families", "errors.errorType"], loops := true, apart := false, laid := [("errors.errorType", laid_errors_errorType), ("mandrel/ops.floats", laid_mandrel_ops_floats), ("mandrel/ops.families", laid_mandrel_ops_families)] }
def ExprBackSaid : Prop := exprBackRow.holds Tryd.pinned (OpenSpec.ofChange exprBackSpec)

/-- ITS FALSE NEIGHBOUR: 'it returns false'. Refute it at one input. -/
def exprBackWrong : ChangeSpec := { name := "exprBack", fn := fun _ => fun
  | [d1, d2, d3] => { results := [.lit (.bool false)], args := [d1, d2, d3] }
  | _ => none }
def ExprBackWrongFalsely : Prop := exprBackRow.holds Tryd.pinned (OpenSpec.ofChange exprBackWrong)

/-- 'mandrellaw05.ExprDeep': WHATEVER THE INPUT: true; the input reads as it did. -/
def exprDeepSpec : ChangeSpec := { name := "exprDeep", fn := fun _ => fun
  | [d1, d2] => { results := [.lit (.bool true)], args := [d1, d2] }
  | _ => none }
def exprDeepRow : OpenClaim := { program := "ytjhmglefejclpaadoor", sum := "2d21bd016b138bf49f60b81f3864d9dfce56d8c622c0cbc50855c7c09e6bfc09", func := "mandrel/mandrellaw05.ExprDeep", spec := "exprDeep", inPlace := ["internal/reflectlite.ValueOf", "(internal/reflectlite.Value).Type", "(internal/reflectlite.Value).IsNil", "internal/reflectlite.TypeOf", "(internal/reflectlite.Value).Elem", "(internal/reflectlite.Value).Set"], unfollowed := true, recurses := true, named := ["mandrel/ops.families", "mandrel/ops.floats", "errors.errorType"], apart := false, laid := [("errors.errorType", laid_errors_errorType), ("mandrel/ops.floats", laid_mandrel_ops_floats), ("mandrel/ops.families", laid_mandrel_ops_families)] }
def ExprDeepSaid : Prop := exprDeepRow.holds Tryd.pinned (OpenSpec.ofChange exprDeepSpec)

/-- ITS FALSE NEIGHBOUR: 'it returns false'. Refute it at one input. -/
def exprDeepWrong : ChangeSpec := { name := "exprDeep", fn := fun _ => fun
  | [d1, d2] => { results := [.lit (.bool false)], args := [d1, d2] }
  | _ => none }
def ExprDeepWrongFalsely : Prop := exprDeepRow.holds Tryd.pinned (OpenSpec.ofChange exprDeepWrong)

/-- 'mandrellaw05.ExprSame': WHATEVER THE INPUT: true; the input reads as it did. -/
def exprSameSpec : ChangeSpec := { name := "exprSame", fn := fun _ => fun
  | [d1, d2, d3] => { results := [.lit (.bool true)], args := [d1, d2, d3] }
  | _ => none }
def exprSameRow : OpenClaim := { program := "ytjhmglefejclpaadoor", sum := "2d21bd016b138bf49f60b81f3864d9dfce56d8c622c0cbc50855c7c09e6bfc09", func := "mandrel/mandrellaw05.ExprSame", spec := "exprSame", inPlace := ["internal/reflectlite.ValueOf", "(internal/reflectlite.Value).Type", "(internal/reflectlite.Value).IsNil", "internal/reflectlite.TypeOf", "(internal/reflectlite.Value).Elem", "(internal/reflectlite.Value).Set"], unfollowed := true, recurses := true, named := ["mandrel/ops.floats", "mandrel/ops.families", "errors.errorType"], loops := true, apart := false, laid := [("errors.errorType", laid_errors_errorType), ("mandrel/ops.floats", laid_mandrel_ops_floats), ("mandrel/ops.families", laid_mandrel_ops_families)] }
def ExprSameSaid : Prop := exprSameRow.holds Tryd.pinned (OpenSpec.ofChange exprSameSpec)

/-- ITS FALSE NEIGHBOUR: 'it returns false'. Refute it at one input. -/
def exprSameWrong : ChangeSpec := { name := "exprSame", fn := fun _ => fun
  | [d1, d2, d3] => { results := [.lit (.bool false)], args := [d1, d2, d3] }
  | _ => none }
def ExprSameWrongFalsely : Prop := exprSameRow.holds Tryd.pinned (OpenSpec.ofChange exprSameWrong)

/-- 'mandrellaw05.ExprMany': WHATEVER THE INPUT: true; the input reads as it did. -/
def exprManySpec : ChangeSpec := { name := "exprMany", fn := fun _ => fun
  | [d1, d2] => { results := [.lit (.bool true)], args := [d1, d2] }
  | _ => none }
def exprManyRow : OpenClaim := { program := "ytjhmglefejclpaadoor", sum := "2d21bd016b138bf49f60b81f3864d9dfce56d8c622c0cbc50855c7c09e6bfc09", func := "mandrel/mandrellaw05.ExprMany", spec := "exprMany", inPlace := ["internal/reflectlite.ValueOf", "(internal/reflectlite.Value).Type", "(internal/reflectlite.Value).IsNil", "internal/reflectlite.TypeOf", "(internal/reflectlite.Value).Elem", "(internal/reflectlite.Value).Set"], unfollowed := true, recurses := true, named := ["mandrel/ops.families", "mandrel/ops.floats", "errors.errorType"], apart := false, laid := [("errors.errorType", laid_errors_errorType), ("mandrel/ops.floats", laid_mandrel_ops_floats), ("mandrel/ops.families", laid_mandrel_ops_families)] }
def ExprManySaid : Prop := exprManyRow.holds Tryd.pinned (OpenSpec.ofChange exprManySpec)

/-- ITS FALSE NEIGHBOUR: 'it returns false'. Refute it at one input. -/
def exprManyWrong : ChangeSpec := { name := "exprMany", fn := fun _ => fun
  | [d1, d2] => { results := [.lit (.bool false)], args := [d1, d2] }
  | _ => none }
def ExprManyWrongFalsely : Prop := exprManyRow.holds Tryd.pinned (OpenSpec.ofChange exprManyWrong)

/- THE SECOND FORM. 'bulk': how many values and letters a reading holds, each counted each time it is reached (what is shared counts as often as it is met; a slice's spare places count too). A statement '..UptoSaid' is the law's where the arguments, and the package variables that the reading takes, are together of bulk at most 1048576: NARROWER than '..Said'. Prove '..Said' where nothing that the law and all that it calls make is longer than what came in: it says more and counts as full. Else prove '..UptoSaid'. A law counts once. -/
mutual
def uptoBulk {H : Type} : DataW H → Nat
  | .lit (.string bytes) => bytes.length + 1
  | .lit _ => 1
  | .nil => 1
  | .ptr d => uptoBulk d + 1
  | .slice elems spare => uptoBulkAll elems + uptoBulkAll spare + 1
  | .agg parts => uptoBulkAll parts + 1
  | .iface _ d => uptoBulk d + 1
  | .map entries => uptoBulkEntries entries + 1
  | .held _ => 1
def uptoBulkAll {H : Type} : List (DataW H) → Nat
  | [] => 0
  | d :: r => uptoBulk d + uptoBulkAll r
def uptoBulkEntries {H : Type} : List (Lit × DataW H) → Nat
  | [] => 0
  | x :: r => uptoBulkEntry x + uptoBulkEntries r
def uptoBulkEntry {H : Type} : Lit × DataW H → Nat
  | (.string bytes, d) => bytes.length + uptoBulk d + 1
  | (_, d) => uptoBulk d + 1
 end
def uptoSmall : (H : Type) → List (DataW H) → Bool := fun _ ds => decide (uptoBulkAll ds ≤ 1048576)
def OpenSpec.upto (s : _root_.Go.ChangeSpec) : _root_.Go.OpenSpec := { _root_.Go.OpenSpec.ofChange s with cond := some uptoSmall }

/-- 'mandrellaw05.ExprEncodes', WHERE WHAT IT READS IS OF BULK AT MOST 1048576: true; the input reads as it did. -/
def exprEncodesUptoRow : OpenClaim := { program := "ytjhmglefejclpaadoor", sum := "2d21bd016b138bf49f60b81f3864d9dfce56d8c622c0cbc50855c7c09e6bfc09", func := "mandrel/mandrellaw05.ExprEncodes", spec := "exprEncodes", inPlace := ["internal/reflectlite.ValueOf", "(internal/reflectlite.Value).Type", "(internal/reflectlite.Value).IsNil", "internal/reflectlite.TypeOf", "(internal/reflectlite.Value).Elem", "(internal/reflectlite.Value).Set"], unfollowed := true, recurses := true, named := ["mandrel/ops.floats", "mandrel/ops.families", "errors.errorType"], loops := true, apart := false, laid := [("errors.errorType", laid_errors_errorType), ("mandrel/ops.floats", laid_mandrel_ops_floats), ("mandrel/ops.families", laid_mandrel_ops_families)], narrowed := true }
def ExprEncodesUptoSaid : Prop := exprEncodesUptoRow.holds Tryd.pinned (OpenSpec.upto exprEncodesSpec)

/-- 'mandrellaw05.ExprDecodes', WHERE WHAT IT READS IS OF BULK AT MOST 1048576: true; the input reads as it did. -/
def exprDecodesUptoRow : OpenClaim := { program := "ytjhmglefejclpaadoor", sum := "2d21bd016b138bf49f60b81f3864d9dfce56d8c622c0cbc50855c7c09e6bfc09", func := "mandrel/mandrellaw05.ExprDecodes", spec := "exprDecodes", inPlace := ["internal/reflectlite.ValueOf", "(internal/reflectlite.Value).Type", "(internal/reflectlite.Value).IsNil", "internal/reflectlite.TypeOf", "(internal/reflectlite.Value).Elem", "(internal/reflectlite.Value).Set"], unfollowed := true, recurses := true, named := ["mandrel/ops.floats", "mandrel/ops.families", "errors.errorType"], apart := false, laid := [("errors.errorType", laid_errors_errorType), ("mandrel/ops.floats", laid_mandrel_ops_floats), ("mandrel/ops.families", laid_mandrel_ops_families)], narrowed := true }
def ExprDecodesUptoSaid : Prop := exprDecodesUptoRow.holds Tryd.pinned (OpenSpec.upto exprDecodesSpec)

/-- 'mandrellaw05.ExprBack', WHERE WHAT IT READS IS OF BULK AT MOST 1048576: true; the input reads as it did. -/
def exprBackUptoRow : OpenClaim := { program := "ytjhmglefejclpaadoor", sum := "2d21bd016b138bf49f60b81f3864d9dfce56d8c622c0cbc50855c7c09e6bfc09", func := "mandrel/mandrellaw05.ExprBack", spec := "exprBack", inPlace := ["internal/reflectlite.ValueOf", "(internal/reflectlite.Value).Type", "(internal/reflectlite.Value).IsNil", "internal/reflectlite.TypeOf", "(internal/reflectlite.Value).Elem", "(internal/reflectlite.Value).Set"], unfollowed := true, recurses := true, named := ["mandrel/ops.floats", "mandrel/ops.families", "errors.errorType"], loops := true, apart := false, laid := [("errors.errorType", laid_errors_errorType), ("mandrel/ops.floats", laid_mandrel_ops_floats), ("mandrel/ops.families", laid_mandrel_ops_families)], narrowed := true }
def ExprBackUptoSaid : Prop := exprBackUptoRow.holds Tryd.pinned (OpenSpec.upto exprBackSpec)

/-- 'mandrellaw05.ExprDeep', WHERE WHAT IT READS IS OF BULK AT MOST 1048576: true; the input reads as it did. -/
def exprDeepUptoRow : OpenClaim := { program := "ytjhmglefejclpaadoor", sum := "2d21bd016b138bf49f60b81f3864d9dfce56d8c622c0cbc50855c7c09e6bfc09", func := "mandrel/mandrellaw05.ExprDeep", spec := "exprDeep", inPlace := ["internal/reflectlite.ValueOf", "(internal/reflectlite.Value).Type", "(internal/reflectlite.Value).IsNil", "internal/reflectlite.TypeOf", "(internal/reflectlite.Value).Elem", "(internal/reflectlite.Value).Set"], unfollowed := true, recurses := true, named := ["mandrel/ops.families", "mandrel/ops.floats", "errors.errorType"], apart := false, laid := [("errors.errorType", laid_errors_errorType), ("mandrel/ops.floats", laid_mandrel_ops_floats), ("mandrel/ops.families", laid_mandrel_ops_families)], narrowed := true }
def ExprDeepUptoSaid : Prop := exprDeepUptoRow.holds Tryd.pinned (OpenSpec.upto exprDeepSpec)

/-- 'mandrellaw05.ExprSame', WHERE WHAT IT READS IS OF BULK AT MOST 1048576: true; the input reads as it did. -/
def exprSameUptoRow : OpenClaim := { program := "ytjhmglefejclpaadoor", sum := "2d21bd016b138bf49f60b81f3864d9dfce56d8c622c0cbc50855c7c09e6bfc09", func := "mandrel/mandrellaw05.ExprSame", spec := "exprSame", inPlace := ["internal/reflectlite.ValueOf", "(internal/reflectlite.Value).Type", "(internal/reflectlite.Value).IsNil", "internal/reflectlite.TypeOf", "(internal/reflectlite.Value).Elem", "(internal/reflectlite.Value).Set"], unfollowed := true, recurses := true, named := ["mandrel/ops.floats", "mandrel/ops.families", "errors.errorType"], loops := true, apart := false, laid := [("errors.errorType", laid_errors_errorType), ("mandrel/ops.floats", laid_mandrel_ops_floats), ("mandrel/ops.families", laid_mandrel_ops_families)], narrowed := true }
def ExprSameUptoSaid : Prop := exprSameUptoRow.holds Tryd.pinned (OpenSpec.upto exprSameSpec)

/-- 'mandrellaw05.ExprMany', WHERE WHAT IT READS IS OF BULK AT MOST 1048576: true; the input reads as it did. -/
def exprManyUptoRow : OpenClaim := { program := "ytjhmglefejclpaadoor", sum := "2d21bd016b138bf49f60b81f3864d9dfce56d8c622c0cbc50855c7c09e6bfc09", func := "mandrel/mandrellaw05.ExprMany", spec := "exprMany", inPlace := ["internal/reflectlite.ValueOf", "(internal/reflectlite.Value).Type", "(internal/reflectlite.Value).IsNil", "internal/reflectlite.TypeOf", "(internal/reflectlite.Value).Elem", "(internal/reflectlite.Value).Set"], unfollowed := true, recurses := true, named := ["mandrel/ops.families", "mandrel/ops.floats", "errors.errorType"], apart := false, laid := [("errors.errorType", laid_errors_errorType), ("mandrel/ops.floats", laid_mandrel_ops_floats), ("mandrel/ops.families", laid_mandrel_ops_families)], narrowed := true }
def ExprManyUptoSaid : Prop := exprManyUptoRow.holds Tryd.pinned (OpenSpec.upto exprManySpec)

end Rows
end Go.Proofs.YtjhmglefejclpaaDoor
