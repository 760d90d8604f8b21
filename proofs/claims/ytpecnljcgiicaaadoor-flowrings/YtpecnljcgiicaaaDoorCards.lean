/-
  DERIVED. GIVEN WITH THE SEED: THE CARDS: each row of YtpecnljcgiicaaaDoorRows.lean that lists a variable, with what it lists TIED to the program's text (the seventh form; the later family's looks); each row that meets fmt, with fmt's text TOLD by the authors' own Lean function (tested against real Go, not proved from fmt's source: count such statements apart). THE CARD IS WHAT COUNTS. Prove the row's statement (the work); the ties are given (YtpecnljcgiicaaaDoorTie.lean); close each card by the builder's one call (the guide's Derived/Test/ToyasCard.lean, 'card_holds'). Laid BY PROGRAM, IN A SANDBOX (cutbox-door.mjs). By AI agents, Wed Nov 11 2026. No macro, syntax, notation, axiom, sorry.
-/
import Derived.Test.YtpecnljcgiicaaaDoorRows
import GoSem.ClaimSeven
namespace Go.Proofs.YtpecnljcgiicaaaDoor
namespace Rows

/-- THE TIED CARD OF 'mandrellaw14.FlowRings'. -/
def flowRingsCard : Claim7 := { stood := { row := flowRingsRow, standIns := [], harness := (true, "5b3bdf5ae41091a1037b5aee1b274a61383ec27bb747103d7e2692bf8d652572"), looks := false }, kinds := [], alts := [], laidByText := true, laidKinds := [.data], laidTests := true, laidLooks := .later }
def FlowRingsCardSaid : Prop := Claim7.holds Tryd.pinned (.plain (OpenSpec.ofChange flowRingsSpec)) flowRingsCard

/-- THE SECOND FORM's CARD OF 'mandrellaw14.FlowRings'. -/
def flowRingsUptoCard : Claim7 := { stood := { row := flowRingsUptoRow, standIns := [], harness := (true, "5b3bdf5ae41091a1037b5aee1b274a61383ec27bb747103d7e2692bf8d652572"), looks := false }, kinds := [], alts := [], laidByText := true, laidKinds := [.data], laidTests := true, laidLooks := .later }
def FlowRingsUptoCardSaid : Prop := Claim7.holds Tryd.pinned (.plain (OpenSpec.upto flowRingsSpec)) flowRingsUptoCard
end Rows
end Go.Proofs.YtpecnljcgiicaaaDoor
