/-
  DERIVED. GIVEN WITH THE SEED: THE CARDS: each row of YtheopjcmhclgdaaGreatDoorRows.lean that lists a variable, with what it lists TIED to the program's text (the seventh form; the later family's looks); each row that meets fmt, with fmt's text TOLD by the authors' own Lean function (tested against real Go, not proved from fmt's source: count such statements apart). THE CARD IS WHAT COUNTS. Prove the row's statement (the work); the ties are given (YtheopjcmhclgdaaGreatDoorTie.lean); close each card by the builder's one call (the guide's Derived/Test/ToyasCard.lean, 'card_holds'). Laid BY PROGRAM, IN A SANDBOX (cutbox-door.mjs). By AI agents, Wed Nov 11 2026. No macro, syntax, notation, axiom, sorry.
-/
import Derived.Test.YtheopjcmhclgdaaGreatDoorRows
import GoSem.ClaimSeven
namespace Go.Proofs.YtheopjcmhclgdaaGreatDoor
namespace Rows

/-- THE TIED CARD OF 'mandrellaw11.VcodeFits'. -/
def vcodeFitsCard : Claim7 := { stood := { row := vcodeFitsRow, standIns := [], harness := (true, "f1e96cee5cff30b1179d4e84f6b74edaac8ee3dc7703e6c42ac81a5675a5f842"), looks := true }, kinds := [], alts := [], laidByText := true, laidKinds := [.data, .data, .data, .handle, .data, .data, .data, .data], laidTests := true, laidLooks := .later }
def VcodeFitsCardSaid : Prop := Claim7.holds Tryz.pinned (.plain (OpenSpec.ofChange vcodeFitsSpec)) vcodeFitsCard

/-- THE SECOND FORM's CARD OF 'mandrellaw11.VcodeFits'. -/
def vcodeFitsUptoCard : Claim7 := { stood := { row := vcodeFitsUptoRow, standIns := [], harness := (true, "f1e96cee5cff30b1179d4e84f6b74edaac8ee3dc7703e6c42ac81a5675a5f842"), looks := true }, kinds := [], alts := [], laidByText := true, laidKinds := [.data, .data, .data, .handle, .data, .data, .data, .data], laidTests := true, laidLooks := .later }
def VcodeFitsUptoCardSaid : Prop := Claim7.holds Tryz.pinned (.plain (OpenSpec.upto vcodeFitsSpec)) vcodeFitsUptoCard
end Rows
end Go.Proofs.YtheopjcmhclgdaaGreatDoor
