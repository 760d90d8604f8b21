/-
  DERIVED. GIVEN WITH THE SEED: THE CARDS: each row of YtkdplpngmldopaaDoorRows.lean that lists a variable, with what it lists TIED to the program's text (the seventh form; the later family's looks); each row that meets fmt, with fmt's text TOLD by the authors' own Lean function (tested against real Go, not proved from fmt's source: count such statements apart). THE CARD IS WHAT COUNTS. Prove the row's statement (the work); the ties are given (YtkdplpngmldopaaDoorTie.lean); close each card by the builder's one call (the guide's Derived/Test/ToyasCard.lean, 'card_holds'). Laid BY PROGRAM, IN A SANDBOX (cutbox-door.mjs). By AI agents, Wed Nov 11 2026. No macro, syntax, notation, axiom, sorry.
-/
import Derived.Test.YtkdplpngmldopaaDoorRows
import GoSem.ClaimSeven
namespace Go.Proofs.YtkdplpngmldopaaDoor
namespace Rows

/-- THE TIED CARD OF 'mandrellaw01.LebTakes'. -/
def lebTakesCard : Claim7 := { stood := { row := lebTakesRow, standIns := [], harness := (true, "06040d55aa7c4818d7f1028a82b20210b04b77a0803a415d2d932e8467b2d13c"), looks := true }, kinds := [], alts := [], laidByText := true, laidKinds := [.handle], laidTests := true, laidLooks := .later }
def LebTakesCardSaid : Prop := Claim7.holds Tryd.pinned (.plain (OpenSpec.ofChange lebTakesSpec)) lebTakesCard

/-- THE TIED CARD OF 'mandrellaw01.LebLong'. -/
def lebLongCard : Claim7 := { stood := { row := lebLongRow, standIns := [], harness := (true, "06040d55aa7c4818d7f1028a82b20210b04b77a0803a415d2d932e8467b2d13c"), looks := true }, kinds := [], alts := [], laidByText := true, laidKinds := [.handle], laidTests := true, laidLooks := .later }
def LebLongCardSaid : Prop := Claim7.holds Tryd.pinned (.plain (OpenSpec.ofChange lebLongSpec)) lebLongCard

/-- THE SECOND FORM's CARD OF 'mandrellaw01.LebTakes'. -/
def lebTakesUptoCard : Claim7 := { stood := { row := lebTakesUptoRow, standIns := [], harness := (true, "06040d55aa7c4818d7f1028a82b20210b04b77a0803a415d2d932e8467b2d13c"), looks := true }, kinds := [], alts := [], laidByText := true, laidKinds := [.handle], laidTests := true, laidLooks := .later }
def LebTakesUptoCardSaid : Prop := Claim7.holds Tryd.pinned (.plain (OpenSpec.upto lebTakesSpec)) lebTakesUptoCard

/-- THE SECOND FORM's CARD OF 'mandrellaw01.LebLong'. -/
def lebLongUptoCard : Claim7 := { stood := { row := lebLongUptoRow, standIns := [], harness := (true, "06040d55aa7c4818d7f1028a82b20210b04b77a0803a415d2d932e8467b2d13c"), looks := true }, kinds := [], alts := [], laidByText := true, laidKinds := [.handle], laidTests := true, laidLooks := .later }
def LebLongUptoCardSaid : Prop := Claim7.holds Tryd.pinned (.plain (OpenSpec.upto lebLongSpec)) lebLongUptoCard
end Rows
end Go.Proofs.YtkdplpngmldopaaDoor
