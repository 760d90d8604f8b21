/-
  DERIVED. GIVEN WITH THE SEED: THE CARDS: each row of YtcljcnaglkbjcaaGreatDoorRows.lean that lists a variable, with what it lists TIED to the program's text (the seventh form; the later family's looks); each row that meets fmt, with fmt's text TOLD by the authors' own Lean function (tested against real Go, not proved from fmt's source: count such statements apart). THE CARD IS WHAT COUNTS. Prove the row's statement (the work); the ties are given (YtcljcnaglkbjcaaGreatDoorTie.lean); close each card by the builder's one call (the guide's Derived/Test/ToyasCard.lean, 'card_holds'). Laid BY PROGRAM, IN A SANDBOX (cutbox-door.mjs). By AI agents, Wed Nov 11 2026. No macro, syntax, notation, axiom, sorry.
-/
import Derived.Test.YtcljcnaglkbjcaaGreatDoorRows
import GoSem.ClaimSeven
namespace Go.Proofs.YtcljcnaglkbjcaaGreatDoor
namespace Rows

/-- THE TIED CARD OF 'mandrellaw09.InstNews'. -/
def instNewsCard : Claim7 := { stood := { row := instNewsRow, standIns := [], harness := (true, "bfe7aac2c9becdb5d42afb2eaca302fe2135cc12197af508d967e031dd1f500a"), looks := true }, kinds := [], alts := [], laidByText := true, laidKinds := [.handle, .data, .data, .data, .data, .data], laidTests := true, laidLooks := .later }
def InstNewsCardSaid : Prop := Claim7.holds Tryz.pinned (.plain (OpenSpec.ofChange instNewsSpec)) instNewsCard

/-- THE TIED CARD OF 'mandrellaw09.InstCalls'. -/
def instCallsCard : Claim7 := { stood := { row := instCallsRow, standIns := [], harness := (true, "bfe7aac2c9becdb5d42afb2eaca302fe2135cc12197af508d967e031dd1f500a"), looks := true }, kinds := [], alts := [], laidByText := true, laidKinds := [.handle, .data, .data, .data, .data, .data], laidTests := true, laidLooks := .later }
def InstCallsCardSaid : Prop := Claim7.holds Tryz.pinned (.plain (OpenSpec.ofChange instCallsSpec)) instCallsCard

/-- THE TIED CARD OF 'mandrellaw09.InstBytes'. -/
def instBytesCard : Claim7 := { stood := { row := instBytesRow, standIns := [], harness := (true, "bfe7aac2c9becdb5d42afb2eaca302fe2135cc12197af508d967e031dd1f500a"), looks := true }, kinds := [], alts := [], laidByText := true, laidKinds := [.handle, .data, .data, .data, .data, .data], laidTests := true, laidLooks := .later }
def InstBytesCardSaid : Prop := Claim7.holds Tryz.pinned (.plain (OpenSpec.ofChange instBytesSpec)) instBytesCard

/-- THE TIED CARD OF 'mandrellaw09.InstPicks'. -/
def instPicksCard : Claim7 := { stood := { row := instPicksRow, standIns := [], harness := (true, "bfe7aac2c9becdb5d42afb2eaca302fe2135cc12197af508d967e031dd1f500a"), looks := true }, kinds := [], alts := [], laidByText := true, laidKinds := [.handle, .data, .data, .data, .data, .data], laidTests := true, laidLooks := .later }
def InstPicksCardSaid : Prop := Claim7.holds Tryz.pinned (.plain (OpenSpec.ofChange instPicksSpec)) instPicksCard

/-- THE TIED CARD OF 'mandrellaw09.InstSame'. -/
def instSameCard : Claim7 := { stood := { row := instSameRow, standIns := [], harness := (true, "bfe7aac2c9becdb5d42afb2eaca302fe2135cc12197af508d967e031dd1f500a"), looks := true }, kinds := [], alts := [], laidByText := true, laidKinds := [.handle, .data, .data, .data, .data, .data], laidTests := true, laidLooks := .later }
def InstSameCardSaid : Prop := Claim7.holds Tryz.pinned (.plain (OpenSpec.ofChange instSameSpec)) instSameCard

/-- THE TIED CARD OF 'mandrellaw09.InstSigns'. -/
def instSignsCard : Claim7 := { stood := { row := instSignsRow, standIns := [], harness := (true, "bfe7aac2c9becdb5d42afb2eaca302fe2135cc12197af508d967e031dd1f500a"), looks := true }, kinds := [], alts := [], laidByText := true, laidKinds := [.handle, .data, .data, .data, .data, .data], laidTests := true, laidLooks := .later }
def InstSignsCardSaid : Prop := Claim7.holds Tryz.pinned (.plain (OpenSpec.ofChange instSignsSpec)) instSignsCard

/-- THE SECOND FORM's CARD OF 'mandrellaw09.InstNews'. -/
def instNewsUptoCard : Claim7 := { stood := { row := instNewsUptoRow, standIns := [], harness := (true, "bfe7aac2c9becdb5d42afb2eaca302fe2135cc12197af508d967e031dd1f500a"), looks := true }, kinds := [], alts := [], laidByText := true, laidKinds := [.handle, .data, .data, .data, .data, .data], laidTests := true, laidLooks := .later }
def InstNewsUptoCardSaid : Prop := Claim7.holds Tryz.pinned (.plain (OpenSpec.upto instNewsSpec)) instNewsUptoCard

/-- THE SECOND FORM's CARD OF 'mandrellaw09.InstCalls'. -/
def instCallsUptoCard : Claim7 := { stood := { row := instCallsUptoRow, standIns := [], harness := (true, "bfe7aac2c9becdb5d42afb2eaca302fe2135cc12197af508d967e031dd1f500a"), looks := true }, kinds := [], alts := [], laidByText := true, laidKinds := [.handle, .data, .data, .data, .data, .data], laidTests := true, laidLooks := .later }
def InstCallsUptoCardSaid : Prop := Claim7.holds Tryz.pinned (.plain (OpenSpec.upto instCallsSpec)) instCallsUptoCard

/-- THE SECOND FORM's CARD OF 'mandrellaw09.InstBytes'. -/
def instBytesUptoCard : Claim7 := { stood := { row := instBytesUptoRow, standIns := [], harness := (true, "bfe7aac2c9becdb5d42afb2eaca302fe2135cc12197af508d967e031dd1f500a"), looks := true }, kinds := [], alts := [], laidByText := true, laidKinds := [.handle, .data, .data, .data, .data, .data], laidTests := true, laidLooks := .later }
def InstBytesUptoCardSaid : Prop := Claim7.holds Tryz.pinned (.plain (OpenSpec.upto instBytesSpec)) instBytesUptoCard

/-- THE SECOND FORM's CARD OF 'mandrellaw09.InstPicks'. -/
def instPicksUptoCard : Claim7 := { stood := { row := instPicksUptoRow, standIns := [], harness := (true, "bfe7aac2c9becdb5d42afb2eaca302fe2135cc12197af508d967e031dd1f500a"), looks := true }, kinds := [], alts := [], laidByText := true, laidKinds := [.handle, .data, .data, .data, .data, .data], laidTests := true, laidLooks := .later }
def InstPicksUptoCardSaid : Prop := Claim7.holds Tryz.pinned (.plain (OpenSpec.upto instPicksSpec)) instPicksUptoCard

/-- THE SECOND FORM's CARD OF 'mandrellaw09.InstSame'. -/
def instSameUptoCard : Claim7 := { stood := { row := instSameUptoRow, standIns := [], harness := (true, "bfe7aac2c9becdb5d42afb2eaca302fe2135cc12197af508d967e031dd1f500a"), looks := true }, kinds := [], alts := [], laidByText := true, laidKinds := [.handle, .data, .data, .data, .data, .data], laidTests := true, laidLooks := .later }
def InstSameUptoCardSaid : Prop := Claim7.holds Tryz.pinned (.plain (OpenSpec.upto instSameSpec)) instSameUptoCard

/-- THE SECOND FORM's CARD OF 'mandrellaw09.InstSigns'. -/
def instSignsUptoCard : Claim7 := { stood := { row := instSignsUptoRow, standIns := [], harness := (true, "bfe7aac2c9becdb5d42afb2eaca302fe2135cc12197af508d967e031dd1f500a"), looks := true }, kinds := [], alts := [], laidByText := true, laidKinds := [.handle, .data, .data, .data, .data, .data], laidTests := true, laidLooks := .later }
def InstSignsUptoCardSaid : Prop := Claim7.holds Tryz.pinned (.plain (OpenSpec.upto instSignsSpec)) instSignsUptoCard
end Rows
end Go.Proofs.YtcljcnaglkbjcaaGreatDoor
