/-
  DERIVED. GIVEN WITH THE SEED: THE CARDS: each row of YtcmidegffpehoaaDoorRows.lean that lists a variable, with what it lists TIED to the program's text (the seventh form; the later family's looks); each row that meets fmt, with fmt's text TOLD by the authors' own Lean function (tested against real Go, not proved from fmt's source: count such statements apart). THE CARD IS WHAT COUNTS. Prove the row's statement (the work); the ties are given (YtcmidegffpehoaaDoorTie.lean); close each card by the builder's one call (the guide's Derived/Test/ToyasCard.lean, 'card_holds'). Laid BY PROGRAM, IN A SANDBOX (cutbox-door.mjs). By AI agents, Wed Nov 11 2026. No macro, syntax, notation, axiom, sorry.
-/
import Derived.Test.YtcmidegffpehoaaDoorRows
import GoSem.ClaimSeven
namespace Go.Proofs.YtcmidegffpehoaaDoor
namespace Rows

/-- THE TIED CARD OF 'mandrellaw06.SectSplits'. -/
def sectSplitsCard : Claim7 := { stood := { row := sectSplitsRow, standIns := [], harness := (true, "13d367442c9bb8b34d9d3ed94118f22436ef14892ce248c0f25d7c57a75074f6"), looks := true }, kinds := [], alts := [], laidByText := true, laidKinds := [.data, .handle, .pinned], laidTests := true, laidLooks := .later }
def SectSplitsCardSaid : Prop := Claim7.holds Tryd.pinned (.plain (OpenSpec.ofChange sectSplitsSpec)) sectSplitsCard

/-- THE TIED CARD OF 'mandrellaw06.SectJoins'. -/
def sectJoinsCard : Claim7 := { stood := { row := sectJoinsRow, standIns := [], harness := (true, "13d367442c9bb8b34d9d3ed94118f22436ef14892ce248c0f25d7c57a75074f6"), looks := true }, kinds := [], alts := [], laidByText := true, laidKinds := [.data, .handle, .pinned], laidTests := true, laidLooks := .later }
def SectJoinsCardSaid : Prop := Claim7.holds Tryd.pinned (.plain (OpenSpec.ofChange sectJoinsSpec)) sectJoinsCard

/-- THE TIED CARD OF 'mandrellaw06.SectTexts'. -/
def sectTextsCard : Claim7 := { stood := { row := sectTextsRow, standIns := [], harness := (true, "13d367442c9bb8b34d9d3ed94118f22436ef14892ce248c0f25d7c57a75074f6"), looks := true }, kinds := [], alts := [], laidByText := true, laidKinds := [.data, .handle, .pinned], laidTests := true, laidLooks := .later }
def SectTextsCardSaid : Prop := Claim7.holds Tryd.pinned (.plain (OpenSpec.ofChange sectTextsSpec)) sectTextsCard

/-- THE TIED CARD OF 'mandrellaw06.SectBack'. -/
def sectBackCard : Claim7 := { stood := { row := sectBackRow, standIns := [], harness := (true, "13d367442c9bb8b34d9d3ed94118f22436ef14892ce248c0f25d7c57a75074f6"), looks := true }, kinds := [], alts := [], laidByText := true, laidKinds := [.data, .handle, .pinned], laidTests := true, laidLooks := .later }
def SectBackCardSaid : Prop := Claim7.holds Tryd.pinned (.plain (OpenSpec.ofChange sectBackSpec)) sectBackCard

/-- THE TIED CARD OF 'mandrellaw06.SectOrder'. -/
def sectOrderCard : Claim7 := { stood := { row := sectOrderRow, standIns := [], harness := (true, "13d367442c9bb8b34d9d3ed94118f22436ef14892ce248c0f25d7c57a75074f6"), looks := true }, kinds := [], alts := [], laidByText := true, laidKinds := [.data, .handle, .pinned], laidTests := true, laidLooks := .later }
def SectOrderCardSaid : Prop := Claim7.holds Tryd.pinned (.plain (OpenSpec.ofChange sectOrderSpec)) sectOrderCard

/-- THE SECOND FORM's CARD OF 'mandrellaw06.SectSplits'. -/
def sectSplitsUptoCard : Claim7 := { stood := { row := sectSplitsUptoRow, standIns := [], harness := (true, "13d367442c9bb8b34d9d3ed94118f22436ef14892ce248c0f25d7c57a75074f6"), looks := true }, kinds := [], alts := [], laidByText := true, laidKinds := [.data, .handle, .pinned], laidTests := true, laidLooks := .later }
def SectSplitsUptoCardSaid : Prop := Claim7.holds Tryd.pinned (.plain (OpenSpec.upto sectSplitsSpec)) sectSplitsUptoCard

/-- THE SECOND FORM's CARD OF 'mandrellaw06.SectJoins'. -/
def sectJoinsUptoCard : Claim7 := { stood := { row := sectJoinsUptoRow, standIns := [], harness := (true, "13d367442c9bb8b34d9d3ed94118f22436ef14892ce248c0f25d7c57a75074f6"), looks := true }, kinds := [], alts := [], laidByText := true, laidKinds := [.data, .handle, .pinned], laidTests := true, laidLooks := .later }
def SectJoinsUptoCardSaid : Prop := Claim7.holds Tryd.pinned (.plain (OpenSpec.upto sectJoinsSpec)) sectJoinsUptoCard

/-- THE SECOND FORM's CARD OF 'mandrellaw06.SectTexts'. -/
def sectTextsUptoCard : Claim7 := { stood := { row := sectTextsUptoRow, standIns := [], harness := (true, "13d367442c9bb8b34d9d3ed94118f22436ef14892ce248c0f25d7c57a75074f6"), looks := true }, kinds := [], alts := [], laidByText := true, laidKinds := [.data, .handle, .pinned], laidTests := true, laidLooks := .later }
def SectTextsUptoCardSaid : Prop := Claim7.holds Tryd.pinned (.plain (OpenSpec.upto sectTextsSpec)) sectTextsUptoCard

/-- THE SECOND FORM's CARD OF 'mandrellaw06.SectBack'. -/
def sectBackUptoCard : Claim7 := { stood := { row := sectBackUptoRow, standIns := [], harness := (true, "13d367442c9bb8b34d9d3ed94118f22436ef14892ce248c0f25d7c57a75074f6"), looks := true }, kinds := [], alts := [], laidByText := true, laidKinds := [.data, .handle, .pinned], laidTests := true, laidLooks := .later }
def SectBackUptoCardSaid : Prop := Claim7.holds Tryd.pinned (.plain (OpenSpec.upto sectBackSpec)) sectBackUptoCard

/-- THE SECOND FORM's CARD OF 'mandrellaw06.SectOrder'. -/
def sectOrderUptoCard : Claim7 := { stood := { row := sectOrderUptoRow, standIns := [], harness := (true, "13d367442c9bb8b34d9d3ed94118f22436ef14892ce248c0f25d7c57a75074f6"), looks := true }, kinds := [], alts := [], laidByText := true, laidKinds := [.data, .handle, .pinned], laidTests := true, laidLooks := .later }
def SectOrderUptoCardSaid : Prop := Claim7.holds Tryd.pinned (.plain (OpenSpec.upto sectOrderSpec)) sectOrderUptoCard
end Rows
end Go.Proofs.YtcmidegffpehoaaDoor
