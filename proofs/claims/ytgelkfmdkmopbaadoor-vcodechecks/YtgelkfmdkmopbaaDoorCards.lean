/-
  DERIVED. GIVEN WITH THE SEED: THE CARDS: each row of YtgelkfmdkmopbaaDoorRows.lean that lists a variable, with what it lists TIED to the program's text (the seventh form; the later family's looks); each row that meets fmt, with fmt's text TOLD by the authors' own Lean function (tested against real Go, not proved from fmt's source: count such statements apart). THE CARD IS WHAT COUNTS. Prove the row's statement (the work); the ties are given (YtgelkfmdkmopbaaDoorTie.lean); close each card by the builder's one call (the guide's Derived/Test/ToyasCard.lean, 'card_holds'). Laid BY PROGRAM, IN A SANDBOX (cutbox-door.mjs). By AI agents, Wed Nov 11 2026. No macro, syntax, notation, axiom, sorry.
-/
import Derived.Test.YtgelkfmdkmopbaaDoorRows
import GoSem.ClaimSeven
namespace Go.Proofs.YtgelkfmdkmopbaaDoor
namespace Rows

/-- THE TIED CARD OF 'mandrellaw11.VcodeChecks'. -/
def vcodeChecksCard : Claim7 := { stood := { row := vcodeChecksRow, standIns := [], harness := (true, "33ff54bacb5383059ae142532df280c149eea0d8e3290a9bbd58d5058c8e2cef"), looks := true }, kinds := [], alts := [], laidByText := true, laidKinds := [.data, .data, .data, .handle, .data, .data, .data, .data], laidTests := true, laidLooks := .later }
def VcodeChecksCardSaid : Prop := Claim7.holds Tryd.pinned (.plain (OpenSpec.ofChange vcodeChecksSpec)) vcodeChecksCard

/-- THE TIED CARD OF 'mandrellaw11.VcodeOps'. -/
def vcodeOpsCard : Claim7 := { stood := { row := vcodeOpsRow, standIns := [], harness := (true, "33ff54bacb5383059ae142532df280c149eea0d8e3290a9bbd58d5058c8e2cef"), looks := true }, kinds := [], alts := [], laidByText := true, laidKinds := [.data, .data, .data, .data, .data, .data, .data], laidTests := true, laidLooks := .later }
def VcodeOpsCardSaid : Prop := Claim7.holds Tryd.pinned (.plain (OpenSpec.ofChange vcodeOpsSpec)) vcodeOpsCard

/-- THE TIED CARD OF 'mandrellaw11.VcodeClones'. -/
def vcodeClonesCard : Claim7 := { stood := { row := vcodeClonesRow, standIns := [], harness := (true, "33ff54bacb5383059ae142532df280c149eea0d8e3290a9bbd58d5058c8e2cef"), looks := true }, kinds := [], alts := [], laidByText := true, laidKinds := [.data, .data, .data, .data, .data, .data, .data], laidTests := true, laidLooks := .later }
def VcodeClonesCardSaid : Prop := Claim7.holds Tryd.pinned (.plain (OpenSpec.ofChange vcodeClonesSpec)) vcodeClonesCard

/-- THE TIED CARD OF 'mandrellaw11.VcodeLines'. -/
def vcodeLinesCard : Claim7 := { stood := { row := vcodeLinesRow, standIns := [], harness := (true, "33ff54bacb5383059ae142532df280c149eea0d8e3290a9bbd58d5058c8e2cef"), looks := true }, kinds := [], alts := [], laidByText := true, laidKinds := [.data, .data, .data, .handle, .data, .data, .data, .data], laidTests := true, laidLooks := .later }
def VcodeLinesCardSaid : Prop := Claim7.holds Tryd.pinned (.plain (OpenSpec.ofChange vcodeLinesSpec)) vcodeLinesCard

/-- THE SECOND FORM's CARD OF 'mandrellaw11.VcodeChecks'. -/
def vcodeChecksUptoCard : Claim7 := { stood := { row := vcodeChecksUptoRow, standIns := [], harness := (true, "33ff54bacb5383059ae142532df280c149eea0d8e3290a9bbd58d5058c8e2cef"), looks := true }, kinds := [], alts := [], laidByText := true, laidKinds := [.data, .data, .data, .handle, .data, .data, .data, .data], laidTests := true, laidLooks := .later }
def VcodeChecksUptoCardSaid : Prop := Claim7.holds Tryd.pinned (.plain (OpenSpec.upto vcodeChecksSpec)) vcodeChecksUptoCard

/-- THE SECOND FORM's CARD OF 'mandrellaw11.VcodeOps'. -/
def vcodeOpsUptoCard : Claim7 := { stood := { row := vcodeOpsUptoRow, standIns := [], harness := (true, "33ff54bacb5383059ae142532df280c149eea0d8e3290a9bbd58d5058c8e2cef"), looks := true }, kinds := [], alts := [], laidByText := true, laidKinds := [.data, .data, .data, .data, .data, .data, .data], laidTests := true, laidLooks := .later }
def VcodeOpsUptoCardSaid : Prop := Claim7.holds Tryd.pinned (.plain (OpenSpec.upto vcodeOpsSpec)) vcodeOpsUptoCard

/-- THE SECOND FORM's CARD OF 'mandrellaw11.VcodeClones'. -/
def vcodeClonesUptoCard : Claim7 := { stood := { row := vcodeClonesUptoRow, standIns := [], harness := (true, "33ff54bacb5383059ae142532df280c149eea0d8e3290a9bbd58d5058c8e2cef"), looks := true }, kinds := [], alts := [], laidByText := true, laidKinds := [.data, .data, .data, .data, .data, .data, .data], laidTests := true, laidLooks := .later }
def VcodeClonesUptoCardSaid : Prop := Claim7.holds Tryd.pinned (.plain (OpenSpec.upto vcodeClonesSpec)) vcodeClonesUptoCard

/-- THE SECOND FORM's CARD OF 'mandrellaw11.VcodeLines'. -/
def vcodeLinesUptoCard : Claim7 := { stood := { row := vcodeLinesUptoRow, standIns := [], harness := (true, "33ff54bacb5383059ae142532df280c149eea0d8e3290a9bbd58d5058c8e2cef"), looks := true }, kinds := [], alts := [], laidByText := true, laidKinds := [.data, .data, .data, .handle, .data, .data, .data, .data], laidTests := true, laidLooks := .later }
def VcodeLinesUptoCardSaid : Prop := Claim7.holds Tryd.pinned (.plain (OpenSpec.upto vcodeLinesSpec)) vcodeLinesUptoCard
end Rows
end Go.Proofs.YtgelkfmdkmopbaaDoor
