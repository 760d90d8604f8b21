/-
  DERIVED. GIVEN WITH THE SEED: THE CARDS: each row of YtenbpmbaiddafaaDoorRows.lean that lists a variable, with what it lists TIED to the program's text (the seventh form; the later family's looks); each row that meets fmt, with fmt's text TOLD by the authors' own Lean function (tested against real Go, not proved from fmt's source: count such statements apart). THE CARD IS WHAT COUNTS. Prove the row's statement (the work); the ties are given (YtenbpmbaiddafaaDoorTie.lean); close each card by the builder's one call (the guide's Derived/Test/ToyasCard.lean, 'card_holds'). Laid BY PROGRAM, IN A SANDBOX (cutbox-door.mjs). By AI agents, Wed Nov 11 2026. No macro, syntax, notation, axiom, sorry.
-/
import Derived.Test.YtenbpmbaiddafaaDoorRows
import GoSem.ClaimSeven
namespace Go.Proofs.YtenbpmbaiddafaaDoor
namespace Rows

/-- THE TIED CARD OF 'mandrellaw04.OpsNames'. -/
def opsNamesCard : Claim7 := { stood := { row := opsNamesRow, standIns := [], harness := (true, "b615ceb2d1e5ae7eaeebe43f62490bb31f51c848108da30955f8f4b6a6e1b0c5"), looks := true }, kinds := [], alts := [], laidByText := true, laidKinds := [.handle, .data, .data, .data, .data, .data, .data], laidTests := true, laidLooks := .later }
def OpsNamesCardSaid : Prop := Claim7.holds Tryd.pinned (.plain (OpenSpec.ofChange opsNamesSpec)) opsNamesCard

/-- THE TIED CARD OF 'mandrellaw04.OpsForms'. -/
def opsFormsCard : Claim7 := { stood := { row := opsFormsRow, standIns := [], harness := (true, "b615ceb2d1e5ae7eaeebe43f62490bb31f51c848108da30955f8f4b6a6e1b0c5"), looks := true }, kinds := [], alts := [], laidByText := true, laidKinds := [.handle, .data, .data, .data, .data, .data], laidTests := true, laidLooks := .later }
def OpsFormsCardSaid : Prop := Claim7.holds Tryd.pinned (.plain (OpenSpec.ofChange opsFormsSpec)) opsFormsCard

/-- THE TIED CARD OF 'mandrellaw04.OpsOnce'. -/
def opsOnceCard : Claim7 := { stood := { row := opsOnceRow, standIns := [], harness := (true, "b615ceb2d1e5ae7eaeebe43f62490bb31f51c848108da30955f8f4b6a6e1b0c5"), looks := true }, kinds := [], alts := [], laidByText := true, laidKinds := [.data, .data, .data, .data, .data, .data], laidTests := true, laidLooks := .later }
def OpsOnceCardSaid : Prop := Claim7.holds Tryd.pinned (.plain (OpenSpec.ofChange opsOnceSpec)) opsOnceCard

/-- THE TIED CARD OF 'mandrellaw04.OpsPairs'. -/
def opsPairsCard : Claim7 := { stood := { row := opsPairsRow, standIns := [], harness := (true, "b615ceb2d1e5ae7eaeebe43f62490bb31f51c848108da30955f8f4b6a6e1b0c5"), looks := true }, kinds := [], alts := [], laidByText := true, laidKinds := [.data, .data, .data, .data, .data], laidTests := true, laidLooks := .later }
def OpsPairsCardSaid : Prop := Claim7.holds Tryd.pinned (.plain (OpenSpec.ofChange opsPairsSpec)) opsPairsCard

/-- THE SECOND FORM's CARD OF 'mandrellaw04.OpsNames'. -/
def opsNamesUptoCard : Claim7 := { stood := { row := opsNamesUptoRow, standIns := [], harness := (true, "b615ceb2d1e5ae7eaeebe43f62490bb31f51c848108da30955f8f4b6a6e1b0c5"), looks := true }, kinds := [], alts := [], laidByText := true, laidKinds := [.handle, .data, .data, .data, .data, .data, .data], laidTests := true, laidLooks := .later }
def OpsNamesUptoCardSaid : Prop := Claim7.holds Tryd.pinned (.plain (OpenSpec.upto opsNamesSpec)) opsNamesUptoCard

/-- THE SECOND FORM's CARD OF 'mandrellaw04.OpsForms'. -/
def opsFormsUptoCard : Claim7 := { stood := { row := opsFormsUptoRow, standIns := [], harness := (true, "b615ceb2d1e5ae7eaeebe43f62490bb31f51c848108da30955f8f4b6a6e1b0c5"), looks := true }, kinds := [], alts := [], laidByText := true, laidKinds := [.handle, .data, .data, .data, .data, .data], laidTests := true, laidLooks := .later }
def OpsFormsUptoCardSaid : Prop := Claim7.holds Tryd.pinned (.plain (OpenSpec.upto opsFormsSpec)) opsFormsUptoCard

/-- THE SECOND FORM's CARD OF 'mandrellaw04.OpsOnce'. -/
def opsOnceUptoCard : Claim7 := { stood := { row := opsOnceUptoRow, standIns := [], harness := (true, "b615ceb2d1e5ae7eaeebe43f62490bb31f51c848108da30955f8f4b6a6e1b0c5"), looks := true }, kinds := [], alts := [], laidByText := true, laidKinds := [.data, .data, .data, .data, .data, .data], laidTests := true, laidLooks := .later }
def OpsOnceUptoCardSaid : Prop := Claim7.holds Tryd.pinned (.plain (OpenSpec.upto opsOnceSpec)) opsOnceUptoCard

/-- THE SECOND FORM's CARD OF 'mandrellaw04.OpsPairs'. -/
def opsPairsUptoCard : Claim7 := { stood := { row := opsPairsUptoRow, standIns := [], harness := (true, "b615ceb2d1e5ae7eaeebe43f62490bb31f51c848108da30955f8f4b6a6e1b0c5"), looks := true }, kinds := [], alts := [], laidByText := true, laidKinds := [.data, .data, .data, .data, .data], laidTests := true, laidLooks := .later }
def OpsPairsUptoCardSaid : Prop := Claim7.holds Tryd.pinned (.plain (OpenSpec.upto opsPairsSpec)) opsPairsUptoCard
end Rows
end Go.Proofs.YtenbpmbaiddafaaDoor
