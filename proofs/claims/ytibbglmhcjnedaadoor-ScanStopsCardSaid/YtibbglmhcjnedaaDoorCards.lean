/-
  DERIVED. GIVEN WITH THE SEED: THE CARDS: each row of YtibbglmhcjnedaaDoorRows.lean that lists a variable, with what it lists TIED to the program's text (the seventh form; the later family's looks); each row that meets fmt, with fmt's text TOLD by the authors' own Lean function (tested against real Go, not proved from fmt's source: count such statements apart). THE CARD IS WHAT COUNTS. Prove the row's statement (the work); the ties are given (YtibbglmhcjnedaaDoorTie.lean); close each card by the builder's one call (the guide's Derived/Test/ToyasCard.lean, 'card_holds'). Laid BY PROGRAM, IN A SANDBOX (cutbox-door.mjs). By AI agents, Wed Nov 11 2026. No macro, syntax, notation, axiom, sorry.
-/
import Derived.Test.YtibbglmhcjnedaaDoorRows
import GoSem.ClaimSeven
namespace Go.Proofs.YtibbglmhcjnedaaDoor
namespace Rows

/-- THE TIED CARD OF 'styluslaw13.ScanRuns'. -/
def scanRunsCard : Claim7 := { stood := { row := scanRunsRow, standIns := [], harness := (true, "ca7348311c2355b7b16e7457d7c2512ee8d49dca850c956a4b8bf7f83c464923"), looks := false }, kinds := [], alts := [], laidByText := true, laidKinds := [.data], laidTests := true, laidLooks := .later }
def ScanRunsCardSaid : Prop := Claim7.holds Tryd.pinned (.plain (OpenSpec.ofChange scanRunsSpec)) scanRunsCard

/-- THE TIED CARD OF 'styluslaw13.ScanAnys'. -/
def scanAnysCard : Claim7 := { stood := { row := scanAnysRow, standIns := [], harness := (true, "ca7348311c2355b7b16e7457d7c2512ee8d49dca850c956a4b8bf7f83c464923"), looks := false }, kinds := [], alts := [], laidByText := true, laidKinds := [.data], laidTests := true, laidLooks := .later }
def ScanAnysCardSaid : Prop := Claim7.holds Tryd.pinned (.plain (OpenSpec.ofChange scanAnysSpec)) scanAnysCard

/-- THE TIED CARD OF 'styluslaw13.ScanFinds'. -/
def scanFindsCard : Claim7 := { stood := { row := scanFindsRow, standIns := [], harness := (true, "ca7348311c2355b7b16e7457d7c2512ee8d49dca850c956a4b8bf7f83c464923"), looks := false }, kinds := [], alts := [], laidByText := true, laidKinds := [.data], laidTests := true, laidLooks := .later }
def ScanFindsCardSaid : Prop := Claim7.holds Tryd.pinned (.plain (OpenSpec.ofChange scanFindsSpec)) scanFindsCard

/-- THE TIED CARD OF 'styluslaw13.ScanStops'. -/
def scanStopsCard : Claim7 := { stood := { row := scanStopsRow, standIns := [], harness := (true, "ca7348311c2355b7b16e7457d7c2512ee8d49dca850c956a4b8bf7f83c464923"), looks := false }, kinds := [], alts := [], laidByText := true, laidKinds := [.data], laidTests := true, laidLooks := .later }
def ScanStopsCardSaid : Prop := Claim7.holds Tryd.pinned (.plain (OpenSpec.ofChange scanStopsSpec)) scanStopsCard

/-- THE TIED CARD OF 'styluslaw13.ScanFills'. -/
def scanFillsCard : Claim7 := { stood := { row := scanFillsRow, standIns := [], harness := (true, "ca7348311c2355b7b16e7457d7c2512ee8d49dca850c956a4b8bf7f83c464923"), looks := false }, kinds := [], alts := [], laidByText := true, laidKinds := [.data], laidTests := true, laidLooks := .later }
def ScanFillsCardSaid : Prop := Claim7.holds Tryd.pinned (.plain (OpenSpec.ofChange scanFillsSpec)) scanFillsCard

/-- THE SECOND FORM's CARD OF 'styluslaw13.ScanRuns'. -/
def scanRunsUptoCard : Claim7 := { stood := { row := scanRunsUptoRow, standIns := [], harness := (true, "ca7348311c2355b7b16e7457d7c2512ee8d49dca850c956a4b8bf7f83c464923"), looks := false }, kinds := [], alts := [], laidByText := true, laidKinds := [.data], laidTests := true, laidLooks := .later }
def ScanRunsUptoCardSaid : Prop := Claim7.holds Tryd.pinned (.plain (OpenSpec.upto scanRunsSpec)) scanRunsUptoCard

/-- THE SECOND FORM's CARD OF 'styluslaw13.ScanAnys'. -/
def scanAnysUptoCard : Claim7 := { stood := { row := scanAnysUptoRow, standIns := [], harness := (true, "ca7348311c2355b7b16e7457d7c2512ee8d49dca850c956a4b8bf7f83c464923"), looks := false }, kinds := [], alts := [], laidByText := true, laidKinds := [.data], laidTests := true, laidLooks := .later }
def ScanAnysUptoCardSaid : Prop := Claim7.holds Tryd.pinned (.plain (OpenSpec.upto scanAnysSpec)) scanAnysUptoCard

/-- THE SECOND FORM's CARD OF 'styluslaw13.ScanFinds'. -/
def scanFindsUptoCard : Claim7 := { stood := { row := scanFindsUptoRow, standIns := [], harness := (true, "ca7348311c2355b7b16e7457d7c2512ee8d49dca850c956a4b8bf7f83c464923"), looks := false }, kinds := [], alts := [], laidByText := true, laidKinds := [.data], laidTests := true, laidLooks := .later }
def ScanFindsUptoCardSaid : Prop := Claim7.holds Tryd.pinned (.plain (OpenSpec.upto scanFindsSpec)) scanFindsUptoCard

/-- THE SECOND FORM's CARD OF 'styluslaw13.ScanStops'. -/
def scanStopsUptoCard : Claim7 := { stood := { row := scanStopsUptoRow, standIns := [], harness := (true, "ca7348311c2355b7b16e7457d7c2512ee8d49dca850c956a4b8bf7f83c464923"), looks := false }, kinds := [], alts := [], laidByText := true, laidKinds := [.data], laidTests := true, laidLooks := .later }
def ScanStopsUptoCardSaid : Prop := Claim7.holds Tryd.pinned (.plain (OpenSpec.upto scanStopsSpec)) scanStopsUptoCard

/-- THE SECOND FORM's CARD OF 'styluslaw13.ScanFills'. -/
def scanFillsUptoCard : Claim7 := { stood := { row := scanFillsUptoRow, standIns := [], harness := (true, "ca7348311c2355b7b16e7457d7c2512ee8d49dca850c956a4b8bf7f83c464923"), looks := false }, kinds := [], alts := [], laidByText := true, laidKinds := [.data], laidTests := true, laidLooks := .later }
def ScanFillsUptoCardSaid : Prop := Claim7.holds Tryd.pinned (.plain (OpenSpec.upto scanFillsSpec)) scanFillsUptoCard
end Rows
end Go.Proofs.YtibbglmhcjnedaaDoor
