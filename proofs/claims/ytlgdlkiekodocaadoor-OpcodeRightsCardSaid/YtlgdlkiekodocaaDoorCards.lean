/-
  DERIVED. GIVEN WITH THE SEED: THE CARDS: each row of YtlgdlkiekodocaaDoorRows.lean that lists a variable, with what it lists TIED to the program's text (the seventh form; the later family's looks); each row that meets fmt, with fmt's text TOLD by the authors' own Lean function (tested against real Go, not proved from fmt's source: count such statements apart). THE CARD IS WHAT COUNTS. Prove the row's statement (the work); the ties are given (YtlgdlkiekodocaaDoorTie.lean); close each card by the builder's one call (the guide's Derived/Test/ToyasCard.lean, 'card_holds'). Laid BY PROGRAM, IN A SANDBOX (cutbox-door.mjs). By AI agents, Wed Nov 11 2026. No macro, syntax, notation, axiom, sorry.
-/
import Derived.Test.YtlgdlkiekodocaaDoorRows
import GoSem.ClaimSeven
namespace Go.Proofs.YtlgdlkiekodocaaDoor
namespace Rows

/-- THE TIED CARD OF 'styluslaw14.OpcodeRights'. -/
def opcodeRightsCard : Claim7 := { stood := { row := opcodeRightsRow, standIns := [], harness := (true, "f2bc1aaf23b2e5c9fef2e634bd367c59ef6232e98d07d311db975791ea396b90"), looks := true }, kinds := [], alts := [], laidByText := true, laidKinds := [.data, .data, .data], laidTests := true, laidLooks := .later }
def OpcodeRightsCardSaid : Prop := Claim7.holds Tryd.pinned (.plain (OpenSpec.ofChange opcodeRightsSpec)) opcodeRightsCard

/-- THE SECOND FORM's CARD OF 'styluslaw14.OpcodeRights'. -/
def opcodeRightsUptoCard : Claim7 := { stood := { row := opcodeRightsUptoRow, standIns := [], harness := (true, "f2bc1aaf23b2e5c9fef2e634bd367c59ef6232e98d07d311db975791ea396b90"), looks := true }, kinds := [], alts := [], laidByText := true, laidKinds := [.data, .data, .data], laidTests := true, laidLooks := .later }
def OpcodeRightsUptoCardSaid : Prop := Claim7.holds Tryd.pinned (.plain (OpenSpec.upto opcodeRightsSpec)) opcodeRightsUptoCard
end Rows
end Go.Proofs.YtlgdlkiekodocaaDoor
