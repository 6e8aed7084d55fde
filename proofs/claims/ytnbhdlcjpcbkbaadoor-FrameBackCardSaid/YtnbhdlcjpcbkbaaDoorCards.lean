/-
  DERIVED. GIVEN WITH THE SEED: THE CARDS: each row of YtnbhdlcjpcbkbaaDoorRows.lean that lists a variable, with what it lists TIED to the program's text (the seventh form; the later family's looks); each row that meets fmt, with fmt's text TOLD by the authors' own Lean function (tested against real Go, not proved from fmt's source: count such statements apart). THE CARD IS WHAT COUNTS. Prove the row's statement (the work); the ties are given (YtnbhdlcjpcbkbaaDoorTie.lean); close each card by the builder's one call (the guide's Derived/Test/ToyasCard.lean, 'card_holds'). Laid BY PROGRAM, IN A SANDBOX (cutbox-door.mjs). By AI agents, Wed Nov 11 2026. No macro, syntax, notation, axiom, sorry.
-/
import Derived.Test.YtnbhdlcjpcbkbaaDoorRows
import GoSem.ClaimSeven
namespace Go.Proofs.YtnbhdlcjpcbkbaaDoor
namespace Rows

/-- THE TIED CARD OF 'styluslaw12.FrameLays'. -/
def frameLaysCard : Claim7 := { stood := { row := frameLaysRow, standIns := [], harness := (true, "5c5c976d1015660937fe742c6e39e97e7b842310b56bd1b1b7c127596a0f4971"), looks := false }, kinds := [], alts := [], laidByText := true, laidKinds := [.data], laidTests := true, laidLooks := .later }
def FrameLaysCardSaid : Prop := Claim7.holds Tryd.pinned (.plain (OpenSpec.ofChange frameLaysSpec)) frameLaysCard

/-- THE TIED CARD OF 'styluslaw12.FrameOnes'. -/
def frameOnesCard : Claim7 := { stood := { row := frameOnesRow, standIns := [], harness := (true, "5c5c976d1015660937fe742c6e39e97e7b842310b56bd1b1b7c127596a0f4971"), looks := false }, kinds := [], alts := [], laidByText := true, laidKinds := [.data], laidTests := true, laidLooks := .later }
def FrameOnesCardSaid : Prop := Claim7.holds Tryd.pinned (.plain (OpenSpec.ofChange frameOnesSpec)) frameOnesCard

/-- THE TIED CARD OF 'styluslaw12.FrameBack'. -/
def frameBackCard : Claim7 := { stood := { row := frameBackRow, standIns := [], harness := (true, "5c5c976d1015660937fe742c6e39e97e7b842310b56bd1b1b7c127596a0f4971"), looks := false }, kinds := [], alts := [], laidByText := true, laidKinds := [.data], laidTests := true, laidLooks := .later }
def FrameBackCardSaid : Prop := Claim7.holds Tryd.pinned (.plain (OpenSpec.ofChange frameBackSpec)) frameBackCard

/-- THE TIED CARD OF 'styluslaw12.FrameChanged'. -/
def frameChangedCard : Claim7 := { stood := { row := frameChangedRow, standIns := [], harness := (true, "5c5c976d1015660937fe742c6e39e97e7b842310b56bd1b1b7c127596a0f4971"), looks := false }, kinds := [], alts := [], laidByText := true, laidKinds := [.data], laidTests := true, laidLooks := .later }
def FrameChangedCardSaid : Prop := Claim7.holds Tryd.pinned (.plain (OpenSpec.ofChange frameChangedSpec)) frameChangedCard

/-- THE SECOND FORM's CARD OF 'styluslaw12.FrameLays'. -/
def frameLaysUptoCard : Claim7 := { stood := { row := frameLaysUptoRow, standIns := [], harness := (true, "5c5c976d1015660937fe742c6e39e97e7b842310b56bd1b1b7c127596a0f4971"), looks := false }, kinds := [], alts := [], laidByText := true, laidKinds := [.data], laidTests := true, laidLooks := .later }
def FrameLaysUptoCardSaid : Prop := Claim7.holds Tryd.pinned (.plain (OpenSpec.upto frameLaysSpec)) frameLaysUptoCard

/-- THE SECOND FORM's CARD OF 'styluslaw12.FrameOnes'. -/
def frameOnesUptoCard : Claim7 := { stood := { row := frameOnesUptoRow, standIns := [], harness := (true, "5c5c976d1015660937fe742c6e39e97e7b842310b56bd1b1b7c127596a0f4971"), looks := false }, kinds := [], alts := [], laidByText := true, laidKinds := [.data], laidTests := true, laidLooks := .later }
def FrameOnesUptoCardSaid : Prop := Claim7.holds Tryd.pinned (.plain (OpenSpec.upto frameOnesSpec)) frameOnesUptoCard

/-- THE SECOND FORM's CARD OF 'styluslaw12.FrameBack'. -/
def frameBackUptoCard : Claim7 := { stood := { row := frameBackUptoRow, standIns := [], harness := (true, "5c5c976d1015660937fe742c6e39e97e7b842310b56bd1b1b7c127596a0f4971"), looks := false }, kinds := [], alts := [], laidByText := true, laidKinds := [.data], laidTests := true, laidLooks := .later }
def FrameBackUptoCardSaid : Prop := Claim7.holds Tryd.pinned (.plain (OpenSpec.upto frameBackSpec)) frameBackUptoCard

/-- THE SECOND FORM's CARD OF 'styluslaw12.FrameChanged'. -/
def frameChangedUptoCard : Claim7 := { stood := { row := frameChangedUptoRow, standIns := [], harness := (true, "5c5c976d1015660937fe742c6e39e97e7b842310b56bd1b1b7c127596a0f4971"), looks := false }, kinds := [], alts := [], laidByText := true, laidKinds := [.data], laidTests := true, laidLooks := .later }
def FrameChangedUptoCardSaid : Prop := Claim7.holds Tryd.pinned (.plain (OpenSpec.upto frameChangedSpec)) frameChangedUptoCard
end Rows
end Go.Proofs.YtnbhdlcjpcbkbaaDoor
