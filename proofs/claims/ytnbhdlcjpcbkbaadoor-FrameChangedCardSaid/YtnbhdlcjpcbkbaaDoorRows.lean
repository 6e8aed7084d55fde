/-
  NARROWER THAN 'FOR EVERY INPUT', by the rows' own cells (each row's printed sentence says how): FrameLays: laid · FrameOnes: laid · FrameBack: laid · FrameChanged: laid.
  DERIVED. THE GIVEN ROWS OF THIS SEAT. 4 by the template 'for every input the law returns true; each argument reads behind the call as it read before'; 0 by the template 'total and deterministic' (their statements: YtnbhdlcjpcbkbaaDoorTotals.lean).
  GIVEN WITH THE SEED: the statements are not yours to turn. If you find one false, say at which input.
  Laid BY PROGRAM, IN A SANDBOX (cutbox-rows.mjs): the forced cells as the released guide's own fill.sh prints them over the translation 743c5c897133e588… (all of the seat's roots in one cut). By AI agents, Wed Nov 11 2026. No macro, syntax, notation, axiom, sorry.
-/
import Derived.Test.YtnbhdlcjpcbkbaaDoorChecked
import GoSem.Claim
import GoSem.ClaimJoined
import GoSem.ClaimMapViews
import Derived.JoinedTies
import Derived.KernelRfl
namespace Go.Proofs.YtnbhdlcjpcbkbaaDoor
/- THE CELL 'sum', in the pinned program and in every row, IS THE sha256 OF THE DUMP (.gsa) THAT YtnbhdlcjpcbkbaaDoorProg.lean LOADS. Nothing in Lean hashes anything: it is a label: what it is worth is what the hold of that sum in a sandbox is worth. -/
noncomputable def Tryd.pinned : Pinned := { name := "ytnbhdlcjpcbkbaadoor", sum := "743c5c897133e5886e5be73693c493e40edf8ee69ac19cdc41f9f92f194f5e4f", checked := Tryd.checked }
namespace Rows
def none {H : Type} : Left H := { results := [], args := [] }

/- WHAT THE LISTED PACKAGE-LEVEL VARIABLES READ AS WHEN THE CALL BEGINS. Each datum BY PROGRAM (the guide's laid-datum.mjs) off the statement by which the dump's own 'gosem.cut.vars' lays the variable. In a bare row this is a premise. The card (YtnbhdlcjpcbkbaaDoorCards.lean) ties it to the program's text. -/
def laid_stylus_frame_first {H : Type} : DataW H := .agg [.lit (.int .u8 83), .lit (.int .u8 74)]

/-- 'styluslaw12.FrameLays': WHATEVER THE INPUT: true; the input reads as it did. -/
def frameLaysSpec : ChangeSpec := { name := "frameLays", fn := fun _ => fun
  | [d1, d2] => { results := [.lit (.bool true)], args := [d1, d2] }
  | _ => none }
def frameLaysRow : OpenClaim := { program := "ytnbhdlcjpcbkbaadoor", sum := "743c5c897133e5886e5be73693c493e40edf8ee69ac19cdc41f9f92f194f5e4f", func := "stylus/styluslaw12.FrameLays", spec := "frameLays", unfollowed := true, recurses := true, named := ["stylus/frame.first"], apart := false, laid := [("stylus/frame.first", laid_stylus_frame_first)] }
def FrameLaysSaid : Prop := frameLaysRow.holds Tryd.pinned (OpenSpec.ofChange frameLaysSpec)

/-- ITS FALSE NEIGHBOUR: 'it returns false'. Refute it at one input. -/
def frameLaysWrong : ChangeSpec := { name := "frameLays", fn := fun _ => fun
  | [d1, d2] => { results := [.lit (.bool false)], args := [d1, d2] }
  | _ => none }
def FrameLaysWrongFalsely : Prop := frameLaysRow.holds Tryd.pinned (OpenSpec.ofChange frameLaysWrong)

/-- 'styluslaw12.FrameOnes': WHATEVER THE INPUT: true; the input reads as it did. -/
def frameOnesSpec : ChangeSpec := { name := "frameOnes", fn := fun _ => fun
  | [d] => { results := [.lit (.bool true)], args := [d] }
  | _ => none }
def frameOnesRow : OpenClaim := { program := "ytnbhdlcjpcbkbaadoor", sum := "743c5c897133e5886e5be73693c493e40edf8ee69ac19cdc41f9f92f194f5e4f", func := "stylus/styluslaw12.FrameOnes", spec := "frameOnes", unfollowed := true, recurses := true, named := ["stylus/frame.first"], apart := false, laid := [("stylus/frame.first", laid_stylus_frame_first)] }
def FrameOnesSaid : Prop := frameOnesRow.holds Tryd.pinned (OpenSpec.ofChange frameOnesSpec)

/-- ITS FALSE NEIGHBOUR: 'it returns false'. Refute it at one input. -/
def frameOnesWrong : ChangeSpec := { name := "frameOnes", fn := fun _ => fun
  | [d] => { results := [.lit (.bool false)], args := [d] }
  | _ => none }
def FrameOnesWrongFalsely : Prop := frameOnesRow.holds Tryd.pinned (OpenSpec.ofChange frameOnesWrong)

/-- 'styluslaw12.FrameBack': WHATEVER THE INPUT: true; the input reads as it did. -/
def frameBackSpec : ChangeSpec := { name := "frameBack", fn := fun _ => fun
  | [d1, d2, d3] => { results := [.lit (.bool true)], args := [d1, d2, d3] }
  | _ => none }
def frameBackRow : OpenClaim := { program := "ytnbhdlcjpcbkbaadoor", sum := "743c5c897133e5886e5be73693c493e40edf8ee69ac19cdc41f9f92f194f5e4f", func := "stylus/styluslaw12.FrameBack", spec := "frameBack", unfollowed := true, recurses := true, named := ["stylus/frame.first"], apart := false, laid := [("stylus/frame.first", laid_stylus_frame_first)] }
def FrameBackSaid : Prop := frameBackRow.holds Tryd.pinned (OpenSpec.ofChange frameBackSpec)

/-- ITS FALSE NEIGHBOUR: 'it returns false'. Refute it at one input. -/
def frameBackWrong : ChangeSpec := { name := "frameBack", fn := fun _ => fun
  | [d1, d2, d3] => { results := [.lit (.bool false)], args := [d1, d2, d3] }
  | _ => none }
def FrameBackWrongFalsely : Prop := frameBackRow.holds Tryd.pinned (OpenSpec.ofChange frameBackWrong)

/-- 'styluslaw12.FrameChanged': WHATEVER THE INPUT: true; the input reads as it did. -/
def frameChangedSpec : ChangeSpec := { name := "frameChanged", fn := fun _ => fun
  | [d1, d2, d3] => { results := [.lit (.bool true)], args := [d1, d2, d3] }
  | _ => none }
def frameChangedRow : OpenClaim := { program := "ytnbhdlcjpcbkbaadoor", sum := "743c5c897133e5886e5be73693c493e40edf8ee69ac19cdc41f9f92f194f5e4f", func := "stylus/styluslaw12.FrameChanged", spec := "frameChanged", unfollowed := true, recurses := true, named := ["stylus/frame.first"], apart := false, laid := [("stylus/frame.first", laid_stylus_frame_first)] }
def FrameChangedSaid : Prop := frameChangedRow.holds Tryd.pinned (OpenSpec.ofChange frameChangedSpec)

/-- ITS FALSE NEIGHBOUR: 'it returns false'. Refute it at one input. -/
def frameChangedWrong : ChangeSpec := { name := "frameChanged", fn := fun _ => fun
  | [d1, d2, d3] => { results := [.lit (.bool false)], args := [d1, d2, d3] }
  | _ => none }
def FrameChangedWrongFalsely : Prop := frameChangedRow.holds Tryd.pinned (OpenSpec.ofChange frameChangedWrong)

/- THE SECOND FORM. 'bulk': how many values and letters a reading holds, each counted each time it is reached (what is shared counts as often as it is met; a slice's spare places count too). A statement '..UptoSaid' is the law's where the arguments, and the package variables that the reading takes, are together of bulk at most 1048576: NARROWER than '..Said'. Prove '..Said' where nothing that the law and all that it calls make is longer than what came in: it says more and counts as full. Else prove '..UptoSaid'. A law counts once. -/
mutual
def uptoBulk {H : Type} : DataW H → Nat
  | .lit (.string bytes) => bytes.length + 1
  | .lit _ => 1
  | .nil => 1
  | .ptr d => uptoBulk d + 1
  | .slice elems spare => uptoBulkAll elems + uptoBulkAll spare + 1
  | .agg parts => uptoBulkAll parts + 1
  | .iface _ d => uptoBulk d + 1
  | .map entries => uptoBulkEntries entries + 1
  | .held _ => 1
def uptoBulkAll {H : Type} : List (DataW H) → Nat
  | [] => 0
  | d :: r => uptoBulk d + uptoBulkAll r
def uptoBulkEntries {H : Type} : List (Lit × DataW H) → Nat
  | [] => 0
  | x :: r => uptoBulkEntry x + uptoBulkEntries r
def uptoBulkEntry {H : Type} : Lit × DataW H → Nat
  | (.string bytes, d) => bytes.length + uptoBulk d + 1
  | (_, d) => uptoBulk d + 1
 end
def uptoSmall : (H : Type) → List (DataW H) → Bool := fun _ ds => decide (uptoBulkAll ds ≤ 1048576)
def OpenSpec.upto (s : _root_.Go.ChangeSpec) : _root_.Go.OpenSpec := { _root_.Go.OpenSpec.ofChange s with cond := some uptoSmall }

/-- 'styluslaw12.FrameLays', WHERE WHAT IT READS IS OF BULK AT MOST 1048576: true; the input reads as it did. -/
def frameLaysUptoRow : OpenClaim := { program := "ytnbhdlcjpcbkbaadoor", sum := "743c5c897133e5886e5be73693c493e40edf8ee69ac19cdc41f9f92f194f5e4f", func := "stylus/styluslaw12.FrameLays", spec := "frameLays", unfollowed := true, recurses := true, named := ["stylus/frame.first"], apart := false, laid := [("stylus/frame.first", laid_stylus_frame_first)], narrowed := true }
def FrameLaysUptoSaid : Prop := frameLaysUptoRow.holds Tryd.pinned (OpenSpec.upto frameLaysSpec)

/-- 'styluslaw12.FrameOnes', WHERE WHAT IT READS IS OF BULK AT MOST 1048576: true; the input reads as it did. -/
def frameOnesUptoRow : OpenClaim := { program := "ytnbhdlcjpcbkbaadoor", sum := "743c5c897133e5886e5be73693c493e40edf8ee69ac19cdc41f9f92f194f5e4f", func := "stylus/styluslaw12.FrameOnes", spec := "frameOnes", unfollowed := true, recurses := true, named := ["stylus/frame.first"], apart := false, laid := [("stylus/frame.first", laid_stylus_frame_first)], narrowed := true }
def FrameOnesUptoSaid : Prop := frameOnesUptoRow.holds Tryd.pinned (OpenSpec.upto frameOnesSpec)

/-- 'styluslaw12.FrameBack', WHERE WHAT IT READS IS OF BULK AT MOST 1048576: true; the input reads as it did. -/
def frameBackUptoRow : OpenClaim := { program := "ytnbhdlcjpcbkbaadoor", sum := "743c5c897133e5886e5be73693c493e40edf8ee69ac19cdc41f9f92f194f5e4f", func := "stylus/styluslaw12.FrameBack", spec := "frameBack", unfollowed := true, recurses := true, named := ["stylus/frame.first"], apart := false, laid := [("stylus/frame.first", laid_stylus_frame_first)], narrowed := true }
def FrameBackUptoSaid : Prop := frameBackUptoRow.holds Tryd.pinned (OpenSpec.upto frameBackSpec)

/-- 'styluslaw12.FrameChanged', WHERE WHAT IT READS IS OF BULK AT MOST 1048576: true; the input reads as it did. -/
def frameChangedUptoRow : OpenClaim := { program := "ytnbhdlcjpcbkbaadoor", sum := "743c5c897133e5886e5be73693c493e40edf8ee69ac19cdc41f9f92f194f5e4f", func := "stylus/styluslaw12.FrameChanged", spec := "frameChanged", unfollowed := true, recurses := true, named := ["stylus/frame.first"], apart := false, laid := [("stylus/frame.first", laid_stylus_frame_first)], narrowed := true }
def FrameChangedUptoSaid : Prop := frameChangedUptoRow.holds Tryd.pinned (OpenSpec.upto frameChangedSpec)

end Rows
end Go.Proofs.YtnbhdlcjpcbkbaaDoor
