/-
  NARROWER THAN 'FOR EVERY INPUT', by the rows' own cells (each row's printed sentence says how): ScanRuns: laid · ScanAnys: laid · ScanFinds: laid · ScanStops: laid · ScanFills: laid.
  DERIVED. THE GIVEN ROWS OF THIS SEAT. 5 by the template 'for every input the law returns true; each argument reads behind the call as it read before'; 0 by the template 'total and deterministic' (their statements: YtibbglmhcjnedaaDoorTotals.lean).
  GIVEN WITH THE SEED: the statements are not yours to turn. If you find one false, say at which input.
  Laid BY PROGRAM, IN A SANDBOX (cutbox-rows.mjs): the forced cells as the released guide's own fill.sh prints them over the translation 392b06d3f0dcee25… (all of the seat's roots in one cut). By AI agents, Wed Nov 11 2026. No macro, syntax, notation, axiom, sorry.
-/
import Derived.Test.YtibbglmhcjnedaaDoorChecked
import GoSem.Claim
import GoSem.ClaimJoined
import GoSem.ClaimMapViews
import Derived.JoinedTies
import Derived.KernelRfl
namespace Go.Proofs.YtibbglmhcjnedaaDoor
/- THE CELL 'sum', in the pinned program and in every row, IS THE sha256 OF THE DUMP (.gsa) THAT YtibbglmhcjnedaaDoorProg.lean LOADS. Nothing in Lean hashes anything: it is a label: what it is worth is what the hold of that sum in a sandbox is worth. -/
noncomputable def Tryd.pinned : Pinned := { name := "ytibbglmhcjnedaadoor", sum := "392b06d3f0dcee25fa8d4c687c65e192f69094685b51c960b2946278e6d8a749", checked := Tryd.checked }
namespace Rows
def none {H : Type} : Left H := { results := [], args := [] }

/- WHAT THE LISTED PACKAGE-LEVEL VARIABLES READ AS WHEN THE CALL BEGINS. Each datum BY PROGRAM (the guide's laid-datum.mjs) off the statement by which the dump's own 'gosem.cut.vars' lays the variable. In a bare row this is a premise. The card (YtibbglmhcjnedaaDoorCards.lean) ties it to the program's text. -/
def laid_stylus_frame_first {H : Type} : DataW H := .agg [.lit (.int .u8 83), .lit (.int .u8 74)]

/-- 'styluslaw13.ScanRuns': WHATEVER THE INPUT: true; the input reads as it did. -/
def scanRunsSpec : ChangeSpec := { name := "scanRuns", fn := fun _ => fun
  | [d1, d2, d3] => { results := [.lit (.bool true)], args := [d1, d2, d3] }
  | _ => none }
def scanRunsRow : OpenClaim := { program := "ytibbglmhcjnedaadoor", sum := "392b06d3f0dcee25fa8d4c687c65e192f69094685b51c960b2946278e6d8a749", func := "stylus/styluslaw13.ScanRuns", spec := "scanRuns", inPlace := ["internal/abi.NoEscape", "internal/bytealg.MakeNoZero"], unfollowed := true, recurses := true, named := ["stylus/frame.first"], apart := false, laid := [("stylus/frame.first", laid_stylus_frame_first)] }
def ScanRunsSaid : Prop := scanRunsRow.holds Tryd.pinned (OpenSpec.ofChange scanRunsSpec)

/-- ITS FALSE NEIGHBOUR: 'it returns false'. Refute it at one input. -/
def scanRunsWrong : ChangeSpec := { name := "scanRuns", fn := fun _ => fun
  | [d1, d2, d3] => { results := [.lit (.bool false)], args := [d1, d2, d3] }
  | _ => none }
def ScanRunsWrongFalsely : Prop := scanRunsRow.holds Tryd.pinned (OpenSpec.ofChange scanRunsWrong)

/-- 'styluslaw13.ScanAnys': WHATEVER THE INPUT: true; the input reads as it did. -/
def scanAnysSpec : ChangeSpec := { name := "scanAnys", fn := fun _ => fun
  | [d] => { results := [.lit (.bool true)], args := [d] }
  | _ => none }
def scanAnysRow : OpenClaim := { program := "ytibbglmhcjnedaadoor", sum := "392b06d3f0dcee25fa8d4c687c65e192f69094685b51c960b2946278e6d8a749", func := "stylus/styluslaw13.ScanAnys", spec := "scanAnys", inPlace := ["internal/abi.NoEscape", "internal/bytealg.MakeNoZero"], unfollowed := true, recurses := true, named := ["stylus/frame.first"], apart := false, laid := [("stylus/frame.first", laid_stylus_frame_first)] }
def ScanAnysSaid : Prop := scanAnysRow.holds Tryd.pinned (OpenSpec.ofChange scanAnysSpec)

/-- ITS FALSE NEIGHBOUR: 'it returns false'. Refute it at one input. -/
def scanAnysWrong : ChangeSpec := { name := "scanAnys", fn := fun _ => fun
  | [d] => { results := [.lit (.bool false)], args := [d] }
  | _ => none }
def ScanAnysWrongFalsely : Prop := scanAnysRow.holds Tryd.pinned (OpenSpec.ofChange scanAnysWrong)

/-- 'styluslaw13.ScanFinds': WHATEVER THE INPUT: true; the input reads as it did. -/
def scanFindsSpec : ChangeSpec := { name := "scanFinds", fn := fun _ => fun
  | [d1, d2, d3] => { results := [.lit (.bool true)], args := [d1, d2, d3] }
  | _ => none }
def scanFindsRow : OpenClaim := { program := "ytibbglmhcjnedaadoor", sum := "392b06d3f0dcee25fa8d4c687c65e192f69094685b51c960b2946278e6d8a749", func := "stylus/styluslaw13.ScanFinds", spec := "scanFinds", inPlace := ["internal/abi.NoEscape", "internal/bytealg.MakeNoZero"], unfollowed := true, recurses := true, named := ["stylus/frame.first"], apart := false, laid := [("stylus/frame.first", laid_stylus_frame_first)] }
def ScanFindsSaid : Prop := scanFindsRow.holds Tryd.pinned (OpenSpec.ofChange scanFindsSpec)

/-- ITS FALSE NEIGHBOUR: 'it returns false'. Refute it at one input. -/
def scanFindsWrong : ChangeSpec := { name := "scanFinds", fn := fun _ => fun
  | [d1, d2, d3] => { results := [.lit (.bool false)], args := [d1, d2, d3] }
  | _ => none }
def ScanFindsWrongFalsely : Prop := scanFindsRow.holds Tryd.pinned (OpenSpec.ofChange scanFindsWrong)

/-- 'styluslaw13.ScanStops': WHATEVER THE INPUT: true; the input reads as it did. -/
def scanStopsSpec : ChangeSpec := { name := "scanStops", fn := fun _ => fun
  | [d1, d2] => { results := [.lit (.bool true)], args := [d1, d2] }
  | _ => none }
def scanStopsRow : OpenClaim := { program := "ytibbglmhcjnedaadoor", sum := "392b06d3f0dcee25fa8d4c687c65e192f69094685b51c960b2946278e6d8a749", func := "stylus/styluslaw13.ScanStops", spec := "scanStops", inPlace := ["internal/abi.NoEscape", "internal/bytealg.MakeNoZero"], unfollowed := true, recurses := true, named := ["stylus/frame.first"], apart := false, laid := [("stylus/frame.first", laid_stylus_frame_first)] }
def ScanStopsSaid : Prop := scanStopsRow.holds Tryd.pinned (OpenSpec.ofChange scanStopsSpec)

/-- ITS FALSE NEIGHBOUR: 'it returns false'. Refute it at one input. -/
def scanStopsWrong : ChangeSpec := { name := "scanStops", fn := fun _ => fun
  | [d1, d2] => { results := [.lit (.bool false)], args := [d1, d2] }
  | _ => none }
def ScanStopsWrongFalsely : Prop := scanStopsRow.holds Tryd.pinned (OpenSpec.ofChange scanStopsWrong)

/-- 'styluslaw13.ScanFills': WHATEVER THE INPUT: true; the input reads as it did. -/
def scanFillsSpec : ChangeSpec := { name := "scanFills", fn := fun _ => fun
  | [d] => { results := [.lit (.bool true)], args := [d] }
  | _ => none }
def scanFillsRow : OpenClaim := { program := "ytibbglmhcjnedaadoor", sum := "392b06d3f0dcee25fa8d4c687c65e192f69094685b51c960b2946278e6d8a749", func := "stylus/styluslaw13.ScanFills", spec := "scanFills", inPlace := ["internal/abi.NoEscape", "internal/bytealg.MakeNoZero"], unfollowed := true, recurses := true, named := ["stylus/frame.first"], apart := false, laid := [("stylus/frame.first", laid_stylus_frame_first)] }
def ScanFillsSaid : Prop := scanFillsRow.holds Tryd.pinned (OpenSpec.ofChange scanFillsSpec)

/-- ITS FALSE NEIGHBOUR: 'it returns false'. Refute it at one input. -/
def scanFillsWrong : ChangeSpec := { name := "scanFills", fn := fun _ => fun
  | [d] => { results := [.lit (.bool false)], args := [d] }
  | _ => none }
def ScanFillsWrongFalsely : Prop := scanFillsRow.holds Tryd.pinned (OpenSpec.ofChange scanFillsWrong)

/- THE SECOND FORM. 'bulk': how many values and letters a reading holds, each counted each time it is reached (what is shared counts as often as it is met; a slice's spare places count too). A statement '..UptoSaid' is the law's where the arguments, and the package variables that the reading takes, are together of bulk at most 1048576: NARROWER than '..Said'. Prove '..Said' where nothing that the law and all that it calls make is longer than what came in: it says more and counts as full. Else prove '..UptoSaid'. A law counts once. -/
mutual
def uptoBulk {H : Type} : DataW H → Nat
  | .lit (.string bytes) => bytes.length + 1
  | .lit _ => 1
  | .nil => 1
  | .ptr d => uptoBulk d + 1
  | .slice elems spare => uptoBulkAll elems + uptoBulkAll spare + 1
  | .agg parts => uptoBulkAll parts + 1
  | .iface _ d => uptoBulk d + 1
  | .map entries => uptoBulkEntries entries + 1
  | .held _ => 1
def uptoBulkAll {H : Type} : List (DataW H) → Nat
  | [] => 0
  | d :: r => uptoBulk d + uptoBulkAll r
def uptoBulkEntries {H : Type} : List (Lit × DataW H) → Nat
  | [] => 0
  | x :: r => uptoBulkEntry x + uptoBulkEntries r
def uptoBulkEntry {H : Type} : Lit × DataW H → Nat
  | (.string bytes, d) => bytes.length + uptoBulk d + 1
  | (_, d) => uptoBulk d + 1
 end
def uptoSmall : (H : Type) → List (DataW H) → Bool := fun _ ds => decide (uptoBulkAll ds ≤ 1048576)
def OpenSpec.upto (s : _root_.Go.ChangeSpec) : _root_.Go.OpenSpec := { _root_.Go.OpenSpec.ofChange s with cond := some uptoSmall }

/-- 'styluslaw13.ScanRuns', WHERE WHAT IT READS IS OF BULK AT MOST 1048576: true; the input reads as it did. -/
def scanRunsUptoRow : OpenClaim := { program := "ytibbglmhcjnedaadoor", sum := "392b06d3f0dcee25fa8d4c687c65e192f69094685b51c960b2946278e6d8a749", func := "stylus/styluslaw13.ScanRuns", spec := "scanRuns", inPlace := ["internal/abi.NoEscape", "internal/bytealg.MakeNoZero"], unfollowed := true, recurses := true, named := ["stylus/frame.first"], apart := false, laid := [("stylus/frame.first", laid_stylus_frame_first)], narrowed := true }
def ScanRunsUptoSaid : Prop := scanRunsUptoRow.holds Tryd.pinned (OpenSpec.upto scanRunsSpec)

/-- 'styluslaw13.ScanAnys', WHERE WHAT IT READS IS OF BULK AT MOST 1048576: true; the input reads as it did. -/
def scanAnysUptoRow : OpenClaim := { program := "ytibbglmhcjnedaadoor", sum := "392b06d3f0dcee25fa8d4c687c65e192f69094685b51c960b2946278e6d8a749", func := "stylus/styluslaw13.ScanAnys", spec := "scanAnys", inPlace := ["internal/abi.NoEscape", "internal/bytealg.MakeNoZero"], unfollowed := true, recurses := true, named := ["stylus/frame.first"], apart := false, laid := [("stylus/frame.first", laid_stylus_frame_first)], narrowed := true }
def ScanAnysUptoSaid : Prop := scanAnysUptoRow.holds Tryd.pinned (OpenSpec.upto scanAnysSpec)

/-- 'styluslaw13.ScanFinds', WHERE WHAT IT READS IS OF BULK AT MOST 1048576: true; the input reads as it did. -/
def scanFindsUptoRow : OpenClaim := { program := "ytibbglmhcjnedaadoor", sum := "392b06d3f0dcee25fa8d4c687c65e192f69094685b51c960b2946278e6d8a749", func := "stylus/styluslaw13.ScanFinds", spec := "scanFinds", inPlace := ["internal/abi.NoEscape", "internal/bytealg.MakeNoZero"], unfollowed := true, recurses := true, named := ["stylus/frame.first"], apart := false, laid := [("stylus/frame.first", laid_stylus_frame_first)], narrowed := true }
def ScanFindsUptoSaid : Prop := scanFindsUptoRow.holds Tryd.pinned (OpenSpec.upto scanFindsSpec)

/-- 'styluslaw13.ScanStops', WHERE WHAT IT READS IS OF BULK AT MOST 1048576: true; the input reads as it did. -/
def scanStopsUptoRow : OpenClaim := { program := "ytibbglmhcjnedaadoor", sum := "392b06d3f0dcee25fa8d4c687c65e192f69094685b51c960b2946278e6d8a749", func := "stylus/styluslaw13.ScanStops", spec := "scanStops", inPlace := ["internal/abi.NoEscape", "internal/bytealg.MakeNoZero"], unfollowed := true, recurses := true, named := ["stylus/frame.first"], apart := false, laid := [("stylus/frame.first", laid_stylus_frame_first)], narrowed := true }
def ScanStopsUptoSaid : Prop := scanStopsUptoRow.holds Tryd.pinned (OpenSpec.upto scanStopsSpec)

/-- 'styluslaw13.ScanFills', WHERE WHAT IT READS IS OF BULK AT MOST 1048576: true; the input reads as it did. -/
def scanFillsUptoRow : OpenClaim := { program := "ytibbglmhcjnedaadoor", sum := "392b06d3f0dcee25fa8d4c687c65e192f69094685b51c960b2946278e6d8a749", func := "stylus/styluslaw13.ScanFills", spec := "scanFills", inPlace := ["internal/abi.NoEscape", "internal/bytealg.MakeNoZero"], unfollowed := true, recurses := true, named := ["stylus/frame.first"], apart := false, laid := [("stylus/frame.first", laid_stylus_frame_first)], narrowed := true }
def ScanFillsUptoSaid : Prop := scanFillsUptoRow.holds Tryd.pinned (OpenSpec.upto scanFillsSpec)

end Rows
end Go.Proofs.YtibbglmhcjnedaaDoor
