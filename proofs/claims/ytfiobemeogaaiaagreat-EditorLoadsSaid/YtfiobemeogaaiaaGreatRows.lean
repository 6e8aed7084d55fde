/-
  No cell of these rows narrows 'for every input' (looked for: loops, veiled, ifaces, maps, wideKeys, modest, calm, conditions, laid).
  DERIVED. THE GIVEN ROWS OF THIS SEAT. 5 by the template 'for every input the law returns true; each argument reads behind the call as it read before'; 0 by the template 'total and deterministic' (their statements: YtfiobemeogaaiaaGreatTotals.lean).
  GIVEN WITH THE SEED: the statements are not yours to turn. If you find one false, say at which input.
  Laid BY PROGRAM, IN A SANDBOX (cutbox-rows.mjs): the forced cells as the released guide's own fill.sh prints them over the translation fc7bd19b5183b9c7… (all of the seat's roots in one cut). By AI agents, Wed Nov 11 2026. No macro, syntax, notation, axiom, sorry.
-/
import Derived.Test.YtfiobemeogaaiaaGreatChecked
import GoSem.Claim
import GoSem.ClaimJoined
import GoSem.ClaimMapViews
import Derived.JoinedTies
import Derived.KernelRfl
namespace Go.Proofs.YtfiobemeogaaiaaGreat
/- THE CELL 'sum', in the pinned program and in every row, IS THE sha256 OF THE DUMP (.gsa) THAT YtfiobemeogaaiaaGreatProg.lean LOADS. Nothing in Lean hashes anything: it is a label: what it is worth is what the hold of that sum in a sandbox is worth. -/
noncomputable def Tryz.pinned : Pinned := { name := "ytfiobemeogaaiaagreat", sum := "fc7bd19b5183b9c7aef10bc7cc78f124e5cf228ed65bc9e56bc466fde8012a1c", checked := Tryz.checked }
namespace Rows
def none {H : Type} : Left H := { results := [], args := [] }

/-- 'styluslaw26.EditorPlays': WHATEVER THE INPUT: true; the input reads as it did. -/
def editorPlaysSpec : ChangeSpec := { name := "editorPlays", fn := fun _ => fun
  | [d1, d2] => { results := [.lit (.bool true)], args := [d1, d2] }
  | _ => none }
def editorPlaysRow : OpenClaim := { program := "ytfiobemeogaaiaagreat", sum := "fc7bd19b5183b9c7aef10bc7cc78f124e5cf228ed65bc9e56bc466fde8012a1c", func := "stylus/styluslaw26.EditorPlays", spec := "editorPlays", inPlace := ["internal/abi.NoEscape", "internal/bytealg.MakeNoZero"], unfollowed := true, recurses := true, apart := false }
def EditorPlaysSaid : Prop := editorPlaysRow.holds Tryz.pinned (OpenSpec.ofChange editorPlaysSpec)

/-- ITS FALSE NEIGHBOUR: 'it returns false'. Refute it at one input. -/
def editorPlaysWrong : ChangeSpec := { name := "editorPlays", fn := fun _ => fun
  | [d1, d2] => { results := [.lit (.bool false)], args := [d1, d2] }
  | _ => none }
def EditorPlaysWrongFalsely : Prop := editorPlaysRow.holds Tryz.pinned (OpenSpec.ofChange editorPlaysWrong)

/-- 'styluslaw26.EditorLoads': WHATEVER THE INPUT: true; the input reads as it did. -/
def editorLoadsSpec : ChangeSpec := { name := "editorLoads", fn := fun _ => fun
  | [d1, d2] => { results := [.lit (.bool true)], args := [d1, d2] }
  | _ => none }
def editorLoadsRow : OpenClaim := { program := "ytfiobemeogaaiaagreat", sum := "fc7bd19b5183b9c7aef10bc7cc78f124e5cf228ed65bc9e56bc466fde8012a1c", func := "stylus/styluslaw26.EditorLoads", spec := "editorLoads", inPlace := ["internal/abi.NoEscape", "internal/bytealg.MakeNoZero"], unfollowed := true, recurses := true, apart := false }
def EditorLoadsSaid : Prop := editorLoadsRow.holds Tryz.pinned (OpenSpec.ofChange editorLoadsSpec)

/-- ITS FALSE NEIGHBOUR: 'it returns false'. Refute it at one input. -/
def editorLoadsWrong : ChangeSpec := { name := "editorLoads", fn := fun _ => fun
  | [d1, d2] => { results := [.lit (.bool false)], args := [d1, d2] }
  | _ => none }
def EditorLoadsWrongFalsely : Prop := editorLoadsRow.holds Tryz.pinned (OpenSpec.ofChange editorLoadsWrong)

/-- 'styluslaw26.EditorRight': WHATEVER THE INPUT: true; the input reads as it did. -/
def editorRightSpec : ChangeSpec := { name := "editorRight", fn := fun _ => fun
  | [d] => { results := [.lit (.bool true)], args := [d] }
  | _ => none }
def editorRightRow : OpenClaim := { program := "ytfiobemeogaaiaagreat", sum := "fc7bd19b5183b9c7aef10bc7cc78f124e5cf228ed65bc9e56bc466fde8012a1c", func := "stylus/styluslaw26.EditorRight", spec := "editorRight", inPlace := ["internal/abi.NoEscape", "internal/bytealg.MakeNoZero"], unfollowed := true, recurses := true, apart := false }
def EditorRightSaid : Prop := editorRightRow.holds Tryz.pinned (OpenSpec.ofChange editorRightSpec)

/-- ITS FALSE NEIGHBOUR: 'it returns false'. Refute it at one input. -/
def editorRightWrong : ChangeSpec := { name := "editorRight", fn := fun _ => fun
  | [d] => { results := [.lit (.bool false)], args := [d] }
  | _ => none }
def EditorRightWrongFalsely : Prop := editorRightRow.holds Tryz.pinned (OpenSpec.ofChange editorRightWrong)

/-- 'styluslaw26.EditorTurns': WHATEVER THE INPUT: true; the input reads as it did. -/
def editorTurnsSpec : ChangeSpec := { name := "editorTurns", fn := fun _ => fun
  | [d1, d2] => { results := [.lit (.bool true)], args := [d1, d2] }
  | _ => none }
def editorTurnsRow : OpenClaim := { program := "ytfiobemeogaaiaagreat", sum := "fc7bd19b5183b9c7aef10bc7cc78f124e5cf228ed65bc9e56bc466fde8012a1c", func := "stylus/styluslaw26.EditorTurns", spec := "editorTurns", inPlace := ["internal/abi.NoEscape", "internal/bytealg.MakeNoZero"], unfollowed := true, recurses := true, apart := false }
def EditorTurnsSaid : Prop := editorTurnsRow.holds Tryz.pinned (OpenSpec.ofChange editorTurnsSpec)

/-- ITS FALSE NEIGHBOUR: 'it returns false'. Refute it at one input. -/
def editorTurnsWrong : ChangeSpec := { name := "editorTurns", fn := fun _ => fun
  | [d1, d2] => { results := [.lit (.bool false)], args := [d1, d2] }
  | _ => none }
def EditorTurnsWrongFalsely : Prop := editorTurnsRow.holds Tryz.pinned (OpenSpec.ofChange editorTurnsWrong)

/-- 'styluslaw26.EditorNobody': WHATEVER THE INPUT: true; the input reads as it did. -/
def editorNobodySpec : ChangeSpec := { name := "editorNobody", fn := fun _ => fun
  | [d1, d2] => { results := [.lit (.bool true)], args := [d1, d2] }
  | _ => none }
def editorNobodyRow : OpenClaim := { program := "ytfiobemeogaaiaagreat", sum := "fc7bd19b5183b9c7aef10bc7cc78f124e5cf228ed65bc9e56bc466fde8012a1c", func := "stylus/styluslaw26.EditorNobody", spec := "editorNobody", inPlace := ["internal/abi.NoEscape", "internal/bytealg.MakeNoZero"], unfollowed := true, recurses := true, apart := false }
def EditorNobodySaid : Prop := editorNobodyRow.holds Tryz.pinned (OpenSpec.ofChange editorNobodySpec)

/-- ITS FALSE NEIGHBOUR: 'it returns false'. Refute it at one input. -/
def editorNobodyWrong : ChangeSpec := { name := "editorNobody", fn := fun _ => fun
  | [d1, d2] => { results := [.lit (.bool false)], args := [d1, d2] }
  | _ => none }
def EditorNobodyWrongFalsely : Prop := editorNobodyRow.holds Tryz.pinned (OpenSpec.ofChange editorNobodyWrong)

/- THE SECOND FORM. 'bulk': how many values and letters a reading holds, each counted each time it is reached (what is shared counts as often as it is met; a slice's spare places count too). A statement '..UptoSaid' is the law's where the arguments, and the package variables that the reading takes, are together of bulk at most 1048576: NARROWER than '..Said'. Prove '..Said' where nothing that the law and all that it calls make is longer than what came in: it says more and counts as full. Else prove '..UptoSaid'. A law counts once. -/
mutual
def uptoBulk {H : Type} : DataW H → Nat
  | .lit (.string bytes) => bytes.length + 1
  | .lit _ => 1
  | .nil => 1
  | .ptr d => uptoBulk d + 1
  | .slice elems spare => uptoBulkAll elems + uptoBulkAll spare + 1
  | .agg parts => uptoBulkAll parts + 1
  | .iface _ d => uptoBulk d + 1
  | .map entries => uptoBulkEntries entries + 1
  | .held _ => 1
def uptoBulkAll {H : Type} : List (DataW H) → Nat
  | [] => 0
  | d :: r => uptoBulk d + uptoBulkAll r
def uptoBulkEntries {H : Type} : List (Lit × DataW H) → Nat
  | [] => 0
  | x :: r => uptoBulkEntry x + uptoBulkEntries r
def uptoBulkEntry {H : Type} : Lit × DataW H → Nat
  | (.string bytes, d) => bytes.length + uptoBulk d + 1
  | (_, d) => uptoBulk d + 1
 end
def uptoSmall : (H : Type) → List (DataW H) → Bool := fun _ ds => decide (uptoBulkAll ds ≤ 1048576)
def OpenSpec.upto (s : _root_.Go.ChangeSpec) : _root_.Go.OpenSpec := { _root_.Go.OpenSpec.ofChange s with cond := some uptoSmall }

/-- 'styluslaw26.EditorPlays', WHERE WHAT IT READS IS OF BULK AT MOST 1048576: true; the input reads as it did. -/
def editorPlaysUptoRow : OpenClaim := { program := "ytfiobemeogaaiaagreat", sum := "fc7bd19b5183b9c7aef10bc7cc78f124e5cf228ed65bc9e56bc466fde8012a1c", func := "stylus/styluslaw26.EditorPlays", spec := "editorPlays", inPlace := ["internal/abi.NoEscape", "internal/bytealg.MakeNoZero"], unfollowed := true, recurses := true, apart := false, narrowed := true }
def EditorPlaysUptoSaid : Prop := editorPlaysUptoRow.holds Tryz.pinned (OpenSpec.upto editorPlaysSpec)

/-- 'styluslaw26.EditorLoads', WHERE WHAT IT READS IS OF BULK AT MOST 1048576: true; the input reads as it did. -/
def editorLoadsUptoRow : OpenClaim := { program := "ytfiobemeogaaiaagreat", sum := "fc7bd19b5183b9c7aef10bc7cc78f124e5cf228ed65bc9e56bc466fde8012a1c", func := "stylus/styluslaw26.EditorLoads", spec := "editorLoads", inPlace := ["internal/abi.NoEscape", "internal/bytealg.MakeNoZero"], unfollowed := true, recurses := true, apart := false, narrowed := true }
def EditorLoadsUptoSaid : Prop := editorLoadsUptoRow.holds Tryz.pinned (OpenSpec.upto editorLoadsSpec)

/-- 'styluslaw26.EditorRight', WHERE WHAT IT READS IS OF BULK AT MOST 1048576: true; the input reads as it did. -/
def editorRightUptoRow : OpenClaim := { program := "ytfiobemeogaaiaagreat", sum := "fc7bd19b5183b9c7aef10bc7cc78f124e5cf228ed65bc9e56bc466fde8012a1c", func := "stylus/styluslaw26.EditorRight", spec := "editorRight", inPlace := ["internal/abi.NoEscape", "internal/bytealg.MakeNoZero"], unfollowed := true, recurses := true, apart := false, narrowed := true }
def EditorRightUptoSaid : Prop := editorRightUptoRow.holds Tryz.pinned (OpenSpec.upto editorRightSpec)

/-- 'styluslaw26.EditorTurns', WHERE WHAT IT READS IS OF BULK AT MOST 1048576: true; the input reads as it did. -/
def editorTurnsUptoRow : OpenClaim := { program := "ytfiobemeogaaiaagreat", sum := "fc7bd19b5183b9c7aef10bc7cc78f124e5cf228ed65bc9e56bc466fde8012a1c", func := "stylus/styluslaw26.EditorTurns", spec := "editorTurns", inPlace := ["internal/abi.NoEscape", "internal/bytealg.MakeNoZero"], unfollowed := true, recurses := true, apart := false, narrowed := true }
def EditorTurnsUptoSaid : Prop := editorTurnsUptoRow.holds Tryz.pinned (OpenSpec.upto editorTurnsSpec)

/-- 'styluslaw26.EditorNobody', WHERE WHAT IT READS IS OF BULK AT MOST 1048576: true; the input reads as it did. -/
def editorNobodyUptoRow : OpenClaim := { program := "ytfiobemeogaaiaagreat", sum := "fc7bd19b5183b9c7aef10bc7cc78f124e5cf228ed65bc9e56bc466fde8012a1c", func := "stylus/styluslaw26.EditorNobody", spec := "editorNobody", inPlace := ["internal/abi.NoEscape", "internal/bytealg.MakeNoZero"], unfollowed := true, recurses := true, apart := false, narrowed := true }
def EditorNobodyUptoSaid : Prop := editorNobodyUptoRow.holds Tryz.pinned (OpenSpec.upto editorNobodySpec)

end Rows
end Go.Proofs.YtfiobemeogaaiaaGreat
