/-
  No cell of these rows narrows 'for every input' (looked for: loops, veiled, ifaces, maps, wideKeys, modest, calm, conditions, laid).
  DERIVED. THE GIVEN ROWS OF THIS SEAT. 3 by the template 'for every input the law returns true; each argument reads behind the call as it read before'; 0 by the template 'total and deterministic' (their statements: YteopkjcofcmgoaaTotals.lean).
  GIVEN WITH THE SEED: the statements are not yours to turn. If you find one false, say at which input.
  Laid BY PROGRAM, IN A SANDBOX (cutbox-rows.mjs): the forced cells as the released guide's own fill.sh prints them over the translation b06e39dbe55fab39… (all of the seat's roots in one cut). By AI agents, Wed Nov 11 2026. No macro, syntax, notation, axiom, sorry.
-/
import Derived.Test.YteopkjcofcmgoaaChecked
import GoSem.Claim
import GoSem.ClaimJoined
import GoSem.ClaimMapViews
import Derived.JoinedTies
import Derived.KernelRfl
namespace Go.Proofs.Yteopkjcofcmgoaa
/- THE CELL 'sum', in the pinned program and in every row, IS THE sha256 OF THE DUMP (.gsa) THAT YteopkjcofcmgoaaProg.lean LOADS. Nothing in Lean hashes anything: it is a label: what it is worth is what the hold of that sum in a sandbox is worth. -/
noncomputable def Try.pinned : Pinned := { name := "yteopkjcofcmgoaa", sum := "b06e39dbe55fab39eb90316183174bc336a63a26c328af2784e780bdf025835c", checked := Try.checked }
namespace Rows
def none {H : Type} : Left H := { results := [], args := [] }

/-- 'styluslaw19.SeekRunes': WHATEVER THE INPUT: true; the input reads as it did. -/
def seekRunesSpec : ChangeSpec := { name := "seekRunes", fn := fun _ => fun
  | [d1, d2, d3] => { results := [.lit (.bool true)], args := [d1, d2, d3] }
  | _ => none }
def seekRunesRow : OpenClaim := { program := "yteopkjcofcmgoaa", sum := "b06e39dbe55fab39eb90316183174bc336a63a26c328af2784e780bdf025835c", func := "stylus/styluslaw19.SeekRunes", spec := "seekRunes", unfollowed := true, recurses := true, apart := false }
def SeekRunesSaid : Prop := seekRunesRow.holds Try.pinned (OpenSpec.ofChange seekRunesSpec)

/-- ITS FALSE NEIGHBOUR: 'it returns false'. Refute it at one input. -/
def seekRunesWrong : ChangeSpec := { name := "seekRunes", fn := fun _ => fun
  | [d1, d2, d3] => { results := [.lit (.bool false)], args := [d1, d2, d3] }
  | _ => none }
def SeekRunesWrongFalsely : Prop := seekRunesRow.holds Try.pinned (OpenSpec.ofChange seekRunesWrong)

/-- 'styluslaw19.SeekLines': WHATEVER THE INPUT: true; the input reads as it did. -/
def seekLinesSpec : ChangeSpec := { name := "seekLines", fn := fun _ => fun
  | [d1, d2, d3] => { results := [.lit (.bool true)], args := [d1, d2, d3] }
  | _ => none }
def seekLinesRow : OpenClaim := { program := "yteopkjcofcmgoaa", sum := "b06e39dbe55fab39eb90316183174bc336a63a26c328af2784e780bdf025835c", func := "stylus/styluslaw19.SeekLines", spec := "seekLines", inPlace := ["internal/abi.NoEscape", "internal/bytealg.MakeNoZero"], unfollowed := true, recurses := true, apart := false }
def SeekLinesSaid : Prop := seekLinesRow.holds Try.pinned (OpenSpec.ofChange seekLinesSpec)

/-- ITS FALSE NEIGHBOUR: 'it returns false'. Refute it at one input. -/
def seekLinesWrong : ChangeSpec := { name := "seekLines", fn := fun _ => fun
  | [d1, d2, d3] => { results := [.lit (.bool false)], args := [d1, d2, d3] }
  | _ => none }
def SeekLinesWrongFalsely : Prop := seekLinesRow.holds Try.pinned (OpenSpec.ofChange seekLinesWrong)

/-- 'styluslaw19.SeekBack': WHATEVER THE INPUT: true; the input reads as it did. -/
def seekBackSpec : ChangeSpec := { name := "seekBack", fn := fun _ => fun
  | [d1, d2] => { results := [.lit (.bool true)], args := [d1, d2] }
  | _ => none }
def seekBackRow : OpenClaim := { program := "yteopkjcofcmgoaa", sum := "b06e39dbe55fab39eb90316183174bc336a63a26c328af2784e780bdf025835c", func := "stylus/styluslaw19.SeekBack", spec := "seekBack", inPlace := ["internal/abi.NoEscape", "internal/bytealg.MakeNoZero"], unfollowed := true, recurses := true, apart := false }
def SeekBackSaid : Prop := seekBackRow.holds Try.pinned (OpenSpec.ofChange seekBackSpec)

/-- ITS FALSE NEIGHBOUR: 'it returns false'. Refute it at one input. -/
def seekBackWrong : ChangeSpec := { name := "seekBack", fn := fun _ => fun
  | [d1, d2] => { results := [.lit (.bool false)], args := [d1, d2] }
  | _ => none }
def SeekBackWrongFalsely : Prop := seekBackRow.holds Try.pinned (OpenSpec.ofChange seekBackWrong)

/- THE SECOND FORM. 'bulk': how many values and letters a reading holds, each counted each time it is reached (what is shared counts as often as it is met; a slice's spare places count too). A statement '..UptoSaid' is the law's where the arguments, and the package variables that the reading takes, are together of bulk at most 1048576: NARROWER than '..Said'. Prove '..Said' where nothing that the law and all that it calls make is longer than what came in: it says more and counts as full. Else prove '..UptoSaid'. A law counts once. -/
mutual
def uptoBulk {H : Type} : DataW H → Nat
  | .lit (.string bytes) => bytes.length + 1
  | .lit _ => 1
  | .nil => 1
  | .ptr d => uptoBulk d + 1
  | .slice elems spare => uptoBulkAll elems + uptoBulkAll spare + 1
  | .agg parts => uptoBulkAll parts + 1
  | .iface _ d => uptoBulk d + 1
  | .map entries => uptoBulkEntries entries + 1
  | .held _ => 1
def uptoBulkAll {H : Type} : List (DataW H) → Nat
  | [] => 0
  | d :: r => uptoBulk d + uptoBulkAll r
def uptoBulkEntries {H : Type} : List (Lit × DataW H) → Nat
  | [] => 0
  | x :: r => uptoBulkEntry x + uptoBulkEntries r
def uptoBulkEntry {H : Type} : Lit × DataW H → Nat
  | (.string bytes, d) => bytes.length + uptoBulk d + 1
  | (_, d) => uptoBulk d + 1
 end
def uptoSmall : (H : Type) → List (DataW H) → Bool := fun _ ds => decide (uptoBulkAll ds ≤ 1048576)
def OpenSpec.upto (s : _root_.Go.ChangeSpec) : _root_.Go.OpenSpec := { _root_.Go.OpenSpec.ofChange s with cond := some uptoSmall }

/-- 'styluslaw19.SeekRunes', WHERE WHAT IT READS IS OF BULK AT MOST 1048576: true; the input reads as it did. -/
def seekRunesUptoRow : OpenClaim := { program := "yteopkjcofcmgoaa", sum := "b06e39dbe55fab39eb90316183174bc336a63a26c328af2784e780bdf025835c", func := "stylus/styluslaw19.SeekRunes", spec := "seekRunes", unfollowed := true, recurses := true, apart := false, narrowed := true }
def SeekRunesUptoSaid : Prop := seekRunesUptoRow.holds Try.pinned (OpenSpec.upto seekRunesSpec)

/-- 'styluslaw19.SeekLines', WHERE WHAT IT READS IS OF BULK AT MOST 1048576: true; the input reads as it did. -/
def seekLinesUptoRow : OpenClaim := { program := "yteopkjcofcmgoaa", sum := "b06e39dbe55fab39eb90316183174bc336a63a26c328af2784e780bdf025835c", func := "stylus/styluslaw19.SeekLines", spec := "seekLines", inPlace := ["internal/abi.NoEscape", "internal/bytealg.MakeNoZero"], unfollowed := true, recurses := true, apart := false, narrowed := true }
def SeekLinesUptoSaid : Prop := seekLinesUptoRow.holds Try.pinned (OpenSpec.upto seekLinesSpec)

/-- 'styluslaw19.SeekBack', WHERE WHAT IT READS IS OF BULK AT MOST 1048576: true; the input reads as it did. -/
def seekBackUptoRow : OpenClaim := { program := "yteopkjcofcmgoaa", sum := "b06e39dbe55fab39eb90316183174bc336a63a26c328af2784e780bdf025835c", func := "stylus/styluslaw19.SeekBack", spec := "seekBack", inPlace := ["internal/abi.NoEscape", "internal/bytealg.MakeNoZero"], unfollowed := true, recurses := true, apart := false, narrowed := true }
def SeekBackUptoSaid : Prop := seekBackUptoRow.holds Try.pinned (OpenSpec.upto seekBackSpec)

end Rows
end Go.Proofs.Yteopkjcofcmgoaa
