/-
  No cell of these rows narrows 'for every input' (looked for: loops, veiled, ifaces, maps, wideKeys, modest, calm, conditions, laid).
  DERIVED. THE GIVEN ROWS OF THIS SEAT. 3 by the template 'for every input the law returns true; each argument reads behind the call as it read before'; 0 by the template 'total and deterministic' (their statements: YtiodmjnjgjpljaaTotals.lean).
  GIVEN WITH THE SEED: the statements are not yours to turn. If you find one false, say at which input.
  Laid BY PROGRAM, IN A SANDBOX (cutbox-rows.mjs): the forced cells as the released guide's own fill.sh prints them over the translation 385d11910d7cb3e6… (all of the seat's roots in one cut). By AI agents, Wed Nov 11 2026. No macro, syntax, notation, axiom, sorry.
-/
import Derived.Test.YtiodmjnjgjpljaaChecked
import GoSem.Claim
import GoSem.ClaimJoined
import GoSem.ClaimMapViews
import Derived.JoinedTies
import Derived.KernelRfl
namespace Go.Proofs.Ytiodmjnjgjpljaa
/- THE CELL 'sum', in the pinned program and in every row, IS THE sha256 OF THE DUMP (.gsa) THAT YtiodmjnjgjpljaaProg.lean LOADS. Nothing in Lean hashes anything: it is a label: what it is worth is what the hold of that sum in a sandbox is worth. -/
noncomputable def Try.pinned : Pinned := { name := "ytiodmjnjgjpljaa", sum := "385d11910d7cb3e610b26f88d3ef56a93afb13e484deb61cb38197fbdae1281d", checked := Try.checked }
namespace Rows
def none {H : Type} : Left H := { results := [], args := [] }

/-- 'styluslaw06.BlendMixes': WHATEVER THE INPUT: true; the input reads as it did. -/
def blendMixesSpec : ChangeSpec := { name := "blendMixes", fn := fun _ => fun
  | [d1, d2, d3] => { results := [.lit (.bool true)], args := [d1, d2, d3] }
  | _ => none }
def blendMixesRow : OpenClaim := { program := "ytiodmjnjgjpljaa", sum := "385d11910d7cb3e610b26f88d3ef56a93afb13e484deb61cb38197fbdae1281d", func := "stylus/styluslaw06.BlendMixes", spec := "blendMixes", inPlace := ["internal/abi.NoEscape", "internal/bytealg.MakeNoZero"], apart := false }
def BlendMixesSaid : Prop := blendMixesRow.holds Try.pinned (OpenSpec.ofChange blendMixesSpec)

/-- ITS FALSE NEIGHBOUR: 'it returns false'. Refute it at one input. -/
def blendMixesWrong : ChangeSpec := { name := "blendMixes", fn := fun _ => fun
  | [d1, d2, d3] => { results := [.lit (.bool false)], args := [d1, d2, d3] }
  | _ => none }
def BlendMixesWrongFalsely : Prop := blendMixesRow.holds Try.pinned (OpenSpec.ofChange blendMixesWrong)

/-- 'styluslaw06.BlendEnds': WHATEVER THE INPUT: true; the input reads as it did. -/
def blendEndsSpec : ChangeSpec := { name := "blendEnds", fn := fun _ => fun
  | [d1, d2, d3] => { results := [.lit (.bool true)], args := [d1, d2, d3] }
  | _ => none }
def blendEndsRow : OpenClaim := { program := "ytiodmjnjgjpljaa", sum := "385d11910d7cb3e610b26f88d3ef56a93afb13e484deb61cb38197fbdae1281d", func := "stylus/styluslaw06.BlendEnds", spec := "blendEnds", inPlace := ["internal/abi.NoEscape", "internal/bytealg.MakeNoZero"], apart := false }
def BlendEndsSaid : Prop := blendEndsRow.holds Try.pinned (OpenSpec.ofChange blendEndsSpec)

/-- ITS FALSE NEIGHBOUR: 'it returns false'. Refute it at one input. -/
def blendEndsWrong : ChangeSpec := { name := "blendEnds", fn := fun _ => fun
  | [d1, d2, d3] => { results := [.lit (.bool false)], args := [d1, d2, d3] }
  | _ => none }
def BlendEndsWrongFalsely : Prop := blendEndsRow.holds Try.pinned (OpenSpec.ofChange blendEndsWrong)

/-- 'styluslaw06.BlendBytes': WHATEVER THE INPUT: true; the input reads as it did. -/
def blendBytesSpec : ChangeSpec := { name := "blendBytes", fn := fun _ => fun
  | [d1, d2, d3] => { results := [.lit (.bool true)], args := [d1, d2, d3] }
  | _ => none }
def blendBytesRow : OpenClaim := { program := "ytiodmjnjgjpljaa", sum := "385d11910d7cb3e610b26f88d3ef56a93afb13e484deb61cb38197fbdae1281d", func := "stylus/styluslaw06.BlendBytes", spec := "blendBytes", inPlace := ["internal/abi.NoEscape", "internal/bytealg.MakeNoZero"], apart := false }
def BlendBytesSaid : Prop := blendBytesRow.holds Try.pinned (OpenSpec.ofChange blendBytesSpec)

/-- ITS FALSE NEIGHBOUR: 'it returns false'. Refute it at one input. -/
def blendBytesWrong : ChangeSpec := { name := "blendBytes", fn := fun _ => fun
  | [d1, d2, d3] => { results := [.lit (.bool false)], args := [d1, d2, d3] }
  | _ => none }
def BlendBytesWrongFalsely : Prop := blendBytesRow.holds Try.pinned (OpenSpec.ofChange blendBytesWrong)

/- THE SECOND FORM. 'bulk': how many values and letters a reading holds, each counted each time it is reached (what is shared counts as often as it is met; a slice's spare places count too). A statement '..UptoSaid' is the law's where the arguments, and the package variables that the reading takes, are together of bulk at most 1048576: NARROWER than '..Said'. Prove '..Said' where nothing that the law and all that it calls make is longer than what came in: it says more and counts as full. Else prove '..UptoSaid'. A law counts once. -/
mutual
def uptoBulk {H : Type} : DataW H → Nat
  | .lit (.string bytes) => bytes.length + 1
  | .lit _ => 1
  | .nil => 1
  | .ptr d => uptoBulk d + 1
  | .slice elems spare => uptoBulkAll elems + uptoBulkAll spare + 1
  | .agg parts => uptoBulkAll parts + 1
  | .iface _ d => uptoBulk d + 1
  | .map entries => uptoBulkEntries entries + 1
  | .held _ => 1
def uptoBulkAll {H : Type} : List (DataW H) → Nat
  | [] => 0
  | d :: r => uptoBulk d + uptoBulkAll r
def uptoBulkEntries {H : Type} : List (Lit × DataW H) → Nat
  | [] => 0
  | x :: r => uptoBulkEntry x + uptoBulkEntries r
def uptoBulkEntry {H : Type} : Lit × DataW H → Nat
  | (.string bytes, d) => bytes.length + uptoBulk d + 1
  | (_, d) => uptoBulk d + 1
 end
def uptoSmall : (H : Type) → List (DataW H) → Bool := fun _ ds => decide (uptoBulkAll ds ≤ 1048576)
def OpenSpec.upto (s : _root_.Go.ChangeSpec) : _root_.Go.OpenSpec := { _root_.Go.OpenSpec.ofChange s with cond := some uptoSmall }

/-- 'styluslaw06.BlendMixes', WHERE WHAT IT READS IS OF BULK AT MOST 1048576: true; the input reads as it did. -/
def blendMixesUptoRow : OpenClaim := { program := "ytiodmjnjgjpljaa", sum := "385d11910d7cb3e610b26f88d3ef56a93afb13e484deb61cb38197fbdae1281d", func := "stylus/styluslaw06.BlendMixes", spec := "blendMixes", inPlace := ["internal/abi.NoEscape", "internal/bytealg.MakeNoZero"], apart := false, narrowed := true }
def BlendMixesUptoSaid : Prop := blendMixesUptoRow.holds Try.pinned (OpenSpec.upto blendMixesSpec)

/-- 'styluslaw06.BlendEnds', WHERE WHAT IT READS IS OF BULK AT MOST 1048576: true; the input reads as it did. -/
def blendEndsUptoRow : OpenClaim := { program := "ytiodmjnjgjpljaa", sum := "385d11910d7cb3e610b26f88d3ef56a93afb13e484deb61cb38197fbdae1281d", func := "stylus/styluslaw06.BlendEnds", spec := "blendEnds", inPlace := ["internal/abi.NoEscape", "internal/bytealg.MakeNoZero"], apart := false, narrowed := true }
def BlendEndsUptoSaid : Prop := blendEndsUptoRow.holds Try.pinned (OpenSpec.upto blendEndsSpec)

/-- 'styluslaw06.BlendBytes', WHERE WHAT IT READS IS OF BULK AT MOST 1048576: true; the input reads as it did. -/
def blendBytesUptoRow : OpenClaim := { program := "ytiodmjnjgjpljaa", sum := "385d11910d7cb3e610b26f88d3ef56a93afb13e484deb61cb38197fbdae1281d", func := "stylus/styluslaw06.BlendBytes", spec := "blendBytes", inPlace := ["internal/abi.NoEscape", "internal/bytealg.MakeNoZero"], apart := false, narrowed := true }
def BlendBytesUptoSaid : Prop := blendBytesUptoRow.holds Try.pinned (OpenSpec.upto blendBytesSpec)

end Rows
end Go.Proofs.Ytiodmjnjgjpljaa
