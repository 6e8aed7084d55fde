/-
  No cell of these rows narrows 'for every input' (looked for: loops, veiled, ifaces, maps, wideKeys, modest, calm, conditions, laid).
  DERIVED. THE GIVEN ROWS OF THIS SEAT. 4 by the template 'for every input the law returns true; each argument reads behind the call as it read before'; 0 by the template 'total and deterministic' (their statements: YtfgecjlccngddaaGreatTotals.lean).
  GIVEN WITH THE SEED: the statements are not yours to turn. If you find one false, say at which input.
  Laid BY PROGRAM, IN A SANDBOX (cutbox-rows.mjs): the forced cells as the released guide's own fill.sh prints them over the translation 3161e1cd5dbc159d… (all of the seat's roots in one cut). By AI agents, Wed Nov 11 2026. No macro, syntax, notation, axiom, sorry.
-/
import Derived.Test.YtfgecjlccngddaaGreatChecked
import GoSem.Claim
import GoSem.ClaimJoined
import GoSem.ClaimMapViews
import Derived.JoinedTies
import Derived.KernelRfl
namespace Go.Proofs.YtfgecjlccngddaaGreat
/- THE CELL 'sum', in the pinned program and in every row, IS THE sha256 OF THE DUMP (.gsa) THAT YtfgecjlccngddaaGreatProg.lean LOADS. Nothing in Lean hashes anything: it is a label: what it is worth is what the hold of that sum in a sandbox is worth. -/
noncomputable def Tryz.pinned : Pinned := { name := "ytfgecjlccngddaagreat", sum := "3161e1cd5dbc159d565fb8fc6746416bb9185ea094a3545498d22ea9def262b3", checked := Tryz.checked }
namespace Rows
def none {H : Type} : Left H := { results := [], args := [] }

/-- 'styluslaw11.SimdiskPlays': WHATEVER THE INPUT: true; the input reads as it did. -/
def simdiskPlaysSpec : ChangeSpec := { name := "simdiskPlays", fn := fun _ => fun
  | [d1, d2] => { results := [.lit (.bool true)], args := [d1, d2] }
  | _ => none }
def simdiskPlaysRow : OpenClaim := { program := "ytfgecjlccngddaagreat", sum := "3161e1cd5dbc159d565fb8fc6746416bb9185ea094a3545498d22ea9def262b3", func := "stylus/styluslaw11.SimdiskPlays", spec := "simdiskPlays", inPlace := ["internal/bytealg.IndexByteString", "maps.clone", "internal/abi.NoEscape", "internal/bytealg.MakeNoZero"], unfollowed := true, recurses := true, apart := false }
def SimdiskPlaysSaid : Prop := simdiskPlaysRow.holds Tryz.pinned (OpenSpec.ofChange simdiskPlaysSpec)

/-- ITS FALSE NEIGHBOUR: 'it returns false'. Refute it at one input. -/
def simdiskPlaysWrong : ChangeSpec := { name := "simdiskPlays", fn := fun _ => fun
  | [d1, d2] => { results := [.lit (.bool false)], args := [d1, d2] }
  | _ => none }
def SimdiskPlaysWrongFalsely : Prop := simdiskPlaysRow.holds Tryz.pinned (OpenSpec.ofChange simdiskPlaysWrong)

/-- 'styluslaw11.SimdiskLoads': WHATEVER THE INPUT: true; the input reads as it did. -/
def simdiskLoadsSpec : ChangeSpec := { name := "simdiskLoads", fn := fun _ => fun
  | [d1, d2, d3] => { results := [.lit (.bool true)], args := [d1, d2, d3] }
  | _ => none }
def simdiskLoadsRow : OpenClaim := { program := "ytfgecjlccngddaagreat", sum := "3161e1cd5dbc159d565fb8fc6746416bb9185ea094a3545498d22ea9def262b3", func := "stylus/styluslaw11.SimdiskLoads", spec := "simdiskLoads", inPlace := ["internal/bytealg.IndexByteString", "maps.clone", "internal/abi.NoEscape", "internal/bytealg.MakeNoZero"], unfollowed := true, recurses := true, apart := false }
def SimdiskLoadsSaid : Prop := simdiskLoadsRow.holds Tryz.pinned (OpenSpec.ofChange simdiskLoadsSpec)

/-- ITS FALSE NEIGHBOUR: 'it returns false'. Refute it at one input. -/
def simdiskLoadsWrong : ChangeSpec := { name := "simdiskLoads", fn := fun _ => fun
  | [d1, d2, d3] => { results := [.lit (.bool false)], args := [d1, d2, d3] }
  | _ => none }
def SimdiskLoadsWrongFalsely : Prop := simdiskLoadsRow.holds Tryz.pinned (OpenSpec.ofChange simdiskLoadsWrong)

/-- 'styluslaw11.SimdiskKeeps': WHATEVER THE INPUT: true; the input reads as it did. -/
def simdiskKeepsSpec : ChangeSpec := { name := "simdiskKeeps", fn := fun _ => fun
  | [d1, d2, d3] => { results := [.lit (.bool true)], args := [d1, d2, d3] }
  | _ => none }
def simdiskKeepsRow : OpenClaim := { program := "ytfgecjlccngddaagreat", sum := "3161e1cd5dbc159d565fb8fc6746416bb9185ea094a3545498d22ea9def262b3", func := "stylus/styluslaw11.SimdiskKeeps", spec := "simdiskKeeps", inPlace := ["internal/bytealg.IndexByteString", "maps.clone", "internal/abi.NoEscape", "internal/bytealg.MakeNoZero"], unfollowed := true, recurses := true, apart := false }
def SimdiskKeepsSaid : Prop := simdiskKeepsRow.holds Tryz.pinned (OpenSpec.ofChange simdiskKeepsSpec)

/-- ITS FALSE NEIGHBOUR: 'it returns false'. Refute it at one input. -/
def simdiskKeepsWrong : ChangeSpec := { name := "simdiskKeeps", fn := fun _ => fun
  | [d1, d2, d3] => { results := [.lit (.bool false)], args := [d1, d2, d3] }
  | _ => none }
def SimdiskKeepsWrongFalsely : Prop := simdiskKeepsRow.holds Tryz.pinned (OpenSpec.ofChange simdiskKeepsWrong)

/-- 'styluslaw11.SimdiskNobody': WHATEVER THE INPUT: true; the input reads as it did. -/
def simdiskNobodySpec : ChangeSpec := { name := "simdiskNobody", fn := fun _ => fun
  | [d1, d2] => { results := [.lit (.bool true)], args := [d1, d2] }
  | _ => none }
def simdiskNobodyRow : OpenClaim := { program := "ytfgecjlccngddaagreat", sum := "3161e1cd5dbc159d565fb8fc6746416bb9185ea094a3545498d22ea9def262b3", func := "stylus/styluslaw11.SimdiskNobody", spec := "simdiskNobody", inPlace := ["internal/bytealg.IndexByteString", "maps.clone", "internal/abi.NoEscape", "internal/bytealg.MakeNoZero"], unfollowed := true, recurses := true, apart := false }
def SimdiskNobodySaid : Prop := simdiskNobodyRow.holds Tryz.pinned (OpenSpec.ofChange simdiskNobodySpec)

/-- ITS FALSE NEIGHBOUR: 'it returns false'. Refute it at one input. -/
def simdiskNobodyWrong : ChangeSpec := { name := "simdiskNobody", fn := fun _ => fun
  | [d1, d2] => { results := [.lit (.bool false)], args := [d1, d2] }
  | _ => none }
def SimdiskNobodyWrongFalsely : Prop := simdiskNobodyRow.holds Tryz.pinned (OpenSpec.ofChange simdiskNobodyWrong)

/- THE SECOND FORM. 'bulk': how many values and letters a reading holds, each counted each time it is reached (what is shared counts as often as it is met; a slice's spare places count too). A statement '..UptoSaid' is the law's where the arguments, and the package variables that the reading takes, are together of bulk at most 1048576: NARROWER than '..Said'. Prove '..Said' where nothing that the law and all that it calls make is longer than what came in: it says more and counts as full. Else prove '..UptoSaid'. A law counts once. -/
mutual
def uptoBulk {H : Type} : DataW H → Nat
  | .lit (.string bytes) => bytes.length + 1
  | .lit _ => 1
  | .nil => 1
  | .ptr d => uptoBulk d + 1
  | .slice elems spare => uptoBulkAll elems + uptoBulkAll spare + 1
  | .agg parts => uptoBulkAll parts + 1
  | .iface _ d => uptoBulk d + 1
  | .map entries => uptoBulkEntries entries + 1
  | .held _ => 1
def uptoBulkAll {H : Type} : List (DataW H) → Nat
  | [] => 0
  | d :: r => uptoBulk d + uptoBulkAll r
def uptoBulkEntries {H : Type} : List (Lit × DataW H) → Nat
  | [] => 0
  | x :: r => uptoBulkEntry x + uptoBulkEntries r
def uptoBulkEntry {H : Type} : Lit × DataW H → Nat
  | (.string bytes, d) => bytes.length + uptoBulk d + 1
  | (_, d) => uptoBulk d + 1
 end
def uptoSmall : (H : Type) → List (DataW H) → Bool := fun _ ds => decide (uptoBulkAll ds ≤ 1048576)
def OpenSpec.upto (s : _root_.Go.ChangeSpec) : _root_.Go.OpenSpec := { _root_.Go.OpenSpec.ofChange s with cond := some uptoSmall }

/-- 'styluslaw11.SimdiskPlays', WHERE WHAT IT READS IS OF BULK AT MOST 1048576: true; the input reads as it did. -/
def simdiskPlaysUptoRow : OpenClaim := { program := "ytfgecjlccngddaagreat", sum := "3161e1cd5dbc159d565fb8fc6746416bb9185ea094a3545498d22ea9def262b3", func := "stylus/styluslaw11.SimdiskPlays", spec := "simdiskPlays", inPlace := ["internal/bytealg.IndexByteString", "maps.clone", "internal/abi.NoEscape", "internal/bytealg.MakeNoZero"], unfollowed := true, recurses := true, apart := false, narrowed := true }
def SimdiskPlaysUptoSaid : Prop := simdiskPlaysUptoRow.holds Tryz.pinned (OpenSpec.upto simdiskPlaysSpec)

/-- 'styluslaw11.SimdiskLoads', WHERE WHAT IT READS IS OF BULK AT MOST 1048576: true; the input reads as it did. -/
def simdiskLoadsUptoRow : OpenClaim := { program := "ytfgecjlccngddaagreat", sum := "3161e1cd5dbc159d565fb8fc6746416bb9185ea094a3545498d22ea9def262b3", func := "stylus/styluslaw11.SimdiskLoads", spec := "simdiskLoads", inPlace := ["internal/bytealg.IndexByteString", "maps.clone", "internal/abi.NoEscape", "internal/bytealg.MakeNoZero"], unfollowed := true, recurses := true, apart := false, narrowed := true }
def SimdiskLoadsUptoSaid : Prop := simdiskLoadsUptoRow.holds Tryz.pinned (OpenSpec.upto simdiskLoadsSpec)

/-- 'styluslaw11.SimdiskKeeps', WHERE WHAT IT READS IS OF BULK AT MOST 1048576: true; the input reads as it did. -/
def simdiskKeepsUptoRow : OpenClaim := { program := "ytfgecjlccngddaagreat", sum := "3161e1cd5dbc159d565fb8fc6746416bb9185ea094a3545498d22ea9def262b3", func := "stylus/styluslaw11.SimdiskKeeps", spec := "simdiskKeeps", inPlace := ["internal/bytealg.IndexByteString", "maps.clone", "internal/abi.NoEscape", "internal/bytealg.MakeNoZero"], unfollowed := true, recurses := true, apart := false, narrowed := true }
def SimdiskKeepsUptoSaid : Prop := simdiskKeepsUptoRow.holds Tryz.pinned (OpenSpec.upto simdiskKeepsSpec)

/-- 'styluslaw11.SimdiskNobody', WHERE WHAT IT READS IS OF BULK AT MOST 1048576: true; the input reads as it did. -/
def simdiskNobodyUptoRow : OpenClaim := { program := "ytfgecjlccngddaagreat", sum := "3161e1cd5dbc159d565fb8fc6746416bb9185ea094a3545498d22ea9def262b3", func := "stylus/styluslaw11.SimdiskNobody", spec := "simdiskNobody", inPlace := ["internal/bytealg.IndexByteString", "maps.clone", "internal/abi.NoEscape", "internal/bytealg.MakeNoZero"], unfollowed := true, recurses := true, apart := false, narrowed := true }
def SimdiskNobodyUptoSaid : Prop := simdiskNobodyUptoRow.holds Tryz.pinned (OpenSpec.upto simdiskNobodySpec)

end Rows
end Go.Proofs.YtfgecjlccngddaaGreat
