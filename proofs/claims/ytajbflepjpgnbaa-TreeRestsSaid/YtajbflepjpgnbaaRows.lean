/-
  No cell of these rows narrows 'for every input' (looked for: loops, veiled, ifaces, maps, wideKeys, modest, calm, conditions, laid).
  DERIVED. THE GIVEN ROWS OF THIS SEAT. 11 by the template 'for every input the law returns true; each argument reads behind the call as it read before'; 0 by the template 'total and deterministic' (their statements: YtajbflepjpgnbaaTotals.lean).
  GIVEN WITH THE SEED: the statements are not yours to turn. If you find one false, say at which input.
  Laid BY PROGRAM, IN A SANDBOX (cutbox-rows.mjs): the forced cells as the released guide's own fill.sh prints them over the translation b5eaaed6199d8693… (all of the seat's roots in one cut). By AI agents, Wed Nov 11 2026. No macro, syntax, notation, axiom, sorry.
-/
import Derived.Test.YtajbflepjpgnbaaChecked
import GoSem.Claim
import GoSem.ClaimJoined
import GoSem.ClaimMapViews
import Derived.JoinedTies
import Derived.KernelRfl
namespace Go.Proofs.Ytajbflepjpgnbaa
/- THE CELL 'sum', in the pinned program and in every row, IS THE sha256 OF THE DUMP (.gsa) THAT YtajbflepjpgnbaaProg.lean LOADS. Nothing in Lean hashes anything: it is a label: what it is worth is what the hold of that sum in a sandbox is worth. -/
noncomputable def Try.pinned : Pinned := { name := "ytajbflepjpgnbaa", sum := "b5eaaed6199d869371267a8e09ae39b83a49bf36bba8e31e8270db92a9df724c", checked := Try.checked }
namespace Rows
def none {H : Type} : Left H := { results := [], args := [] }

/-- 'sobreirolaw01.TreeGirths': WHATEVER THE INPUT: true; the input reads as it did. -/
def treeGirthsSpec : ChangeSpec := { name := "treeGirths", fn := fun _ => fun
  | [d1, d2, d3] => { results := [.lit (.bool true)], args := [d1, d2, d3] }
  | _ => none }
def treeGirthsRow : OpenClaim := { program := "ytajbflepjpgnbaa", sum := "b5eaaed6199d869371267a8e09ae39b83a49bf36bba8e31e8270db92a9df724c", func := "sobreiro/sobreirolaw01.TreeGirths", spec := "treeGirths", unfollowed := true, recurses := true, apart := false }
def TreeGirthsSaid : Prop := treeGirthsRow.holds Try.pinned (OpenSpec.ofChange treeGirthsSpec)

/-- ITS FALSE NEIGHBOUR: 'it returns false'. Refute it at one input. -/
def treeGirthsWrong : ChangeSpec := { name := "treeGirths", fn := fun _ => fun
  | [d1, d2, d3] => { results := [.lit (.bool false)], args := [d1, d2, d3] }
  | _ => none }
def TreeGirthsWrongFalsely : Prop := treeGirthsRow.holds Try.pinned (OpenSpec.ofChange treeGirthsWrong)

/-- 'sobreirolaw01.TreeVerdicts': WHATEVER THE INPUT: true; the input reads as it did. -/
def treeVerdictsSpec : ChangeSpec := { name := "treeVerdicts", fn := fun _ => fun
  | [d1, d2, d3, d4] => { results := [.lit (.bool true)], args := [d1, d2, d3, d4] }
  | _ => none }
def treeVerdictsRow : OpenClaim := { program := "ytajbflepjpgnbaa", sum := "b5eaaed6199d869371267a8e09ae39b83a49bf36bba8e31e8270db92a9df724c", func := "sobreiro/sobreirolaw01.TreeVerdicts", spec := "treeVerdicts", unfollowed := true, recurses := true, apart := false }
def TreeVerdictsSaid : Prop := treeVerdictsRow.holds Try.pinned (OpenSpec.ofChange treeVerdictsSpec)

/-- ITS FALSE NEIGHBOUR: 'it returns false'. Refute it at one input. -/
def treeVerdictsWrong : ChangeSpec := { name := "treeVerdicts", fn := fun _ => fun
  | [d1, d2, d3, d4] => { results := [.lit (.bool false)], args := [d1, d2, d3, d4] }
  | _ => none }
def TreeVerdictsWrongFalsely : Prop := treeVerdictsRow.holds Try.pinned (OpenSpec.ofChange treeVerdictsWrong)

/-- 'sobreirolaw01.TreeHeights': WHATEVER THE INPUT: true; the input reads as it did. -/
def treeHeightsSpec : ChangeSpec := { name := "treeHeights", fn := fun _ => fun
  | [d1, d2, d3] => { results := [.lit (.bool true)], args := [d1, d2, d3] }
  | _ => none }
def treeHeightsRow : OpenClaim := { program := "ytajbflepjpgnbaa", sum := "b5eaaed6199d869371267a8e09ae39b83a49bf36bba8e31e8270db92a9df724c", func := "sobreiro/sobreirolaw01.TreeHeights", spec := "treeHeights", unfollowed := true, recurses := true, apart := false }
def TreeHeightsSaid : Prop := treeHeightsRow.holds Try.pinned (OpenSpec.ofChange treeHeightsSpec)

/-- ITS FALSE NEIGHBOUR: 'it returns false'. Refute it at one input. -/
def treeHeightsWrong : ChangeSpec := { name := "treeHeights", fn := fun _ => fun
  | [d1, d2, d3] => { results := [.lit (.bool false)], args := [d1, d2, d3] }
  | _ => none }
def TreeHeightsWrongFalsely : Prop := treeHeightsRow.holds Try.pinned (OpenSpec.ofChange treeHeightsWrong)

/-- 'sobreirolaw01.TreeAreas': WHATEVER THE INPUT: true; the input reads as it did. -/
def treeAreasSpec : ChangeSpec := { name := "treeAreas", fn := fun _ => fun
  | [d1, d2, d3, d4] => { results := [.lit (.bool true)], args := [d1, d2, d3, d4] }
  | _ => none }
def treeAreasRow : OpenClaim := { program := "ytajbflepjpgnbaa", sum := "b5eaaed6199d869371267a8e09ae39b83a49bf36bba8e31e8270db92a9df724c", func := "sobreiro/sobreirolaw01.TreeAreas", spec := "treeAreas", unfollowed := true, recurses := true, apart := false }
def TreeAreasSaid : Prop := treeAreasRow.holds Try.pinned (OpenSpec.ofChange treeAreasSpec)

/-- ITS FALSE NEIGHBOUR: 'it returns false'. Refute it at one input. -/
def treeAreasWrong : ChangeSpec := { name := "treeAreas", fn := fun _ => fun
  | [d1, d2, d3, d4] => { results := [.lit (.bool false)], args := [d1, d2, d3, d4] }
  | _ => none }
def TreeAreasWrongFalsely : Prop := treeAreasRow.holds Try.pinned (OpenSpec.ofChange treeAreasWrong)

/-- 'sobreirolaw01.TreeTrue': WHATEVER THE INPUT: true; the input reads as it did. -/
def treeTrueSpec : ChangeSpec := { name := "treeTrue", fn := fun _ => fun
  | [d1, d2, d3, d4, d5] => { results := [.lit (.bool true)], args := [d1, d2, d3, d4, d5] }
  | _ => none }
def treeTrueRow : OpenClaim := { program := "ytajbflepjpgnbaa", sum := "b5eaaed6199d869371267a8e09ae39b83a49bf36bba8e31e8270db92a9df724c", func := "sobreiro/sobreirolaw01.TreeTrue", spec := "treeTrue", unfollowed := true, recurses := true, apart := false }
def TreeTrueSaid : Prop := treeTrueRow.holds Try.pinned (OpenSpec.ofChange treeTrueSpec)

/-- ITS FALSE NEIGHBOUR: 'it returns false'. Refute it at one input. -/
def treeTrueWrong : ChangeSpec := { name := "treeTrue", fn := fun _ => fun
  | [d1, d2, d3, d4, d5] => { results := [.lit (.bool false)], args := [d1, d2, d3, d4, d5] }
  | _ => none }
def TreeTrueWrongFalsely : Prop := treeTrueRow.holds Try.pinned (OpenSpec.ofChange treeTrueWrong)

/-- 'sobreirolaw01.TreeOpen': WHATEVER THE INPUT: true; the input reads as it did. -/
def treeOpenSpec : ChangeSpec := { name := "treeOpen", fn := fun _ => fun
  | [d1, d2, d3, d4] => { results := [.lit (.bool true)], args := [d1, d2, d3, d4] }
  | _ => none }
def treeOpenRow : OpenClaim := { program := "ytajbflepjpgnbaa", sum := "b5eaaed6199d869371267a8e09ae39b83a49bf36bba8e31e8270db92a9df724c", func := "sobreiro/sobreirolaw01.TreeOpen", spec := "treeOpen", unfollowed := true, recurses := true, apart := false }
def TreeOpenSaid : Prop := treeOpenRow.holds Try.pinned (OpenSpec.ofChange treeOpenSpec)

/-- ITS FALSE NEIGHBOUR: 'it returns false'. Refute it at one input. -/
def treeOpenWrong : ChangeSpec := { name := "treeOpen", fn := fun _ => fun
  | [d1, d2, d3, d4] => { results := [.lit (.bool false)], args := [d1, d2, d3, d4] }
  | _ => none }
def TreeOpenWrongFalsely : Prop := treeOpenRow.holds Try.pinned (OpenSpec.ofChange treeOpenWrong)

/-- 'sobreirolaw01.TreeLower': WHATEVER THE INPUT: true; the input reads as it did. -/
def treeLowerSpec : ChangeSpec := { name := "treeLower", fn := fun _ => fun
  | [d1, d2, d3, d4, d5] => { results := [.lit (.bool true)], args := [d1, d2, d3, d4, d5] }
  | _ => none }
def treeLowerRow : OpenClaim := { program := "ytajbflepjpgnbaa", sum := "b5eaaed6199d869371267a8e09ae39b83a49bf36bba8e31e8270db92a9df724c", func := "sobreiro/sobreirolaw01.TreeLower", spec := "treeLower", unfollowed := true, recurses := true, apart := false }
def TreeLowerSaid : Prop := treeLowerRow.holds Try.pinned (OpenSpec.ofChange treeLowerSpec)

/-- ITS FALSE NEIGHBOUR: 'it returns false'. Refute it at one input. -/
def treeLowerWrong : ChangeSpec := { name := "treeLower", fn := fun _ => fun
  | [d1, d2, d3, d4, d5] => { results := [.lit (.bool false)], args := [d1, d2, d3, d4, d5] }
  | _ => none }
def TreeLowerWrongFalsely : Prop := treeLowerRow.holds Try.pinned (OpenSpec.ofChange treeLowerWrong)

/-- 'sobreirolaw01.TreeNarrow': WHATEVER THE INPUT: true; the input reads as it did. -/
def treeNarrowSpec : ChangeSpec := { name := "treeNarrow", fn := fun _ => fun
  | [d1, d2, d3, d4, d5] => { results := [.lit (.bool true)], args := [d1, d2, d3, d4, d5] }
  | _ => none }
def treeNarrowRow : OpenClaim := { program := "ytajbflepjpgnbaa", sum := "b5eaaed6199d869371267a8e09ae39b83a49bf36bba8e31e8270db92a9df724c", func := "sobreiro/sobreirolaw01.TreeNarrow", spec := "treeNarrow", unfollowed := true, recurses := true, apart := false }
def TreeNarrowSaid : Prop := treeNarrowRow.holds Try.pinned (OpenSpec.ofChange treeNarrowSpec)

/-- ITS FALSE NEIGHBOUR: 'it returns false'. Refute it at one input. -/
def treeNarrowWrong : ChangeSpec := { name := "treeNarrow", fn := fun _ => fun
  | [d1, d2, d3, d4, d5] => { results := [.lit (.bool false)], args := [d1, d2, d3, d4, d5] }
  | _ => none }
def TreeNarrowWrongFalsely : Prop := treeNarrowRow.holds Try.pinned (OpenSpec.ofChange treeNarrowWrong)

/-- 'sobreirolaw01.TreeSoon': WHATEVER THE INPUT: true; the input reads as it did. -/
def treeSoonSpec : ChangeSpec := { name := "treeSoon", fn := fun _ => fun
  | [d1, d2, d3, d4] => { results := [.lit (.bool true)], args := [d1, d2, d3, d4] }
  | _ => none }
def treeSoonRow : OpenClaim := { program := "ytajbflepjpgnbaa", sum := "b5eaaed6199d869371267a8e09ae39b83a49bf36bba8e31e8270db92a9df724c", func := "sobreiro/sobreirolaw01.TreeSoon", spec := "treeSoon", unfollowed := true, recurses := true, apart := false }
def TreeSoonSaid : Prop := treeSoonRow.holds Try.pinned (OpenSpec.ofChange treeSoonSpec)

/-- ITS FALSE NEIGHBOUR: 'it returns false'. Refute it at one input. -/
def treeSoonWrong : ChangeSpec := { name := "treeSoon", fn := fun _ => fun
  | [d1, d2, d3, d4] => { results := [.lit (.bool false)], args := [d1, d2, d3, d4] }
  | _ => none }
def TreeSoonWrongFalsely : Prop := treeSoonRow.holds Try.pinned (OpenSpec.ofChange treeSoonWrong)

/-- 'sobreirolaw01.TreeRests': WHATEVER THE INPUT: true; the input reads as it did. -/
def treeRestsSpec : ChangeSpec := { name := "treeRests", fn := fun _ => fun
  | [d1, d2, d3, d4, d5] => { results := [.lit (.bool true)], args := [d1, d2, d3, d4, d5] }
  | _ => none }
def treeRestsRow : OpenClaim := { program := "ytajbflepjpgnbaa", sum := "b5eaaed6199d869371267a8e09ae39b83a49bf36bba8e31e8270db92a9df724c", func := "sobreiro/sobreirolaw01.TreeRests", spec := "treeRests", unfollowed := true, recurses := true, apart := false }
def TreeRestsSaid : Prop := treeRestsRow.holds Try.pinned (OpenSpec.ofChange treeRestsSpec)

/-- ITS FALSE NEIGHBOUR: 'it returns false'. Refute it at one input. -/
def treeRestsWrong : ChangeSpec := { name := "treeRests", fn := fun _ => fun
  | [d1, d2, d3, d4, d5] => { results := [.lit (.bool false)], args := [d1, d2, d3, d4, d5] }
  | _ => none }
def TreeRestsWrongFalsely : Prop := treeRestsRow.holds Try.pinned (OpenSpec.ofChange treeRestsWrong)

/-- 'sobreirolaw01.TreeSheet': WHATEVER THE INPUT: true; the input reads as it did. -/
def treeSheetSpec : ChangeSpec := { name := "treeSheet", fn := fun _ => fun
  | [d1, d2, d3, d4, d5] => { results := [.lit (.bool true)], args := [d1, d2, d3, d4, d5] }
  | _ => none }
def treeSheetRow : OpenClaim := { program := "ytajbflepjpgnbaa", sum := "b5eaaed6199d869371267a8e09ae39b83a49bf36bba8e31e8270db92a9df724c", func := "sobreiro/sobreirolaw01.TreeSheet", spec := "treeSheet", unfollowed := true, recurses := true, apart := false }
def TreeSheetSaid : Prop := treeSheetRow.holds Try.pinned (OpenSpec.ofChange treeSheetSpec)

/-- ITS FALSE NEIGHBOUR: 'it returns false'. Refute it at one input. -/
def treeSheetWrong : ChangeSpec := { name := "treeSheet", fn := fun _ => fun
  | [d1, d2, d3, d4, d5] => { results := [.lit (.bool false)], args := [d1, d2, d3, d4, d5] }
  | _ => none }
def TreeSheetWrongFalsely : Prop := treeSheetRow.holds Try.pinned (OpenSpec.ofChange treeSheetWrong)

/- THE SECOND FORM. 'bulk': how many values and letters a reading holds, each counted each time it is reached (what is shared counts as often as it is met; a slice's spare places count too). A statement '..UptoSaid' is the law's where the arguments, and the package variables that the reading takes, are together of bulk at most 1048576: NARROWER than '..Said'. Prove '..Said' where nothing that the law and all that it calls make is longer than what came in: it says more and counts as full. Else prove '..UptoSaid'. A law counts once. -/
mutual
def uptoBulk {H : Type} : DataW H → Nat
  | .lit (.string bytes) => bytes.length + 1
  | .lit _ => 1
  | .nil => 1
  | .ptr d => uptoBulk d + 1
  | .slice elems spare => uptoBulkAll elems + uptoBulkAll spare + 1
  | .agg parts => uptoBulkAll parts + 1
  | .iface _ d => uptoBulk d + 1
  | .map entries => uptoBulkEntries entries + 1
  | .held _ => 1
def uptoBulkAll {H : Type} : List (DataW H) → Nat
  | [] => 0
  | d :: r => uptoBulk d + uptoBulkAll r
def uptoBulkEntries {H : Type} : List (Lit × DataW H) → Nat
  | [] => 0
  | x :: r => uptoBulkEntry x + uptoBulkEntries r
def uptoBulkEntry {H : Type} : Lit × DataW H → Nat
  | (.string bytes, d) => bytes.length + uptoBulk d + 1
  | (_, d) => uptoBulk d + 1
 end
def uptoSmall : (H : Type) → List (DataW H) → Bool := fun _ ds => decide (uptoBulkAll ds ≤ 1048576)
def OpenSpec.upto (s : _root_.Go.ChangeSpec) : _root_.Go.OpenSpec := { _root_.Go.OpenSpec.ofChange s with cond := some uptoSmall }

/-- 'sobreirolaw01.TreeGirths', WHERE WHAT IT READS IS OF BULK AT MOST 1048576: true; the input reads as it did. -/
def treeGirthsUptoRow : OpenClaim := { program := "ytajbflepjpgnbaa", sum := "b5eaaed6199d869371267a8e09ae39b83a49bf36bba8e31e8270db92a9df724c", func := "sobreiro/sobreirolaw01.TreeGirths", spec := "treeGirths", unfollowed := true, recurses := true, apart := false, narrowed := true }
def TreeGirthsUptoSaid : Prop := treeGirthsUptoRow.holds Try.pinned (OpenSpec.upto treeGirthsSpec)

/-- 'sobreirolaw01.TreeVerdicts', WHERE WHAT IT READS IS OF BULK AT MOST 1048576: true; the input reads as it did. -/
def treeVerdictsUptoRow : OpenClaim := { program := "ytajbflepjpgnbaa", sum := "b5eaaed6199d869371267a8e09ae39b83a49bf36bba8e31e8270db92a9df724c", func := "sobreiro/sobreirolaw01.TreeVerdicts", spec := "treeVerdicts", unfollowed := true, recurses := true, apart := false, narrowed := true }
def TreeVerdictsUptoSaid : Prop := treeVerdictsUptoRow.holds Try.pinned (OpenSpec.upto treeVerdictsSpec)

/-- 'sobreirolaw01.TreeHeights', WHERE WHAT IT READS IS OF BULK AT MOST 1048576: true; the input reads as it did. -/
def treeHeightsUptoRow : OpenClaim := { program := "ytajbflepjpgnbaa", sum := "b5eaaed6199d869371267a8e09ae39b83a49bf36bba8e31e8270db92a9df724c", func := "sobreiro/sobreirolaw01.TreeHeights", spec := "treeHeights", unfollowed := true, recurses := true, apart := false, narrowed := true }
def TreeHeightsUptoSaid : Prop := treeHeightsUptoRow.holds Try.pinned (OpenSpec.upto treeHeightsSpec)

/-- 'sobreirolaw01.TreeAreas', WHERE WHAT IT READS IS OF BULK AT MOST 1048576: true; the input reads as it did. -/
def treeAreasUptoRow : OpenClaim := { program := "ytajbflepjpgnbaa", sum := "b5eaaed6199d869371267a8e09ae39b83a49bf36bba8e31e8270db92a9df724c", func := "sobreiro/sobreirolaw01.TreeAreas", spec := "treeAreas", unfollowed := true, recurses := true, apart := false, narrowed := true }
def TreeAreasUptoSaid : Prop := treeAreasUptoRow.holds Try.pinned (OpenSpec.upto treeAreasSpec)

/-- 'sobreirolaw01.TreeTrue', WHERE WHAT IT READS IS OF BULK AT MOST 1048576: true; the input reads as it did. -/
def treeTrueUptoRow : OpenClaim := { program := "ytajbflepjpgnbaa", sum := "b5eaaed6199d869371267a8e09ae39b83a49bf36bba8e31e8270db92a9df724c", func := "sobreiro/sobreirolaw01.TreeTrue", spec := "treeTrue", unfollowed := true, recurses := true, apart := false, narrowed := true }
def TreeTrueUptoSaid : Prop := treeTrueUptoRow.holds Try.pinned (OpenSpec.upto treeTrueSpec)

/-- 'sobreirolaw01.TreeOpen', WHERE WHAT IT READS IS OF BULK AT MOST 1048576: true; the input reads as it did. -/
def treeOpenUptoRow : OpenClaim := { program := "ytajbflepjpgnbaa", sum := "b5eaaed6199d869371267a8e09ae39b83a49bf36bba8e31e8270db92a9df724c", func := "sobreiro/sobreirolaw01.TreeOpen", spec := "treeOpen", unfollowed := true, recurses := true, apart := false, narrowed := true }
def TreeOpenUptoSaid : Prop := treeOpenUptoRow.holds Try.pinned (OpenSpec.upto treeOpenSpec)

/-- 'sobreirolaw01.TreeLower', WHERE WHAT IT READS IS OF BULK AT MOST 1048576: true; the input reads as it did. -/
def treeLowerUptoRow : OpenClaim := { program := "ytajbflepjpgnbaa", sum := "b5eaaed6199d869371267a8e09ae39b83a49bf36bba8e31e8270db92a9df724c", func := "sobreiro/sobreirolaw01.TreeLower", spec := "treeLower", unfollowed := true, recurses := true, apart := false, narrowed := true }
def TreeLowerUptoSaid : Prop := treeLowerUptoRow.holds Try.pinned (OpenSpec.upto treeLowerSpec)

/-- 'sobreirolaw01.TreeNarrow', WHERE WHAT IT READS IS OF BULK AT MOST 1048576: true; the input reads as it did. -/
def treeNarrowUptoRow : OpenClaim := { program := "ytajbflepjpgnbaa", sum := "b5eaaed6199d869371267a8e09ae39b83a49bf36bba8e31e8270db92a9df724c", func := "sobreiro/sobreirolaw01.TreeNarrow", spec := "treeNarrow", unfollowed := true, recurses := true, apart := false, narrowed := true }
def TreeNarrowUptoSaid : Prop := treeNarrowUptoRow.holds Try.pinned (OpenSpec.upto treeNarrowSpec)

/-- 'sobreirolaw01.TreeSoon', WHERE WHAT IT READS IS OF BULK AT MOST 1048576: true; the input reads as it did. -/
def treeSoonUptoRow : OpenClaim := { program := "ytajbflepjpgnbaa", sum := "b5eaaed6199d869371267a8e09ae39b83a49bf36bba8e31e8270db92a9df724c", func := "sobreiro/sobreirolaw01.TreeSoon", spec := "treeSoon", unfollowed := true, recurses := true, apart := false, narrowed := true }
def TreeSoonUptoSaid : Prop := treeSoonUptoRow.holds Try.pinned (OpenSpec.upto treeSoonSpec)

/-- 'sobreirolaw01.TreeRests', WHERE WHAT IT READS IS OF BULK AT MOST 1048576: true; the input reads as it did. -/
def treeRestsUptoRow : OpenClaim := { program := "ytajbflepjpgnbaa", sum := "b5eaaed6199d869371267a8e09ae39b83a49bf36bba8e31e8270db92a9df724c", func := "sobreiro/sobreirolaw01.TreeRests", spec := "treeRests", unfollowed := true, recurses := true, apart := false, narrowed := true }
def TreeRestsUptoSaid : Prop := treeRestsUptoRow.holds Try.pinned (OpenSpec.upto treeRestsSpec)

/-- 'sobreirolaw01.TreeSheet', WHERE WHAT IT READS IS OF BULK AT MOST 1048576: true; the input reads as it did. -/
def treeSheetUptoRow : OpenClaim := { program := "ytajbflepjpgnbaa", sum := "b5eaaed6199d869371267a8e09ae39b83a49bf36bba8e31e8270db92a9df724c", func := "sobreiro/sobreirolaw01.TreeSheet", spec := "treeSheet", unfollowed := true, recurses := true, apart := false, narrowed := true }
def TreeSheetUptoSaid : Prop := treeSheetUptoRow.holds Try.pinned (OpenSpec.upto treeSheetSpec)

end Rows
end Go.Proofs.Ytajbflepjpgnbaa
