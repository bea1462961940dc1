/-
  No cell of these rows narrows 'for every input' (looked for: loops, veiled, ifaces, maps, wideKeys, modest, calm, conditions, laid).
  DERIVED. THE GIVEN ROWS OF THIS SEAT. 6 by the template 'for every input the law returns true; each argument reads behind the call as it read before'; 0 by the template 'total and deterministic' (their statements: YtceginnogbbpeaaTotals.lean).
  GIVEN WITH THE SEED: the statements are not yours to turn. If you find one false, say at which input.
  Laid BY PROGRAM, IN A SANDBOX (cutbox-rows.mjs): the forced cells as the released guide's own fill.sh prints them over the translation 4542eaed1e52bf58… (all of the seat's roots in one cut). By AI agents, Wed Nov 11 2026. No macro, syntax, notation, axiom, sorry.
-/
import Derived.Test.YtceginnogbbpeaaChecked
import GoSem.Claim
import GoSem.ClaimJoined
import GoSem.ClaimMapViews
import Derived.JoinedTies
import Derived.KernelRfl
namespace Go.Proofs.Ytceginnogbbpeaa
/- THE CELL 'sum', in the pinned program and in every row, IS THE sha256 OF THE DUMP (.gsa) THAT YtceginnogbbpeaaProg.lean LOADS. Nothing in Lean hashes anything: it is a label: what it is worth is what the hold of that sum in a sandbox is worth. -/
noncomputable def Try.pinned : Pinned := { name := "ytceginnogbbpeaa", sum := "4542eaed1e52bf58260166ad0332d6e8b8a792b5cd39ba42310bfd4083f0f6d4", checked := Try.checked }
namespace Rows
def none {H : Type} : Left H := { results := [], args := [] }

/-- 'sobreirolaw01.TreeTrue': WHATEVER THE INPUT: true; the input reads as it did. -/
def treeTrueSpec : ChangeSpec := { name := "treeTrue", fn := fun _ => fun
  | [d1, d2, d3, d4, d5] => { results := [.lit (.bool true)], args := [d1, d2, d3, d4, d5] }
  | _ => none }
def treeTrueRow : OpenClaim := { program := "ytceginnogbbpeaa", sum := "4542eaed1e52bf58260166ad0332d6e8b8a792b5cd39ba42310bfd4083f0f6d4", func := "sobreiro/sobreirolaw01.TreeTrue", spec := "treeTrue", unfollowed := true, recurses := true, apart := false }
def TreeTrueSaid : Prop := treeTrueRow.holds Try.pinned (OpenSpec.ofChange treeTrueSpec)

/-- ITS FALSE NEIGHBOUR: 'it returns false'. Refute it at one input. -/
def treeTrueWrong : ChangeSpec := { name := "treeTrue", fn := fun _ => fun
  | [d1, d2, d3, d4, d5] => { results := [.lit (.bool false)], args := [d1, d2, d3, d4, d5] }
  | _ => none }
def TreeTrueWrongFalsely : Prop := treeTrueRow.holds Try.pinned (OpenSpec.ofChange treeTrueWrong)

/-- 'sobreirolaw01.TreeOpen': WHATEVER THE INPUT: true; the input reads as it did. -/
def treeOpenSpec : ChangeSpec := { name := "treeOpen", fn := fun _ => fun
  | [d1, d2, d3, d4] => { results := [.lit (.bool true)], args := [d1, d2, d3, d4] }
  | _ => none }
def treeOpenRow : OpenClaim := { program := "ytceginnogbbpeaa", sum := "4542eaed1e52bf58260166ad0332d6e8b8a792b5cd39ba42310bfd4083f0f6d4", func := "sobreiro/sobreirolaw01.TreeOpen", spec := "treeOpen", unfollowed := true, recurses := true, apart := false }
def TreeOpenSaid : Prop := treeOpenRow.holds Try.pinned (OpenSpec.ofChange treeOpenSpec)

/-- ITS FALSE NEIGHBOUR: 'it returns false'. Refute it at one input. -/
def treeOpenWrong : ChangeSpec := { name := "treeOpen", fn := fun _ => fun
  | [d1, d2, d3, d4] => { results := [.lit (.bool false)], args := [d1, d2, d3, d4] }
  | _ => none }
def TreeOpenWrongFalsely : Prop := treeOpenRow.holds Try.pinned (OpenSpec.ofChange treeOpenWrong)

/-- 'sobreirolaw01.TreeNarrow': WHATEVER THE INPUT: true; the input reads as it did. -/
def treeNarrowSpec : ChangeSpec := { name := "treeNarrow", fn := fun _ => fun
  | [d1, d2, d3, d4, d5] => { results := [.lit (.bool true)], args := [d1, d2, d3, d4, d5] }
  | _ => none }
def treeNarrowRow : OpenClaim := { program := "ytceginnogbbpeaa", sum := "4542eaed1e52bf58260166ad0332d6e8b8a792b5cd39ba42310bfd4083f0f6d4", func := "sobreiro/sobreirolaw01.TreeNarrow", spec := "treeNarrow", unfollowed := true, recurses := true, apart := false }
def TreeNarrowSaid : Prop := treeNarrowRow.holds Try.pinned (OpenSpec.ofChange treeNarrowSpec)

/-- ITS FALSE NEIGHBOUR: 'it returns false'. Refute it at one input. -/
def treeNarrowWrong : ChangeSpec := { name := "treeNarrow", fn := fun _ => fun
  | [d1, d2, d3, d4, d5] => { results := [.lit (.bool false)], args := [d1, d2, d3, d4, d5] }
  | _ => none }
def TreeNarrowWrongFalsely : Prop := treeNarrowRow.holds Try.pinned (OpenSpec.ofChange treeNarrowWrong)

/-- 'sobreirolaw01.TreeDates': WHATEVER THE INPUT: true; the input reads as it did. -/
def treeDatesSpec : ChangeSpec := { name := "treeDates", fn := fun _ => fun
  | [d1, d2, d3] => { results := [.lit (.bool true)], args := [d1, d2, d3] }
  | _ => none }
def treeDatesRow : OpenClaim := { program := "ytceginnogbbpeaa", sum := "4542eaed1e52bf58260166ad0332d6e8b8a792b5cd39ba42310bfd4083f0f6d4", func := "sobreiro/sobreirolaw01.TreeDates", spec := "treeDates", unfollowed := true, recurses := true, apart := false }
def TreeDatesSaid : Prop := treeDatesRow.holds Try.pinned (OpenSpec.ofChange treeDatesSpec)

/-- ITS FALSE NEIGHBOUR: 'it returns false'. Refute it at one input. -/
def treeDatesWrong : ChangeSpec := { name := "treeDates", fn := fun _ => fun
  | [d1, d2, d3] => { results := [.lit (.bool false)], args := [d1, d2, d3] }
  | _ => none }
def TreeDatesWrongFalsely : Prop := treeDatesRow.holds Try.pinned (OpenSpec.ofChange treeDatesWrong)

/-- 'sobreirolaw01.TreePainted': WHATEVER THE INPUT: true; the input reads as it did. -/
def treePaintedSpec : ChangeSpec := { name := "treePainted", fn := fun _ => fun
  | [d1, d2, d3, d4, d5] => { results := [.lit (.bool true)], args := [d1, d2, d3, d4, d5] }
  | _ => none }
def treePaintedRow : OpenClaim := { program := "ytceginnogbbpeaa", sum := "4542eaed1e52bf58260166ad0332d6e8b8a792b5cd39ba42310bfd4083f0f6d4", func := "sobreiro/sobreirolaw01.TreePainted", spec := "treePainted", unfollowed := true, recurses := true, apart := false }
def TreePaintedSaid : Prop := treePaintedRow.holds Try.pinned (OpenSpec.ofChange treePaintedSpec)

/-- ITS FALSE NEIGHBOUR: 'it returns false'. Refute it at one input. -/
def treePaintedWrong : ChangeSpec := { name := "treePainted", fn := fun _ => fun
  | [d1, d2, d3, d4, d5] => { results := [.lit (.bool false)], args := [d1, d2, d3, d4, d5] }
  | _ => none }
def TreePaintedWrongFalsely : Prop := treePaintedRow.holds Try.pinned (OpenSpec.ofChange treePaintedWrong)

/-- 'sobreirolaw01.TreeRows': WHATEVER THE INPUT: true; the input reads as it did. -/
def treeRowsSpec : ChangeSpec := { name := "treeRows", fn := fun _ => fun
  | [d1, d2, d3, d4] => { results := [.lit (.bool true)], args := [d1, d2, d3, d4] }
  | _ => none }
def treeRowsRow : OpenClaim := { program := "ytceginnogbbpeaa", sum := "4542eaed1e52bf58260166ad0332d6e8b8a792b5cd39ba42310bfd4083f0f6d4", func := "sobreiro/sobreirolaw01.TreeRows", spec := "treeRows", unfollowed := true, recurses := true, apart := false }
def TreeRowsSaid : Prop := treeRowsRow.holds Try.pinned (OpenSpec.ofChange treeRowsSpec)

/-- ITS FALSE NEIGHBOUR: 'it returns false'. Refute it at one input. -/
def treeRowsWrong : ChangeSpec := { name := "treeRows", fn := fun _ => fun
  | [d1, d2, d3, d4] => { results := [.lit (.bool false)], args := [d1, d2, d3, d4] }
  | _ => none }
def TreeRowsWrongFalsely : Prop := treeRowsRow.holds Try.pinned (OpenSpec.ofChange treeRowsWrong)

/- THE SECOND FORM. 'bulk': how many values and letters a reading holds, each counted each time it is reached (what is shared counts as often as it is met; a slice's spare places count too). A statement '..UptoSaid' is the law's where the arguments, and the package variables that the reading takes, are together of bulk at most 1048576: NARROWER than '..Said'. Prove '..Said' where nothing that the law and all that it calls make is longer than what came in: it says more and counts as full. Else prove '..UptoSaid'. A law counts once. -/
mutual
def uptoBulk {H : Type} : DataW H → Nat
  | .lit (.string bytes) => bytes.length + 1
  | .lit _ => 1
  | .nil => 1
  | .ptr d => uptoBulk d + 1
  | .slice elems spare => uptoBulkAll elems + uptoBulkAll spare + 1
  | .agg parts => uptoBulkAll parts + 1
  | .iface _ d => uptoBulk d + 1
  | .map entries => uptoBulkEntries entries + 1
  | .held _ => 1
def uptoBulkAll {H : Type} : List (DataW H) → Nat
  | [] => 0
  | d :: r => uptoBulk d + uptoBulkAll r
def uptoBulkEntries {H : Type} : List (Lit × DataW H) → Nat
  | [] => 0
  | x :: r => uptoBulkEntry x + uptoBulkEntries r
def uptoBulkEntry {H : Type} : Lit × DataW H → Nat
  | (.string bytes, d) => bytes.length + uptoBulk d + 1
  | (_, d) => uptoBulk d + 1
 end
def uptoSmall : (H : Type) → List (DataW H) → Bool := fun _ ds => decide (uptoBulkAll ds ≤ 1048576)
def OpenSpec.upto (s : _root_.Go.ChangeSpec) : _root_.Go.OpenSpec := { _root_.Go.OpenSpec.ofChange s with cond := some uptoSmall }

/-- 'sobreirolaw01.TreeTrue', WHERE WHAT IT READS IS OF BULK AT MOST 1048576: true; the input reads as it did. -/
def treeTrueUptoRow : OpenClaim := { program := "ytceginnogbbpeaa", sum := "4542eaed1e52bf58260166ad0332d6e8b8a792b5cd39ba42310bfd4083f0f6d4", func := "sobreiro/sobreirolaw01.TreeTrue", spec := "treeTrue", unfollowed := true, recurses := true, apart := false, narrowed := true }
def TreeTrueUptoSaid : Prop := treeTrueUptoRow.holds Try.pinned (OpenSpec.upto treeTrueSpec)

/-- 'sobreirolaw01.TreeOpen', WHERE WHAT IT READS IS OF BULK AT MOST 1048576: true; the input reads as it did. -/
def treeOpenUptoRow : OpenClaim := { program := "ytceginnogbbpeaa", sum := "4542eaed1e52bf58260166ad0332d6e8b8a792b5cd39ba42310bfd4083f0f6d4", func := "sobreiro/sobreirolaw01.TreeOpen", spec := "treeOpen", unfollowed := true, recurses := true, apart := false, narrowed := true }
def TreeOpenUptoSaid : Prop := treeOpenUptoRow.holds Try.pinned (OpenSpec.upto treeOpenSpec)

/-- 'sobreirolaw01.TreeNarrow', WHERE WHAT IT READS IS OF BULK AT MOST 1048576: true; the input reads as it did. -/
def treeNarrowUptoRow : OpenClaim := { program := "ytceginnogbbpeaa", sum := "4542eaed1e52bf58260166ad0332d6e8b8a792b5cd39ba42310bfd4083f0f6d4", func := "sobreiro/sobreirolaw01.TreeNarrow", spec := "treeNarrow", unfollowed := true, recurses := true, apart := false, narrowed := true }
def TreeNarrowUptoSaid : Prop := treeNarrowUptoRow.holds Try.pinned (OpenSpec.upto treeNarrowSpec)

/-- 'sobreirolaw01.TreeDates', WHERE WHAT IT READS IS OF BULK AT MOST 1048576: true; the input reads as it did. -/
def treeDatesUptoRow : OpenClaim := { program := "ytceginnogbbpeaa", sum := "4542eaed1e52bf58260166ad0332d6e8b8a792b5cd39ba42310bfd4083f0f6d4", func := "sobreiro/sobreirolaw01.TreeDates", spec := "treeDates", unfollowed := true, recurses := true, apart := false, narrowed := true }
def TreeDatesUptoSaid : Prop := treeDatesUptoRow.holds Try.pinned (OpenSpec.upto treeDatesSpec)

/-- 'sobreirolaw01.TreePainted', WHERE WHAT IT READS IS OF BULK AT MOST 1048576: true; the input reads as it did. -/
def treePaintedUptoRow : OpenClaim := { program := "ytceginnogbbpeaa", sum := "4542eaed1e52bf58260166ad0332d6e8b8a792b5cd39ba42310bfd4083f0f6d4", func := "sobreiro/sobreirolaw01.TreePainted", spec := "treePainted", unfollowed := true, recurses := true, apart := false, narrowed := true }
def TreePaintedUptoSaid : Prop := treePaintedUptoRow.holds Try.pinned (OpenSpec.upto treePaintedSpec)

/-- 'sobreirolaw01.TreeRows', WHERE WHAT IT READS IS OF BULK AT MOST 1048576: true; the input reads as it did. -/
def treeRowsUptoRow : OpenClaim := { program := "ytceginnogbbpeaa", sum := "4542eaed1e52bf58260166ad0332d6e8b8a792b5cd39ba42310bfd4083f0f6d4", func := "sobreiro/sobreirolaw01.TreeRows", spec := "treeRows", unfollowed := true, recurses := true, apart := false, narrowed := true }
def TreeRowsUptoSaid : Prop := treeRowsUptoRow.holds Try.pinned (OpenSpec.upto treeRowsSpec)

end Rows
end Go.Proofs.Ytceginnogbbpeaa
