/-
  No cell of these rows narrows 'for every input' (looked for: loops, veiled, ifaces, maps, wideKeys, modest, calm, conditions, laid).
  DERIVED. THE GIVEN ROWS OF THIS SEAT. 10 by the template 'for every input the law returns true; each argument reads behind the call as it read before'; 0 by the template 'total and deterministic' (their statements: YtgekekhbhkgekaaTotals.lean).
  GIVEN WITH THE SEED: the statements are not yours to turn. If you find one false, say at which input.
  Laid BY PROGRAM, IN A SANDBOX (cutbox-rows.mjs): the forced cells as the released guide's own fill.sh prints them over the translation f42e7230056d0c0d… (all of the seat's roots in one cut). By AI agents, Wed Nov 11 2026. No macro, syntax, notation, axiom, sorry.
-/
import Derived.Test.YtgekekhbhkgekaaChecked
import GoSem.Claim
import GoSem.ClaimJoined
import GoSem.ClaimMapViews
import Derived.JoinedTies
import Derived.KernelRfl
namespace Go.Proofs.Ytgekekhbhkgekaa
/- THE CELL 'sum', in the pinned program and in every row, IS THE sha256 OF THE DUMP (.gsa) THAT YtgekekhbhkgekaaProg.lean LOADS. Nothing in Lean hashes anything: it is a label: what it is worth is what the hold of that sum in a sandbox is worth. -/
noncomputable def Try.pinned : Pinned := { name := "ytgekekhbhkgekaa", sum := "f42e7230056d0c0d202d5276384c52e2e6225058ae5e5c0ee4873c5ce582d123", checked := Try.checked }
namespace Rows
def none {H : Type} : Left H := { results := [], args := [] }

/-- 'sobreirolaw05.YardTrue': WHATEVER THE INPUT: true; the input reads as it did. -/
def yardTrueSpec : ChangeSpec := { name := "yardTrue", fn := fun _ => fun
  | [d1, d2, d3] => { results := [.lit (.bool true)], args := [d1, d2, d3] }
  | _ => none }
def yardTrueRow : OpenClaim := { program := "ytgekekhbhkgekaa", sum := "f42e7230056d0c0d202d5276384c52e2e6225058ae5e5c0ee4873c5ce582d123", func := "sobreiro/sobreirolaw05.YardTrue", spec := "yardTrue", unfollowed := true, recurses := true, apart := false }
def YardTrueSaid : Prop := yardTrueRow.holds Try.pinned (OpenSpec.ofChange yardTrueSpec)

/-- ITS FALSE NEIGHBOUR: 'it returns false'. Refute it at one input. -/
def yardTrueWrong : ChangeSpec := { name := "yardTrue", fn := fun _ => fun
  | [d1, d2, d3] => { results := [.lit (.bool false)], args := [d1, d2, d3] }
  | _ => none }
def YardTrueWrongFalsely : Prop := yardTrueRow.holds Try.pinned (OpenSpec.ofChange yardTrueWrong)

/-- 'sobreirolaw05.YardExact': WHATEVER THE INPUT: true; the input reads as it did. -/
def yardExactSpec : ChangeSpec := { name := "yardExact", fn := fun _ => fun
  | [d1, d2, d3] => { results := [.lit (.bool true)], args := [d1, d2, d3] }
  | _ => none }
def yardExactRow : OpenClaim := { program := "ytgekekhbhkgekaa", sum := "f42e7230056d0c0d202d5276384c52e2e6225058ae5e5c0ee4873c5ce582d123", func := "sobreiro/sobreirolaw05.YardExact", spec := "yardExact", unfollowed := true, recurses := true, apart := false }
def YardExactSaid : Prop := yardExactRow.holds Try.pinned (OpenSpec.ofChange yardExactSpec)

/-- ITS FALSE NEIGHBOUR: 'it returns false'. Refute it at one input. -/
def yardExactWrong : ChangeSpec := { name := "yardExact", fn := fun _ => fun
  | [d1, d2, d3] => { results := [.lit (.bool false)], args := [d1, d2, d3] }
  | _ => none }
def YardExactWrongFalsely : Prop := yardExactRow.holds Try.pinned (OpenSpec.ofChange yardExactWrong)

/-- 'sobreirolaw05.YardMore': WHATEVER THE INPUT: true; the input reads as it did. -/
def yardMoreSpec : ChangeSpec := { name := "yardMore", fn := fun _ => fun
  | [d1, d2, d3] => { results := [.lit (.bool true)], args := [d1, d2, d3] }
  | _ => none }
def yardMoreRow : OpenClaim := { program := "ytgekekhbhkgekaa", sum := "f42e7230056d0c0d202d5276384c52e2e6225058ae5e5c0ee4873c5ce582d123", func := "sobreiro/sobreirolaw05.YardMore", spec := "yardMore", unfollowed := true, recurses := true, apart := false }
def YardMoreSaid : Prop := yardMoreRow.holds Try.pinned (OpenSpec.ofChange yardMoreSpec)

/-- ITS FALSE NEIGHBOUR: 'it returns false'. Refute it at one input. -/
def yardMoreWrong : ChangeSpec := { name := "yardMore", fn := fun _ => fun
  | [d1, d2, d3] => { results := [.lit (.bool false)], args := [d1, d2, d3] }
  | _ => none }
def YardMoreWrongFalsely : Prop := yardMoreRow.holds Try.pinned (OpenSpec.ofChange yardMoreWrong)

/-- 'sobreirolaw05.YardSwaps': WHATEVER THE INPUT: true; the input reads as it did. -/
def yardSwapsSpec : ChangeSpec := { name := "yardSwaps", fn := fun _ => fun
  | [d1, d2] => { results := [.lit (.bool true)], args := [d1, d2] }
  | _ => none }
def yardSwapsRow : OpenClaim := { program := "ytgekekhbhkgekaa", sum := "f42e7230056d0c0d202d5276384c52e2e6225058ae5e5c0ee4873c5ce582d123", func := "sobreiro/sobreirolaw05.YardSwaps", spec := "yardSwaps", unfollowed := true, recurses := true, apart := false }
def YardSwapsSaid : Prop := yardSwapsRow.holds Try.pinned (OpenSpec.ofChange yardSwapsSpec)

/-- ITS FALSE NEIGHBOUR: 'it returns false'. Refute it at one input. -/
def yardSwapsWrong : ChangeSpec := { name := "yardSwaps", fn := fun _ => fun
  | [d1, d2] => { results := [.lit (.bool false)], args := [d1, d2] }
  | _ => none }
def YardSwapsWrongFalsely : Prop := yardSwapsRow.holds Try.pinned (OpenSpec.ofChange yardSwapsWrong)

/-- 'sobreirolaw05.YardNarrow': WHATEVER THE INPUT: true; the input reads as it did. -/
def yardNarrowSpec : ChangeSpec := { name := "yardNarrow", fn := fun _ => fun
  | [d1, d2] => { results := [.lit (.bool true)], args := [d1, d2] }
  | _ => none }
def yardNarrowRow : OpenClaim := { program := "ytgekekhbhkgekaa", sum := "f42e7230056d0c0d202d5276384c52e2e6225058ae5e5c0ee4873c5ce582d123", func := "sobreiro/sobreirolaw05.YardNarrow", spec := "yardNarrow", unfollowed := true, recurses := true, apart := false }
def YardNarrowSaid : Prop := yardNarrowRow.holds Try.pinned (OpenSpec.ofChange yardNarrowSpec)

/-- ITS FALSE NEIGHBOUR: 'it returns false'. Refute it at one input. -/
def yardNarrowWrong : ChangeSpec := { name := "yardNarrow", fn := fun _ => fun
  | [d1, d2] => { results := [.lit (.bool false)], args := [d1, d2] }
  | _ => none }
def YardNarrowWrongFalsely : Prop := yardNarrowRow.holds Try.pinned (OpenSpec.ofChange yardNarrowWrong)

/-- 'sobreirolaw05.YardRests': WHATEVER THE INPUT: true; the input reads as it did. -/
def yardRestsSpec : ChangeSpec := { name := "yardRests", fn := fun _ => fun
  | [d1, d2, d3] => { results := [.lit (.bool true)], args := [d1, d2, d3] }
  | _ => none }
def yardRestsRow : OpenClaim := { program := "ytgekekhbhkgekaa", sum := "f42e7230056d0c0d202d5276384c52e2e6225058ae5e5c0ee4873c5ce582d123", func := "sobreiro/sobreirolaw05.YardRests", spec := "yardRests", unfollowed := true, recurses := true, apart := false }
def YardRestsSaid : Prop := yardRestsRow.holds Try.pinned (OpenSpec.ofChange yardRestsSpec)

/-- ITS FALSE NEIGHBOUR: 'it returns false'. Refute it at one input. -/
def yardRestsWrong : ChangeSpec := { name := "yardRests", fn := fun _ => fun
  | [d1, d2, d3] => { results := [.lit (.bool false)], args := [d1, d2, d3] }
  | _ => none }
def YardRestsWrongFalsely : Prop := yardRestsRow.holds Try.pinned (OpenSpec.ofChange yardRestsWrong)

/-- 'sobreirolaw05.YardKin': WHATEVER THE INPUT: true; the input reads as it did. -/
def yardKinSpec : ChangeSpec := { name := "yardKin", fn := fun _ => fun
  | [d1, d2, d3] => { results := [.lit (.bool true)], args := [d1, d2, d3] }
  | _ => none }
def yardKinRow : OpenClaim := { program := "ytgekekhbhkgekaa", sum := "f42e7230056d0c0d202d5276384c52e2e6225058ae5e5c0ee4873c5ce582d123", func := "sobreiro/sobreirolaw05.YardKin", spec := "yardKin", unfollowed := true, recurses := true, apart := false }
def YardKinSaid : Prop := yardKinRow.holds Try.pinned (OpenSpec.ofChange yardKinSpec)

/-- ITS FALSE NEIGHBOUR: 'it returns false'. Refute it at one input. -/
def yardKinWrong : ChangeSpec := { name := "yardKin", fn := fun _ => fun
  | [d1, d2, d3] => { results := [.lit (.bool false)], args := [d1, d2, d3] }
  | _ => none }
def YardKinWrongFalsely : Prop := yardKinRow.holds Try.pinned (OpenSpec.ofChange yardKinWrong)

/-- 'sobreirolaw05.YardFollows': WHATEVER THE INPUT: true; the input reads as it did. -/
def yardFollowsSpec : ChangeSpec := { name := "yardFollows", fn := fun _ => fun
  | [d1, d2] => { results := [.lit (.bool true)], args := [d1, d2] }
  | _ => none }
def yardFollowsRow : OpenClaim := { program := "ytgekekhbhkgekaa", sum := "f42e7230056d0c0d202d5276384c52e2e6225058ae5e5c0ee4873c5ce582d123", func := "sobreiro/sobreirolaw05.YardFollows", spec := "yardFollows", unfollowed := true, recurses := true, apart := false }
def YardFollowsSaid : Prop := yardFollowsRow.holds Try.pinned (OpenSpec.ofChange yardFollowsSpec)

/-- ITS FALSE NEIGHBOUR: 'it returns false'. Refute it at one input. -/
def yardFollowsWrong : ChangeSpec := { name := "yardFollows", fn := fun _ => fun
  | [d1, d2] => { results := [.lit (.bool false)], args := [d1, d2] }
  | _ => none }
def YardFollowsWrongFalsely : Prop := yardFollowsRow.holds Try.pinned (OpenSpec.ofChange yardFollowsWrong)

/-- 'sobreirolaw05.YardWaters': WHATEVER THE INPUT: true; the input reads as it did. -/
def yardWatersSpec : ChangeSpec := { name := "yardWaters", fn := fun _ => fun
  | [d1, d2, d3, d4] => { results := [.lit (.bool true)], args := [d1, d2, d3, d4] }
  | _ => none }
def yardWatersRow : OpenClaim := { program := "ytgekekhbhkgekaa", sum := "f42e7230056d0c0d202d5276384c52e2e6225058ae5e5c0ee4873c5ce582d123", func := "sobreiro/sobreirolaw05.YardWaters", spec := "yardWaters", unfollowed := true, recurses := true, apart := false }
def YardWatersSaid : Prop := yardWatersRow.holds Try.pinned (OpenSpec.ofChange yardWatersSpec)

/-- ITS FALSE NEIGHBOUR: 'it returns false'. Refute it at one input. -/
def yardWatersWrong : ChangeSpec := { name := "yardWaters", fn := fun _ => fun
  | [d1, d2, d3, d4] => { results := [.lit (.bool false)], args := [d1, d2, d3, d4] }
  | _ => none }
def YardWatersWrongFalsely : Prop := yardWatersRow.holds Try.pinned (OpenSpec.ofChange yardWatersWrong)

/-- 'sobreirolaw05.YardOrigins': WHATEVER THE INPUT: true; the input reads as it did. -/
def yardOriginsSpec : ChangeSpec := { name := "yardOrigins", fn := fun _ => fun
  | [d1, d2, d3, d4] => { results := [.lit (.bool true)], args := [d1, d2, d3, d4] }
  | _ => none }
def yardOriginsRow : OpenClaim := { program := "ytgekekhbhkgekaa", sum := "f42e7230056d0c0d202d5276384c52e2e6225058ae5e5c0ee4873c5ce582d123", func := "sobreiro/sobreirolaw05.YardOrigins", spec := "yardOrigins", unfollowed := true, recurses := true, apart := false }
def YardOriginsSaid : Prop := yardOriginsRow.holds Try.pinned (OpenSpec.ofChange yardOriginsSpec)

/-- ITS FALSE NEIGHBOUR: 'it returns false'. Refute it at one input. -/
def yardOriginsWrong : ChangeSpec := { name := "yardOrigins", fn := fun _ => fun
  | [d1, d2, d3, d4] => { results := [.lit (.bool false)], args := [d1, d2, d3, d4] }
  | _ => none }
def YardOriginsWrongFalsely : Prop := yardOriginsRow.holds Try.pinned (OpenSpec.ofChange yardOriginsWrong)

/- THE SECOND FORM. 'bulk': how many values and letters a reading holds, each counted each time it is reached (what is shared counts as often as it is met; a slice's spare places count too). A statement '..UptoSaid' is the law's where the arguments, and the package variables that the reading takes, are together of bulk at most 1048576: NARROWER than '..Said'. Prove '..Said' where nothing that the law and all that it calls make is longer than what came in: it says more and counts as full. Else prove '..UptoSaid'. A law counts once. -/
mutual
def uptoBulk {H : Type} : DataW H → Nat
  | .lit (.string bytes) => bytes.length + 1
  | .lit _ => 1
  | .nil => 1
  | .ptr d => uptoBulk d + 1
  | .slice elems spare => uptoBulkAll elems + uptoBulkAll spare + 1
  | .agg parts => uptoBulkAll parts + 1
  | .iface _ d => uptoBulk d + 1
  | .map entries => uptoBulkEntries entries + 1
  | .held _ => 1
def uptoBulkAll {H : Type} : List (DataW H) → Nat
  | [] => 0
  | d :: r => uptoBulk d + uptoBulkAll r
def uptoBulkEntries {H : Type} : List (Lit × DataW H) → Nat
  | [] => 0
  | x :: r => uptoBulkEntry x + uptoBulkEntries r
def uptoBulkEntry {H : Type} : Lit × DataW H → Nat
  | (.string bytes, d) => bytes.length + uptoBulk d + 1
  | (_, d) => uptoBulk d + 1
 end
def uptoSmall : (H : Type) → List (DataW H) → Bool := fun _ ds => decide (uptoBulkAll ds ≤ 1048576)
def OpenSpec.upto (s : _root_.Go.ChangeSpec) : _root_.Go.OpenSpec := { _root_.Go.OpenSpec.ofChange s with cond := some uptoSmall }

/-- 'sobreirolaw05.YardTrue', WHERE WHAT IT READS IS OF BULK AT MOST 1048576: true; the input reads as it did. -/
def yardTrueUptoRow : OpenClaim := { program := "ytgekekhbhkgekaa", sum := "f42e7230056d0c0d202d5276384c52e2e6225058ae5e5c0ee4873c5ce582d123", func := "sobreiro/sobreirolaw05.YardTrue", spec := "yardTrue", unfollowed := true, recurses := true, apart := false, narrowed := true }
def YardTrueUptoSaid : Prop := yardTrueUptoRow.holds Try.pinned (OpenSpec.upto yardTrueSpec)

/-- 'sobreirolaw05.YardExact', WHERE WHAT IT READS IS OF BULK AT MOST 1048576: true; the input reads as it did. -/
def yardExactUptoRow : OpenClaim := { program := "ytgekekhbhkgekaa", sum := "f42e7230056d0c0d202d5276384c52e2e6225058ae5e5c0ee4873c5ce582d123", func := "sobreiro/sobreirolaw05.YardExact", spec := "yardExact", unfollowed := true, recurses := true, apart := false, narrowed := true }
def YardExactUptoSaid : Prop := yardExactUptoRow.holds Try.pinned (OpenSpec.upto yardExactSpec)

/-- 'sobreirolaw05.YardMore', WHERE WHAT IT READS IS OF BULK AT MOST 1048576: true; the input reads as it did. -/
def yardMoreUptoRow : OpenClaim := { program := "ytgekekhbhkgekaa", sum := "f42e7230056d0c0d202d5276384c52e2e6225058ae5e5c0ee4873c5ce582d123", func := "sobreiro/sobreirolaw05.YardMore", spec := "yardMore", unfollowed := true, recurses := true, apart := false, narrowed := true }
def YardMoreUptoSaid : Prop := yardMoreUptoRow.holds Try.pinned (OpenSpec.upto yardMoreSpec)

/-- 'sobreirolaw05.YardSwaps', WHERE WHAT IT READS IS OF BULK AT MOST 1048576: true; the input reads as it did. -/
def yardSwapsUptoRow : OpenClaim := { program := "ytgekekhbhkgekaa", sum := "f42e7230056d0c0d202d5276384c52e2e6225058ae5e5c0ee4873c5ce582d123", func := "sobreiro/sobreirolaw05.YardSwaps", spec := "yardSwaps", unfollowed := true, recurses := true, apart := false, narrowed := true }
def YardSwapsUptoSaid : Prop := yardSwapsUptoRow.holds Try.pinned (OpenSpec.upto yardSwapsSpec)

/-- 'sobreirolaw05.YardNarrow', WHERE WHAT IT READS IS OF BULK AT MOST 1048576: true; the input reads as it did. -/
def yardNarrowUptoRow : OpenClaim := { program := "ytgekekhbhkgekaa", sum := "f42e7230056d0c0d202d5276384c52e2e6225058ae5e5c0ee4873c5ce582d123", func := "sobreiro/sobreirolaw05.YardNarrow", spec := "yardNarrow", unfollowed := true, recurses := true, apart := false, narrowed := true }
def YardNarrowUptoSaid : Prop := yardNarrowUptoRow.holds Try.pinned (OpenSpec.upto yardNarrowSpec)

/-- 'sobreirolaw05.YardRests', WHERE WHAT IT READS IS OF BULK AT MOST 1048576: true; the input reads as it did. -/
def yardRestsUptoRow : OpenClaim := { program := "ytgekekhbhkgekaa", sum := "f42e7230056d0c0d202d5276384c52e2e6225058ae5e5c0ee4873c5ce582d123", func := "sobreiro/sobreirolaw05.YardRests", spec := "yardRests", unfollowed := true, recurses := true, apart := false, narrowed := true }
def YardRestsUptoSaid : Prop := yardRestsUptoRow.holds Try.pinned (OpenSpec.upto yardRestsSpec)

/-- 'sobreirolaw05.YardKin', WHERE WHAT IT READS IS OF BULK AT MOST 1048576: true; the input reads as it did. -/
def yardKinUptoRow : OpenClaim := { program := "ytgekekhbhkgekaa", sum := "f42e7230056d0c0d202d5276384c52e2e6225058ae5e5c0ee4873c5ce582d123", func := "sobreiro/sobreirolaw05.YardKin", spec := "yardKin", unfollowed := true, recurses := true, apart := false, narrowed := true }
def YardKinUptoSaid : Prop := yardKinUptoRow.holds Try.pinned (OpenSpec.upto yardKinSpec)

/-- 'sobreirolaw05.YardFollows', WHERE WHAT IT READS IS OF BULK AT MOST 1048576: true; the input reads as it did. -/
def yardFollowsUptoRow : OpenClaim := { program := "ytgekekhbhkgekaa", sum := "f42e7230056d0c0d202d5276384c52e2e6225058ae5e5c0ee4873c5ce582d123", func := "sobreiro/sobreirolaw05.YardFollows", spec := "yardFollows", unfollowed := true, recurses := true, apart := false, narrowed := true }
def YardFollowsUptoSaid : Prop := yardFollowsUptoRow.holds Try.pinned (OpenSpec.upto yardFollowsSpec)

/-- 'sobreirolaw05.YardWaters', WHERE WHAT IT READS IS OF BULK AT MOST 1048576: true; the input reads as it did. -/
def yardWatersUptoRow : OpenClaim := { program := "ytgekekhbhkgekaa", sum := "f42e7230056d0c0d202d5276384c52e2e6225058ae5e5c0ee4873c5ce582d123", func := "sobreiro/sobreirolaw05.YardWaters", spec := "yardWaters", unfollowed := true, recurses := true, apart := false, narrowed := true }
def YardWatersUptoSaid : Prop := yardWatersUptoRow.holds Try.pinned (OpenSpec.upto yardWatersSpec)

/-- 'sobreirolaw05.YardOrigins', WHERE WHAT IT READS IS OF BULK AT MOST 1048576: true; the input reads as it did. -/
def yardOriginsUptoRow : OpenClaim := { program := "ytgekekhbhkgekaa", sum := "f42e7230056d0c0d202d5276384c52e2e6225058ae5e5c0ee4873c5ce582d123", func := "sobreiro/sobreirolaw05.YardOrigins", spec := "yardOrigins", unfollowed := true, recurses := true, apart := false, narrowed := true }
def YardOriginsUptoSaid : Prop := yardOriginsUptoRow.holds Try.pinned (OpenSpec.upto yardOriginsSpec)

end Rows
end Go.Proofs.Ytgekekhbhkgekaa
