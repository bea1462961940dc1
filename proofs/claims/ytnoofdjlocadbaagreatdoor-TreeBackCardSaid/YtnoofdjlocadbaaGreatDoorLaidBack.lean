/- What the premise about package variables gives: the library's table, its two errors, its greatest length. -/
import Derived.Test.YtnoofdjlocadbaaGreatDoorRows
import Derived.Test.YtnoofdjlocadbaaGreatDoorNumberCalls
import Derived.Deep.DeepHandedRow
import Derived.Deep.DeepWitnessRowRef
import Derived.Stop.LaidErr
import Derived.Lib.LaidTab
import Derived.LaidMore
import Derived.LaidHandle
import Derived.MakeChecks
import Derived.ProofKit
namespace Go.Proofs.YtnoofdjlocadbaaGreatDoor
open Go Go.RowKit Go.Lib

theorem starred : "*" ++ "errors.errorString" = "*errors.errorString" := by decide
/-- The one type of that name. -/
theorem error_row (u : TypeId) (h : Tryz.prog.typeName? 3 u = some "*errors.errorString") : u = 233 :=
  typeName_ptr_named (nm := "errors.errorString") (by rw [starred]; kernel_rfl) (by kernel_rfl) (by decide) u (by rw [starred]; exact h)

abbrev backLaid : List (String × DataW Unit) := Rows.treeBackRow.laid

theorem laid_plain (W : World) (h : laidMetH Tryz.prog backLaid W) : laidMet Tryz.prog backLaid W := by
  rwa [MakeChecks.laidMetH_plain _ _ _ (by kernel_rfl)] at h

theorem pow_tab {W : World} (h : laidMet Tryz.prog backLaid W) : TabIs Tryz.prog W "internal/strconv.uint64pow10" IntKind.u64 pow10Tab := by
  have h2 : laidMet Tryz.prog (("internal/strconv.uint64pow10", tabData .u64 pow10Tab) :: (backLaid.drop 3)) W := h.tail.tail
  exact tabIs_of_head (g := 0) (t := 197) (e := 176) (n := 20) (by kernel_rfl) (by kernel_rfl) (by kernel_rfl) (by kernel_rfl) (by kernel_rfl) (by kernel_rfl) h2

theorem libs_of {W : World} (h : laidMetH Tryz.prog backLaid W) (hs : W.ShapedOpen Tryz.prog) : Libs W := by
  have h1 := laid_plain W h
  obtain ⟨a0, t0, hv0, _⟩ := laid_sentinel (g := 7) h1.tail.tail.tail.tail (by kernel_rfl) (by kernel_rfl) Tryz.underlying61 error_row Tryz.underlying233 Tryz.underlying235 rfl rfl Tryz.underlying9 (by kernel_rfl) (by kernel_rfl)
  obtain ⟨a1, t1, hv1, _⟩ := laid_sentinel (g := 6) h1.tail.tail.tail.tail.tail (by kernel_rfl) (by kernel_rfl) Tryz.underlying61 error_row Tryz.underlying233 Tryz.underlying235 rfl rfl Tryz.underlying9 (by kernel_rfl) (by kernel_rfl)
  refine ⟨?_, ⟨233, .pointer (some a1), ?_⟩, ⟨233, .pointer (some a0), ?_⟩, pow_tab h1⟩
  · exact Tryz.laysM145.s1_3 W hs
  · have := World.var?_cell (g := 6) (by kernel_rfl) hv1 0; exact this
  · have := World.var?_cell (g := 7) (by kernel_rfl) hv0 0; exact this

/-- A start that meets the premise: what the initialisers' own run leaves, and the one table that is pinned. -/
noncomputable def startWorld (os : Os) : World :=
  { World.doorLaid Tryz.prog 400 os with heap := (World.doorLaid Tryz.prog 400 os).heap.modify 4 fun
    | .cells _ t frozen => .cells (Go.Pinned.utf8FirstZ.map fun (z : Nat) => Value.int .u8 (Int.ofNat z)).toArray t frozen
    | o => o }
set_option maxRecDepth 1000000 in
theorem start_met (os : Os) (args : Array Value) : laidMetH Tryz.prog backLaid ((startWorld os).forCall (fun _ _ => 0) ⟨#[], args, []⟩).memory :=
  laidMetH_of_parts3 (fuel := 8) (laidMet_of_run' 8 (by kernel_rfl) (by kernel_rfl)) (by kernel_rfl) (by kernel_rfl)
end Go.Proofs.YtnoofdjlocadbaaGreatDoor
