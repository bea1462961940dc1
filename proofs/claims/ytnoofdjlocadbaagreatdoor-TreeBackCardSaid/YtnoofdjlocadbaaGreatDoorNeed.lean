/- The reader's need: it gives up on the line by a panic. -/
import Derived.Test.YtnoofdjlocadbaaGreatDoorCatch
import Derived.Test.YtnoofdjlocadbaaGreatDoorLeaf
namespace Go.Proofs.YtnoofdjlocadbaaGreatDoor
open Go Go.RowKit

set_option maxRecDepth 100000 in
set_option maxHeartbeats 1000000 in
theorem need_true (p : Addr) (w : World) : Calls Tryz.prog 53 #[.pointer (some p), .bool true] w fun e w' => e = .returned (.tuple #[]) ∧ w' = w := by
  go_enter Tryz.func53, Tryz.ntmps53
  go_wp2
  go_end0
  exact ⟨rfl, rfl⟩

set_option maxRecDepth 100000 in
set_option maxHeartbeats 1000000 in
theorem need_false (B : Nat) (n : Int) (w : World) (hc : w.cell? ⟨B, 8, none⟩ = some (.int .i64 n)) :
    Calls Tryz.prog 53 #[.pointer (some ⟨B, 0, none⟩), .bool false] w fun e w' => e = .panicked [{ v := .iface 98 (.int .i64 n), recovered := false }] ∧ w' = w := by
  go_enter Tryz.func53, Tryz.ntmps53
  go_wp2
  exact ⟨rfl, rfl, rfl⟩
end Go.Proofs.YtnoofdjlocadbaaGreatDoor
