/- The iterator over a list of maps, from its end. -/
import Derived.Test.YtajbflepjpgnbaaFollow
namespace Go.Proofs.Ytajbflepjpgnbaa
open Go.RowKit Go.Shelf Go.Maps

attribute [local go_sem] Oper.semAt_some

/-- Two blocks lie as they lay. -/
def Kept2 (B g : Nat) (W W' : World) : Prop := KeptAt B W W' ∧ KeptAt g W W'

set_option maxHeartbeats 1000000 in
theorem backward_calls (v : Value) (hv : ∃ a n c, v = .slice a n c) (w : World) :
    Calls Try.prog 77 #[v] w fun e w' => e = .returned (.func (.func 93) #[] #[.pointer (some ⟨w.heap.size, 0, none⟩)]) ∧ w' = w.alloc (.cells #[v] 92) := by
  obtain ⟨a, n, c, rfl⟩ := hv
  go_enter Try.func77, Try.ntmps77
  go_wp2
  go_ret
  exact ⟨rfl, rfl⟩
end Go.Proofs.Ytajbflepjpgnbaa
