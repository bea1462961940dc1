/- Two new blocks. -/
import Derived.Test.YtdpockkfmdkbhaaHigh
namespace Go.Proofs.Ytdpockkfmdkbhaa
open Go.RowKit Go.Shelf

theorem two_below (w : World) (cs ds : Array Value) (t u : TypeId) : Below w.heap.size w ((w.alloc (.cells cs t)).alloc (.cells ds u)) := ((Below.refl _ _).alloc (Nat.le_refl _) _).alloc (by simp) _
theorem two_new (w : World) (cs ds : Array Value) (t u : TypeId) : Blk ((w.alloc (.cells cs t)).alloc (.cells ds u)) (w.heap.size + 1) u ds := by
  have := Blk.new (w.alloc (.cells cs t)) u ds
  rwa [World.size_alloc] at this
end Go.Proofs.Ytdpockkfmdkbhaa
