/- Numbers of bounds, by a choice; bounds within some. -/
import Derived.Test.YtceginnogbbpeaaBoxed
import Derived.BigQuiet
import Derived.Deep.QuietTactic
namespace Go.Proofs.Ytceginnogbbpeaa
open Go.RowKit Go.Shelf

set_option maxRecDepth 100000 in
set_option maxHeartbeats 1000000 in
theorem pick_calls (lo hi z n : Int) (w : World) (h0 : 0 ≤ lo) (h1 : lo ≤ hi) (h2 : hi ≤ 6000) (hz0 : 0 ≤ z) (hz1 : z ≤ 65535) (hn : lo + z % (hi - lo + 1) = n) :
    Calls Try.prog 30 #[.agg #[.int .i64 lo, .int .i64 hi], .int .u16 z] w fun e w' => e = .returned (.int .i64 n) ∧ Below w.heap.size w w' := by
  have hm0 : 0 ≤ z % (hi - lo + 1) := Int.emod_nonneg _ (by omega)
  have hm1 : z % (hi - lo + 1) ≤ 6000 := by have := Int.emod_lt_of_pos z (show 0 < hi - lo + 1 by omega); omega
  have hne : ((hi - lo + 1) == 0) = false := by simp; omega
  go_enter Try.func30, Try.ntmps30
  go_wp2
  go_quiet (fail)
  go_wp2
  go_ret
  exact ⟨rfl, below_drewN ((Below.refl _ _).alloc (Nat.le_refl _) _) _⟩

set_option maxRecDepth 100000 in
set_option maxHeartbeats 1000000 in
theorem inner_calls (lo hi y z n m : Int) (w : World) (h0 : 0 ≤ lo) (h1 : lo ≤ hi) (h2 : hi ≤ 6000) (hy0 : 0 ≤ y) (hy1 : y ≤ 65535) (hz0 : 0 ≤ z) (hz1 : z ≤ 65535) (hn : lo + y % (hi - lo + 1) = n) (hm : n + z % (hi - n + 1) = m) (hn0 : lo ≤ n) (hn1 : n ≤ hi) :
    Calls Try.prog 17 #[.agg #[.int .i64 lo, .int .i64 hi], .int .u16 y, .int .u16 z] w fun e w' => e = .returned (.agg #[.int .i64 n, .int .i64 m]) ∧ Below w.heap.size w w' := by
  have hP := fun W => pick_calls lo hi y n W h0 h1 h2 hy0 hy1 hn
  have HP := Lib.hid hP; clear hP hn
  have hm0 : 0 ≤ z % (hi - n + 1) := Int.emod_nonneg _ (by omega)
  have hm1 : z % (hi - n + 1) ≤ 6000 := by have := Int.emod_lt_of_pos z (show 0 < hi - n + 1 by omega); omega
  have hne : ((hi - n + 1) == 0) = false := by simp; omega
  go_enter Try.func17, Try.ntmps17
  go_wp2_with fail
  have hB0 : Below w.heap.size w ((w.alloc (.cells #[.int .i64 lo, .int .i64 hi] 41)).alloc (.cells #[.int .i64 0, .int .i64 0] 41)) := ((Below.refl _ _).alloc (Nat.le_refl _) _).alloc (by simp) _
  have k0 := ((Blk.new w 41 #[.int .i64 lo, .int .i64 hi]).alloc (.cells #[.int .i64 0, .int .i64 0] 41))
  have k1 := Blk.new (w.alloc (.cells #[.int .i64 lo, .int .i64 hi] 41)) 41 #[.int .i64 0, .int .i64 0]
  rw [World.size_alloc] at k1
  refine (HP.out _).mono ?_
  rintro e w1 ⟨rfl, hw1⟩
  have hB1 := hB0.trans (hw1.mono hB0.size)
  have k0 := k0.below hw1 k0.lt
  have k1 := k1.below hw1 k1.lt
  clear hw1 hB0
  have c1 : w1.cell? ⟨w.heap.size, 1, none⟩ = some (.int .i64 hi) := k0.cell 1
  have d0 : w1.cell? ⟨w.heap.size + 1, 0, none⟩ = some (.int .i64 0) := k1.cell 0
  have d1 : w1.cell? ⟨w.heap.size + 1, 1, none⟩ = some (.int .i64 0) := k1.cell 1
  have z0 : w1.frozen? ⟨w.heap.size + 1, 0, none⟩ = false := k1.frozen 0
  have z1 : w1.frozen? ⟨w.heap.size + 1, 1, none⟩ = false := k1.frozen 1
  go_wp2_with fail
  exact bodyPost_ret (results_cell_row rfl _ _ (w.heap.size + 1) 41 #[.int .i64 n, .int .i64 m] (0, 0) _ rfl ((k1.set_ 0 (.int .i64 n)).set_ 1 (.int .i64 m)) Try.underlying41 rfl size_bounds) rfl ⟨rfl, (hB1.setCell (p := ⟨w.heap.size + 1, 0, none⟩) (by dsimp only; omega) _).setCell (p := ⟨w.heap.size + 1, 1, none⟩) (by dsimp only; omega) _⟩
end Go.Proofs.Ytceginnogbbpeaa
