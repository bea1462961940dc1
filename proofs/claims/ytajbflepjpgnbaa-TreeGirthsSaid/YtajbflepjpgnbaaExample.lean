/- The chapter's example is made. -/
import Derived.Test.YtajbflepjpgnbaaFacts
import Derived.Laws.Rows
namespace Go.Proofs.Ytajbflepjpgnbaa
open Go.RowKit Go.Shelf

def exForest (b : Nat) : Forest := { law := exLaw, tv := .slice (some ⟨b, 0, none⟩) 1 1, trees := [exTree] }

theorem size_forest : (Try.prog.info? 27).map (·.size) = some 8 := by kernel_rfl

set_option maxRecDepth 100000 in
set_option maxHeartbeats 1000000 in
theorem example_calls (w : World) : Calls Try.prog 32 #[] w fun e w' => ∃ b : Nat, e = .returned (.agg (exForest b).cells.toArray) ∧ TreesHeld w'.heap.size w' (exForest b).tv (exForest b).trees ∧ Below w.heap.size w w' := by
  go_enter Try.func32, Try.ntmps32
  go_wp2
  have k0 := (Blk.new w 27 (exForest (w.heap.size + 1)).cells.toArray).alloc (.cells (Tree.cells exTree).toArray 53)
  have k1 := Blk.new' (w := w.alloc (.cells (exForest (w.heap.size + 1)).cells.toArray 27)) (g := w.heap.size + 1) (by simp) 53 (Tree.cells exTree).toArray
  refine bodyPost_ret (results_cell_row rfl _ _ w.heap.size 27 (exForest (w.heap.size + 1)).cells.toArray (0, 0) _ rfl k0 Try.underlying27 rfl size_forest) rfl ⟨w.heap.size + 1, rfl, ⟨.inr ⟨w.heap.size + 1, 0, 1, rfl, by simp, ⟨Nat.le_refl 1, by decide⟩, fun j hj i u hu => ?_⟩, fun t ht => ?_⟩, ?_⟩
  · have hj0 : j = 0 := by
      have : (exForest (w.heap.size + 1)).trees.length = 1 := rfl
      omega
    subst hj0
    have hc := Blk.cell k1 i
    rw [List.getElem?_toArray] at hc
    rw [show 0 + 0 * 11 + i = i by omega]
    exact hc.trans hu
  · have : t = exTree := by simpa [exForest] using ht
    subst this
    exact ⟨.inl ⟨⟨none, 0, rfl⟩, rfl⟩, .inl ⟨⟨none, 0, rfl⟩, rfl⟩, by decide⟩
  · exact ((Below.refl _ _).alloc (Nat.le_refl _) _).alloc (by simp) _
end Go.Proofs.Ytajbflepjpgnbaa
