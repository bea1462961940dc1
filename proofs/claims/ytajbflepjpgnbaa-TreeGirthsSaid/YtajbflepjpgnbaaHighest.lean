/- The greatest height that is good. -/
import Derived.Test.YtajbflepjpgnbaaSearch
namespace Go.Proofs.Ytajbflepjpgnbaa
open Go.RowKit Go.Shelf

set_option maxRecDepth 100000 in
set_option maxHeartbeats 1000000 in
theorem highest_isAlways (l : Law) (t : Tree) (y h : Int) (w : World) (hl : LawFine l) (ht : TreeFine t) (hH : TreeHeld w.heap.size w t) (hy0 : 0 ≤ y) (hy1 : y ≤ 300) :
    Calls Try.prog 45 #[.agg (qCells l t y h), .func (.func 46) #[] #[]] w (SomeSearch 15000 (fun k => !((verdictOn l t y ((k : Int) + 1)).1 == 1)) (Below w.heap.size w)) := by
  have hS := search_calls 15000 (by omega) (fun k => !((verdictOn l t y ((k : Int) + 1)).1 == 1)) (fun W => Below w.heap.size w W ∧ (∃ h' : Int, Blk W w.heap.size 74 (qCells l t y h')) ∧ Blk W (w.heap.size + 1) 89 #[.func (.func 46) #[] #[]])
    w.heap.size (w.heap.size + 1) ((w.alloc (.cells (qCells l t y h) 74)).alloc (.cells #[.func (.func 46) #[] #[]] 89))
    ⟨((Below.refl _ w).alloc (Nat.le_refl _) _).alloc (by simp) _, ⟨h, (Blk.new w _ _).alloc _⟩, by have := Blk.new (w.alloc (.cells (qCells l t y h) 74)) 89 #[.func (.func 46) #[] #[]]; rwa [World.size_alloc] at this⟩
    (fun k W hk ⟨h1, ⟨h', h2⟩, h3⟩ => (closure_isAlways l t y h' k w.heap.size (w.heap.size + 1) w W hk hl ht hH hy0 hy1 h1 (Nat.le_refl _) (by omega) h2 h3).mono fun _ _ ⟨he, a, b, c⟩ => ⟨he, a, ⟨_, b⟩, c⟩)
  clear hH
  generalize (fun k : Nat => !((verdictOn l t y ((k : Int) + 1)).1 == 1)) = p at hS ⊢
  generalize qCells l t y h = q at hS ⊢
  have HS := Lib.hid hS; clear hS
  go_enter Try.func45, Try.ntmps45
  go_wp2_with fail
  refine HS.out.mono ?_
  rintro e w2 ⟨r, rfl, hr, hI, _, _⟩
  go_wp2
  go_ret
  exact ⟨r, rfl, hr, hI⟩

set_option maxRecDepth 100000 in
set_option maxHeartbeats 1000000 in
theorem highest_isPossible (l : Law) (t : Tree) (y h : Int) (w : World) (hl : LawFine l) (ht : TreeFine t) (hH : TreeHeld w.heap.size w t) (hy0 : 0 ≤ y) (hy1 : y ≤ 300) :
    Calls Try.prog 45 #[.agg (qCells l t y h), .func (.func 47) #[] #[]] w (SomeSearch 15000 (fun k => !((verdictOn l t y ((k : Int) + 1)).1 != 2)) (Below w.heap.size w)) := by
  have hS := search_calls 15000 (by omega) (fun k => !((verdictOn l t y ((k : Int) + 1)).1 != 2)) (fun W => Below w.heap.size w W ∧ (∃ h' : Int, Blk W w.heap.size 74 (qCells l t y h')) ∧ Blk W (w.heap.size + 1) 89 #[.func (.func 47) #[] #[]])
    w.heap.size (w.heap.size + 1) ((w.alloc (.cells (qCells l t y h) 74)).alloc (.cells #[.func (.func 47) #[] #[]] 89))
    ⟨((Below.refl _ w).alloc (Nat.le_refl _) _).alloc (by simp) _, ⟨h, (Blk.new w _ _).alloc _⟩, by have := Blk.new (w.alloc (.cells (qCells l t y h) 74)) 89 #[.func (.func 47) #[] #[]]; rwa [World.size_alloc] at this⟩
    (fun k W hk ⟨h1, ⟨h', h2⟩, h3⟩ => (closure_isPossible l t y h' k w.heap.size (w.heap.size + 1) w W hk hl ht hH hy0 hy1 h1 (Nat.le_refl _) (by omega) h2 h3).mono fun _ _ ⟨he, a, b, c⟩ => ⟨he, a, ⟨_, b⟩, c⟩)
  clear hH
  generalize (fun k : Nat => !((verdictOn l t y ((k : Int) + 1)).1 != 2)) = p at hS ⊢
  generalize qCells l t y h = q at hS ⊢
  have HS := Lib.hid hS; clear hS
  go_enter Try.func45, Try.ntmps45
  go_wp2_with fail
  refine HS.out.mono ?_
  rintro e w2 ⟨r, rfl, hr, hI, _, _⟩
  go_wp2
  go_ret
  exact ⟨r, rfl, hr, hI⟩
end Go.Proofs.Ytajbflepjpgnbaa
