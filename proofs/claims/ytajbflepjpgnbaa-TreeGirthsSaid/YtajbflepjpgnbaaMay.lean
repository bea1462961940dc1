/- May a tree be stripped: the program's answer. -/
import Derived.Test.YtajbflepjpgnbaaAsked
namespace Go.Proofs.Ytajbflepjpgnbaa
open Go.RowKit Go.Shelf

theorem qCells_ones (l : Law) (t : Tree) (y h : Int) (hs : ∃ (a : Option Addr) (n c : Nat), t.sv = .slice a n c) (hw : ∃ (a : Option Addr) (n c : Nat), t.wv = .slice a n c) : (qCells l t y h).all (·.oneCell') = true := by
  obtain ⟨a, n, c, e⟩ := hs
  obtain ⟨a2, n2, c2, e2⟩ := hw
  simp [qCells, Value.oneCell', e, e2]

/-- What May answers. -/
def mayOf (f : Forest) (tree year height : Int) : Int × Int × Int :=
  if askErr f tree year height = 0 then ((verdictOn f.law f.trees[tree.toNat]! year height).1, (verdictOn f.law f.trees[tree.toNat]! year height).2, 0) else (0, 0, askErr f tree year height)

set_option maxRecDepth 100000 in
set_option maxHeartbeats 1000000 in
theorem may_no (f : Forest) (tree year height : Int) (w : World) (h : TreesHeld w.heap.size w f.tv f.trees) (he : ¬ askErr f tree year height = 0) :
    Calls Try.prog 20 #[.agg f.cells.toArray, .int .i64 tree, .int .i64 year, .int .i64 height] w fun e w' => e = .returned (.tuple #[.int .i64 0, .int .i64 0, .int .i64 (askErr f tree year height)]) ∧ Below w.heap.size w w' := by
  have hA := ask_no f tree year height (w.alloc (.cells f.cells.toArray 27)) ((h.below ((Below.refl _ w).alloc (Nat.le_refl _) _)).mono (by simp)) he
  have hne : (askErr f tree year height != 0) = true := by simpa using he
  obtain ⟨a, c, ev⟩ := h.1.len
  clear h he
  generalize askErr f tree year height = r at hA hne ⊢
  simp only [Forest.cells] at hA ⊢
  rw [ev] at hA ⊢
  clear ev
  have HA := Lib.hid hA; clear hA
  go_enter Try.func20, Try.ntmps20
  go_wp2_with (first | (go_at_call 34; refine HA.out.mono ?_; rintro e w1 ⟨rfl, hw1⟩; have hB1 := ((Below.refl _ w).alloc (Nat.le_refl _) _).trans (hw1.mono (by simp)); clear hw1) | ((with_reducible refine at_store 74 (.tmp 11) (.tmp 21) ?_); go_must (refine wpList_store_row rfl 74 (.tmp 11) (.tmp 21) rfl w1.heap.size (noQuestion) rfl rfl 74 #[.int .i64 0, .int .i64 0, .int .i64 0, .int .i64 0, .int .i64 0, .int .i64 0, .int .i64 0, .string ⟨#[]⟩, .int .i64 0, .int .i64 0, .int .i64 0, .int .i64 0, .int .i64 0, .int .i64 0, .int .i64 0, .slice none 0 0, .slice none 0 0, .int .i64 0, .int .i64 0, .int .i64 0] (heap_alloc_new w1 _) size_question rfl none_cells ?_); have hB2 := below_setRow (hB1.alloc hB1.size (.cells #[.int .i64 0, .int .i64 0, .int .i64 0, .int .i64 0, .int .i64 0, .int .i64 0, .int .i64 0, .string ⟨#[]⟩, .int .i64 0, .int .i64 0, .int .i64 0, .int .i64 0, .int .i64 0, .int .i64 0, .int .i64 0, .slice none 0 0, .slice none 0 0, .int .i64 0, .int .i64 0, .int .i64 0] 74)) hB1.size (noQuestion); have HQ2 := Lib.hid (setRow_heap (w1.alloc (.cells #[.int .i64 0, .int .i64 0, .int .i64 0, .int .i64 0, .int .i64 0, .int .i64 0, .int .i64 0, .string ⟨#[]⟩, .int .i64 0, .int .i64 0, .int .i64 0, .int .i64 0, .int .i64 0, .int .i64 0, .int .i64 0, .slice none 0 0, .slice none 0 0, .int .i64 0, .int .i64 0, .int .i64 0] 74)) w1.heap.size _ (noQuestion) _ _ (heap_alloc_new w1 _)); generalize (w1.alloc (.cells #[.int .i64 0, .int .i64 0, .int .i64 0, .int .i64 0, .int .i64 0, .int .i64 0, .int .i64 0, .string ⟨#[]⟩, .int .i64 0, .int .i64 0, .int .i64 0, .int .i64 0, .int .i64 0, .int .i64 0, .int .i64 0, .slice none 0 0, .slice none 0 0, .int .i64 0, .int .i64 0, .int .i64 0] 74)).setRow w1.heap.size (noQuestion) = w2 at hB2 HQ2 ⊢))
  go_ret3
  exact ⟨rfl, hB2⟩

set_option maxRecDepth 100000 in
set_option maxHeartbeats 1000000 in
theorem may_yes (f : Forest) (tree year height : Int) (w : World) (h : TreesHeld w.heap.size w f.tv f.trees) (he : askErr f tree year height = 0) :
    Calls Try.prog 20 #[.agg f.cells.toArray, .int .i64 tree, .int .i64 year, .int .i64 height] w fun e w' => e = .returned (.tuple #[.int .i64 (verdictOn f.law f.trees[tree.toNat]! year height).1, .int .i64 (verdictOn f.law f.trees[tree.toNat]! year height).2, .int .i64 0]) ∧ Below w.heap.size w w' := by
  have hA := ask_yes f tree year height (w.alloc (.cells f.cells.toArray 27)) ((h.below ((Below.refl _ w).alloc (Nat.le_refl _) _)).mono (by simp)) he
  have hk := asked_of f tree year height w h he
  have hV : ∀ W, Below w.heap.size w W → Calls Try.prog 43 #[.agg (qCells f.law f.trees[tree.toNat]! year height)] W fun e w' => e = .returned (.tuple #[.int .i64 (verdictOn f.law f.trees[tree.toNat]! year height).1, .int .i64 (verdictOn f.law f.trees[tree.toNat]! year height).2]) ∧ Below W.heap.size W w' := fun W hW =>
    verdict_says _ _ _ _ W hk.law hk.fine ((hk.held.below hW).mono hW.size) hk.year0 hk.year1 hk.height0 hk.height1
  have hO := qCells_ones f.law f.trees[tree.toNat]! year height hk.held.1.slice hk.held.2.1.slice
  obtain ⟨a, c, ev⟩ := h.1.len
  clear h he hk
  generalize verdictOn f.law f.trees[tree.toNat]! year height = v at hV ⊢
  generalize hq : qCells f.law f.trees[tree.toNat]! year height = q at hA hV hO
  have hs : q.size = 20 := by rw [← hq]; rfl
  clear hq
  simp only [Forest.cells] at hA ⊢
  rw [ev] at hA ⊢
  clear ev
  have HA := Lib.hid hA; clear hA
  have HV := Lib.hid hV; clear hV
  have HO := Lib.hid hO; clear hO
  have HS := Lib.hid (show (Try.prog.info? 74).map (·.size) = some q.size from by rw [hs]; exact size_question)
  have HS2 := Lib.hid (show (#[.int .i64 0, .int .i64 0, .int .i64 0, .int .i64 0, .int .i64 0, .int .i64 0, .int .i64 0, .string ⟨#[]⟩, .int .i64 0, .int .i64 0, .int .i64 0, .int .i64 0, .int .i64 0, .int .i64 0, .int .i64 0, .slice none 0 0, .slice none 0 0, .int .i64 0, .int .i64 0, .int .i64 0] : Array Value).size = q.size from by rw [hs]; rfl)
  clear hs
  go_enter Try.func20, Try.ntmps20
  go_wp2_with (first | (go_at_call 34; refine HA.out.mono ?_; rintro e w1 ⟨rfl, hw1⟩; have hB1 := ((Below.refl _ w).alloc (Nat.le_refl _) _).trans (hw1.mono (by simp)); clear hw1) | ((with_reducible refine at_store 74 (.tmp 11) (.tmp 21) ?_); go_must (refine wpList_store_row rfl 74 (.tmp 11) (.tmp 21) rfl w1.heap.size (q) rfl rfl 74 #[.int .i64 0, .int .i64 0, .int .i64 0, .int .i64 0, .int .i64 0, .int .i64 0, .int .i64 0, .string ⟨#[]⟩, .int .i64 0, .int .i64 0, .int .i64 0, .int .i64 0, .int .i64 0, .int .i64 0, .int .i64 0, .slice none 0 0, .slice none 0 0, .int .i64 0, .int .i64 0, .int .i64 0] (heap_alloc_new w1 _) HS.out HS2.out HO.out ?_); have hB2 := below_setRow (hB1.alloc hB1.size (.cells #[.int .i64 0, .int .i64 0, .int .i64 0, .int .i64 0, .int .i64 0, .int .i64 0, .int .i64 0, .string ⟨#[]⟩, .int .i64 0, .int .i64 0, .int .i64 0, .int .i64 0, .int .i64 0, .int .i64 0, .int .i64 0, .slice none 0 0, .slice none 0 0, .int .i64 0, .int .i64 0, .int .i64 0] 74)) hB1.size (q); have HQ2 := Lib.hid (setRow_heap (w1.alloc (.cells #[.int .i64 0, .int .i64 0, .int .i64 0, .int .i64 0, .int .i64 0, .int .i64 0, .int .i64 0, .string ⟨#[]⟩, .int .i64 0, .int .i64 0, .int .i64 0, .int .i64 0, .int .i64 0, .int .i64 0, .int .i64 0, .slice none 0 0, .slice none 0 0, .int .i64 0, .int .i64 0, .int .i64 0] 74)) w1.heap.size _ (q) _ _ (heap_alloc_new w1 _)); generalize (w1.alloc (.cells #[.int .i64 0, .int .i64 0, .int .i64 0, .int .i64 0, .int .i64 0, .int .i64 0, .int .i64 0, .string ⟨#[]⟩, .int .i64 0, .int .i64 0, .int .i64 0, .int .i64 0, .int .i64 0, .int .i64 0, .int .i64 0, .slice none 0 0, .slice none 0 0, .int .i64 0, .int .i64 0, .int .i64 0] 74)).setRow w1.heap.size (q) = w2 at hB2 HQ2 ⊢) | ((with_reducible refine at_load 74 (.tmp 11) ?_); go_must (refine wpList_load_row rfl 74 (.tmp 11) rfl w1.heap.size rfl 74 (q) (0, 0) _ HQ2.out Try.underlying74 rfl HS.out ?_)) | (go_at_call 43; refine (HV.out _ hB2).mono ?_; rintro e w3 ⟨rfl, hw3⟩))
  go_ret3
  exact ⟨rfl, hB2.trans (hw3.mono hB2.size)⟩

theorem may_calls (f : Forest) (tree year height : Int) (w : World) (h : TreesHeld w.heap.size w f.tv f.trees) :
    Calls Try.prog 20 #[.agg f.cells.toArray, .int .i64 tree, .int .i64 year, .int .i64 height] w fun e w' => e = .returned (.tuple #[.int .i64 (mayOf f tree year height).1, .int .i64 (mayOf f tree year height).2.1, .int .i64 (mayOf f tree year height).2.2]) ∧ Below w.heap.size w w' := by
  unfold mayOf
  by_cases he : askErr f tree year height = 0
  · rw [if_pos he]; exact may_yes f tree year height w h he
  · rw [if_neg he]; exact may_no f tree year height w h he
end Go.Proofs.Ytajbflepjpgnbaa
