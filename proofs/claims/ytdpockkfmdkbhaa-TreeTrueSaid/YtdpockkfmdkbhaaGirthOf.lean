/- Girth: a tree's girth in a year, or the error. -/
import Derived.Test.YtdpockkfmdkbhaaTwo
namespace Go.Proofs.Ytdpockkfmdkbhaa
open Go.RowKit Go.Shelf

theorem bounds_size : (Try.prog.info? 41).map (·.size) = some 2 := by kernel_rfl

set_option maxRecDepth 100000 in
set_option maxHeartbeats 1000000 in
theorem girthOf_no (f : Forest) (tree year : Int) (w : World) (h : TreesHeld w.heap.size w f.tv f.trees) (he : ¬ askErr f tree year 1 = 0) :
    Calls Try.prog 13 #[.agg f.cells.toArray, .int .i64 tree, .int .i64 year] w fun e w' => e = .returned (.tuple #[.agg #[.int .i64 0, .int .i64 0], .int .i64 (askErr f tree year 1)]) ∧ Below w.heap.size w w' := by
  have hA := ask_no f tree year 1 ((w.alloc (.cells f.cells.toArray 27)).alloc (.cells #[.int .i64 0, .int .i64 0] 41)) ((h.below (two_below w _ _ _ _)).mono (two_below w _ _ _ _).size) he
  have hne : (askErr f tree year 1 != 0) = true := by simpa using he
  obtain ⟨a, c, ev⟩ := h.1.len
  clear h he
  generalize askErr f tree year 1 = r at hA hne ⊢
  simp only [Forest.cells] at hA ⊢
  rw [ev] at hA ⊢
  clear ev
  have HA := Lib.hid hA; clear hA
  have HX := Lib.hid (two_below w #[.int .i64 f.law.age, .int .i64 f.law.rest, .int .i64 f.law.girth, .int .i64 f.law.f0, .int .i64 f.law.f1, .int .i64 f.law.f2, .int .i64 f.law.heal, .slice a f.trees.length c] #[.int .i64 0, .int .i64 0] 27 41)
  have HK := Lib.hid (two_new w #[.int .i64 f.law.age, .int .i64 f.law.rest, .int .i64 f.law.girth, .int .i64 f.law.f0, .int .i64 f.law.f1, .int .i64 f.law.f2, .int .i64 f.law.heal, .slice a f.trees.length c] #[.int .i64 0, .int .i64 0] 27 41)
  go_enter Try.func13, Try.ntmps13
  go_wp2_with (first | (go_at_call 27; refine HA.out.mono ?_; rintro e w1 ⟨rfl, hw1⟩; have hB1 := HX.out.trans (hw1.mono HX.out.size); have k1 := Blk.below HK.out hw1 HK.out.lt; clear hw1) | ((with_reducible refine at_store 73 (.tmp 8) (.tmp 15) ?_); go_must (refine wpList_store_row rfl 73 (.tmp 8) (.tmp 15) rfl w1.heap.size (noQuestion) rfl rfl 73 #[.int .i64 0, .int .i64 0, .int .i64 0, .int .i64 0, .int .i64 0, .int .i64 0, .int .i64 0, .string ⟨#[]⟩, .int .i64 0, .int .i64 0, .int .i64 0, .int .i64 0, .int .i64 0, .int .i64 0, .int .i64 0, .slice none 0 0, .slice none 0 0, .int .i64 0, .int .i64 0, .int .i64 0] (heap_alloc_new w1 _) size_question rfl none_cells ?_); have hB2 := below_setRow (hB1.alloc hB1.size (.cells #[.int .i64 0, .int .i64 0, .int .i64 0, .int .i64 0, .int .i64 0, .int .i64 0, .int .i64 0, .string ⟨#[]⟩, .int .i64 0, .int .i64 0, .int .i64 0, .int .i64 0, .int .i64 0, .int .i64 0, .int .i64 0, .slice none 0 0, .slice none 0 0, .int .i64 0, .int .i64 0, .int .i64 0] 73)) hB1.size (noQuestion); have HQ2 := Lib.hid (setRow_heap (w1.alloc (.cells #[.int .i64 0, .int .i64 0, .int .i64 0, .int .i64 0, .int .i64 0, .int .i64 0, .int .i64 0, .string ⟨#[]⟩, .int .i64 0, .int .i64 0, .int .i64 0, .int .i64 0, .int .i64 0, .int .i64 0, .int .i64 0, .slice none 0 0, .slice none 0 0, .int .i64 0, .int .i64 0, .int .i64 0] 73)) w1.heap.size _ (noQuestion) _ _ (heap_alloc_new w1 _)); have k2 := Blk.below k1 (below_setRow ((Below.refl _ w1).alloc (Nat.le_refl _) (.cells #[.int .i64 0, .int .i64 0, .int .i64 0, .int .i64 0, .int .i64 0, .int .i64 0, .int .i64 0, .string ⟨#[]⟩, .int .i64 0, .int .i64 0, .int .i64 0, .int .i64 0, .int .i64 0, .int .i64 0, .int .i64 0, .slice none 0 0, .slice none 0 0, .int .i64 0, .int .i64 0, .int .i64 0] 73)) (Nat.le_refl _) (noQuestion)) k1.lt; generalize (w1.alloc (.cells #[.int .i64 0, .int .i64 0, .int .i64 0, .int .i64 0, .int .i64 0, .int .i64 0, .int .i64 0, .string ⟨#[]⟩, .int .i64 0, .int .i64 0, .int .i64 0, .int .i64 0, .int .i64 0, .int .i64 0, .int .i64 0, .slice none 0 0, .slice none 0 0, .int .i64 0, .int .i64 0, .int .i64 0] 73)).setRow w1.heap.size (noQuestion) = w2 at hB2 HQ2 k2 ⊢; have e0 : w2.cell? ⟨w.heap.size + 1, 0, none⟩ = some (.int .i64 0) := k2.cell 0; have e1 : w2.cell? ⟨w.heap.size + 1, 1, none⟩ = some (.int .i64 0) := k2.cell 1; have z0 : w2.frozen? ⟨w.heap.size + 1, 0, none⟩ = false := k2.frozen 0; have z1 : w2.frozen? ⟨w.heap.size + 1, 1, none⟩ = false := k2.frozen 1))
  have k4 : Blk _ (w.heap.size + 1) 41 #[.int .i64 0, .int .i64 0] := (k2.set_ 0 (.int .i64 0)).set_ 1 (.int .i64 0)
  exact bodyPost_ret (results_cell_one rfl _ _ (w.heap.size + 1) 41 #[.int .i64 0, .int .i64 0] (0, 0) _ rfl k4 Try.underlying41 rfl bounds_size) rfl ⟨rfl, (hB2.setCell (by dsimp only; omega) _).setCell (by dsimp only; omega) _⟩

set_option maxRecDepth 100000 in
set_option maxHeartbeats 1000000 in
theorem girthOf_yes (f : Forest) (tree year : Int) (w : World) (h : TreesHeld w.heap.size w f.tv f.trees) (he : askErr f tree year 1 = 0) :
    Calls Try.prog 13 #[.agg f.cells.toArray, .int .i64 tree, .int .i64 year] w fun e w' => e = .returned (.tuple #[.agg #[.int .i64 (girthMin f.trees[tree.toNat]! year), .int .i64 (girthMax f.trees[tree.toNat]! year)], .int .i64 0]) ∧ Below w.heap.size w w' := by
  have hA := ask_yes f tree year 1 ((w.alloc (.cells f.cells.toArray 27)).alloc (.cells #[.int .i64 0, .int .i64 0] 41)) ((h.below (two_below w _ _ _ _)).mono (two_below w _ _ _ _).size) he
  have hk := asked_of f tree year 1 w h he
  have hV : ∀ W, Below w.heap.size w W → Calls Try.prog 29 #[.agg (qCells f.law f.trees[tree.toNat]! year 1)] W fun e w' => e = .returned (.agg #[.int .i64 (girthMin f.trees[tree.toNat]! year), .int .i64 (girthMax f.trees[tree.toNat]! year)]) ∧ Below W.heap.size W w' := fun W hW =>
    girth_says _ _ _ _ w hk.fine hk.held hk.year0 hk.year1 W
  have hO := qCells_ones f.law f.trees[tree.toNat]! year 1 hk.held.1.slice hk.held.2.1.slice
  obtain ⟨a, c, ev⟩ := h.1.len
  clear h he hk
  generalize girthMin f.trees[tree.toNat]! year = g0 at hV ⊢
  generalize girthMax f.trees[tree.toNat]! year = g1 at hV ⊢
  generalize hq : qCells f.law f.trees[tree.toNat]! year 1 = q at hA hV hO
  have hs : q.size = 20 := by rw [← hq]; rfl
  clear hq
  simp only [Forest.cells] at hA ⊢
  rw [ev] at hA ⊢
  clear ev
  have HA := Lib.hid hA; clear hA
  have HV := Lib.hid hV; clear hV
  have HO := Lib.hid hO; clear hO
  have HS := Lib.hid (show (Try.prog.info? 73).map (·.size) = some q.size from by rw [hs]; exact size_question)
  have HS2 := Lib.hid (show (#[.int .i64 0, .int .i64 0, .int .i64 0, .int .i64 0, .int .i64 0, .int .i64 0, .int .i64 0, .string ⟨#[]⟩, .int .i64 0, .int .i64 0, .int .i64 0, .int .i64 0, .int .i64 0, .int .i64 0, .int .i64 0, .slice none 0 0, .slice none 0 0, .int .i64 0, .int .i64 0, .int .i64 0] : Array Value).size = q.size from by rw [hs]; rfl)
  clear hs
  have HX := Lib.hid (two_below w #[.int .i64 f.law.age, .int .i64 f.law.rest, .int .i64 f.law.girth, .int .i64 f.law.f0, .int .i64 f.law.f1, .int .i64 f.law.f2, .int .i64 f.law.heal, .slice a f.trees.length c] #[.int .i64 0, .int .i64 0] 27 41)
  have HK := Lib.hid (two_new w #[.int .i64 f.law.age, .int .i64 f.law.rest, .int .i64 f.law.girth, .int .i64 f.law.f0, .int .i64 f.law.f1, .int .i64 f.law.f2, .int .i64 f.law.heal, .slice a f.trees.length c] #[.int .i64 0, .int .i64 0] 27 41)
  go_enter Try.func13, Try.ntmps13
  go_wp2_with (first | (go_at_call 27; refine HA.out.mono ?_; rintro e w1 ⟨rfl, hw1⟩; have hB1 := HX.out.trans (hw1.mono HX.out.size); have k1 := Blk.below HK.out hw1 HK.out.lt; clear hw1) | ((with_reducible refine at_store 73 (.tmp 8) (.tmp 15) ?_); go_must (refine wpList_store_row rfl 73 (.tmp 8) (.tmp 15) rfl w1.heap.size (q) rfl rfl 73 #[.int .i64 0, .int .i64 0, .int .i64 0, .int .i64 0, .int .i64 0, .int .i64 0, .int .i64 0, .string ⟨#[]⟩, .int .i64 0, .int .i64 0, .int .i64 0, .int .i64 0, .int .i64 0, .int .i64 0, .int .i64 0, .slice none 0 0, .slice none 0 0, .int .i64 0, .int .i64 0, .int .i64 0] (heap_alloc_new w1 _) HS.out HS2.out HO.out ?_); have hB2 := below_setRow (hB1.alloc hB1.size (.cells #[.int .i64 0, .int .i64 0, .int .i64 0, .int .i64 0, .int .i64 0, .int .i64 0, .int .i64 0, .string ⟨#[]⟩, .int .i64 0, .int .i64 0, .int .i64 0, .int .i64 0, .int .i64 0, .int .i64 0, .int .i64 0, .slice none 0 0, .slice none 0 0, .int .i64 0, .int .i64 0, .int .i64 0] 73)) hB1.size (q); have HQ2 := Lib.hid (setRow_heap (w1.alloc (.cells #[.int .i64 0, .int .i64 0, .int .i64 0, .int .i64 0, .int .i64 0, .int .i64 0, .int .i64 0, .string ⟨#[]⟩, .int .i64 0, .int .i64 0, .int .i64 0, .int .i64 0, .int .i64 0, .int .i64 0, .int .i64 0, .slice none 0 0, .slice none 0 0, .int .i64 0, .int .i64 0, .int .i64 0] 73)) w1.heap.size _ (q) _ _ (heap_alloc_new w1 _)); have k2 := Blk.below k1 (below_setRow ((Below.refl _ w1).alloc (Nat.le_refl _) (.cells #[.int .i64 0, .int .i64 0, .int .i64 0, .int .i64 0, .int .i64 0, .int .i64 0, .int .i64 0, .string ⟨#[]⟩, .int .i64 0, .int .i64 0, .int .i64 0, .int .i64 0, .int .i64 0, .int .i64 0, .int .i64 0, .slice none 0 0, .slice none 0 0, .int .i64 0, .int .i64 0, .int .i64 0] 73)) (Nat.le_refl _) (q)) k1.lt; generalize (w1.alloc (.cells #[.int .i64 0, .int .i64 0, .int .i64 0, .int .i64 0, .int .i64 0, .int .i64 0, .int .i64 0, .string ⟨#[]⟩, .int .i64 0, .int .i64 0, .int .i64 0, .int .i64 0, .int .i64 0, .int .i64 0, .int .i64 0, .slice none 0 0, .slice none 0 0, .int .i64 0, .int .i64 0, .int .i64 0] 73)).setRow w1.heap.size (q) = w2 at hB2 HQ2 k2 ⊢) | ((with_reducible refine at_load 73 (.tmp 8) ?_); go_must (refine wpList_load_row rfl 73 (.tmp 8) rfl w1.heap.size rfl 73 (q) (0, 0) _ HQ2.out Try.underlying73 rfl HS.out ?_)) | (go_at_call 29; refine (HV.out _ hB2).mono ?_; rintro e w3 ⟨rfl, hw3⟩; have k3 := Blk.below k2 hw3 k2.lt; have e2 : w3.cell? ⟨w.heap.size + 1, 0, none⟩ = some (.int .i64 0) := k3.cell 0; have e3 : w3.cell? ⟨w.heap.size + 1, 1, none⟩ = some (.int .i64 0) := k3.cell 1; have z2 : w3.frozen? ⟨w.heap.size + 1, 0, none⟩ = false := k3.frozen 0; have z3 : w3.frozen? ⟨w.heap.size + 1, 1, none⟩ = false := k3.frozen 1))
  have k4 : Blk _ (w.heap.size + 1) 41 #[.int .i64 g0, .int .i64 g1] := (k3.set_ 0 (.int .i64 g0)).set_ 1 (.int .i64 g1)
  exact bodyPost_ret (results_cell_one rfl _ _ (w.heap.size + 1) 41 #[.int .i64 g0, .int .i64 g1] (0, 0) _ rfl k4 Try.underlying41 rfl bounds_size) rfl ⟨rfl, ((hB2.trans (hw3.mono hB2.size)).setCell (by dsimp only; omega) _).setCell (by dsimp only; omega) _⟩
end Go.Proofs.Ytdpockkfmdkbhaa
