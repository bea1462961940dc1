/- The first years that are allowed: the program's answer. -/
import Derived.Test.YtajbflepjpgnbaaGreatNextYear
/-! The first years that are allowed: the program's answer. -/
namespace Go.Proofs.YtajbflepjpgnbaaGreat
open Go.RowKit Go.Shelf

attribute [local go_sem ↓] fold_loadQ
attribute [local go_sem] load_question load_question_drew load_question_drewN

set_option maxRecDepth 100000 in
set_option maxHeartbeats 1000000 in
theorem nextOf_no (f : Forest) (tree year : Int) (w : World) (h : TreesHeld w.heap.size w f.tv f.trees) (he : ¬ askErr f tree year 1 = 0) :
    Calls Tryz.prog 6 #[.agg f.cells.toArray, .int .i64 tree, .int .i64 year] w fun e w' => e = .returned (.tuple #[.int .i64 0, .int .i64 0, .int .i64 (askErr f tree year 1)]) ∧ Below w.heap.size w w' := by
  have hA := ask_no f tree year 1 (w.alloc (.cells f.cells.toArray 27)) ((h.below ((Below.refl _ w).alloc (Nat.le_refl _) _)).mono (by simp)) he
  have hne : (askErr f tree year 1 != 0) = true := by simpa using he
  obtain ⟨a, c, ev⟩ := h.1.len
  clear h he
  generalize askErr f tree year 1 = r at hA hne ⊢
  simp only [Forest.cells] at hA ⊢
  rw [ev] at hA ⊢
  clear ev
  have HA := Lib.hid hA; clear hA
  go_enter Tryz.func6, Tryz.ntmps6
  go_wp2_with (first | (go_at_call 14; refine HA.out.mono ?_; rintro e w1 ⟨rfl, hw1⟩; have hB1 := ((Below.refl _ w).alloc (Nat.le_refl _) _).trans (hw1.mono (by simp)); clear hw1) | ((with_reducible refine at_store 51 (.tmp 9) (.tmp 15) ?_); go_must (refine wpList_store_row rfl 51 (.tmp 9) (.tmp 15) rfl w1.heap.size (noQuestion) rfl rfl 51 #[.int .i64 0, .int .i64 0, .int .i64 0, .int .i64 0, .int .i64 0, .int .i64 0, .int .i64 0, .string ⟨#[]⟩, .int .i64 0, .int .i64 0, .int .i64 0, .int .i64 0, .int .i64 0, .int .i64 0, .int .i64 0, .slice none 0 0, .slice none 0 0, .int .i64 0, .int .i64 0, .int .i64 0] (heap_alloc_new w1 _) size_question rfl none_cells ?_); have hB2 := below_setRow (hB1.alloc hB1.size (.cells #[.int .i64 0, .int .i64 0, .int .i64 0, .int .i64 0, .int .i64 0, .int .i64 0, .int .i64 0, .string ⟨#[]⟩, .int .i64 0, .int .i64 0, .int .i64 0, .int .i64 0, .int .i64 0, .int .i64 0, .int .i64 0, .slice none 0 0, .slice none 0 0, .int .i64 0, .int .i64 0, .int .i64 0] 51)) hB1.size (noQuestion); have HQ2 := Lib.hid (setRow_heap (w1.alloc (.cells #[.int .i64 0, .int .i64 0, .int .i64 0, .int .i64 0, .int .i64 0, .int .i64 0, .int .i64 0, .string ⟨#[]⟩, .int .i64 0, .int .i64 0, .int .i64 0, .int .i64 0, .int .i64 0, .int .i64 0, .int .i64 0, .slice none 0 0, .slice none 0 0, .int .i64 0, .int .i64 0, .int .i64 0] 51)) w1.heap.size _ (noQuestion) _ _ (heap_alloc_new w1 _)); generalize (w1.alloc (.cells #[.int .i64 0, .int .i64 0, .int .i64 0, .int .i64 0, .int .i64 0, .int .i64 0, .int .i64 0, .string ⟨#[]⟩, .int .i64 0, .int .i64 0, .int .i64 0, .int .i64 0, .int .i64 0, .int .i64 0, .int .i64 0, .slice none 0 0, .slice none 0 0, .int .i64 0, .int .i64 0, .int .i64 0] 51)).setRow w1.heap.size (noQuestion) = w2 at hB2 HQ2 ⊢))
  go_ret3
  exact ⟨rfl, hB2⟩

set_option maxRecDepth 100000 in
set_option maxHeartbeats 1000000 in
theorem nextOf_yes (f : Forest) (tree year : Int) (w : World) (h : TreesHeld w.heap.size w f.tv f.trees) (he : askErr f tree year 1 = 0) :
    Calls Tryz.prog 6 #[.agg f.cells.toArray, .int .i64 tree, .int .i64 year] w fun e w' => e = .returned (.tuple #[.int .i64 (firstYear (fun x => (verdictOn f.law f.trees[tree.toNat]! x 1).1 == 1) year), .int .i64 (firstYear (fun x => (verdictOn f.law f.trees[tree.toNat]! x 1).1 != 2) year), .int .i64 0]) ∧ Below w.heap.size w w' := by
  have hA := ask_yes f tree year 1 (w.alloc (.cells f.cells.toArray 27)) ((h.below ((Below.refl _ w).alloc (Nat.le_refl _) _)).mono (by simp)) he
  have hk := asked_of f tree year 1 w h he
  have hV1 : ∀ W, Below w.heap.size w W → Calls Tryz.prog 15 #[.agg (qCells f.law f.trees[tree.toNat]! year 1), .func (.func 16) #[] #[]] W fun e w' => e = .returned (.int .i64 (firstYear (fun x => (verdictOn f.law f.trees[tree.toNat]! x 1).1 == 1) year)) ∧ Below W.heap.size W w' := fun W hW =>
    next_isAlways _ _ _ _ W hk.law hk.fine ((hk.held.below hW).mono hW.size) hk.year0 hk.year1 (by omega) (by omega)
  have hV2 : ∀ W, Below w.heap.size w W → Calls Tryz.prog 15 #[.agg (qCells f.law f.trees[tree.toNat]! year 1), .func (.func 17) #[] #[]] W fun e w' => e = .returned (.int .i64 (firstYear (fun x => (verdictOn f.law f.trees[tree.toNat]! x 1).1 != 2) year)) ∧ Below W.heap.size W w' := fun W hW =>
    next_isPossible _ _ _ _ W hk.law hk.fine ((hk.held.below hW).mono hW.size) hk.year0 hk.year1 (by omega) (by omega)
  have hO := qCells_ones f.law f.trees[tree.toNat]! year 1 hk.held.1.slice hk.held.2.1.slice
  obtain ⟨a, c, ev⟩ := h.1.len
  clear h he hk
  generalize firstYear (fun x => (verdictOn f.law f.trees[tree.toNat]! x 1).1 == 1) year = p1 at hV1 ⊢
  generalize firstYear (fun x => (verdictOn f.law f.trees[tree.toNat]! x 1).1 != 2) year = p2 at hV2 ⊢
  generalize hq : qCells f.law f.trees[tree.toNat]! year 1 = q at hA hV1 hV2 hO
  have hs : q.size = 20 := by rw [← hq]; rfl
  clear hq
  simp only [Forest.cells] at hA ⊢
  rw [ev] at hA ⊢
  clear ev
  have HA := Lib.hid hA; clear hA
  have HV1 := Lib.hid hV1; clear hV1
  have HV2 := Lib.hid hV2; clear hV2
  have HO := Lib.hid hO; clear hO
  have HS0 := Lib.hid hs
  have HS := Lib.hid (show (Tryz.prog.info? 51).map (·.size) = some q.size from by rw [hs]; exact size_question)
  have HS2 := Lib.hid (show (#[.int .i64 0, .int .i64 0, .int .i64 0, .int .i64 0, .int .i64 0, .int .i64 0, .int .i64 0, .string ⟨#[]⟩, .int .i64 0, .int .i64 0, .int .i64 0, .int .i64 0, .int .i64 0, .int .i64 0, .int .i64 0, .slice none 0 0, .slice none 0 0, .int .i64 0, .int .i64 0, .int .i64 0] : Array Value).size = q.size from by rw [hs]; rfl)
  clear hs
  go_enter Tryz.func6, Tryz.ntmps6
  go_wp2_with (first | (go_at_call 14; refine HA.out.mono ?_; rintro e w1 ⟨rfl, hw1⟩; have hB1 := ((Below.refl _ w).alloc (Nat.le_refl _) _).trans (hw1.mono (by simp)); clear hw1) | ((with_reducible refine at_store 51 (.tmp 9) (.tmp 15) ?_); go_must (refine wpList_store_row rfl 51 (.tmp 9) (.tmp 15) rfl w1.heap.size (q) rfl rfl 51 #[.int .i64 0, .int .i64 0, .int .i64 0, .int .i64 0, .int .i64 0, .int .i64 0, .int .i64 0, .string ⟨#[]⟩, .int .i64 0, .int .i64 0, .int .i64 0, .int .i64 0, .int .i64 0, .int .i64 0, .int .i64 0, .slice none 0 0, .slice none 0 0, .int .i64 0, .int .i64 0, .int .i64 0] (heap_alloc_new w1 _) HS.out HS2.out HO.out ?_); have hB2 := below_setRow (hB1.alloc hB1.size (.cells #[.int .i64 0, .int .i64 0, .int .i64 0, .int .i64 0, .int .i64 0, .int .i64 0, .int .i64 0, .string ⟨#[]⟩, .int .i64 0, .int .i64 0, .int .i64 0, .int .i64 0, .int .i64 0, .int .i64 0, .int .i64 0, .slice none 0 0, .slice none 0 0, .int .i64 0, .int .i64 0, .int .i64 0] 51)) hB1.size (q); have HQ2 := Lib.hid (setRow_heap (w1.alloc (.cells #[.int .i64 0, .int .i64 0, .int .i64 0, .int .i64 0, .int .i64 0, .int .i64 0, .int .i64 0, .string ⟨#[]⟩, .int .i64 0, .int .i64 0, .int .i64 0, .int .i64 0, .int .i64 0, .int .i64 0, .int .i64 0, .slice none 0 0, .slice none 0 0, .int .i64 0, .int .i64 0, .int .i64 0] 51)) w1.heap.size _ (q) _ _ (heap_alloc_new w1 _)); generalize (w1.alloc (.cells #[.int .i64 0, .int .i64 0, .int .i64 0, .int .i64 0, .int .i64 0, .int .i64 0, .int .i64 0, .string ⟨#[]⟩, .int .i64 0, .int .i64 0, .int .i64 0, .int .i64 0, .int .i64 0, .int .i64 0, .int .i64 0, .slice none 0 0, .slice none 0 0, .int .i64 0, .int .i64 0, .int .i64 0] 51)).setRow w1.heap.size (q) = w2 at hB2 HQ2 ⊢))
  have hr2 := QRow.of HQ2.out HS0.out
  have hq2 := rowOf_of HQ2.out
  go_region_with (first | (go_at_call 15; (with_reducible refine (HV1.out _ ?_).mono ?_); go_must ((repeat (first | exact hB2 | refine Below.drew ?_)); rintro e w3 ⟨rfl, hw3⟩; have hB3 : Below w.heap.size w w3 := Below.trans (by repeat (first | exact hB2 | refine Below.drew ?_)) (hw3.mono hB2.size); have HQ3 := Blk.below (w := w2) HQ2.out (by first | exact hw3 | exact (Below.refl _ w2).drew.trans hw3) (Blk.lt HQ2.out); have hr3 := QRow.of HQ3 HS0.out; have hq3 := rowOf_of HQ3; clear HQ3)) | (go_at_call 15; (with_reducible refine (HV2.out _ ?_).mono ?_); (repeat (first | exact hB3 | refine Below.drew ?_)); rintro e w4 ⟨rfl, hw4⟩))
  all_goals
    have hB4 : Below w.heap.size w w4 := Below.trans (by repeat (first | exact hB3 | refine Below.drew ?_)) (hw4.mono hB3.size)
    clear hw4 hw3 hr3 hq3 hr2 hq2 hB3
    go_wp2
    go_ret3
    exact ⟨rfl, hB4⟩
/-- What Next answers. -/
def nextOf (f : Forest) (tree year : Int) : Int × Int × Int :=
  if askErr f tree year 1 = 0 then (firstYear (fun x => (verdictOn f.law f.trees[tree.toNat]! x 1).1 == 1) year, firstYear (fun x => (verdictOn f.law f.trees[tree.toNat]! x 1).1 != 2) year, 0) else (0, 0, askErr f tree year 1)

theorem nextOf_calls (f : Forest) (tree year : Int) (w : World) (h : TreesHeld w.heap.size w f.tv f.trees) :
    Calls Tryz.prog 6 #[.agg f.cells.toArray, .int .i64 tree, .int .i64 year] w fun e w' => e = .returned (.tuple #[.int .i64 (nextOf f tree year).1, .int .i64 (nextOf f tree year).2.1, .int .i64 (nextOf f tree year).2.2]) ∧ Below w.heap.size w w' := by
  unfold nextOf
  by_cases he : askErr f tree year 1 = 0
  · rw [if_pos he]
    exact nextOf_yes f tree year w h he
  · rw [if_neg he]
    exact nextOf_no f tree year w h he
end Go.Proofs.YtajbflepjpgnbaaGreat
