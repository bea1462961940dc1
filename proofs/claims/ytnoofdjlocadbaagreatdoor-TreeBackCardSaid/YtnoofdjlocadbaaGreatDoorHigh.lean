/- A whole question loaded at once: a rule for the walk. The greatest heights that are allowed: the program's answer. -/
import Derived.Test.YtnoofdjlocadbaaGreatDoorHighest
import Derived.Deep.RegionWith
import Derived.Deep.DeepMust
/-! A whole question loaded at once: a rule for the walk. -/
namespace Go.Proofs.YtnoofdjlocadbaaGreatDoor
open Go.RowKit Go.Shelf

/-- Block g is just a question's cells. -/
def QRow (w : World) (g : Nat) : Prop := ∃ cs : Array Value, w.heap[g]? = some (.cells cs 81 (0, 0)) ∧ cs.size = 20
/-- A block's cells. -/
def rowOf (w : World) (g : Nat) : Array Value :=
  match w.heap[g]? with
  | some (.cells cs _ _) => cs
  | _ => #[]

/-- The load of a question's cells, kept folded until its world is known. -/
def loadQ (g : Nat) : Sem (Array Value) := loadCellsFrom ⟨g, 0, none⟩ 0 20 #[]
theorem fold_loadQ (g : Nat) : loadCellsFrom ⟨g, 0, none⟩ 0 20 #[] = loadQ g := rfl
theorem load_question (w : World) (g : Nat) (h : QRow w g) : (loadQ g).run Tryz.prog w = .ok (rowOf w g) w := by
  obtain ⟨cs, hg, hs⟩ := h
  rw [show rowOf w g = cs from by simp only [rowOf, hg]]
  have hl := run_loadCells_list (P := Tryz.prog) w ⟨g, 0, none⟩ cs.toList (fun j v hv => by
    rw [Addr.add_lit, Nat.zero_add, cell_of_row w g j cs _ (0, 0) hg]
    simpa using hv)
  simp only [loadCells, Array.length_toList, Array.toArray_toList, hs] at hl
  exact hl
theorem load_question_drew (w : World) (g : Nat) (h : QRow w g) : (loadQ g).run Tryz.prog w.drew = .ok (rowOf w g) w.drew := load_question w.drew g h
theorem load_question_drewN (w : World) (g n : Nat) (h : QRow w g) : (loadQ g).run Tryz.prog (w.drewN n) = .ok (rowOf w g) (w.drewN n) := load_question (w.drewN n) g h
theorem QRow.of {w : World} {g : Nat} {cs : Array Value} (h : Blk w g 81 cs) (hs : cs.size = 20) : QRow w g := ⟨cs, h, hs⟩
theorem rowOf_of {w : World} {g : Nat} {t : TypeId} {cs : Array Value} (h : Blk w g t cs) : rowOf w g = cs := by unfold Blk at h; simp only [rowOf, h]
end Go.Proofs.YtnoofdjlocadbaaGreatDoor

/-! The greatest heights that are allowed: the program's answer. -/
namespace Go.Proofs.YtnoofdjlocadbaaGreatDoor
open Go.RowKit Go.Shelf

attribute [local go_sem ↓] fold_loadQ
attribute [local go_sem] load_question load_question_drew load_question_drewN

set_option maxRecDepth 100000 in
set_option maxHeartbeats 1000000 in
theorem high_no (f : Forest) (tree year : Int) (w : World) (h : TreesHeld w.heap.size w f.tv f.trees) (he : ¬ askErr f tree year 1 = 0) :
    Calls Tryz.prog 16 #[.agg f.cells.toArray, .int .i64 tree, .int .i64 year] w fun e w' => e = .returned (.tuple #[.int .i64 0, .int .i64 0, .int .i64 (askErr f tree year 1)]) ∧ Below w.heap.size w w' := by
  have hA := ask_no f tree year 1 (w.alloc (.cells f.cells.toArray 27)) ((h.below ((Below.refl _ w).alloc (Nat.le_refl _) _)).mono (by simp)) he
  have hne : (askErr f tree year 1 != 0) = true := by simpa using he
  obtain ⟨a, c, ev⟩ := h.1.len
  clear h he
  generalize askErr f tree year 1 = r at hA hne ⊢
  simp only [Forest.cells] at hA ⊢
  rw [ev] at hA ⊢
  clear ev
  have HA := Lib.hid hA; clear hA
  go_enter Tryz.func16, Tryz.ntmps16
  go_wp2_with (first | (go_at_call 33; refine HA.out.mono ?_; rintro e w1 ⟨rfl, hw1⟩; have hB1 := ((Below.refl _ w).alloc (Nat.le_refl _) _).trans (hw1.mono (by simp)); clear hw1) | ((with_reducible refine at_store 81 (.tmp 9) (.tmp 15) ?_); go_must (refine wpList_store_row rfl 81 (.tmp 9) (.tmp 15) rfl w1.heap.size (noQuestion) rfl rfl 81 #[.int .i64 0, .int .i64 0, .int .i64 0, .int .i64 0, .int .i64 0, .int .i64 0, .int .i64 0, .string ⟨#[]⟩, .int .i64 0, .int .i64 0, .int .i64 0, .int .i64 0, .int .i64 0, .int .i64 0, .int .i64 0, .slice none 0 0, .slice none 0 0, .int .i64 0, .int .i64 0, .int .i64 0] (heap_alloc_new w1 _) size_question rfl none_cells ?_); have hB2 := below_setRow (hB1.alloc hB1.size (.cells #[.int .i64 0, .int .i64 0, .int .i64 0, .int .i64 0, .int .i64 0, .int .i64 0, .int .i64 0, .string ⟨#[]⟩, .int .i64 0, .int .i64 0, .int .i64 0, .int .i64 0, .int .i64 0, .int .i64 0, .int .i64 0, .slice none 0 0, .slice none 0 0, .int .i64 0, .int .i64 0, .int .i64 0] 81)) hB1.size (noQuestion); have HQ2 := Lib.hid (setRow_heap (w1.alloc (.cells #[.int .i64 0, .int .i64 0, .int .i64 0, .int .i64 0, .int .i64 0, .int .i64 0, .int .i64 0, .string ⟨#[]⟩, .int .i64 0, .int .i64 0, .int .i64 0, .int .i64 0, .int .i64 0, .int .i64 0, .int .i64 0, .slice none 0 0, .slice none 0 0, .int .i64 0, .int .i64 0, .int .i64 0] 81)) w1.heap.size _ (noQuestion) _ _ (heap_alloc_new w1 _)); generalize (w1.alloc (.cells #[.int .i64 0, .int .i64 0, .int .i64 0, .int .i64 0, .int .i64 0, .int .i64 0, .int .i64 0, .string ⟨#[]⟩, .int .i64 0, .int .i64 0, .int .i64 0, .int .i64 0, .int .i64 0, .int .i64 0, .int .i64 0, .slice none 0 0, .slice none 0 0, .int .i64 0, .int .i64 0, .int .i64 0] 81)).setRow w1.heap.size (noQuestion) = w2 at hB2 HQ2 ⊢))
  go_ret3
  exact ⟨rfl, hB2⟩

/-- Two searches' answers. -/
def SomeHeights (p q : Nat → Bool) (w : World) (e : Ending) (w' : World) : Prop :=
  ∃ r s : Nat, e = .returned (.tuple #[.int .i64 r, .int .i64 s, .int .i64 0]) ∧ Hid (r ≤ 15000 ∧ (r = 0 ∨ p (r - 1) = false) ∧ (r = 15000 ∨ p r = true)) ∧ Hid (s ≤ 15000 ∧ (s = 0 ∨ q (s - 1) = false) ∧ (s = 15000 ∨ q s = true)) ∧ Below w.heap.size w w'

set_option maxRecDepth 100000 in
set_option maxHeartbeats 1000000 in
theorem high_yes (f : Forest) (tree year : Int) (w : World) (h : TreesHeld w.heap.size w f.tv f.trees) (he : askErr f tree year 1 = 0) :
    Calls Tryz.prog 16 #[.agg f.cells.toArray, .int .i64 tree, .int .i64 year] w (SomeHeights (fun k => !((verdictOn f.law f.trees[tree.toNat]! year ((k : Int) + 1)).1 == 1)) (fun k => !((verdictOn f.law f.trees[tree.toNat]! year ((k : Int) + 1)).1 != 2)) w) := by
  have hA := ask_yes f tree year 1 (w.alloc (.cells f.cells.toArray 27)) ((h.below ((Below.refl _ w).alloc (Nat.le_refl _) _)).mono (by simp)) he
  have hk := asked_of f tree year 1 w h he
  have hV1 : ∀ W, Below w.heap.size w W → Calls Tryz.prog 35 #[.agg (qCells f.law f.trees[tree.toNat]! year 1), .func (.func 36) #[] #[]] W (SomeSearch 15000 (fun k => !((verdictOn f.law f.trees[tree.toNat]! year ((k : Int) + 1)).1 == 1)) (Below W.heap.size W)) := fun W hW =>
    highest_isAlways _ _ _ _ W hk.law hk.fine ((hk.held.below hW).mono hW.size) hk.year0 hk.year1
  have hV2 : ∀ W, Below w.heap.size w W → Calls Tryz.prog 35 #[.agg (qCells f.law f.trees[tree.toNat]! year 1), .func (.func 37) #[] #[]] W (SomeSearch 15000 (fun k => !((verdictOn f.law f.trees[tree.toNat]! year ((k : Int) + 1)).1 != 2)) (Below W.heap.size W)) := fun W hW =>
    highest_isPossible _ _ _ _ W hk.law hk.fine ((hk.held.below hW).mono hW.size) hk.year0 hk.year1
  have hO := qCells_ones f.law f.trees[tree.toNat]! year 1 hk.held.1.slice hk.held.2.1.slice
  obtain ⟨a, c, ev⟩ := h.1.len
  clear h he hk
  generalize (fun k : Nat => !((verdictOn f.law f.trees[tree.toNat]! year ((k : Int) + 1)).1 == 1)) = p1 at hV1 ⊢
  generalize (fun k : Nat => !((verdictOn f.law f.trees[tree.toNat]! year ((k : Int) + 1)).1 != 2)) = p2 at hV2 ⊢
  generalize hq : qCells f.law f.trees[tree.toNat]! year 1 = q at hA hV1 hV2 hO
  have hs : q.size = 20 := by rw [← hq]; rfl
  clear hq
  simp only [Forest.cells] at hA ⊢
  rw [ev] at hA ⊢
  clear ev
  have HA := Lib.hid hA; clear hA
  have HV1 := Lib.hid hV1; clear hV1
  have HV2 := Lib.hid hV2; clear hV2
  have HO := Lib.hid hO; clear hO
  have HS0 := Lib.hid hs
  have HS := Lib.hid (show (Tryz.prog.info? 81).map (·.size) = some q.size from by rw [hs]; exact size_question)
  have HS2 := Lib.hid (show (#[.int .i64 0, .int .i64 0, .int .i64 0, .int .i64 0, .int .i64 0, .int .i64 0, .int .i64 0, .string ⟨#[]⟩, .int .i64 0, .int .i64 0, .int .i64 0, .int .i64 0, .int .i64 0, .int .i64 0, .int .i64 0, .slice none 0 0, .slice none 0 0, .int .i64 0, .int .i64 0, .int .i64 0] : Array Value).size = q.size from by rw [hs]; rfl)
  clear hs
  go_enter Tryz.func16, Tryz.ntmps16
  go_wp2_with (first | (go_at_call 33; refine HA.out.mono ?_; rintro e w1 ⟨rfl, hw1⟩; have hB1 := ((Below.refl _ w).alloc (Nat.le_refl _) _).trans (hw1.mono (by simp)); clear hw1) | ((with_reducible refine at_store 81 (.tmp 9) (.tmp 15) ?_); go_must (refine wpList_store_row rfl 81 (.tmp 9) (.tmp 15) rfl w1.heap.size (q) rfl rfl 81 #[.int .i64 0, .int .i64 0, .int .i64 0, .int .i64 0, .int .i64 0, .int .i64 0, .int .i64 0, .string ⟨#[]⟩, .int .i64 0, .int .i64 0, .int .i64 0, .int .i64 0, .int .i64 0, .int .i64 0, .int .i64 0, .slice none 0 0, .slice none 0 0, .int .i64 0, .int .i64 0, .int .i64 0] (heap_alloc_new w1 _) HS.out HS2.out HO.out ?_); have hB2 := below_setRow (hB1.alloc hB1.size (.cells #[.int .i64 0, .int .i64 0, .int .i64 0, .int .i64 0, .int .i64 0, .int .i64 0, .int .i64 0, .string ⟨#[]⟩, .int .i64 0, .int .i64 0, .int .i64 0, .int .i64 0, .int .i64 0, .int .i64 0, .int .i64 0, .slice none 0 0, .slice none 0 0, .int .i64 0, .int .i64 0, .int .i64 0] 81)) hB1.size (q); have HQ2 := Lib.hid (setRow_heap (w1.alloc (.cells #[.int .i64 0, .int .i64 0, .int .i64 0, .int .i64 0, .int .i64 0, .int .i64 0, .int .i64 0, .string ⟨#[]⟩, .int .i64 0, .int .i64 0, .int .i64 0, .int .i64 0, .int .i64 0, .int .i64 0, .int .i64 0, .slice none 0 0, .slice none 0 0, .int .i64 0, .int .i64 0, .int .i64 0] 81)) w1.heap.size _ (q) _ _ (heap_alloc_new w1 _)); generalize (w1.alloc (.cells #[.int .i64 0, .int .i64 0, .int .i64 0, .int .i64 0, .int .i64 0, .int .i64 0, .int .i64 0, .string ⟨#[]⟩, .int .i64 0, .int .i64 0, .int .i64 0, .int .i64 0, .int .i64 0, .int .i64 0, .int .i64 0, .slice none 0 0, .slice none 0 0, .int .i64 0, .int .i64 0, .int .i64 0] 81)).setRow w1.heap.size (q) = w2 at hB2 HQ2 ⊢))
  have hr2 := QRow.of HQ2.out HS0.out
  have hq2 := rowOf_of HQ2.out
  go_region_with (first | (go_at_call 35; (with_reducible refine (HV1.out _ ?_).mono ?_); go_must ((repeat (first | exact hB2 | refine Below.drew ?_)); rintro e w3 ⟨r, rfl, hr, hw3⟩; have hB3 : Below w.heap.size w w3 := Below.trans (by repeat (first | exact hB2 | refine Below.drew ?_)) (hw3.mono hB2.size); have HQ3 := Blk.below (w := w2) HQ2.out (by first | exact hw3 | exact (Below.refl _ w2).drew.trans hw3) (Blk.lt HQ2.out); have hr3 := QRow.of HQ3 HS0.out; have hq3 := rowOf_of HQ3; clear HQ3)) | (go_at_call 35; (with_reducible refine (HV2.out _ ?_).mono ?_); (repeat (first | exact hB3 | refine Below.drew ?_)); rintro e w4 ⟨r2, rfl, hr2', hw4⟩))
  all_goals
    have hB4 : Below w.heap.size w w4 := Below.trans (by repeat (first | exact hB3 | refine Below.drew ?_)) (hw4.mono hB3.size)
    clear hw4 hw3 hr3 hq3 hr2 hq2 hB3
    go_wp2
    go_ret3
    exact ⟨r, r2, rfl, hr, hr2', hB4⟩
end Go.Proofs.YtnoofdjlocadbaaGreatDoor
