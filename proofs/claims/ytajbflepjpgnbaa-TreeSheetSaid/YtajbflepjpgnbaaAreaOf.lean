/- Area: the area of the bark that is taken, or the error. -/
import Derived.Test.YtajbflepjpgnbaaGirthOf
namespace Go.Proofs.Ytajbflepjpgnbaa
open Go.RowKit Go.Shelf

set_option maxRecDepth 100000 in
set_option maxHeartbeats 1000000 in
theorem areaOf_no (f : Forest) (tree year height : Int) (w : World) (h : TreesHeld w.heap.size w f.tv f.trees) (he : ¬ askErr f tree year height = 0) :
    Calls Try.prog 24 #[.agg f.cells.toArray, .int .i64 tree, .int .i64 year, .int .i64 height] w fun e w' => e = .returned (.tuple #[.agg #[.int .i64 0, .int .i64 0], .int .i64 (askErr f tree year height)]) ∧ Below w.heap.size w w' := by
  have hA := ask_no f tree year height ((w.alloc (.cells f.cells.toArray 27)).alloc (.cells #[.int .i64 0, .int .i64 0] 31)) ((h.below (two_below w _ _ _ _)).mono (two_below w _ _ _ _).size) he
  have hne : (askErr f tree year height != 0) = true := by simpa using he
  obtain ⟨a, c, ev⟩ := h.1.len
  clear h he
  generalize askErr f tree year height = r at hA hne ⊢
  simp only [Forest.cells] at hA ⊢
  rw [ev] at hA ⊢
  clear ev
  have HA := Lib.hid hA; clear hA
  have HX := Lib.hid (two_below w #[.int .i64 f.law.age, .int .i64 f.law.rest, .int .i64 f.law.girth, .int .i64 f.law.f0, .int .i64 f.law.f1, .int .i64 f.law.f2, .int .i64 f.law.heal, .slice a f.trees.length c] #[.int .i64 0, .int .i64 0] 27 31)
  have HK := Lib.hid (two_new w #[.int .i64 f.law.age, .int .i64 f.law.rest, .int .i64 f.law.girth, .int .i64 f.law.f0, .int .i64 f.law.f1, .int .i64 f.law.f2, .int .i64 f.law.heal, .slice a f.trees.length c] #[.int .i64 0, .int .i64 0] 27 31)
  go_enter Try.func24, Try.ntmps24
  go_wp2_with (first | (go_at_call 34; refine HA.out.mono ?_; rintro e w1 ⟨rfl, hw1⟩; have hB1 := HX.out.trans (hw1.mono HX.out.size); have k1 := Blk.below HK.out hw1 HK.out.lt; clear hw1) | ((with_reducible refine at_store 74 (.tmp 10) (.tmp 21) ?_); go_must (refine wpList_store_row rfl 74 (.tmp 10) (.tmp 21) rfl w1.heap.size (noQuestion) rfl rfl 74 #[.int .i64 0, .int .i64 0, .int .i64 0, .int .i64 0, .int .i64 0, .int .i64 0, .int .i64 0, .string ⟨#[]⟩, .int .i64 0, .int .i64 0, .int .i64 0, .int .i64 0, .int .i64 0, .int .i64 0, .int .i64 0, .slice none 0 0, .slice none 0 0, .int .i64 0, .int .i64 0, .int .i64 0] (heap_alloc_new w1 _) size_question rfl none_cells ?_); have hB2 := below_setRow (hB1.alloc hB1.size (.cells #[.int .i64 0, .int .i64 0, .int .i64 0, .int .i64 0, .int .i64 0, .int .i64 0, .int .i64 0, .string ⟨#[]⟩, .int .i64 0, .int .i64 0, .int .i64 0, .int .i64 0, .int .i64 0, .int .i64 0, .int .i64 0, .slice none 0 0, .slice none 0 0, .int .i64 0, .int .i64 0, .int .i64 0] 74)) hB1.size (noQuestion); have HQ2 := Lib.hid (setRow_heap (w1.alloc (.cells #[.int .i64 0, .int .i64 0, .int .i64 0, .int .i64 0, .int .i64 0, .int .i64 0, .int .i64 0, .string ⟨#[]⟩, .int .i64 0, .int .i64 0, .int .i64 0, .int .i64 0, .int .i64 0, .int .i64 0, .int .i64 0, .slice none 0 0, .slice none 0 0, .int .i64 0, .int .i64 0, .int .i64 0] 74)) w1.heap.size _ (noQuestion) _ _ (heap_alloc_new w1 _)); have k2 := Blk.below k1 (below_setRow ((Below.refl _ w1).alloc (Nat.le_refl _) (.cells #[.int .i64 0, .int .i64 0, .int .i64 0, .int .i64 0, .int .i64 0, .int .i64 0, .int .i64 0, .string ⟨#[]⟩, .int .i64 0, .int .i64 0, .int .i64 0, .int .i64 0, .int .i64 0, .int .i64 0, .int .i64 0, .slice none 0 0, .slice none 0 0, .int .i64 0, .int .i64 0, .int .i64 0] 74)) (Nat.le_refl _) (noQuestion)) k1.lt; generalize (w1.alloc (.cells #[.int .i64 0, .int .i64 0, .int .i64 0, .int .i64 0, .int .i64 0, .int .i64 0, .int .i64 0, .string ⟨#[]⟩, .int .i64 0, .int .i64 0, .int .i64 0, .int .i64 0, .int .i64 0, .int .i64 0, .int .i64 0, .slice none 0 0, .slice none 0 0, .int .i64 0, .int .i64 0, .int .i64 0] 74)).setRow w1.heap.size (noQuestion) = w2 at hB2 HQ2 k2 ⊢; have e2 : w2.cell? ⟨w.heap.size + 1, 0, none⟩ = some (.int .i64 0) := k2.cell 0; have e3 : w2.cell? ⟨w.heap.size + 1, 1, none⟩ = some (.int .i64 0) := k2.cell 1; have z2 : w2.frozen? ⟨w.heap.size + 1, 0, none⟩ = false := k2.frozen 0; have z3 : w2.frozen? ⟨w.heap.size + 1, 1, none⟩ = false := k2.frozen 1))
  have k4 : Blk _ (w.heap.size + 1) 31 #[.int .i64 0, .int .i64 0] := (k2.set_ 0 (.int .i64 0)).set_ 1 (.int .i64 0)
  exact bodyPost_ret (results_cell_one rfl _ _ (w.heap.size + 1) 31 #[.int .i64 0, .int .i64 0] (0, 0) _ rfl k4 Try.underlying31 rfl bounds_size) rfl ⟨rfl, (hB2.setCell (by dsimp only; omega) _).setCell (by dsimp only; omega) _⟩

set_option maxRecDepth 100000 in
set_option maxHeartbeats 2000000 in
theorem areaOf_yes (f : Forest) (tree year height : Int) (w : World) (h : TreesHeld w.heap.size w f.tv f.trees) (he : askErr f tree year height = 0) (b : Bool) (hb : ((verdictOn f.law f.trees[tree.toNat]! year height).1 == 2) = b) :
    Calls Try.prog 24 #[.agg f.cells.toArray, .int .i64 tree, .int .i64 year, .int .i64 height] w fun e w' => e = .returned (.tuple #[.agg #[.int .i64 (if b then 0 else girthMin f.trees[tree.toNat]! year * height / 100), .int .i64 (if b then 0 else (girthMax f.trees[tree.toNat]! year * height + 99) / 100)], .int .i64 (if b then 9 else 0)]) ∧ Below w.heap.size w w' := by
  have hA := ask_yes f tree year height ((w.alloc (.cells f.cells.toArray 27)).alloc (.cells #[.int .i64 0, .int .i64 0] 31)) ((h.below (two_below w _ _ _ _)).mono (two_below w _ _ _ _).size) he
  have hk := asked_of f tree year height w h he
  have hV : ∀ W, Below w.heap.size w W → Calls Try.prog 35 #[.agg (qCells f.law f.trees[tree.toNat]! year height)] W fun e w' => e = .returned (.agg #[.int .i64 (girthMin f.trees[tree.toNat]! year), .int .i64 (girthMax f.trees[tree.toNat]! year)]) ∧ Below W.heap.size W w' := fun W hW =>
    girth_says _ _ _ _ w hk.fine hk.held hk.year0 hk.year1 W
  have hVd : ∀ W, Below w.heap.size w W → Calls Try.prog 43 #[.agg (qCells f.law f.trees[tree.toNat]! year height)] W fun e w' => e = .returned (.tuple #[.int .i64 (verdictOn f.law f.trees[tree.toNat]! year height).1, .int .i64 (verdictOn f.law f.trees[tree.toNat]! year height).2]) ∧ Below W.heap.size W w' := fun W hW =>
    verdict_says _ _ _ _ W hk.law hk.fine ((hk.held.below hW).mono hW.size) hk.year0 hk.year1 hk.height0 hk.height1
  have hO := qCells_ones f.law f.trees[tree.toNat]! year height hk.held.1.slice hk.held.2.1.slice
  obtain ⟨gb0, gb1, gb2⟩ := girth_bounds f.trees[tree.toNat]! year hk.fine hk.year0 hk.year1
  have hh0 := hk.height0
  have hh1 := hk.height1
  have p := mul_bounds (a := girthMin f.trees[tree.toNat]! year) (b := height) (A := 21000) (B := 15000) gb0 (by omega) (by omega) (by omega)
  have q := mul_bounds (a := girthMax f.trees[tree.toNat]! year) (b := height) (A := 21000) (B := 15000) (by omega) gb2 (by omega) (by omega)
  obtain ⟨a, c, ev⟩ := h.1.len
  clear h he hk
  generalize girthMin f.trees[tree.toNat]! year = g0 at hV p gb0 gb1 ⊢
  generalize girthMax f.trees[tree.toNat]! year = g1 at hV q gb1 gb2 ⊢
  generalize verdictOn f.law f.trees[tree.toNat]! year height = v at hVd hb
  obtain ⟨v1, v2⟩ := v
  dsimp only at hVd hb
  have p1 : 0 ≤ g0 * height := p.1
  have p2 : g0 * height ≤ 400000000 := Int.le_trans p.2 (by decide)
  have q1 : 0 ≤ g1 * height := q.1
  have q2 : g1 * height ≤ 400000000 := Int.le_trans q.2 (by decide)
  clear p q
  generalize hq : qCells f.law f.trees[tree.toNat]! year height = qq at hA hV hVd hO
  have hs : qq.size = 20 := by rw [← hq]; rfl
  clear hq
  simp only [Forest.cells] at hA ⊢
  rw [ev] at hA ⊢
  clear ev
  have HA := Lib.hid hA; clear hA
  have HV := Lib.hid hV; clear hV
  have HVD := Lib.hid hVd; clear hVd
  have HO := Lib.hid hO; clear hO
  have HS := Lib.hid (show (Try.prog.info? 74).map (·.size) = some qq.size from by rw [hs]; exact size_question)
  have HS2 := Lib.hid (show (#[.int .i64 0, .int .i64 0, .int .i64 0, .int .i64 0, .int .i64 0, .int .i64 0, .int .i64 0, .string ⟨#[]⟩, .int .i64 0, .int .i64 0, .int .i64 0, .int .i64 0, .int .i64 0, .int .i64 0, .int .i64 0, .slice none 0 0, .slice none 0 0, .int .i64 0, .int .i64 0, .int .i64 0] : Array Value).size = qq.size from by rw [hs]; rfl)
  clear hs
  have HX := Lib.hid (two_below w #[.int .i64 f.law.age, .int .i64 f.law.rest, .int .i64 f.law.girth, .int .i64 f.law.f0, .int .i64 f.law.f1, .int .i64 f.law.f2, .int .i64 f.law.heal, .slice a f.trees.length c] #[.int .i64 0, .int .i64 0] 27 31)
  have HK := Lib.hid (two_new w #[.int .i64 f.law.age, .int .i64 f.law.rest, .int .i64 f.law.girth, .int .i64 f.law.f0, .int .i64 f.law.f1, .int .i64 f.law.f2, .int .i64 f.law.heal, .slice a f.trees.length c] #[.int .i64 0, .int .i64 0] 27 31)
  cases b
  · go_enter Try.func24, Try.ntmps24
    go_wp2_with (first | (go_at_call 34; refine HA.out.mono ?_; rintro e w1 ⟨rfl, hw1⟩; have hB1 := HX.out.trans (hw1.mono HX.out.size); have k1 := Blk.below HK.out hw1 HK.out.lt; clear hw1) | ((with_reducible refine at_store 74 (.tmp 10) (.tmp 21) ?_); go_must (refine wpList_store_row rfl 74 (.tmp 10) (.tmp 21) rfl w1.heap.size (qq) rfl rfl 74 #[.int .i64 0, .int .i64 0, .int .i64 0, .int .i64 0, .int .i64 0, .int .i64 0, .int .i64 0, .string ⟨#[]⟩, .int .i64 0, .int .i64 0, .int .i64 0, .int .i64 0, .int .i64 0, .int .i64 0, .int .i64 0, .slice none 0 0, .slice none 0 0, .int .i64 0, .int .i64 0, .int .i64 0] (heap_alloc_new w1 _) HS.out HS2.out HO.out ?_); have hB2 := below_setRow (hB1.alloc hB1.size (.cells #[.int .i64 0, .int .i64 0, .int .i64 0, .int .i64 0, .int .i64 0, .int .i64 0, .int .i64 0, .string ⟨#[]⟩, .int .i64 0, .int .i64 0, .int .i64 0, .int .i64 0, .int .i64 0, .int .i64 0, .int .i64 0, .slice none 0 0, .slice none 0 0, .int .i64 0, .int .i64 0, .int .i64 0] 74)) hB1.size (qq); have HQ2 := Lib.hid (setRow_heap (w1.alloc (.cells #[.int .i64 0, .int .i64 0, .int .i64 0, .int .i64 0, .int .i64 0, .int .i64 0, .int .i64 0, .string ⟨#[]⟩, .int .i64 0, .int .i64 0, .int .i64 0, .int .i64 0, .int .i64 0, .int .i64 0, .int .i64 0, .slice none 0 0, .slice none 0 0, .int .i64 0, .int .i64 0, .int .i64 0] 74)) w1.heap.size _ (qq) _ _ (heap_alloc_new w1 _)); have k2 := Blk.below k1 (below_setRow ((Below.refl _ w1).alloc (Nat.le_refl _) (.cells #[.int .i64 0, .int .i64 0, .int .i64 0, .int .i64 0, .int .i64 0, .int .i64 0, .int .i64 0, .string ⟨#[]⟩, .int .i64 0, .int .i64 0, .int .i64 0, .int .i64 0, .int .i64 0, .int .i64 0, .int .i64 0, .slice none 0 0, .slice none 0 0, .int .i64 0, .int .i64 0, .int .i64 0] 74)) (Nat.le_refl _) (qq)) k1.lt; generalize (w1.alloc (.cells #[.int .i64 0, .int .i64 0, .int .i64 0, .int .i64 0, .int .i64 0, .int .i64 0, .int .i64 0, .string ⟨#[]⟩, .int .i64 0, .int .i64 0, .int .i64 0, .int .i64 0, .int .i64 0, .int .i64 0, .int .i64 0, .slice none 0 0, .slice none 0 0, .int .i64 0, .int .i64 0, .int .i64 0] 74)).setRow w1.heap.size (qq) = w2 at hB2 HQ2 k2 ⊢) | ((with_reducible refine at_load 74 (.tmp 10) ?_); go_must (first | (refine wpList_load_row rfl 74 (.tmp 10) rfl w1.heap.size rfl 74 (qq) (0, 0) _ HQ2.out Try.underlying74 rfl HS.out ?_) | (refine wpList_load_row rfl 74 (.tmp 10) rfl w1.heap.size rfl 74 (qq) (0, 0) _ HQ3.out Try.underlying74 rfl HS.out ?_))) | (go_at_call 43; refine (HVD.out _ hB2).mono ?_; rintro e w3 ⟨rfl, hw3⟩; have hB3 := hB2.trans (hw3.mono hB2.size); have k3 := Blk.below k2 hw3 k2.lt; have HQ3 := Lib.hid (Blk.below (w := w2) HQ2.out hw3 (Blk.lt HQ2.out)); have e2 : w3.cell? ⟨w.heap.size + 1, 0, none⟩ = some (.int .i64 0) := k3.cell 0; have e3 : w3.cell? ⟨w.heap.size + 1, 1, none⟩ = some (.int .i64 0) := k3.cell 1; have z2 : w3.frozen? ⟨w.heap.size + 1, 0, none⟩ = false := k3.frozen 0; have z3 : w3.frozen? ⟨w.heap.size + 1, 1, none⟩ = false := k3.frozen 1) | (go_at_call 35; refine (HV.out _ hB3).mono ?_; rintro e w4 ⟨rfl, hw4⟩; have hB4 := hB3.trans (hw4.mono hB3.size); have k4 := Blk.below k3 hw4 k3.lt; have hz4 : w.heap.size + 1 < w4.heap.size := k4.lt; clear e2 e3 z2 z3; have e2 : w4.cell? ⟨w.heap.size + 1, 0, none⟩ = some (.int .i64 0) := k4.cell 0; have e3 : w4.cell? ⟨w.heap.size + 1, 1, none⟩ = some (.int .i64 0) := k4.cell 1; have z2 : w4.frozen? ⟨w.heap.size + 1, 0, none⟩ = false := k4.frozen 0; have z3 : w4.frozen? ⟨w.heap.size + 1, 1, none⟩ = false := k4.frozen 1))
    have hv : (g1 * height + 100 - 1) / 100 = (g1 * height + 99) / 100 := by rw [show g1 * height + 100 - 1 = g1 * height + 99 by omega]
    have k4 : Blk _ (w.heap.size + 1) 31 #[.int .i64 (g0 * height / 100), .int .i64 ((g1 * height + 100 - 1) / 100)] := ((k4.set_ 0 (.int .i64 (g0 * height / 100))).set_ 1 (.int .i64 ((g1 * height + 100 - 1) / 100))).alloc (.cells #[.int .i64 g0, .int .i64 g1] 31)
    have hBs : Below w.heap.size w ((w4.setCell ⟨w.heap.size + 1, 0, none⟩ (.int .i64 (g0 * height / 100))).setCell ⟨w.heap.size + 1, 1, none⟩ (.int .i64 ((g1 * height + 100 - 1) / 100))) := (hB4.setCell (by dsimp only; omega) _).setCell (by dsimp only; omega) _
    exact bodyPost_ret (results_cell_one rfl _ _ (w.heap.size + 1) 31 #[.int .i64 (g0 * height / 100), .int .i64 ((g1 * height + 100 - 1) / 100)] (0, 0) _ rfl k4 Try.underlying31 rfl bounds_size) rfl ⟨congrArg (fun z => Ending.returned (.tuple #[.agg #[.int .i64 (g0 * height / 100), .int .i64 z], .int .i64 0])) hv, hBs.alloc hBs.size _⟩
  · go_enter Try.func24, Try.ntmps24
    go_wp2_with (first | (go_at_call 34; refine HA.out.mono ?_; rintro e w1 ⟨rfl, hw1⟩; have hB1 := HX.out.trans (hw1.mono HX.out.size); have k1 := Blk.below HK.out hw1 HK.out.lt; clear hw1) | ((with_reducible refine at_store 74 (.tmp 10) (.tmp 21) ?_); go_must (refine wpList_store_row rfl 74 (.tmp 10) (.tmp 21) rfl w1.heap.size (qq) rfl rfl 74 #[.int .i64 0, .int .i64 0, .int .i64 0, .int .i64 0, .int .i64 0, .int .i64 0, .int .i64 0, .string ⟨#[]⟩, .int .i64 0, .int .i64 0, .int .i64 0, .int .i64 0, .int .i64 0, .int .i64 0, .int .i64 0, .slice none 0 0, .slice none 0 0, .int .i64 0, .int .i64 0, .int .i64 0] (heap_alloc_new w1 _) HS.out HS2.out HO.out ?_); have hB2 := below_setRow (hB1.alloc hB1.size (.cells #[.int .i64 0, .int .i64 0, .int .i64 0, .int .i64 0, .int .i64 0, .int .i64 0, .int .i64 0, .string ⟨#[]⟩, .int .i64 0, .int .i64 0, .int .i64 0, .int .i64 0, .int .i64 0, .int .i64 0, .int .i64 0, .slice none 0 0, .slice none 0 0, .int .i64 0, .int .i64 0, .int .i64 0] 74)) hB1.size (qq); have HQ2 := Lib.hid (setRow_heap (w1.alloc (.cells #[.int .i64 0, .int .i64 0, .int .i64 0, .int .i64 0, .int .i64 0, .int .i64 0, .int .i64 0, .string ⟨#[]⟩, .int .i64 0, .int .i64 0, .int .i64 0, .int .i64 0, .int .i64 0, .int .i64 0, .int .i64 0, .slice none 0 0, .slice none 0 0, .int .i64 0, .int .i64 0, .int .i64 0] 74)) w1.heap.size _ (qq) _ _ (heap_alloc_new w1 _)); have k2 := Blk.below k1 (below_setRow ((Below.refl _ w1).alloc (Nat.le_refl _) (.cells #[.int .i64 0, .int .i64 0, .int .i64 0, .int .i64 0, .int .i64 0, .int .i64 0, .int .i64 0, .string ⟨#[]⟩, .int .i64 0, .int .i64 0, .int .i64 0, .int .i64 0, .int .i64 0, .int .i64 0, .int .i64 0, .slice none 0 0, .slice none 0 0, .int .i64 0, .int .i64 0, .int .i64 0] 74)) (Nat.le_refl _) (qq)) k1.lt; generalize (w1.alloc (.cells #[.int .i64 0, .int .i64 0, .int .i64 0, .int .i64 0, .int .i64 0, .int .i64 0, .int .i64 0, .string ⟨#[]⟩, .int .i64 0, .int .i64 0, .int .i64 0, .int .i64 0, .int .i64 0, .int .i64 0, .int .i64 0, .slice none 0 0, .slice none 0 0, .int .i64 0, .int .i64 0, .int .i64 0] 74)).setRow w1.heap.size (qq) = w2 at hB2 HQ2 k2 ⊢) | ((with_reducible refine at_load 74 (.tmp 10) ?_); go_must (first | (refine wpList_load_row rfl 74 (.tmp 10) rfl w1.heap.size rfl 74 (qq) (0, 0) _ HQ2.out Try.underlying74 rfl HS.out ?_) | (refine wpList_load_row rfl 74 (.tmp 10) rfl w1.heap.size rfl 74 (qq) (0, 0) _ HQ3.out Try.underlying74 rfl HS.out ?_))) | (go_at_call 43; refine (HVD.out _ hB2).mono ?_; rintro e w3 ⟨rfl, hw3⟩; have hB3 := hB2.trans (hw3.mono hB2.size); have k3 := Blk.below k2 hw3 k2.lt; have HQ3 := Lib.hid (Blk.below (w := w2) HQ2.out hw3 (Blk.lt HQ2.out)); have e2 : w3.cell? ⟨w.heap.size + 1, 0, none⟩ = some (.int .i64 0) := k3.cell 0; have e3 : w3.cell? ⟨w.heap.size + 1, 1, none⟩ = some (.int .i64 0) := k3.cell 1; have z2 : w3.frozen? ⟨w.heap.size + 1, 0, none⟩ = false := k3.frozen 0; have z3 : w3.frozen? ⟨w.heap.size + 1, 1, none⟩ = false := k3.frozen 1))
    have k4 : Blk _ (w.heap.size + 1) 31 #[.int .i64 0, .int .i64 0] := (k3.set_ 0 (.int .i64 0)).set_ 1 (.int .i64 0)
    exact bodyPost_ret (results_cell_one rfl _ _ (w.heap.size + 1) 31 #[.int .i64 0, .int .i64 0] (0, 0) _ rfl k4 Try.underlying31 rfl bounds_size) rfl ⟨rfl, (hB3.setCell (by dsimp only; omega) _).setCell (by dsimp only; omega) _⟩

/-- What Area answers. -/
def areaOf (f : Forest) (tree year height : Int) : Int × Int × Int :=
  if askErr f tree year height = 0 then
    (if (verdictOn f.law f.trees[tree.toNat]! year height).1 = 2 then (0, 0, 9) else (girthMin f.trees[tree.toNat]! year * height / 100, (girthMax f.trees[tree.toNat]! year * height + 99) / 100, 0))
  else (0, 0, askErr f tree year height)

theorem areaOf_calls (f : Forest) (tree year height : Int) (w : World) (h : TreesHeld w.heap.size w f.tv f.trees) :
    Calls Try.prog 24 #[.agg f.cells.toArray, .int .i64 tree, .int .i64 year, .int .i64 height] w fun e w' => e = .returned (.tuple #[.agg #[.int .i64 (areaOf f tree year height).1, .int .i64 (areaOf f tree year height).2.1], .int .i64 (areaOf f tree year height).2.2]) ∧ Below w.heap.size w w' := by
  unfold areaOf
  by_cases he : askErr f tree year height = 0
  · rw [if_pos he]
    by_cases hv : (verdictOn f.law f.trees[tree.toNat]! year height).1 = 2
    · rw [if_pos hv]; exact areaOf_yes f tree year height w h he true (beq_iff_eq.2 hv)
    · rw [if_neg hv]; exact areaOf_yes f tree year height w h he false (beq_eq_false_iff_ne.2 hv)
  · rw [if_neg he]; exact areaOf_no f tree year height w h he
end Go.Proofs.Ytajbflepjpgnbaa
