/- The chapter's example is made. The chapter's example comes out as the chapter says. -/
import Derived.Test.YtnoofdjlocadbaaGreatDoorFacts
import Derived.Laws.Rows
/-! The chapter's example is made. -/
namespace Go.Proofs.YtnoofdjlocadbaaGreatDoor
open Go.RowKit Go.Shelf

def exForest (b : Nat) : Forest := { law := exLaw, tv := .slice (some ⟨b, 0, none⟩) 1 1, trees := [exTree] }

theorem size_forest : (Tryz.prog.info? 27).map (·.size) = some 8 := by kernel_rfl

set_option maxRecDepth 100000 in
set_option maxHeartbeats 1000000 in
theorem example_calls (w : World) : Calls Tryz.prog 14 #[] w fun e w' => ∃ b : Nat, e = .returned (.agg (exForest b).cells.toArray) ∧ TreesHeld w'.heap.size w' (exForest b).tv (exForest b).trees ∧ Below w.heap.size w w' := by
  go_enter Tryz.func14, Tryz.ntmps14
  go_wp2
  have k0 := (Blk.new w 27 (exForest (w.heap.size + 1)).cells.toArray).alloc (.cells (Tree.cells exTree).toArray 45)
  have k1 := Blk.new' (w := w.alloc (.cells (exForest (w.heap.size + 1)).cells.toArray 27)) (g := w.heap.size + 1) (by simp) 45 (Tree.cells exTree).toArray
  refine bodyPost_ret (results_cell_row rfl _ _ w.heap.size 27 (exForest (w.heap.size + 1)).cells.toArray (0, 0) _ rfl k0 Tryz.underlying27 rfl size_forest) rfl ⟨w.heap.size + 1, rfl, ⟨.inr ⟨w.heap.size + 1, 0, 1, rfl, by simp, ⟨Nat.le_refl 1, Nat.le_of_ble_eq_true rfl, Nat.le_of_ble_eq_true rfl⟩, fun j hj i u hu => ?_⟩, fun t ht => ?_⟩, ?_⟩
  · have hj0 : j = 0 := by
      have : (exForest (w.heap.size + 1)).trees.length = 1 := rfl
      omega
    subst hj0
    have hc := Blk.cell k1 i
    rw [List.getElem?_toArray] at hc
    rw [show 0 + 0 * 11 + i = i by omega]
    exact hc.trans hu
  · have : t = exTree := by simpa [exForest] using ht
    subst this
    exact ⟨.inl ⟨⟨none, 0, rfl⟩, rfl⟩, .inl ⟨⟨none, 0, rfl⟩, rfl⟩, by decide⟩
  · exact ((Below.refl _ _).alloc (Nat.le_refl _) _).alloc (by simp) _
end Go.Proofs.YtnoofdjlocadbaaGreatDoor

/-! The chapter's example comes out as the chapter says. -/
namespace Go.Proofs.YtnoofdjlocadbaaGreatDoor
open Go.RowKit Go.Shelf

theorem ex_ask (b : Nat) : askErr (exForest b) 0 42 1432 = 0 := by kernel_rfl
theorem ex_ask1 (b : Nat) : askErr (exForest b) 0 42 1 = 0 := by kernel_rfl
theorem ex_may (b : Nat) : mayOf (exForest b) 0 42 1432 = (0, 6, 0) := by
  have hv : verdictOn (exForest b).law (exForest b).trees[(0 : Int).toNat]! 42 1432 = (0, 6) := by
    show verdictOn exLaw exTree 42 1432 = (0, 6)
    rw [ex_verdict]
    decide
  unfold mayOf
  rw [if_pos (ex_ask b), hv]

theorem ex_may_calls (b : Nat) (W : World) (h : TreesHeld W.heap.size W (exForest b).tv (exForest b).trees) :
    Calls Tryz.prog 15 #[.agg #[.int .i64 25, .int .i64 9, .int .i64 700, .int .i64 20, .int .i64 25, .int .i64 30, .int .i64 3, .slice (some ⟨b, 0, none⟩) 1 1], .int .i64 0, .int .i64 42, .int .i64 1432] W fun e w' => e = .returned (.tuple #[.int .i64 0, .int .i64 6, .int .i64 0]) ∧ Below W.heap.size W w' := by
  have := may_calls (exForest b) 0 42 1432 W h
  rw [ex_may] at this
  exact this
theorem ex_high_calls (b : Nat) (W : World) (h : TreesHeld W.heap.size W (exForest b).tv (exForest b).trees) :
    Calls Tryz.prog 16 #[.agg #[.int .i64 25, .int .i64 9, .int .i64 700, .int .i64 20, .int .i64 25, .int .i64 30, .int .i64 3, .slice (some ⟨b, 0, none⟩) 1 1], .int .i64 0, .int .i64 42] W fun e w' => e = .returned (.tuple #[.int .i64 1400, .int .i64 1432, .int .i64 0]) ∧ Below W.heap.size W w' :=
  Calls.mono (high_yes (exForest b) 0 42 W h (ex_ask1 b)) (fun _ _ hh => ex_heights hh)

set_option maxRecDepth 100000 in
set_option maxHeartbeats 1000000 in
theorem grows_calls (w : World) : Calls Tryz.prog 6 #[] w fun e w' => e = .returned (.bool true) ∧ Below w.heap.size w w' := by
  go_enter Tryz.func6, Tryz.ntmps6
  go_wp2_with (first
    | (go_at_call 14; refine (example_calls _).mono ?_; rintro e w1 ⟨b, rfl, hH, hB1⟩
       rw [show (exForest b).cells.toArray = #[.int .i64 25, .int .i64 9, .int .i64 700, .int .i64 20, .int .i64 25, .int .i64 30, .int .i64 3, .slice (some ⟨b, 0, none⟩) 1 1] from rfl]
       have HH := Lib.hid hH
       have HB1 := Lib.hid hB1
       clear hH hB1)
    | (go_at_call 15
       have hW : Below w1.heap.size w1 (w1.alloc (.cells #[.int .i64 25, .int .i64 9, .int .i64 700, .int .i64 20, .int .i64 25, .int .i64 30, .int .i64 3, .slice (some ⟨b, 0, none⟩) 1 1] 27)) := (Below.refl _ _).alloc (Nat.le_refl _) _
       refine (ex_may_calls b _ ((HH.out.below hW).mono hW.size)).mono ?_; rintro e w2 ⟨rfl, hw2⟩
       have hB2 : Below w1.heap.size w1 w2 := hW.trans (hw2.mono hW.size)
       have k1 : Blk w2 w1.heap.size 27 #[.int .i64 25, .int .i64 9, .int .i64 700, .int .i64 20, .int .i64 25, .int .i64 30, .int .i64 3, .slice (some ⟨b, 0, none⟩) 1 1] := Blk.below (Blk.new w1 _ _) hw2 (by simp)
       have g0 : w2.cell? ⟨w1.heap.size, 0, none⟩ = some (.int .i64 25) := k1.cell 0
       have g1 : w2.cell? ⟨w1.heap.size, 1, none⟩ = some (.int .i64 9) := k1.cell 1
       have g2 : w2.cell? ⟨w1.heap.size, 2, none⟩ = some (.int .i64 700) := k1.cell 2
       have g3 : w2.cell? ⟨w1.heap.size, 3, none⟩ = some (.int .i64 20) := k1.cell 3
       have g4 : w2.cell? ⟨w1.heap.size, 4, none⟩ = some (.int .i64 25) := k1.cell 4
       have g5 : w2.cell? ⟨w1.heap.size, 5, none⟩ = some (.int .i64 30) := k1.cell 5
       have g6 : w2.cell? ⟨w1.heap.size, 6, none⟩ = some (.int .i64 3) := k1.cell 6
       have g7 : w2.cell? ⟨w1.heap.size, 7, none⟩ = some (.slice (some ⟨b, 0, none⟩) 1 1) := k1.cell 7
       clear hw2 hW)
    | (go_at_call 16; refine (ex_high_calls b _ ((HH.out.below hB2).mono hB2.size)).mono ?_; rintro e w3 ⟨rfl, hw3⟩
       have hB3 : Below w1.heap.size w1 w3 := hB2.trans (hw3.mono hB2.size)
       clear hw3)
    | (go_at_call 17; refine (dates_example w3.heap.size 0 2 _ (by simp) (by go_simp) (by go_simp)).mono ?_; rintro e w4 ⟨g, cs, hg, rfl, hblk, ⟨q0, q1⟩, ⟨q2, q3⟩, hw4⟩
       have d0 : w4.cell? ⟨g, 0, none⟩ = some (.int .i64 42) := (hblk.cell 0).trans q0
       have d1 : w4.cell? ⟨g, 1, none⟩ = some (.int .i64 42) := (hblk.cell 1).trans q1
       have d2 : w4.cell? ⟨g, 2, none⟩ = some (.int .i64 51) := (hblk.cell 2).trans q2
       have d3 : w4.cell? ⟨g, 3, none⟩ = some (.int .i64 55) := (hblk.cell 3).trans q3))
  go_ret
  exact ⟨rfl, HB1.out.trans ((hB3.trans ((((Below.refl _ w3).alloc (Nat.le_refl _) _).trans (hw4.mono (by simp))).mono hB3.size)).mono HB1.out.size)⟩
end Go.Proofs.YtnoofdjlocadbaaGreatDoor
