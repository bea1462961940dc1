/- TreeGirths: the program's girths and its check of a forest are the document's. -/
import Derived.Test.YtajbflepjpgnbaaLaws
namespace Go.Proofs.Ytajbflepjpgnbaa
open Go.RowKit Go.Shelf

set_option maxRecDepth 100000 in
set_option maxHeartbeats 2000000 in
theorem girths_walk (age rest girth f0 f1 f2 heal : Int) (a : Option Addr) (n c : Nat) (which year : Int) (w : World) (p q r s : Int)
    (hGreat : ∀ W, Below w.heap.size w W → Calls Try.prog 14 #[.agg #[.int .i64 age, .int .i64 rest, .int .i64 girth, .int .i64 f0, .int .i64 f1, .int .i64 f2, .int .i64 heal, .slice a n c]] W (SomeBool W))
    (hGirth : ∀ W, Below w.heap.size w W → Calls Try.prog 16 #[.agg #[.int .i64 age, .int .i64 rest, .int .i64 girth, .int .i64 f0, .int .i64 f1, .int .i64 f2, .int .i64 heal, .slice a n c], .int .i64 which, .int .i64 year] W fun e w' => e = .returned (.tuple #[.agg #[.int .i64 p, .int .i64 q], .int .i64 r]) ∧ Below W.heap.size W w')
    (hRef : ∀ W, Below w.heap.size w W → Calls Try.prog 17 #[.agg #[.int .i64 age, .int .i64 rest, .int .i64 girth, .int .i64 f0, .int .i64 f1, .int .i64 f2, .int .i64 heal, .slice a n c], .int .i64 which, .int .i64 year] W fun e w' => e = .returned (.tuple #[.agg #[.int .i64 p, .int .i64 q], .int .i64 r]) ∧ Below W.heap.size W w')
    (hCheck : ∀ W, Below w.heap.size w W → Calls Try.prog 18 #[.agg #[.int .i64 age, .int .i64 rest, .int .i64 girth, .int .i64 f0, .int .i64 f1, .int .i64 f2, .int .i64 heal, .slice a n c]] W fun e w' => e = .returned (.int .i64 s) ∧ Below W.heap.size W w')
    (hRefC : ∀ W, Below w.heap.size w W → Calls Try.prog 19 #[.agg #[.int .i64 age, .int .i64 rest, .int .i64 girth, .int .i64 f0, .int .i64 f1, .int .i64 f2, .int .i64 heal, .slice a n c]] W fun e w' => e = .returned (.int .i64 s) ∧ Below W.heap.size W w') :
    Calls Try.prog 3 #[.agg #[.int .i64 age, .int .i64 rest, .int .i64 girth, .int .i64 f0, .int .i64 f1, .int .i64 f2, .int .i64 heal, .slice a n c], .int .i64 which, .int .i64 year] w fun e w' => e = .returned (.bool true) ∧ Below w.heap.size w w' := by
  have HGreat := Lib.hid hGreat; clear hGreat
  have HGirth := Lib.hid hGirth; clear hGirth
  have HRef := Lib.hid hRef; clear hRef
  have HCheck := Lib.hid hCheck; clear hCheck
  have HRefC := Lib.hid hRefC; clear hRefC
  go_enter Try.func3, Try.ntmps3
  go_wp2_with fail
  have hB0 : Below w.heap.size w (w.alloc (.cells #[.int .i64 age, .int .i64 rest, .int .i64 girth, .int .i64 f0, .int .i64 f1, .int .i64 f2, .int .i64 heal, .slice a n c] 27)) := (Below.refl _ _).alloc (Nat.le_refl _) _
  have K0 : Blk (w.alloc (.cells #[.int .i64 age, .int .i64 rest, .int .i64 girth, .int .i64 f0, .int .i64 f1, .int .i64 f2, .int .i64 heal, .slice a n c] 27)) w.heap.size 27 #[.int .i64 age, .int .i64 rest, .int .i64 girth, .int .i64 f0, .int .i64 f1, .int .i64 f2, .int .i64 heal, .slice a n c] := Blk.new w _ _
  refine (HGreat.out _ hB0).mono ?_
  rintro e w1 ⟨b, rfl, hw1⟩
  have hB1 := hB0.trans (hw1.mono hB0.size)
  have X1 := Lib.hid (Boxed.of (l := ⟨age, rest, girth, f0, f1, f2, heal⟩) (K0.below hw1 K0.lt))
  have hz1 : w.heap.size < w1.heap.size := Nat.lt_of_lt_of_le K0.lt hw1.size
  clear K0 hB0 hw1
  cases b
  · obtain ⟨g0, g1, g2, g3, g4, g5, g6, g7⟩ := X1.out
    dsimp only at g0 g1 g2 g3 g4 g5 g6
    go_wp2_with fail
    refine (HGirth.out _ hB1).mono ?_
    rintro e w2 ⟨rfl, hw2⟩
    clear g0 g1 g2 g3 g4 g5 g6 g7
    have hB2 := hB1.trans (hw2.mono hB1.size)
    have hz2 : w.heap.size < w2.heap.size := Nat.lt_of_lt_of_le hz1 hw2.size
    have X2 := Lib.hid (X1.out.below hw2 hz1)
    clear hw2
    obtain ⟨g0, g1, g2, g3, g4, g5, g6, g7⟩ := X2.out
    dsimp only at g0 g1 g2 g3 g4 g5 g6
    go_wp2_with fail
    have hA2 : Below w2.heap.size w2 (w2.alloc (.cells #[.int .i64 p, .int .i64 q] 31)) := (Below.refl _ _).alloc (Nat.le_refl _) _
    have P2 : Blk (w2.alloc (.cells #[.int .i64 p, .int .i64 q] 31)) w2.heap.size 31 #[.int .i64 p, .int .i64 q] := Blk.new w2 _ _
    refine (HRef.out _ (hB2.trans (hA2.mono hB2.size))).mono ?_
    rintro e w3 ⟨rfl, hw3⟩
    clear g0 g1 g2 g3 g4 g5 g6 g7
    have hB3 := (hB2.trans (hA2.mono hB2.size)).trans (hw3.mono (hB2.trans (hA2.mono hB2.size)).size)
    have hz3 : w2.heap.size < w3.heap.size := Nat.lt_of_lt_of_le P2.lt hw3.size
    have P3 := P2.below hw3 P2.lt
    have X3 := Lib.hid ((X2.out.below hA2 hz2).below hw3 (Nat.lt_trans hz2 P2.lt))
    clear hw3 hA2 P2
    obtain ⟨g0, g1, g2, g3, g4, g5, g6, g7⟩ := X3.out
    dsimp only at g0 g1 g2 g3 g4 g5 g6
    have d0 := P3.cell 0
    have d1 := P3.cell 1
    have hA3 : Below w3.heap.size w3 (w3.alloc (.cells #[.int .i64 p, .int .i64 q] 31)) := (Below.refl _ _).alloc (Nat.le_refl _) _
    have Q3 : Blk (w3.alloc (.cells #[.int .i64 p, .int .i64 q] 31)) w3.heap.size 31 #[.int .i64 p, .int .i64 q] := Blk.new w3 _ _
    go_wp2_with fail
    have hB4 := hB3.trans (hA3.mono hB3.size)
    have P4 := P3.below hA3 P3.lt
    have X4 := Lib.hid (X3.out.below hA3 (Nat.lt_trans hz2 hz3))
    have hz4 : w3.heap.size < (w3.alloc (.cells #[.int .i64 p, .int .i64 q] 31)).heap.size := by simp
    clear g0 g1 g2 g3 g4 g5 g6 g7 d0 d1 hA3
    generalize w3.alloc (.cells #[.int .i64 p, .int .i64 q] 31) = w4 at hB4 P4 X4 Q3 hz4 ⊢
    obtain ⟨g0, g1, g2, g3, g4, g5, g6, g7⟩ := X4.out
    dsimp only at g0 g1 g2 g3 g4 g5 g6
    have hs4 : w.heap.size < w4.heap.size := by omega
    go_region_with (first
      | (go_at_call 18; (with_reducible refine (HCheck.out _ ?_).mono ?_); go_must ((repeat (first | exact hB4 | refine Below.drew ?_)); rintro e w5 ⟨rfl, hw5⟩; have hT5 : Below w4.heap.size w4 w5 := Below.trans (by repeat (first | exact Below.refl _ _ | refine Below.drew ?_)) hw5; have hB5 := hB4.trans (hT5.mono hB4.size); obtain ⟨i0, i1, i2, i3, i4, i5, i6, i7⟩ := X4.out.below hT5 hs4; dsimp only at i0 i1 i2 i3 i4 i5 i6; clear hw5))
      | (go_at_call 19; (with_reducible refine (HRefC.out _ ?_).mono ?_); go_must ((repeat (first | exact hB5 | refine Below.drew ?_)); rintro e w6 ⟨rfl, hw6⟩; have hT6 : Below w4.heap.size w4 w6 := hT5.trans (Below.mono (Below.trans (by repeat (first | exact Below.refl _ _ | refine Below.drew ?_)) hw6 : Below w5.heap.size w5 w6) hT5.size); have hB6 := hB4.trans (hT6.mono hB4.size); have dp := P4.below hT6 P4.lt; have dq := Q3.below hT6 Q3.lt; have d0 := dp.cell 0; have d1 := dp.cell 1; have d2 := dq.cell 0; have d3 := dq.cell 1; clear hw6 dp dq))
      | (go_at_call 15; (with_reducible refine (grows_calls _).mono ?_); go_must (rintro e w7 ⟨rfl, hw7⟩; have hB7 : Below w.heap.size w w7 := Below.trans (by repeat (first | exact hB6 | refine Below.drew ?_)) (hw7.mono hB6.size))))
    all_goals
      go_wp2
      go_ret
      exact ⟨rfl, hB7⟩
  · go_wp2_with fail
    refine (grows_calls _).mono ?_
    rintro e w2 ⟨rfl, hw2⟩
    go_wp2
    go_ret
    exact ⟨rfl, hB1.trans (hw2.mono hB1.size)⟩

theorem girths_calls (f : Forest) (which year : Int) (w : World) (h : TreesHeld w.heap.size w f.tv f.trees) :
    Calls Try.prog 3 #[.agg f.cells.toArray, .int .i64 which, .int .i64 year] w fun e w' => e = .returned (.bool true) ∧ Below w.heap.size w w' := by
  have h1 := fun W (hW : Below w.heap.size w W) => great_calls f W (h.at hW)
  have h2 := fun W (hW : Below w.heap.size w W) => girthOf_calls f which year W (h.at hW)
  have h3 := fun W (hW : Below w.heap.size w W) => refGirthOf_calls f which year W (h.at hW)
  have h4 := fun W (hW : Below w.heap.size w W) => checkForest_calls f W (h.at hW)
  have h5 := fun W (hW : Below w.heap.size w W) => refForest_calls f W (h.at hW)
  obtain ⟨a, c, ev⟩ := h.1.len
  simp only [Forest.cells] at h1 h2 h3 h4 h5 ⊢
  rw [ev] at h1 h2 h3 h4 h5 ⊢
  exact girths_walk _ _ _ _ _ _ _ _ _ _ _ _ w _ _ _ _ h1 h2 h3 h4 h5
end Go.Proofs.Ytajbflepjpgnbaa
