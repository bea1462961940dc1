/- TreeAreas: the program's areas are the document's. -/
import Derived.Test.YtajbflepjpgnbaaRefArea
namespace Go.Proofs.Ytajbflepjpgnbaa
open Go.RowKit Go.Shelf

set_option maxRecDepth 100000 in
set_option maxHeartbeats 2000000 in
theorem areas_walk (age rest girth f0 f1 f2 heal : Int) (a : Option Addr) (n c : Nat) (which year height : Int) (w : World) (p q r : Int)
    (hGreat : ∀ W, Below w.heap.size w W → Calls Try.prog 14 #[.agg #[.int .i64 age, .int .i64 rest, .int .i64 girth, .int .i64 f0, .int .i64 f1, .int .i64 f2, .int .i64 heal, .slice a n c]] W (SomeBool W))
    (hProg : ∀ W, Below w.heap.size w W → Calls Try.prog 24 #[.agg #[.int .i64 age, .int .i64 rest, .int .i64 girth, .int .i64 f0, .int .i64 f1, .int .i64 f2, .int .i64 heal, .slice a n c], .int .i64 which, .int .i64 year, .int .i64 height] W fun e w' => e = .returned (.tuple #[.agg #[.int .i64 p, .int .i64 q], .int .i64 r]) ∧ Below W.heap.size W w')
    (hRef : ∀ W, Below w.heap.size w W → Calls Try.prog 25 #[.agg #[.int .i64 age, .int .i64 rest, .int .i64 girth, .int .i64 f0, .int .i64 f1, .int .i64 f2, .int .i64 heal, .slice a n c], .int .i64 which, .int .i64 year, .int .i64 height] W fun e w' => e = .returned (.tuple #[.agg #[.int .i64 p, .int .i64 q], .int .i64 r]) ∧ Below W.heap.size W w') :
    Calls Try.prog 6 #[.agg #[.int .i64 age, .int .i64 rest, .int .i64 girth, .int .i64 f0, .int .i64 f1, .int .i64 f2, .int .i64 heal, .slice a n c], .int .i64 which, .int .i64 year, .int .i64 height] w fun e w' => e = .returned (.bool true) ∧ Below w.heap.size w w' := by
  have HGreat := Lib.hid hGreat; clear hGreat
  have HProg := Lib.hid hProg; clear hProg
  have HRef := Lib.hid hRef; clear hRef
  have hB0 := Lib.hid (show Below w.heap.size w (w.alloc (.cells #[.int .i64 age, .int .i64 rest, .int .i64 girth, .int .i64 f0, .int .i64 f1, .int .i64 f2, .int .i64 heal, .slice a n c] 27)) from (Below.refl _ _).alloc (Nat.le_refl _) _)
  have K0 := Lib.hid (boxed_new w ⟨age, rest, girth, f0, f1, f2, heal⟩ a n c)
  go_enter Try.func6, Try.ntmps6
  go_wp2_with fail
  refine (HGreat.out _ hB0.out).mono ?_
  rintro e w1 ⟨b, rfl, hw1⟩
  have hB1 := hB0.out.trans (hw1.mono hB0.out.size)
  have X1 := Lib.hid (K0.out.below hw1 (by simp))
  have hz1 : w.heap.size < w1.heap.size := by have := hw1.size; simp at this; omega
  clear K0 hB0 hw1
  cases b
  · obtain ⟨g0, g1, g2, g3, g4, g5, g6, g7⟩ := X1.out
    dsimp only at g0 g1 g2 g3 g4 g5 g6
    go_wp2_with fail
    refine (HProg.out _ hB1).mono ?_
    rintro e w2 ⟨rfl, hw2⟩
    clear g0 g1 g2 g3 g4 g5 g6 g7
    have hB2 := hB1.trans (hw2.mono hB1.size)
    have hz2 : w.heap.size < w2.heap.size := Nat.lt_of_lt_of_le hz1 hw2.size
    have X2 := Lib.hid (X1.out.below hw2 hz1)
    clear hw2
    obtain ⟨g0, g1, g2, g3, g4, g5, g6, g7⟩ := X2.out
    dsimp only at g0 g1 g2 g3 g4 g5 g6
    go_wp2_with fail
    have hA2 : Below w2.heap.size w2 (w2.alloc (.cells #[.int .i64 p, .int .i64 q] 31)) := (Below.refl _ _).alloc (Nat.le_refl _) _
    have P2 : Blk (w2.alloc (.cells #[.int .i64 p, .int .i64 q] 31)) w2.heap.size 31 #[.int .i64 p, .int .i64 q] := Blk.new w2 _ _
    refine (HRef.out _ (hB2.trans (hA2.mono hB2.size))).mono ?_
    rintro e w3 ⟨rfl, hw3⟩
    clear g0 g1 g2 g3 g4 g5 g6 g7
    have hB3 := (hB2.trans (hA2.mono hB2.size)).trans (hw3.mono (hB2.trans (hA2.mono hB2.size)).size)
    have P3 := P2.below hw3 P2.lt
    have hz3 : w2.heap.size < w3.heap.size := P3.lt
    clear hw3 hA2 P2
    have d0 := P3.cell 0
    have d1 := P3.cell 1
    go_wp2_with fail
    have hB4 := hB3.alloc hB3.size (.cells #[.int .i64 p, .int .i64 q] 31)
    refine (grows_calls _).mono ?_
    rintro e w4 ⟨rfl, hw4⟩
    go_wp2
    go_ret
    exact ⟨rfl, hB4.trans (hw4.mono hB4.size)⟩
  · go_wp2_with fail
    refine (grows_calls _).mono ?_
    rintro e w2 ⟨rfl, hw2⟩
    go_wp2
    go_ret
    exact ⟨rfl, hB1.trans (hw2.mono hB1.size)⟩

theorem areas_calls (f : Forest) (which year height : Int) (w : World) (h : TreesHeld w.heap.size w f.tv f.trees) :
    Calls Try.prog 6 #[.agg f.cells.toArray, .int .i64 which, .int .i64 year, .int .i64 height] w fun e w' => e = .returned (.bool true) ∧ Below w.heap.size w w' := by
  have h1 := fun W (hW : Below w.heap.size w W) => great_calls f W (h.at hW)
  have h2 := fun W (hW : Below w.heap.size w W) => areaOf_calls f which year height W (h.at hW)
  have h3 := fun W (hW : Below w.heap.size w W) => refAreaOf_calls f which year height W (h.at hW)
  obtain ⟨a, c, ev⟩ := h.1.len
  simp only [Forest.cells] at h1 h2 h3 ⊢
  rw [ev] at h1 h2 h3 ⊢
  exact areas_walk _ _ _ _ _ _ _ _ _ _ _ _ _ w _ _ _ h1 h2 h3
end Go.Proofs.Ytajbflepjpgnbaa
