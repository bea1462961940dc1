/- TreeHeights: the program's greatest heights are the document's. -/
import Derived.Test.YtajbflepjpgnbaaLaws
import Derived.Test.YtajbflepjpgnbaaRefHighest
namespace Go.Proofs.Ytajbflepjpgnbaa
open Go.RowKit Go.Shelf

set_option maxRecDepth 100000 in
set_option maxHeartbeats 2000000 in
theorem heights_walk (age rest girth f0 f1 f2 heal : Int) (a : Option Addr) (n c : Nat) (which year : Int) (w : World) (p q r : Int)
    (hGreat : ∀ W, Below w.heap.size w W → Calls Try.prog 14 #[.agg #[.int .i64 age, .int .i64 rest, .int .i64 girth, .int .i64 f0, .int .i64 f1, .int .i64 f2, .int .i64 heal, .slice a n c]] W (SomeBool W))
    (hProg : ∀ W, Below w.heap.size w W → Calls Try.prog 22 #[.agg #[.int .i64 age, .int .i64 rest, .int .i64 girth, .int .i64 f0, .int .i64 f1, .int .i64 f2, .int .i64 heal, .slice a n c], .int .i64 which, .int .i64 year] W fun e w' => e = .returned (.tuple #[.int .i64 p, .int .i64 q, .int .i64 r]) ∧ Below W.heap.size W w')
    (hRef : ∀ W, Below w.heap.size w W → Calls Try.prog 23 #[.agg #[.int .i64 age, .int .i64 rest, .int .i64 girth, .int .i64 f0, .int .i64 f1, .int .i64 f2, .int .i64 heal, .slice a n c], .int .i64 which, .int .i64 year] W fun e w' => e = .returned (.tuple #[.int .i64 p, .int .i64 q, .int .i64 r]) ∧ Below W.heap.size W w') :
    Calls Try.prog 5 #[.agg #[.int .i64 age, .int .i64 rest, .int .i64 girth, .int .i64 f0, .int .i64 f1, .int .i64 f2, .int .i64 heal, .slice a n c], .int .i64 which, .int .i64 year] w fun e w' => e = .returned (.bool true) ∧ Below w.heap.size w w' := by
  have HGreat := Lib.hid hGreat; clear hGreat
  have HProg := Lib.hid hProg; clear hProg
  have HRef := Lib.hid hRef; clear hRef
  have hB0 := Lib.hid (show Below w.heap.size w (w.alloc (.cells #[.int .i64 age, .int .i64 rest, .int .i64 girth, .int .i64 f0, .int .i64 f1, .int .i64 f2, .int .i64 heal, .slice a n c] 27)) from (Below.refl _ _).alloc (Nat.le_refl _) _)
  have K0 := Lib.hid (boxed_new w ⟨age, rest, girth, f0, f1, f2, heal⟩ a n c)
  go_enter Try.func5, Try.ntmps5
  go_wp2_with fail
  refine (HGreat.out _ hB0.out).mono ?_
  rintro e w1 ⟨b, rfl, hw1⟩
  have hB1 := hB0.out.trans (hw1.mono hB0.out.size)
  have X1 := Lib.hid (K0.out.below hw1 (by simp))
  have hz1 : w.heap.size < w1.heap.size := by have := hw1.size; simp at this; omega
  clear K0 hB0 hw1
  cases b
  · obtain ⟨g0, g1, g2, g3, g4, g5, g6, g7⟩ := X1.out
    dsimp only at g0 g1 g2 g3 g4 g5 g6
    go_wp2_with fail
    refine (HProg.out _ hB1).mono ?_
    rintro e w2 ⟨rfl, hw2⟩
    clear g0 g1 g2 g3 g4 g5 g6 g7
    have hB2 := hB1.trans (hw2.mono hB1.size)
    have X2 := Lib.hid (X1.out.below hw2 hz1)
    clear hw2
    obtain ⟨g0, g1, g2, g3, g4, g5, g6, g7⟩ := X2.out
    dsimp only at g0 g1 g2 g3 g4 g5 g6
    go_wp2_with fail
    refine (HRef.out _ hB2).mono ?_
    rintro e w3 ⟨rfl, hw3⟩
    clear g0 g1 g2 g3 g4 g5 g6 g7
    have hB3 := hB2.trans (hw3.mono hB2.size)
    go_wp2_with fail
    refine (grows_calls _).mono ?_
    rintro e w4 ⟨rfl, hw4⟩
    go_wp2
    go_ret
    exact ⟨rfl, hB3.trans (hw4.mono hB3.size)⟩
  · go_wp2_with fail
    refine (grows_calls _).mono ?_
    rintro e w2 ⟨rfl, hw2⟩
    go_wp2
    go_ret
    exact ⟨rfl, hB1.trans (hw2.mono hB1.size)⟩

theorem heights_calls (f : Forest) (which year : Int) (w : World) (h : TreesHeld w.heap.size w f.tv f.trees) :
    Calls Try.prog 5 #[.agg f.cells.toArray, .int .i64 which, .int .i64 year] w fun e w' => e = .returned (.bool true) ∧ Below w.heap.size w w' := by
  have h1 := fun W (hW : Below w.heap.size w W) => great_calls f W (h.at hW)
  have h2 := fun W (hW : Below w.heap.size w W) => highestOf_calls f which year W (h.at hW)
  have h3 := fun W (hW : Below w.heap.size w W) => refHighestOf_calls f which year W (h.at hW)
  obtain ⟨a, c, ev⟩ := h.1.len
  simp only [Forest.cells] at h1 h2 h3 ⊢
  rw [ev] at h1 h2 h3 ⊢
  exact heights_walk _ _ _ _ _ _ _ _ _ _ _ _  w _ _ _ h1 h2 h3
end Go.Proofs.Ytajbflepjpgnbaa
