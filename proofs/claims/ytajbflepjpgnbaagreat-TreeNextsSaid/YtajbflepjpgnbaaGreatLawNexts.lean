/- TreeNexts: the program's first years, and first broken strips, are the document's. -/
import Derived.Test.YtajbflepjpgnbaaGreatRefNext
import Derived.Test.YtajbflepjpgnbaaGreatRefFirst
namespace Go.Proofs.YtajbflepjpgnbaaGreat
open Go.RowKit Go.Shelf

set_option maxRecDepth 100000 in
set_option maxHeartbeats 4000000 in
theorem nexts_walk (age rest girth f0 f1 f2 heal : Int) (a : Option Addr) (n c : Nat) (which from_ : Int) (w : World) (s p e1 i r e2 : Int)
    (hGreat : ∀ W, Below w.heap.size w W → Calls Tryz.prog 4 #[.agg #[.int .i64 age, .int .i64 rest, .int .i64 girth, .int .i64 f0, .int .i64 f1, .int .i64 f2, .int .i64 heal, .slice a n c]] W (SomeBool W))
    (hN : ∀ W, Below w.heap.size w W → Calls Tryz.prog 6 #[.agg #[.int .i64 age, .int .i64 rest, .int .i64 girth, .int .i64 f0, .int .i64 f1, .int .i64 f2, .int .i64 heal, .slice a n c], .int .i64 which, .int .i64 from_] W fun e' w' => e' = .returned (.tuple #[.int .i64 s, .int .i64 p, .int .i64 e1]) ∧ Below W.heap.size W w')
    (hM : ∀ W, Below w.heap.size w W → Calls Tryz.prog 7 #[.agg #[.int .i64 age, .int .i64 rest, .int .i64 girth, .int .i64 f0, .int .i64 f1, .int .i64 f2, .int .i64 heal, .slice a n c], .int .i64 which, .int .i64 from_] W fun e' w' => e' = .returned (.tuple #[.int .i64 s, .int .i64 p, .int .i64 e1]) ∧ Below W.heap.size W w')
    (hF : ∀ W, Below w.heap.size w W → Calls Tryz.prog 8 #[.agg #[.int .i64 age, .int .i64 rest, .int .i64 girth, .int .i64 f0, .int .i64 f1, .int .i64 f2, .int .i64 heal, .slice a n c], .int .i64 which] W fun e' w' => e' = .returned (.tuple #[.int .i64 i, .int .i64 r, .int .i64 e2]) ∧ Below W.heap.size W w')
    (hG : ∀ W, Below w.heap.size w W → Calls Tryz.prog 9 #[.agg #[.int .i64 age, .int .i64 rest, .int .i64 girth, .int .i64 f0, .int .i64 f1, .int .i64 f2, .int .i64 heal, .slice a n c], .int .i64 which] W fun e' w' => e' = .returned (.tuple #[.int .i64 i, .int .i64 r, .int .i64 e2]) ∧ Below W.heap.size W w') :
    Calls Tryz.prog 3 #[.agg #[.int .i64 age, .int .i64 rest, .int .i64 girth, .int .i64 f0, .int .i64 f1, .int .i64 f2, .int .i64 heal, .slice a n c], .int .i64 which, .int .i64 from_] w fun e w' => e = .returned (.bool true) ∧ Below w.heap.size w w' := by
  have HGreat := Lib.hid hGreat; clear hGreat
  have HN := Lib.hid hN; clear hN
  have HM := Lib.hid hM; clear hM
  have HF := Lib.hid hF; clear hF
  have HG := Lib.hid hG; clear hG
  have hB0 := Lib.hid (show Below w.heap.size w (w.alloc (.cells #[.int .i64 age, .int .i64 rest, .int .i64 girth, .int .i64 f0, .int .i64 f1, .int .i64 f2, .int .i64 heal, .slice a n c] 27)) from (Below.refl _ _).alloc (Nat.le_refl _) _)
  have K0 := Lib.hid (boxed_new w ⟨age, rest, girth, f0, f1, f2, heal⟩ a n c)
  go_enter Tryz.func3, Tryz.ntmps3
  go_wp2_with fail
  refine (HGreat.out _ hB0.out).mono ?_
  rintro e w1 ⟨b, rfl, hw1⟩
  have hB1 := hB0.out.trans (hw1.mono hB0.out.size)
  have X1 := Lib.hid (K0.out.below hw1 (by simp))
  have hz1 : w.heap.size < w1.heap.size := by have := hw1.size; simp at this; omega
  clear K0 hB0 hw1
  cases b
  · obtain ⟨g0, g1, g2, g3, g4, g5, g6, g7⟩ := X1.out
    dsimp only at g0 g1 g2 g3 g4 g5 g6
    go_wp2_with fail
    refine (HN.out _ hB1).mono ?_
    rintro e w2 ⟨rfl, hw2⟩
    clear g0 g1 g2 g3 g4 g5 g6 g7
    have hB2 := hB1.trans (hw2.mono hB1.size)
    have hz2 : w.heap.size < w2.heap.size := Nat.lt_of_lt_of_le hz1 hw2.size
    have X2 := Lib.hid (X1.out.below hw2 hz1)
    clear hw2
    obtain ⟨g0, g1, g2, g3, g4, g5, g6, g7⟩ := X2.out
    dsimp only at g0 g1 g2 g3 g4 g5 g6
    go_wp2_with fail
    refine (HM.out _ hB2).mono ?_
    rintro e w3 ⟨rfl, hw3⟩
    clear g0 g1 g2 g3 g4 g5 g6 g7
    have hB3 := hB2.trans (hw3.mono hB2.size)
    have hz3 : w.heap.size < w3.heap.size := Nat.lt_of_lt_of_le hz2 hw3.size
    have X3 := Lib.hid (X2.out.below hw3 hz2)
    clear hw3
    obtain ⟨g0, g1, g2, g3, g4, g5, g6, g7⟩ := X3.out
    dsimp only at g0 g1 g2 g3 g4 g5 g6
    go_wp2_with fail
    refine (HF.out _ hB3).mono ?_
    rintro e w4 ⟨rfl, hw4⟩
    clear g0 g1 g2 g3 g4 g5 g6 g7
    have hB4 := hB3.trans (hw4.mono hB3.size)
    have hz4 : w.heap.size < w4.heap.size := Nat.lt_of_lt_of_le hz3 hw4.size
    have X4 := Lib.hid (X3.out.below hw4 hz3)
    clear hw4
    obtain ⟨g0, g1, g2, g3, g4, g5, g6, g7⟩ := X4.out
    dsimp only at g0 g1 g2 g3 g4 g5 g6
    go_wp2_with fail
    refine (HG.out _ hB4).mono ?_
    rintro e w5 ⟨rfl, hw5⟩
    clear g0 g1 g2 g3 g4 g5 g6 g7
    have hB5 := hB4.trans (hw5.mono hB4.size)
    have hz5 : w.heap.size < w5.heap.size := Nat.lt_of_lt_of_le hz4 hw5.size
    have X5 := Lib.hid (X4.out.below hw5 hz4)
    clear hw5
    obtain ⟨g0, g1, g2, g3, g4, g5, g6, g7⟩ := X5.out
    dsimp only at g0 g1 g2 g3 g4 g5 g6
    go_wp2_with fail
    refine (grows_calls _).mono ?_
    rintro e w6 ⟨rfl, hw6⟩
    go_wp2
    go_ret
    exact ⟨rfl, hB5.trans (hw6.mono hB5.size)⟩
  · go_wp2_with fail
    refine (grows_calls _).mono ?_
    rintro e w2 ⟨rfl, hw2⟩
    go_wp2
    go_ret
    exact ⟨rfl, hB1.trans (hw2.mono hB1.size)⟩

theorem nexts_calls (f : Forest) (which from_ : Int) (w : World) (h : TreesHeld w.heap.size w f.tv f.trees) :
    Calls Tryz.prog 3 #[.agg f.cells.toArray, .int .i64 which, .int .i64 from_] w fun e w' => e = .returned (.bool true) ∧ Below w.heap.size w w' := by
  have h1 := fun W (hW : Below w.heap.size w W) => great_calls f W (h.at hW)
  have h2 := fun W (hW : Below w.heap.size w W) => nextOf_calls f which from_ W (h.at hW)
  have h3 := fun W (hW : Below w.heap.size w W) => refNext_calls f which from_ W (h.at hW)
  have h4 := fun W (hW : Below w.heap.size w W) => stripOf_calls f which W (h.at hW)
  have h5 := fun W (hW : Below w.heap.size w W) => refFirst_calls f which W (h.at hW)
  obtain ⟨a, c, ev⟩ := h.1.len
  simp only [Forest.cells] at h1 h2 h3 h4 h5 ⊢
  rw [ev] at h1 h2 h3 h4 h5 ⊢
  exact nexts_walk _ _ _ _ _ _ _ _ _ _ which from_ w _ _ _ _ _ _ h1 h2 h3 h4 h5
end Go.Proofs.YtajbflepjpgnbaaGreat
