/- TreeOpen: the ways on which the verdict is known; what is known of both forests. -/
import Derived.Test.YtceginnogbbpeaaAside
import Derived.Test.YtceginnogbbpeaaOpenFacts
import Derived.Test.YtceginnogbbpeaaGreat
namespace Go.Proofs.Ytceginnogbbpeaa
open Go.RowKit Go.Shelf
set_option linter.unusedSimpArgs false

set_option maxRecDepth 100000 in
set_option maxHeartbeats 8000000 in
theorem open_bad (age rest girth f0 f1 f2 heal : Int) (a : Option Addr) (n c : Nat) (which year height : Int) (w : World) (ck : Int) (hbad : ck = 0 → 0 < (n : Int) → False)
    (hGreat : ∀ W, Below w.heap.size w W → Calls Try.prog 9 #[.agg #[.int .i64 age, .int .i64 rest, .int .i64 girth, .int .i64 f0, .int .i64 f1, .int .i64 f2, .int .i64 heal, .slice a n c]] W (SomeBool W))
    (hCheck : ∀ W, Below w.heap.size w W → Calls Try.prog 10 #[.agg #[.int .i64 age, .int .i64 rest, .int .i64 girth, .int .i64 f0, .int .i64 f1, .int .i64 f2, .int .i64 heal, .slice a n c]] W fun e w' => e = .returned (.int .i64 ck) ∧ Below W.heap.size W w') :
    Calls Try.prog 4 #[.agg #[.int .i64 age, .int .i64 rest, .int .i64 girth, .int .i64 f0, .int .i64 f1, .int .i64 f2, .int .i64 heal, .slice a n c], .int .u8 which, .int .i64 year, .int .i64 height] w fun e w' => e = .returned (.bool true) ∧ Below w.heap.size w w' := by
  have HGreat := Lib.hid hGreat; clear hGreat
  have HCheck := Lib.hid hCheck; clear hCheck
  have hB0 := Lib.hid (show Below w.heap.size w (w.alloc (.cells #[.int .i64 age, .int .i64 rest, .int .i64 girth, .int .i64 f0, .int .i64 f1, .int .i64 f2, .int .i64 heal, .slice a n c] 27)) from (Below.refl _ _).alloc (Nat.le_refl _) _)
  have K0 := Lib.hid (Blk.new w 27 #[.int .i64 age, .int .i64 rest, .int .i64 girth, .int .i64 f0, .int .i64 f1, .int .i64 f2, .int .i64 heal, .slice a n c])
  go_enter Try.func4, Try.ntmps4
  go_wp2_with fail
  refine (HGreat.out _ hB0.out).mono ?_
  rintro e w1 ⟨b1, rfl, hw1⟩
  have hB1 := hB0.out.trans (hw1.mono hB0.out.size)
  have X1 := Lib.hid (K0.out.below hw1 K0.out.lt)
  clear K0 hB0 hw1
  cases b1
  · obtain ⟨g0, g1, g2, g3, g4, g5, g6, g7⟩ : Boxed w1 w.heap.size ⟨age, rest, girth, f0, f1, f2, heal⟩ a n c := Boxed.of X1.out
    dsimp only at g0 g1 g2 g3 g4 g5 g6
    go_wp2_with fail
    refine (HCheck.out _ hB1).mono ?_
    rintro e w2 ⟨rfl, hw2⟩
    clear g0 g1 g2 g3 g4 g5 g6 g7
    have hB2 := hB1.trans (hw2.mono hB1.size)
    have X2 := Lib.hid (X1.out.below hw2 X1.out.lt)
    clear hw2 X1
    by_cases hck : ck = 0
    · subst hck
      obtain ⟨g0, g1, g2, g3, g4, g5, g6, g7⟩ : Boxed w2 w.heap.size ⟨age, rest, girth, f0, f1, f2, heal⟩ a n c := Boxed.of X2.out
      dsimp only at g0 g1 g2 g3 g4 g5 g6
      by_cases hn0 : n = 0
      · subst hn0
        go_wp2_with fail
        refine (grows_calls _).mono ?_
        rintro e w3 ⟨rfl, hw3⟩
        go_wp2
        go_ret
        exact ⟨rfl, hB2.trans (hw3.mono hB2.size)⟩
      · exact (hbad rfl (by omega)).elim
    · have hckb : (ck != 0) = true := by simpa using hck
      clear hck
      go_wp2_with fail
      refine (grows_calls _).mono ?_
      rintro e w3 ⟨rfl, hw3⟩
      go_wp2
      go_ret
      exact ⟨rfl, hB2.trans (hw3.mono hB2.size)⟩
  · go_wp2_with fail
    refine (grows_calls _).mono ?_
    rintro e w2 ⟨rfl, hw2⟩
    go_wp2
    go_ret
    exact ⟨rfl, hB1.trans (hw2.mono hB1.size)⟩

set_option maxRecDepth 100000 in
set_option maxHeartbeats 8000000 in
theorem open_else (age rest girth f0 f1 f2 heal : Int) (a : Option Addr) (n c : Nat) (which year height : Int) (w : World) (K : Nat) (v r e : Int) (hw0 : 0 ≤ which) (hw1' : which ≤ 255) (hKe : which % (n : Int) = (K : Int)) (hKn : K < n) (hcase : (¬ e = 0 ∧ r = 0) ∨ (e = 0 ∧ ¬ v = 0))
    (hGreat : ∀ W, Below w.heap.size w W → Calls Try.prog 9 #[.agg #[.int .i64 age, .int .i64 rest, .int .i64 girth, .int .i64 f0, .int .i64 f1, .int .i64 f2, .int .i64 heal, .slice a n c]] W (SomeBool W))
    (hCheck : ∀ W, Below w.heap.size w W → Calls Try.prog 10 #[.agg #[.int .i64 age, .int .i64 rest, .int .i64 girth, .int .i64 f0, .int .i64 f1, .int .i64 f2, .int .i64 heal, .slice a n c]] W fun e w' => e = .returned (.int .i64 0) ∧ Below W.heap.size W w')
    (hM : ∀ W, Below w.heap.size w W → Calls Try.prog 12 #[.agg #[.int .i64 age, .int .i64 rest, .int .i64 girth, .int .i64 f0, .int .i64 f1, .int .i64 f2, .int .i64 heal, .slice a n c], .int .i64 K, .int .i64 year, .int .i64 height] W fun e' w' => e' = .returned (.tuple #[.int .i64 v, .int .i64 r, .int .i64 e]) ∧ Below W.heap.size W w') :
    Calls Try.prog 4 #[.agg #[.int .i64 age, .int .i64 rest, .int .i64 girth, .int .i64 f0, .int .i64 f1, .int .i64 f2, .int .i64 heal, .slice a n c], .int .u8 which, .int .i64 year, .int .i64 height] w fun e w' => e = .returned (.bool true) ∧ Below w.heap.size w w' := by
  have HM := Lib.hid hM; clear hM
  have Hcase := Lib.hid hcase; clear hcase
  have hn1 : (0 : Int) < (n : Int) := by omega
  have hnb : ((n : Int) == 0) = false := by simp; omega
  have HGreat := Lib.hid hGreat; clear hGreat
  have HCheck := Lib.hid hCheck; clear hCheck
  have hB0 := Lib.hid (show Below w.heap.size w (w.alloc (.cells #[.int .i64 age, .int .i64 rest, .int .i64 girth, .int .i64 f0, .int .i64 f1, .int .i64 f2, .int .i64 heal, .slice a n c] 27)) from (Below.refl _ _).alloc (Nat.le_refl _) _)
  have K0 := Lib.hid (Blk.new w 27 #[.int .i64 age, .int .i64 rest, .int .i64 girth, .int .i64 f0, .int .i64 f1, .int .i64 f2, .int .i64 heal, .slice a n c])
  go_enter Try.func4, Try.ntmps4
  go_wp2_with fail
  refine (HGreat.out _ hB0.out).mono ?_
  rintro e w1 ⟨b1, rfl, hw1⟩
  have hB1 := hB0.out.trans (hw1.mono hB0.out.size)
  have X1 := Lib.hid (K0.out.below hw1 K0.out.lt)
  clear K0 hB0 hw1
  cases b1
  · obtain ⟨g0, g1, g2, g3, g4, g5, g6, g7⟩ : Boxed w1 w.heap.size ⟨age, rest, girth, f0, f1, f2, heal⟩ a n c := Boxed.of X1.out
    dsimp only at g0 g1 g2 g3 g4 g5 g6
    go_wp2_with fail
    refine (HCheck.out _ hB1).mono ?_
    rintro e w2 ⟨rfl, hw2⟩
    clear g0 g1 g2 g3 g4 g5 g6 g7
    have hB2 := hB1.trans (hw2.mono hB1.size)
    have X2 := Lib.hid (X1.out.below hw2 X1.out.lt)
    clear hw2 X1
    obtain ⟨g0, g1, g2, g3, g4, g5, g6, g7⟩ : Boxed w2 w.heap.size ⟨age, rest, girth, f0, f1, f2, heal⟩ a n c := Boxed.of X2.out
    dsimp only at g0 g1 g2 g3 g4 g5 g6
    go_wp2_with fail
    refine (HM.out _ hB2).mono ?_
    rintro e w3 ⟨rfl, hw3⟩
    clear g0 g1 g2 g3 g4 g5 g6 g7
    have hB3 := hB2.trans (hw3.mono hB2.size)
    clear hw3 X2
    rcases Hcase.out with ⟨he, rfl⟩ | ⟨rfl, hv⟩
    · have heb := bne_iff_ne.2 he
      have hec := beq_eq_false_iff_ne.2 he
      clear he
      go_wp2_with fail
      refine (grows_calls _).mono ?_
      rintro e w4 ⟨rfl, hw4⟩
      go_wp2
      go_ret
      exact ⟨rfl, hB3.trans (hw4.mono hB3.size)⟩
    · have hvb := bne_iff_ne.2 hv
      clear hv
      go_wp2_with fail
      refine (grows_calls _).mono ?_
      rintro e w4 ⟨rfl, hw4⟩
      go_wp2
      go_ret
      exact ⟨rfl, hB3.trans (hw4.mono hB3.size)⟩
  · go_wp2_with fail
    refine (grows_calls _).mono ?_
    rintro e w2 ⟨rfl, hw2⟩
    go_wp2
    go_ret
    exact ⟨rfl, hB1.trans (hw2.mono hB1.size)⟩

theorem ask_open (f : Forest) (K : Nat) (y h : Int) (hf : checkForest f = 0) (hK : K < f.trees.length) : askErr f K y h = if inB y 0 300 && inB h 1 15000 then 0 else 1 := by
  unfold askErr
  rw [if_pos hf, if_pos ⟨by omega, by omega⟩]

theorem ones_open {B : Nat} {w : World} {t : Tree} (h : TreeHeld B w t) : ∀ u ∈ Tree.cells t, u.oneCell' = true := by
  intro u hu
  obtain ⟨sa, sn, sc, es⟩ := h.1.slice
  obtain ⟨wa, wn, wc, ew⟩ := h.2.1.slice
  simp only [Tree.cells, es, ew, List.mem_cons, List.not_mem_nil, or_false] at hu
  rcases hu with rfl | rfl | rfl | rfl | rfl | rfl | rfl | rfl | rfl | rfl | rfl <;> rfl

/-- A forest of which one tree is another one with the same code. -/
def Forest.put (f : Forest) (K : Nat) (tv : Value) (x : Tree) : Forest := { f with tv := tv, trees := f.trees.set K x }

theorem open_case (f : Forest) (K : Nat) (tv tv' : Value) (y h : Int) (hf : checkForest f = 0) (hK : K < f.trees.length) :
    ((¬ (mayOf f K y h).2.2 = 0 ∧ (mayOf f K y h).2.1 = 0) ∨ ((mayOf f K y h).2.2 = 0 ∧ ¬ (mayOf f K y h).1 = 0)) ∨
    ((mayOf f K y h).1 = 0 ∧ (mayOf f K y h).2.2 = 0 ∧ mayOf (f.put K tv (f.trees[K]!.best y)) K y h = (1, 0, 0) ∧ ∃ r2 : Int, ¬ r2 = 0 ∧ mayOf (f.put K tv' (f.trees[K]!.worst y)) K y h = (2, r2, 0)) := by
  have hte := forest_each f hf K hK
  obtain ⟨e1, e2⟩ := ends_err f.trees[K]! y hte
  have hc1 : checkForest (f.put K tv (f.trees[K]!.best y)) = 0 := checkForest_set f hf tv K hK _ rfl e1
  have hc2 : checkForest (f.put K tv' (f.trees[K]!.worst y)) = 0 := checkForest_set f hf tv' K hK _ rfl e2
  have hK1 : ∀ v x, K < (f.put K v x).trees.length := fun v x => by show K < (f.trees.set K _).length; rw [List.length_set]; exact hK
  have ht : ∀ v x, (f.put K v x).trees[K]! = x := fun v x => by
    show (f.trees.set K x)[K]! = _
    rw [getElem!_pos _ K (by rw [List.length_set]; exact hK), List.getElem_set_self]
  obtain ⟨hlawB, _, _⟩ := checkForest_fine f hf
  obtain ⟨hlaw, _⟩ := lawB_fine f.law hlawB
  have hfine := treeErr_fine f.trees[K]! hte
  unfold mayOf
  rw [ask_open f K y h hf hK, ask_open _ K y h hc1 (hK1 _ _), ask_open _ K y h hc2 (hK1 _ _)]
  cases hin : inB y 0 300 && inB h 1 15000 with
  | false => exact .inl (.inl ⟨by simp, rfl⟩)
  | true =>
    simp only [if_true, Int.toNat_natCast, ht]
    by_cases hv : (verdictOn f.law f.trees[K]! y h).1 = 0
    · right
      have hy : 0 ≤ y ∧ y ≤ 300 := by
        simp only [inB, Bool.and_eq_true, decide_eq_true_eq] at hin
        exact hin.1
      have hb : f.trees[K]!.wmin ≤ bestGrowth f.trees[K]! y ∧ bestGrowth f.trees[K]! y ≤ f.trees[K]!.wmax := by
        have := hfine.2.2.2.1
        unfold bestGrowth; split <;> omega
      have hw : f.trees[K]!.wmin ≤ worstGrowth f.trees[K]! y ∧ worstGrowth f.trees[K]! y ≤ f.trees[K]!.wmax := by
        have := hfine.2.2.2.1
        unfold worstGrowth; split <;> omega
      have b1 := hfine.1.2.1
      have g1 := hfine.2.2.1.2.1
      have n1 := (verdict_narrow f.law f.trees[K]! f.trees[K]!.bmin f.trees[K]!.bmin f.trees[K]!.gmax f.trees[K]!.gmax (bestGrowth f.trees[K]! y) (bestGrowth f.trees[K]! y) y h hlaw (Int.le_refl _) (Int.le_refl _) b1 g1 (Int.le_refl _) (Int.le_refl _) hb.1 (Int.le_refl _) hb.2).2.2
      have n2 := (verdict_narrow f.law f.trees[K]! f.trees[K]!.bmax f.trees[K]!.bmax f.trees[K]!.gmin f.trees[K]!.gmin (worstGrowth f.trees[K]! y) (worstGrowth f.trees[K]! y) y h hlaw b1 (Int.le_refl _) (Int.le_refl _) (Int.le_refl _) (Int.le_refl _) g1 hw.1 (Int.le_refl _) hw.2).2.2
      have m1 := open_best f.law f.trees[K]! y h hlaw hfine hy.1 hy.2 hv
      have m2 := open_worst f.law f.trees[K]! y h hv
      have k1 : (verdictOn f.law (f.trees[K]!.best y) y h).2 = 0 := n1.1 m1
      have k2 : ¬ (verdictOn f.law (f.trees[K]!.worst y) y h).2 = 0 := fun h0 => by
        have h1 : (verdictOn f.law (f.trees[K]!.worst y) y h).1 = 1 := n2.2 h0
        rw [m2] at h1; cases h1
      refine ⟨hv, trivial, ?_, (verdictOn f.law (f.trees[K]!.worst y) y h).2, k2, ?_⟩
      · show ((verdictOn f.law (f.trees[K]!.best y) y h).1, (verdictOn f.law (f.trees[K]!.best y) y h).2, (0 : Int)) = (1, 0, 0)
        rw [m1, k1]
      · show ((verdictOn f.law (f.trees[K]!.worst y) y h).1, (verdictOn f.law (f.trees[K]!.worst y) y h).2, (0 : Int)) = (2, _, 0)
        rw [m2]
    · exact .inl (.inr ⟨trivial, hv⟩)

end Go.Proofs.Ytceginnogbbpeaa
