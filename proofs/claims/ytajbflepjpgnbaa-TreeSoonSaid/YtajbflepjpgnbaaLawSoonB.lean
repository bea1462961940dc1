/- TreeSoon: in no year before the ones that Next returns is a strip of the height 1 surely, or possibly, allowed: the walks, second part. -/
import Derived.Test.YtajbflepjpgnbaaLaws
import Derived.Test.YtajbflepjpgnbaaNextOf
namespace Go.Proofs.Ytajbflepjpgnbaa
open Go.RowKit Go.Shelf

set_option maxRecDepth 100000 in
set_option maxHeartbeats 8000000 in
theorem soon_2 (age rest girth f0 f1 f2 heal : Int) (a : Option Addr) (n c : Nat) (which from_ later yv : Int) (w : World) (ck : Int)
    (hw0 : 0 ≤ which) (hw1' : which ≤ 255)
    (hyv : from_ + later % (300 - from_ + 1) = yv) (s p e1 v r e2 a' b' e3 : Int) (hl0 : 0 ≤ later) (hl1 : later ≤ 65535)
    (hcase : ck = 0 → 0 < (n : Int) → inB from_ 0 300 = true ∧ 0 ≤ from_ ∧ from_ ≤ 300 ∧ 0 ≤ yv ∧ e1 = 0 ∧ e2 = 0 ∧ e3 = 0 ∧ (v = 0 ∧ from_ ≤ p ∧ p ≤ yv ∧ 0 ≤ p ∧ p ≤ s ∧ yv ≠ s))
    (hA : ck = 0 → 0 < (n : Int) → e3 = 0 → a' = -1 ∨ (yv ≤ a' ∧ 0 ≤ s ∧ s ≤ a')) (hBB : ck = 0 → 0 < (n : Int) → e3 = 0 → b' = -1 ∨ (yv ≤ b' ∧ p ≤ b'))
    (hGreat : ∀ W, Below w.heap.size w W → Calls Try.prog 14 #[.agg #[.int .i64 age, .int .i64 rest, .int .i64 girth, .int .i64 f0, .int .i64 f1, .int .i64 f2, .int .i64 heal, .slice a n c]] W (SomeBool W))
    (hCheck : ∀ W, Below w.heap.size w W → Calls Try.prog 19 #[.agg #[.int .i64 age, .int .i64 rest, .int .i64 girth, .int .i64 f0, .int .i64 f1, .int .i64 f2, .int .i64 heal, .slice a n c]] W fun e w' => e = .returned (.int .i64 ck) ∧ Below W.heap.size W w')
    (hN1 : ∀ W, Below w.heap.size w W → Calls Try.prog 30 #[.agg #[.int .i64 age, .int .i64 rest, .int .i64 girth, .int .i64 f0, .int .i64 f1, .int .i64 f2, .int .i64 heal, .slice a n c], .int .i64 (which % (n : Int)), .int .i64 from_] W fun e' w' => e' = .returned (.tuple #[.int .i64 s, .int .i64 p, .int .i64 e1]) ∧ Below W.heap.size W w')
    (hM : ∀ W, Below w.heap.size w W → Calls Try.prog 20 #[.agg #[.int .i64 age, .int .i64 rest, .int .i64 girth, .int .i64 f0, .int .i64 f1, .int .i64 f2, .int .i64 heal, .slice a n c], .int .i64 (which % (n : Int)), .int .i64 yv, .int .i64 1] W fun e' w' => e' = .returned (.tuple #[.int .i64 v, .int .i64 r, .int .i64 e2]) ∧ Below W.heap.size W w')
    (hN2 : ∀ W, Below w.heap.size w W → Calls Try.prog 30 #[.agg #[.int .i64 age, .int .i64 rest, .int .i64 girth, .int .i64 f0, .int .i64 f1, .int .i64 f2, .int .i64 heal, .slice a n c], .int .i64 (which % (n : Int)), .int .i64 yv] W fun e' w' => e' = .returned (.tuple #[.int .i64 a', .int .i64 b', .int .i64 e3]) ∧ Below W.heap.size W w') :
    Calls Try.prog 11 #[.agg #[.int .i64 age, .int .i64 rest, .int .i64 girth, .int .i64 f0, .int .i64 f1, .int .i64 f2, .int .i64 heal, .slice a n c], .int .u8 which, .int .i64 from_, .int .u16 later] w fun e w' => e = .returned (.bool true) ∧ Below w.heap.size w w' := by
  have HGreat := Lib.hid hGreat; clear hGreat
  have HCheck := Lib.hid hCheck; clear hCheck
  have hB0 := Lib.hid (show Below w.heap.size w (w.alloc (.cells #[.int .i64 age, .int .i64 rest, .int .i64 girth, .int .i64 f0, .int .i64 f1, .int .i64 f2, .int .i64 heal, .slice a n c] 27)) from (Below.refl _ _).alloc (Nat.le_refl _) _)
  have K0 := Lib.hid (boxed_new w ⟨age, rest, girth, f0, f1, f2, heal⟩ a n c)
  go_enter Try.func11, Try.ntmps11
  go_wp2_with fail
  refine (HGreat.out _ hB0.out).mono ?_
  rintro e w1 ⟨b, rfl, hw1⟩
  have hB1 := hB0.out.trans (hw1.mono hB0.out.size)
  have X1 := Lib.hid (K0.out.below hw1 (by simp))
  have hz1 : w.heap.size < w1.heap.size := by have := hw1.size; simp at this; omega
  clear K0 hB0 hw1
  cases b
  · obtain ⟨g0, g1, g2, g3, g4, g5, g6, g7⟩ := X1.out
    dsimp only at g0 g1 g2 g3 g4 g5 g6
    go_wp2_with fail
    refine (HCheck.out _ hB1).mono ?_
    rintro e w2 ⟨rfl, hw2⟩
    clear g0 g1 g2 g3 g4 g5 g6 g7
    have hB2 := hB1.trans (hw2.mono hB1.size)
    have hz2 : w.heap.size < w2.heap.size := Nat.lt_of_lt_of_le hz1 hw2.size
    have X2 := Lib.hid (X1.out.below hw2 hz1)
    clear hw2 X1
    by_cases hck : ck = 0
    · subst hck
      obtain ⟨g0, g1, g2, g3, g4, g5, g6, g7⟩ := X2.out
      dsimp only at g0 g1 g2 g3 g4 g5 g6
      by_cases hn0 : n = 0
      · subst hn0
        go_wp2_with fail
        refine (grows_calls _).mono ?_
        rintro e w3 ⟨rfl, hw3⟩
        go_wp2
        go_ret
        exact ⟨rfl, hB2.trans (hw3.mono hB2.size)⟩
      · have hn1 : (0 : Int) < (n : Int) := by omega
        have hnb : ((n : Int) == 0) = false := by simp; omega
        have HN1 := Lib.hid hN1; clear hN1
        have HM := Lib.hid hM; clear hM
        have HN2 := Lib.hid hN2; clear hN2
        have HC := Lib.hid (hcase rfl hn1); clear hcase
        have HA0 := Lib.hid (hA rfl hn1); clear hA
        have HB0 := Lib.hid (hBB rfl hn1); clear hBB
        go_wp2_with fail
        refine (HN1.out _ hB2).mono ?_
        rintro e w3 ⟨rfl, hw3⟩
        clear g0 g1 g2 g3 g4 g5 g6 g7
        have hB3 := hB2.trans (hw3.mono hB2.size)
        have hz3 : w.heap.size < w3.heap.size := Nat.lt_of_lt_of_le hz2 hw3.size
        have X3 := Lib.hid (X2.out.below hw3 hz2)
        clear hw3
        obtain ⟨g0, g1, g2, g3, g4, g5, g6, g7⟩ := X3.out
        dsimp only at g0 g1 g2 g3 g4 g5 g6
        obtain ⟨hin, hf0, hf1, hy0, rfl, rfl, rfl, hv⟩ := HC.out
        have hI := fun W => in_calls from_ 0 300 W
        rw [hin] at hI
        have HIn := Lib.hid hI; clear hI
        have hm0 : 0 ≤ later % (300 - from_ + 1) := Int.emod_nonneg _ (by omega)
        have hm1 : later % (300 - from_ + 1) < 300 - from_ + 1 := Int.emod_lt_of_pos _ (by omega)
        have hm2 : later % (300 - from_ + 1) ≤ 300 := by omega
        have HA := Lib.hid (HA0.out rfl); clear HA0
        have HBB := Lib.hid (HB0.out rfl); clear HB0
        obtain ⟨rfl, q1, q2, q3, q4, q5⟩ := hv
        have ds0 : decide (0 ≤ s) = true := decide_eq_true (by omega)
        have ds1 : decide (s < 0) = false := decide_eq_false (by omega)
        have dp0 : decide (0 ≤ p) = true := decide_eq_true (by omega)
        have dp1 : decide (p < 0) = false := decide_eq_false (by omega)
        have dp2 : decide (p < from_) = false := decide_eq_false (by omega)
        have dsp : decide (s < p) = false := decide_eq_false (by omega)
        have dy2 : decide (yv < p) = false := decide_eq_false (by omega)
        have bs : (yv == s) = false := beq_eq_false_iff_ne.2 q5
        go_wp2_with (go_at_call 26; refine (HIn.out _).mono ?_; rintro e wi ⟨rfl, rfl⟩)
        refine (HM.out _ hB3).mono ?_
        rintro e w4 ⟨rfl, hw4⟩
        clear g0 g1 g2 g3 g4 g5 g6 g7
        have hB4 := hB3.trans (hw4.mono hB3.size)
        have hz4 : w.heap.size < w4.heap.size := Nat.lt_of_lt_of_le hz3 hw4.size
        have X4 := Lib.hid (X3.out.below hw4 hz3)
        clear hw4
        obtain ⟨g0, g1, g2, g3, g4, g5, g6, g7⟩ := X4.out
        dsimp only at g0 g1 g2 g3 g4 g5 g6
        by_cases hp : (yv == p) = true
        · go_wp2_with fail
          refine (HN2.out _ hB4).mono ?_
          rintro e w5 ⟨rfl, hw5⟩
          clear g0 g1 g2 g3 g4 g5 g6 g7
          have hB5 := hB4.trans (hw5.mono hB4.size)
          clear hw5
          rcases HA.out with rfl | ⟨ha1, ha2, ha3⟩
          · rcases HBB.out with rfl | ⟨hb1, hb2⟩
            · go_wp2_with fail
              refine (grows_calls _).mono ?_
              rintro e w6 ⟨rfl, hw6⟩
              go_wp2
              go_ret
              exact ⟨rfl, hB5.trans (hw6.mono hB5.size)⟩
            · have db0 : decide (b' < 0) = false := decide_eq_false (by omega)
              have db1 : decide (yv ≤ b') = true := decide_eq_true (by omega)
              have db2 : decide (p ≤ b') = true := decide_eq_true (by omega)
              clear hb1 hb2
              go_wp2_with fail
              refine (grows_calls _).mono ?_
              rintro e w6 ⟨rfl, hw6⟩
              go_wp2
              go_ret
              exact ⟨rfl, hB5.trans (hw6.mono hB5.size)⟩
          · have da0 : decide (a' < 0) = false := decide_eq_false (by omega)
            have da1 : decide (yv ≤ a') = true := decide_eq_true (by omega)
            have da2 : decide (s ≤ a') = true := decide_eq_true (by omega)
            have da3 : decide (0 ≤ s) = true := decide_eq_true (by omega)
            clear ha1 ha2 ha3
            rcases HBB.out with rfl | ⟨hb1, hb2⟩
            · go_wp2_with fail
              refine (grows_calls _).mono ?_
              rintro e w6 ⟨rfl, hw6⟩
              go_wp2
              go_ret
              exact ⟨rfl, hB5.trans (hw6.mono hB5.size)⟩
            · have db0 : decide (b' < 0) = false := decide_eq_false (by omega)
              have db1 : decide (yv ≤ b') = true := decide_eq_true (by omega)
              have db2 : decide (p ≤ b') = true := decide_eq_true (by omega)
              clear hb1 hb2
              go_wp2_with fail
              refine (grows_calls _).mono ?_
              rintro e w6 ⟨rfl, hw6⟩
              go_wp2
              go_ret
              exact ⟨rfl, hB5.trans (hw6.mono hB5.size)⟩
        · replace hp : (yv == p) = false := by simpa using hp
          go_wp2_with fail
          refine (HN2.out _ hB4).mono ?_
          rintro e w5 ⟨rfl, hw5⟩
          clear g0 g1 g2 g3 g4 g5 g6 g7
          have hB5 := hB4.trans (hw5.mono hB4.size)
          clear hw5
          rcases HA.out with rfl | ⟨ha1, ha2, ha3⟩
          · rcases HBB.out with rfl | ⟨hb1, hb2⟩
            · go_wp2_with fail
              refine (grows_calls _).mono ?_
              rintro e w6 ⟨rfl, hw6⟩
              go_wp2
              go_ret
              exact ⟨rfl, hB5.trans (hw6.mono hB5.size)⟩
            · have db0 : decide (b' < 0) = false := decide_eq_false (by omega)
              have db1 : decide (yv ≤ b') = true := decide_eq_true (by omega)
              have db2 : decide (p ≤ b') = true := decide_eq_true (by omega)
              clear hb1 hb2
              go_wp2_with fail
              refine (grows_calls _).mono ?_
              rintro e w6 ⟨rfl, hw6⟩
              go_wp2
              go_ret
              exact ⟨rfl, hB5.trans (hw6.mono hB5.size)⟩
          · have da0 : decide (a' < 0) = false := decide_eq_false (by omega)
            have da1 : decide (yv ≤ a') = true := decide_eq_true (by omega)
            have da2 : decide (s ≤ a') = true := decide_eq_true (by omega)
            have da3 : decide (0 ≤ s) = true := decide_eq_true (by omega)
            clear ha1 ha2 ha3
            rcases HBB.out with rfl | ⟨hb1, hb2⟩
            · go_wp2_with fail
              refine (grows_calls _).mono ?_
              rintro e w6 ⟨rfl, hw6⟩
              go_wp2
              go_ret
              exact ⟨rfl, hB5.trans (hw6.mono hB5.size)⟩
            · have db0 : decide (b' < 0) = false := decide_eq_false (by omega)
              have db1 : decide (yv ≤ b') = true := decide_eq_true (by omega)
              have db2 : decide (p ≤ b') = true := decide_eq_true (by omega)
              clear hb1 hb2
              go_wp2_with fail
              refine (grows_calls _).mono ?_
              rintro e w6 ⟨rfl, hw6⟩
              go_wp2
              go_ret
              exact ⟨rfl, hB5.trans (hw6.mono hB5.size)⟩
    · have hckb : (ck != 0) = true := by simpa using hck
      clear hck hcase hA hBB
      go_wp2_with fail
      refine (grows_calls _).mono ?_
      rintro e w3 ⟨rfl, hw3⟩
      go_wp2
      go_ret
      exact ⟨rfl, hB2.trans (hw3.mono hB2.size)⟩
  · go_wp2_with fail
    refine (grows_calls _).mono ?_
    rintro e w2 ⟨rfl, hw2⟩
    go_wp2
    go_ret
    exact ⟨rfl, hB1.trans (hw2.mono hB1.size)⟩

set_option maxRecDepth 100000 in
set_option maxHeartbeats 8000000 in
theorem soon_3 (age rest girth f0 f1 f2 heal : Int) (a : Option Addr) (n c : Nat) (which from_ later yv : Int) (w : World) (ck : Int)
    (hw0 : 0 ≤ which) (hw1' : which ≤ 255)
    (hyv : from_ + later % (300 - from_ + 1) = yv) (s p e1 v r e2 a' b' e3 : Int) (hl0 : 0 ≤ later) (hl1 : later ≤ 65535)
    (hcase : ck = 0 → 0 < (n : Int) → inB from_ 0 300 = true ∧ 0 ≤ from_ ∧ from_ ≤ 300 ∧ 0 ≤ yv ∧ e1 = 0 ∧ e2 = 0 ∧ e3 = 0 ∧ (v = 2 ∧ s = -1 ∧ p = -1))
    (hA : ck = 0 → 0 < (n : Int) → e3 = 0 → a' = -1 ∨ (yv ≤ a' ∧ 0 ≤ s ∧ s ≤ a')) (hBB : ck = 0 → 0 < (n : Int) → e3 = 0 → b' = -1 ∨ (yv ≤ b' ∧ p ≤ b'))
    (hGreat : ∀ W, Below w.heap.size w W → Calls Try.prog 14 #[.agg #[.int .i64 age, .int .i64 rest, .int .i64 girth, .int .i64 f0, .int .i64 f1, .int .i64 f2, .int .i64 heal, .slice a n c]] W (SomeBool W))
    (hCheck : ∀ W, Below w.heap.size w W → Calls Try.prog 19 #[.agg #[.int .i64 age, .int .i64 rest, .int .i64 girth, .int .i64 f0, .int .i64 f1, .int .i64 f2, .int .i64 heal, .slice a n c]] W fun e w' => e = .returned (.int .i64 ck) ∧ Below W.heap.size W w')
    (hN1 : ∀ W, Below w.heap.size w W → Calls Try.prog 30 #[.agg #[.int .i64 age, .int .i64 rest, .int .i64 girth, .int .i64 f0, .int .i64 f1, .int .i64 f2, .int .i64 heal, .slice a n c], .int .i64 (which % (n : Int)), .int .i64 from_] W fun e' w' => e' = .returned (.tuple #[.int .i64 s, .int .i64 p, .int .i64 e1]) ∧ Below W.heap.size W w')
    (hM : ∀ W, Below w.heap.size w W → Calls Try.prog 20 #[.agg #[.int .i64 age, .int .i64 rest, .int .i64 girth, .int .i64 f0, .int .i64 f1, .int .i64 f2, .int .i64 heal, .slice a n c], .int .i64 (which % (n : Int)), .int .i64 yv, .int .i64 1] W fun e' w' => e' = .returned (.tuple #[.int .i64 v, .int .i64 r, .int .i64 e2]) ∧ Below W.heap.size W w')
    (hN2 : ∀ W, Below w.heap.size w W → Calls Try.prog 30 #[.agg #[.int .i64 age, .int .i64 rest, .int .i64 girth, .int .i64 f0, .int .i64 f1, .int .i64 f2, .int .i64 heal, .slice a n c], .int .i64 (which % (n : Int)), .int .i64 yv] W fun e' w' => e' = .returned (.tuple #[.int .i64 a', .int .i64 b', .int .i64 e3]) ∧ Below W.heap.size W w') :
    Calls Try.prog 11 #[.agg #[.int .i64 age, .int .i64 rest, .int .i64 girth, .int .i64 f0, .int .i64 f1, .int .i64 f2, .int .i64 heal, .slice a n c], .int .u8 which, .int .i64 from_, .int .u16 later] w fun e w' => e = .returned (.bool true) ∧ Below w.heap.size w w' := by
  have HGreat := Lib.hid hGreat; clear hGreat
  have HCheck := Lib.hid hCheck; clear hCheck
  have hB0 := Lib.hid (show Below w.heap.size w (w.alloc (.cells #[.int .i64 age, .int .i64 rest, .int .i64 girth, .int .i64 f0, .int .i64 f1, .int .i64 f2, .int .i64 heal, .slice a n c] 27)) from (Below.refl _ _).alloc (Nat.le_refl _) _)
  have K0 := Lib.hid (boxed_new w ⟨age, rest, girth, f0, f1, f2, heal⟩ a n c)
  go_enter Try.func11, Try.ntmps11
  go_wp2_with fail
  refine (HGreat.out _ hB0.out).mono ?_
  rintro e w1 ⟨b, rfl, hw1⟩
  have hB1 := hB0.out.trans (hw1.mono hB0.out.size)
  have X1 := Lib.hid (K0.out.below hw1 (by simp))
  have hz1 : w.heap.size < w1.heap.size := by have := hw1.size; simp at this; omega
  clear K0 hB0 hw1
  cases b
  · obtain ⟨g0, g1, g2, g3, g4, g5, g6, g7⟩ := X1.out
    dsimp only at g0 g1 g2 g3 g4 g5 g6
    go_wp2_with fail
    refine (HCheck.out _ hB1).mono ?_
    rintro e w2 ⟨rfl, hw2⟩
    clear g0 g1 g2 g3 g4 g5 g6 g7
    have hB2 := hB1.trans (hw2.mono hB1.size)
    have hz2 : w.heap.size < w2.heap.size := Nat.lt_of_lt_of_le hz1 hw2.size
    have X2 := Lib.hid (X1.out.below hw2 hz1)
    clear hw2 X1
    by_cases hck : ck = 0
    · subst hck
      obtain ⟨g0, g1, g2, g3, g4, g5, g6, g7⟩ := X2.out
      dsimp only at g0 g1 g2 g3 g4 g5 g6
      by_cases hn0 : n = 0
      · subst hn0
        go_wp2_with fail
        refine (grows_calls _).mono ?_
        rintro e w3 ⟨rfl, hw3⟩
        go_wp2
        go_ret
        exact ⟨rfl, hB2.trans (hw3.mono hB2.size)⟩
      · have hn1 : (0 : Int) < (n : Int) := by omega
        have hnb : ((n : Int) == 0) = false := by simp; omega
        have HN1 := Lib.hid hN1; clear hN1
        have HM := Lib.hid hM; clear hM
        have HN2 := Lib.hid hN2; clear hN2
        have HC := Lib.hid (hcase rfl hn1); clear hcase
        have HA0 := Lib.hid (hA rfl hn1); clear hA
        have HB0 := Lib.hid (hBB rfl hn1); clear hBB
        go_wp2_with fail
        refine (HN1.out _ hB2).mono ?_
        rintro e w3 ⟨rfl, hw3⟩
        clear g0 g1 g2 g3 g4 g5 g6 g7
        have hB3 := hB2.trans (hw3.mono hB2.size)
        have hz3 : w.heap.size < w3.heap.size := Nat.lt_of_lt_of_le hz2 hw3.size
        have X3 := Lib.hid (X2.out.below hw3 hz2)
        clear hw3
        obtain ⟨g0, g1, g2, g3, g4, g5, g6, g7⟩ := X3.out
        dsimp only at g0 g1 g2 g3 g4 g5 g6
        obtain ⟨hin, hf0, hf1, hy0, rfl, rfl, rfl, hv⟩ := HC.out
        have hI := fun W => in_calls from_ 0 300 W
        rw [hin] at hI
        have HIn := Lib.hid hI; clear hI
        have hm0 : 0 ≤ later % (300 - from_ + 1) := Int.emod_nonneg _ (by omega)
        have hm1 : later % (300 - from_ + 1) < 300 - from_ + 1 := Int.emod_lt_of_pos _ (by omega)
        have hm2 : later % (300 - from_ + 1) ≤ 300 := by omega
        have HA := Lib.hid (HA0.out rfl); clear HA0
        have HBB := Lib.hid (HB0.out rfl); clear HB0
        obtain ⟨rfl, rfl, rfl⟩ := hv
        have bs : (yv == -1) = false := beq_eq_false_iff_ne.2 (by omega)
        go_wp2_with (go_at_call 26; refine (HIn.out _).mono ?_; rintro e wi ⟨rfl, rfl⟩)
        refine (HM.out _ hB3).mono ?_
        rintro e w4 ⟨rfl, hw4⟩
        clear g0 g1 g2 g3 g4 g5 g6 g7
        have hB4 := hB3.trans (hw4.mono hB3.size)
        have hz4 : w.heap.size < w4.heap.size := Nat.lt_of_lt_of_le hz3 hw4.size
        have X4 := Lib.hid (X3.out.below hw4 hz3)
        clear hw4
        obtain ⟨g0, g1, g2, g3, g4, g5, g6, g7⟩ := X4.out
        dsimp only at g0 g1 g2 g3 g4 g5 g6
        go_wp2_with fail
        refine (HN2.out _ hB4).mono ?_
        rintro e w5 ⟨rfl, hw5⟩
        clear g0 g1 g2 g3 g4 g5 g6 g7
        have hB5 := hB4.trans (hw5.mono hB4.size)
        clear hw5
        rcases HA.out with rfl | ⟨ha1, ha2, ha3⟩
        · rcases HBB.out with rfl | ⟨hb1, hb2⟩
          · go_wp2_with fail
            refine (grows_calls _).mono ?_
            rintro e w6 ⟨rfl, hw6⟩
            go_wp2
            go_ret
            exact ⟨rfl, hB5.trans (hw6.mono hB5.size)⟩
          · have db0 : decide (b' < 0) = false := decide_eq_false (by omega)
            have db1 : decide (yv ≤ b') = true := decide_eq_true (by omega)
            have db2 : decide (-1 ≤ b') = true := decide_eq_true (by omega)
            clear hb1 hb2
            go_wp2_with fail
            refine (grows_calls _).mono ?_
            rintro e w6 ⟨rfl, hw6⟩
            go_wp2
            go_ret
            exact ⟨rfl, hB5.trans (hw6.mono hB5.size)⟩
        · exact absurd ha2 (by omega)
    · have hckb : (ck != 0) = true := by simpa using hck
      clear hck hcase hA hBB
      go_wp2_with fail
      refine (grows_calls _).mono ?_
      rintro e w3 ⟨rfl, hw3⟩
      go_wp2
      go_ret
      exact ⟨rfl, hB2.trans (hw3.mono hB2.size)⟩
  · go_wp2_with fail
    refine (grows_calls _).mono ?_
    rintro e w2 ⟨rfl, hw2⟩
    go_wp2
    go_ret
    exact ⟨rfl, hB1.trans (hw2.mono hB1.size)⟩

set_option maxRecDepth 100000 in
set_option maxHeartbeats 8000000 in
theorem soon_4 (age rest girth f0 f1 f2 heal : Int) (a : Option Addr) (n c : Nat) (which from_ later yv : Int) (w : World) (ck : Int)
    (hw0 : 0 ≤ which) (hw1' : which ≤ 255)
    (hyv : from_ + later % (300 - from_ + 1) = yv) (s p e1 v r e2 a' b' e3 : Int) (hl0 : 0 ≤ later) (hl1 : later ≤ 65535)
    (hcase : ck = 0 → 0 < (n : Int) → inB from_ 0 300 = true ∧ 0 ≤ from_ ∧ from_ ≤ 300 ∧ 0 ≤ yv ∧ e1 = 0 ∧ e2 = 0 ∧ e3 = 0 ∧ (v = 2 ∧ s = -1 ∧ from_ ≤ p ∧ yv ≠ p))
    (hA : ck = 0 → 0 < (n : Int) → e3 = 0 → a' = -1 ∨ (yv ≤ a' ∧ 0 ≤ s ∧ s ≤ a')) (hBB : ck = 0 → 0 < (n : Int) → e3 = 0 → b' = -1 ∨ (yv ≤ b' ∧ p ≤ b'))
    (hGreat : ∀ W, Below w.heap.size w W → Calls Try.prog 14 #[.agg #[.int .i64 age, .int .i64 rest, .int .i64 girth, .int .i64 f0, .int .i64 f1, .int .i64 f2, .int .i64 heal, .slice a n c]] W (SomeBool W))
    (hCheck : ∀ W, Below w.heap.size w W → Calls Try.prog 19 #[.agg #[.int .i64 age, .int .i64 rest, .int .i64 girth, .int .i64 f0, .int .i64 f1, .int .i64 f2, .int .i64 heal, .slice a n c]] W fun e w' => e = .returned (.int .i64 ck) ∧ Below W.heap.size W w')
    (hN1 : ∀ W, Below w.heap.size w W → Calls Try.prog 30 #[.agg #[.int .i64 age, .int .i64 rest, .int .i64 girth, .int .i64 f0, .int .i64 f1, .int .i64 f2, .int .i64 heal, .slice a n c], .int .i64 (which % (n : Int)), .int .i64 from_] W fun e' w' => e' = .returned (.tuple #[.int .i64 s, .int .i64 p, .int .i64 e1]) ∧ Below W.heap.size W w')
    (hM : ∀ W, Below w.heap.size w W → Calls Try.prog 20 #[.agg #[.int .i64 age, .int .i64 rest, .int .i64 girth, .int .i64 f0, .int .i64 f1, .int .i64 f2, .int .i64 heal, .slice a n c], .int .i64 (which % (n : Int)), .int .i64 yv, .int .i64 1] W fun e' w' => e' = .returned (.tuple #[.int .i64 v, .int .i64 r, .int .i64 e2]) ∧ Below W.heap.size W w')
    (hN2 : ∀ W, Below w.heap.size w W → Calls Try.prog 30 #[.agg #[.int .i64 age, .int .i64 rest, .int .i64 girth, .int .i64 f0, .int .i64 f1, .int .i64 f2, .int .i64 heal, .slice a n c], .int .i64 (which % (n : Int)), .int .i64 yv] W fun e' w' => e' = .returned (.tuple #[.int .i64 a', .int .i64 b', .int .i64 e3]) ∧ Below W.heap.size W w') :
    Calls Try.prog 11 #[.agg #[.int .i64 age, .int .i64 rest, .int .i64 girth, .int .i64 f0, .int .i64 f1, .int .i64 f2, .int .i64 heal, .slice a n c], .int .u8 which, .int .i64 from_, .int .u16 later] w fun e w' => e = .returned (.bool true) ∧ Below w.heap.size w w' := by
  have HGreat := Lib.hid hGreat; clear hGreat
  have HCheck := Lib.hid hCheck; clear hCheck
  have hB0 := Lib.hid (show Below w.heap.size w (w.alloc (.cells #[.int .i64 age, .int .i64 rest, .int .i64 girth, .int .i64 f0, .int .i64 f1, .int .i64 f2, .int .i64 heal, .slice a n c] 27)) from (Below.refl _ _).alloc (Nat.le_refl _) _)
  have K0 := Lib.hid (boxed_new w ⟨age, rest, girth, f0, f1, f2, heal⟩ a n c)
  go_enter Try.func11, Try.ntmps11
  go_wp2_with fail
  refine (HGreat.out _ hB0.out).mono ?_
  rintro e w1 ⟨b, rfl, hw1⟩
  have hB1 := hB0.out.trans (hw1.mono hB0.out.size)
  have X1 := Lib.hid (K0.out.below hw1 (by simp))
  have hz1 : w.heap.size < w1.heap.size := by have := hw1.size; simp at this; omega
  clear K0 hB0 hw1
  cases b
  · obtain ⟨g0, g1, g2, g3, g4, g5, g6, g7⟩ := X1.out
    dsimp only at g0 g1 g2 g3 g4 g5 g6
    go_wp2_with fail
    refine (HCheck.out _ hB1).mono ?_
    rintro e w2 ⟨rfl, hw2⟩
    clear g0 g1 g2 g3 g4 g5 g6 g7
    have hB2 := hB1.trans (hw2.mono hB1.size)
    have hz2 : w.heap.size < w2.heap.size := Nat.lt_of_lt_of_le hz1 hw2.size
    have X2 := Lib.hid (X1.out.below hw2 hz1)
    clear hw2 X1
    by_cases hck : ck = 0
    · subst hck
      obtain ⟨g0, g1, g2, g3, g4, g5, g6, g7⟩ := X2.out
      dsimp only at g0 g1 g2 g3 g4 g5 g6
      by_cases hn0 : n = 0
      · subst hn0
        go_wp2_with fail
        refine (grows_calls _).mono ?_
        rintro e w3 ⟨rfl, hw3⟩
        go_wp2
        go_ret
        exact ⟨rfl, hB2.trans (hw3.mono hB2.size)⟩
      · have hn1 : (0 : Int) < (n : Int) := by omega
        have hnb : ((n : Int) == 0) = false := by simp; omega
        have HN1 := Lib.hid hN1; clear hN1
        have HM := Lib.hid hM; clear hM
        have HN2 := Lib.hid hN2; clear hN2
        have HC := Lib.hid (hcase rfl hn1); clear hcase
        have HA0 := Lib.hid (hA rfl hn1); clear hA
        have HB0 := Lib.hid (hBB rfl hn1); clear hBB
        go_wp2_with fail
        refine (HN1.out _ hB2).mono ?_
        rintro e w3 ⟨rfl, hw3⟩
        clear g0 g1 g2 g3 g4 g5 g6 g7
        have hB3 := hB2.trans (hw3.mono hB2.size)
        have hz3 : w.heap.size < w3.heap.size := Nat.lt_of_lt_of_le hz2 hw3.size
        have X3 := Lib.hid (X2.out.below hw3 hz2)
        clear hw3
        obtain ⟨g0, g1, g2, g3, g4, g5, g6, g7⟩ := X3.out
        dsimp only at g0 g1 g2 g3 g4 g5 g6
        obtain ⟨hin, hf0, hf1, hy0, rfl, rfl, rfl, hv⟩ := HC.out
        have hI := fun W => in_calls from_ 0 300 W
        rw [hin] at hI
        have HIn := Lib.hid hI; clear hI
        have hm0 : 0 ≤ later % (300 - from_ + 1) := Int.emod_nonneg _ (by omega)
        have hm1 : later % (300 - from_ + 1) < 300 - from_ + 1 := Int.emod_lt_of_pos _ (by omega)
        have hm2 : later % (300 - from_ + 1) ≤ 300 := by omega
        have HA := Lib.hid (HA0.out rfl); clear HA0
        have HBB := Lib.hid (HB0.out rfl); clear HB0
        obtain ⟨rfl, rfl, q1, q2⟩ := hv
        have dp0 : decide (0 ≤ p) = true := decide_eq_true (by omega)
        have dp1 : decide (p < 0) = false := decide_eq_false (by omega)
        have dp2 : decide (p < from_) = false := decide_eq_false (by omega)
        have bs : (yv == -1) = false := beq_eq_false_iff_ne.2 (by omega)
        have bp : (yv == p) = false := beq_eq_false_iff_ne.2 q2
        go_wp2_with (go_at_call 26; refine (HIn.out _).mono ?_; rintro e wi ⟨rfl, rfl⟩)
        refine (HM.out _ hB3).mono ?_
        rintro e w4 ⟨rfl, hw4⟩
        clear g0 g1 g2 g3 g4 g5 g6 g7
        have hB4 := hB3.trans (hw4.mono hB3.size)
        have hz4 : w.heap.size < w4.heap.size := Nat.lt_of_lt_of_le hz3 hw4.size
        have X4 := Lib.hid (X3.out.below hw4 hz3)
        clear hw4
        obtain ⟨g0, g1, g2, g3, g4, g5, g6, g7⟩ := X4.out
        dsimp only at g0 g1 g2 g3 g4 g5 g6
        go_wp2_with fail
        refine (HN2.out _ hB4).mono ?_
        rintro e w5 ⟨rfl, hw5⟩
        clear g0 g1 g2 g3 g4 g5 g6 g7
        have hB5 := hB4.trans (hw5.mono hB4.size)
        clear hw5
        rcases HA.out with rfl | ⟨ha1, ha2, ha3⟩
        · rcases HBB.out with rfl | ⟨hb1, hb2⟩
          · go_wp2_with fail
            refine (grows_calls _).mono ?_
            rintro e w6 ⟨rfl, hw6⟩
            go_wp2
            go_ret
            exact ⟨rfl, hB5.trans (hw6.mono hB5.size)⟩
          · have db0 : decide (b' < 0) = false := decide_eq_false (by omega)
            have db1 : decide (yv ≤ b') = true := decide_eq_true (by omega)
            have db2 : decide (p ≤ b') = true := decide_eq_true (by omega)
            clear hb1 hb2
            go_wp2_with fail
            refine (grows_calls _).mono ?_
            rintro e w6 ⟨rfl, hw6⟩
            go_wp2
            go_ret
            exact ⟨rfl, hB5.trans (hw6.mono hB5.size)⟩
        · exact absurd ha2 (by omega)
    · have hckb : (ck != 0) = true := by simpa using hck
      clear hck hcase hA hBB
      go_wp2_with fail
      refine (grows_calls _).mono ?_
      rintro e w3 ⟨rfl, hw3⟩
      go_wp2
      go_ret
      exact ⟨rfl, hB2.trans (hw3.mono hB2.size)⟩
  · go_wp2_with fail
    refine (grows_calls _).mono ?_
    rintro e w2 ⟨rfl, hw2⟩
    go_wp2
    go_ret
    exact ⟨rfl, hB1.trans (hw2.mono hB1.size)⟩

set_option maxRecDepth 100000 in
set_option maxHeartbeats 8000000 in
theorem soon_5 (age rest girth f0 f1 f2 heal : Int) (a : Option Addr) (n c : Nat) (which from_ later yv : Int) (w : World) (ck : Int)
    (hw0 : 0 ≤ which) (hw1' : which ≤ 255)
    (hyv : from_ + later % (300 - from_ + 1) = yv) (s p e1 v r e2 a' b' e3 : Int) (hl0 : 0 ≤ later) (hl1 : later ≤ 65535)
    (hcase : ck = 0 → 0 < (n : Int) → inB from_ 0 300 = true ∧ 0 ≤ from_ ∧ from_ ≤ 300 ∧ 0 ≤ yv ∧ e1 = 0 ∧ e2 = 0 ∧ e3 = 0 ∧ (v = 2 ∧ from_ ≤ p ∧ p ≤ s ∧ yv ≠ s ∧ yv ≠ p))
    (hA : ck = 0 → 0 < (n : Int) → e3 = 0 → a' = -1 ∨ (yv ≤ a' ∧ 0 ≤ s ∧ s ≤ a')) (hBB : ck = 0 → 0 < (n : Int) → e3 = 0 → b' = -1 ∨ (yv ≤ b' ∧ p ≤ b'))
    (hGreat : ∀ W, Below w.heap.size w W → Calls Try.prog 14 #[.agg #[.int .i64 age, .int .i64 rest, .int .i64 girth, .int .i64 f0, .int .i64 f1, .int .i64 f2, .int .i64 heal, .slice a n c]] W (SomeBool W))
    (hCheck : ∀ W, Below w.heap.size w W → Calls Try.prog 19 #[.agg #[.int .i64 age, .int .i64 rest, .int .i64 girth, .int .i64 f0, .int .i64 f1, .int .i64 f2, .int .i64 heal, .slice a n c]] W fun e w' => e = .returned (.int .i64 ck) ∧ Below W.heap.size W w')
    (hN1 : ∀ W, Below w.heap.size w W → Calls Try.prog 30 #[.agg #[.int .i64 age, .int .i64 rest, .int .i64 girth, .int .i64 f0, .int .i64 f1, .int .i64 f2, .int .i64 heal, .slice a n c], .int .i64 (which % (n : Int)), .int .i64 from_] W fun e' w' => e' = .returned (.tuple #[.int .i64 s, .int .i64 p, .int .i64 e1]) ∧ Below W.heap.size W w')
    (hM : ∀ W, Below w.heap.size w W → Calls Try.prog 20 #[.agg #[.int .i64 age, .int .i64 rest, .int .i64 girth, .int .i64 f0, .int .i64 f1, .int .i64 f2, .int .i64 heal, .slice a n c], .int .i64 (which % (n : Int)), .int .i64 yv, .int .i64 1] W fun e' w' => e' = .returned (.tuple #[.int .i64 v, .int .i64 r, .int .i64 e2]) ∧ Below W.heap.size W w')
    (hN2 : ∀ W, Below w.heap.size w W → Calls Try.prog 30 #[.agg #[.int .i64 age, .int .i64 rest, .int .i64 girth, .int .i64 f0, .int .i64 f1, .int .i64 f2, .int .i64 heal, .slice a n c], .int .i64 (which % (n : Int)), .int .i64 yv] W fun e' w' => e' = .returned (.tuple #[.int .i64 a', .int .i64 b', .int .i64 e3]) ∧ Below W.heap.size W w') :
    Calls Try.prog 11 #[.agg #[.int .i64 age, .int .i64 rest, .int .i64 girth, .int .i64 f0, .int .i64 f1, .int .i64 f2, .int .i64 heal, .slice a n c], .int .u8 which, .int .i64 from_, .int .u16 later] w fun e w' => e = .returned (.bool true) ∧ Below w.heap.size w w' := by
  have HGreat := Lib.hid hGreat; clear hGreat
  have HCheck := Lib.hid hCheck; clear hCheck
  have hB0 := Lib.hid (show Below w.heap.size w (w.alloc (.cells #[.int .i64 age, .int .i64 rest, .int .i64 girth, .int .i64 f0, .int .i64 f1, .int .i64 f2, .int .i64 heal, .slice a n c] 27)) from (Below.refl _ _).alloc (Nat.le_refl _) _)
  have K0 := Lib.hid (boxed_new w ⟨age, rest, girth, f0, f1, f2, heal⟩ a n c)
  go_enter Try.func11, Try.ntmps11
  go_wp2_with fail
  refine (HGreat.out _ hB0.out).mono ?_
  rintro e w1 ⟨b, rfl, hw1⟩
  have hB1 := hB0.out.trans (hw1.mono hB0.out.size)
  have X1 := Lib.hid (K0.out.below hw1 (by simp))
  have hz1 : w.heap.size < w1.heap.size := by have := hw1.size; simp at this; omega
  clear K0 hB0 hw1
  cases b
  · obtain ⟨g0, g1, g2, g3, g4, g5, g6, g7⟩ := X1.out
    dsimp only at g0 g1 g2 g3 g4 g5 g6
    go_wp2_with fail
    refine (HCheck.out _ hB1).mono ?_
    rintro e w2 ⟨rfl, hw2⟩
    clear g0 g1 g2 g3 g4 g5 g6 g7
    have hB2 := hB1.trans (hw2.mono hB1.size)
    have hz2 : w.heap.size < w2.heap.size := Nat.lt_of_lt_of_le hz1 hw2.size
    have X2 := Lib.hid (X1.out.below hw2 hz1)
    clear hw2 X1
    by_cases hck : ck = 0
    · subst hck
      obtain ⟨g0, g1, g2, g3, g4, g5, g6, g7⟩ := X2.out
      dsimp only at g0 g1 g2 g3 g4 g5 g6
      by_cases hn0 : n = 0
      · subst hn0
        go_wp2_with fail
        refine (grows_calls _).mono ?_
        rintro e w3 ⟨rfl, hw3⟩
        go_wp2
        go_ret
        exact ⟨rfl, hB2.trans (hw3.mono hB2.size)⟩
      · have hn1 : (0 : Int) < (n : Int) := by omega
        have hnb : ((n : Int) == 0) = false := by simp; omega
        have HN1 := Lib.hid hN1; clear hN1
        have HM := Lib.hid hM; clear hM
        have HN2 := Lib.hid hN2; clear hN2
        have HC := Lib.hid (hcase rfl hn1); clear hcase
        have HA0 := Lib.hid (hA rfl hn1); clear hA
        have HB0 := Lib.hid (hBB rfl hn1); clear hBB
        go_wp2_with fail
        refine (HN1.out _ hB2).mono ?_
        rintro e w3 ⟨rfl, hw3⟩
        clear g0 g1 g2 g3 g4 g5 g6 g7
        have hB3 := hB2.trans (hw3.mono hB2.size)
        have hz3 : w.heap.size < w3.heap.size := Nat.lt_of_lt_of_le hz2 hw3.size
        have X3 := Lib.hid (X2.out.below hw3 hz2)
        clear hw3
        obtain ⟨g0, g1, g2, g3, g4, g5, g6, g7⟩ := X3.out
        dsimp only at g0 g1 g2 g3 g4 g5 g6
        obtain ⟨hin, hf0, hf1, hy0, rfl, rfl, rfl, hv⟩ := HC.out
        have hI := fun W => in_calls from_ 0 300 W
        rw [hin] at hI
        have HIn := Lib.hid hI; clear hI
        have hm0 : 0 ≤ later % (300 - from_ + 1) := Int.emod_nonneg _ (by omega)
        have hm1 : later % (300 - from_ + 1) < 300 - from_ + 1 := Int.emod_lt_of_pos _ (by omega)
        have hm2 : later % (300 - from_ + 1) ≤ 300 := by omega
        have HA := Lib.hid (HA0.out rfl); clear HA0
        have HBB := Lib.hid (HB0.out rfl); clear HB0
        obtain ⟨rfl, q1, q2, q3, q4⟩ := hv
        have ds0 : decide (0 ≤ s) = true := decide_eq_true (by omega)
        have ds1 : decide (s < 0) = false := decide_eq_false (by omega)
        have dp0 : decide (0 ≤ p) = true := decide_eq_true (by omega)
        have dp1 : decide (p < 0) = false := decide_eq_false (by omega)
        have dp2 : decide (p < from_) = false := decide_eq_false (by omega)
        have dsp : decide (s < p) = false := decide_eq_false (by omega)
        have bs : (yv == s) = false := beq_eq_false_iff_ne.2 q3
        have bp : (yv == p) = false := beq_eq_false_iff_ne.2 q4
        go_wp2_with (go_at_call 26; refine (HIn.out _).mono ?_; rintro e wi ⟨rfl, rfl⟩)
        refine (HM.out _ hB3).mono ?_
        rintro e w4 ⟨rfl, hw4⟩
        clear g0 g1 g2 g3 g4 g5 g6 g7
        have hB4 := hB3.trans (hw4.mono hB3.size)
        have hz4 : w.heap.size < w4.heap.size := Nat.lt_of_lt_of_le hz3 hw4.size
        have X4 := Lib.hid (X3.out.below hw4 hz3)
        clear hw4
        obtain ⟨g0, g1, g2, g3, g4, g5, g6, g7⟩ := X4.out
        dsimp only at g0 g1 g2 g3 g4 g5 g6
        go_wp2_with fail
        refine (HN2.out _ hB4).mono ?_
        rintro e w5 ⟨rfl, hw5⟩
        clear g0 g1 g2 g3 g4 g5 g6 g7
        have hB5 := hB4.trans (hw5.mono hB4.size)
        clear hw5
        rcases HA.out with rfl | ⟨ha1, ha2, ha3⟩
        · rcases HBB.out with rfl | ⟨hb1, hb2⟩
          · go_wp2_with fail
            refine (grows_calls _).mono ?_
            rintro e w6 ⟨rfl, hw6⟩
            go_wp2
            go_ret
            exact ⟨rfl, hB5.trans (hw6.mono hB5.size)⟩
          · have db0 : decide (b' < 0) = false := decide_eq_false (by omega)
            have db1 : decide (yv ≤ b') = true := decide_eq_true (by omega)
            have db2 : decide (p ≤ b') = true := decide_eq_true (by omega)
            clear hb1 hb2
            go_wp2_with fail
            refine (grows_calls _).mono ?_
            rintro e w6 ⟨rfl, hw6⟩
            go_wp2
            go_ret
            exact ⟨rfl, hB5.trans (hw6.mono hB5.size)⟩
        · have da0 : decide (a' < 0) = false := decide_eq_false (by omega)
          have da1 : decide (yv ≤ a') = true := decide_eq_true (by omega)
          have da2 : decide (s ≤ a') = true := decide_eq_true (by omega)
          have da3 : decide (0 ≤ s) = true := decide_eq_true (by omega)
          clear ha1 ha2 ha3
          rcases HBB.out with rfl | ⟨hb1, hb2⟩
          · go_wp2_with fail
            refine (grows_calls _).mono ?_
            rintro e w6 ⟨rfl, hw6⟩
            go_wp2
            go_ret
            exact ⟨rfl, hB5.trans (hw6.mono hB5.size)⟩
          · have db0 : decide (b' < 0) = false := decide_eq_false (by omega)
            have db1 : decide (yv ≤ b') = true := decide_eq_true (by omega)
            have db2 : decide (p ≤ b') = true := decide_eq_true (by omega)
            clear hb1 hb2
            go_wp2_with fail
            refine (grows_calls _).mono ?_
            rintro e w6 ⟨rfl, hw6⟩
            go_wp2
            go_ret
            exact ⟨rfl, hB5.trans (hw6.mono hB5.size)⟩
    · have hckb : (ck != 0) = true := by simpa using hck
      clear hck hcase hA hBB
      go_wp2_with fail
      refine (grows_calls _).mono ?_
      rintro e w3 ⟨rfl, hw3⟩
      go_wp2
      go_ret
      exact ⟨rfl, hB2.trans (hw3.mono hB2.size)⟩
  · go_wp2_with fail
    refine (grows_calls _).mono ?_
    rintro e w2 ⟨rfl, hw2⟩
    go_wp2
    go_ret
    exact ⟨rfl, hB1.trans (hw2.mono hB1.size)⟩

end Go.Proofs.Ytajbflepjpgnbaa
