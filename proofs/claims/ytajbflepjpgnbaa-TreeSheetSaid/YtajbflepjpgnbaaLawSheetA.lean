/- TreeSheet: the area of a strip is the difference of two lower ones within the rounding: the walks. -/
import Derived.Test.YtajbflepjpgnbaaLaws
import Derived.Test.YtajbflepjpgnbaaAreaOf
namespace Go.Proofs.Ytajbflepjpgnbaa
open Go.RowKit Go.Shelf

set_option maxRecDepth 100000 in
set_option maxHeartbeats 8000000 in
theorem sheet_walk (age rest girth f0 f1 f2 heal : Int) (a : Option Addr) (n c : Nat) (which year height more hv : Int) (w : World) (ck : Int)
    (hw0 : 0 ≤ which) (hw1' : which ≤ 255)
    (pb qb rb pa qa ra pc qc rc gm gM rg : Int) (hH : height + 1 + more % 1000 = hv) (hlo : -9223372036854775808 ≤ height) (hhi : height + 1 + more % 1000 ≤ 9223372036854775807) (hmo0 : 0 ≤ more) (hmo1 : more ≤ 65535)
    (hcase : ck = 0 → 0 < (n : Int) → (¬ rb = 0 ∧ pb = 0 ∧ qb = 0) ∨ (rb = 0 ∧ height < 1 ∧ ra = 1) ∨ (rb = 0 ∧ ra = 0 ∧ rc = 0 ∧ rg = 0 ∧ 1 ≤ height ∧ height ≤ 15000 ∧ 0 ≤ hv - height ∧ hv ≤ 15000 ∧ 0 ≤ pa ∧ pa ≤ pb ∧ 0 ≤ pc ∧ pc ≤ 10000000 ∧ pb ≤ 10000000 ∧ 0 ≤ qa ∧ qa ≤ qb ∧ 0 ≤ qc ∧ qc ≤ 10000000 ∧ qb ≤ 10000000 ∧ pa + pc ≤ pb ∧ pb ≤ pa + pc + 1 ∧ qb ≤ qa + qc ∧ qa + qc - 1 ≤ qb ∧ pb ≤ qb ∧ 0 ≤ gm * hv ∧ gm * hv ≤ 1000000000 ∧ 0 ≤ gM * hv ∧ gM * hv ≤ 1000000000 ∧ pb * 100 ≤ gm * hv ∧ gm * hv < pb * 100 + 100 ∧ gM * hv ≤ qb * 100 ∧ qb * 100 < gM * hv + 100))
    (hGreat : ∀ W, Below w.heap.size w W → Calls Try.prog 14 #[.agg #[.int .i64 age, .int .i64 rest, .int .i64 girth, .int .i64 f0, .int .i64 f1, .int .i64 f2, .int .i64 heal, .slice a n c]] W (SomeBool W))
    (hCheck : ∀ W, Below w.heap.size w W → Calls Try.prog 19 #[.agg #[.int .i64 age, .int .i64 rest, .int .i64 girth, .int .i64 f0, .int .i64 f1, .int .i64 f2, .int .i64 heal, .slice a n c]] W fun e w' => e = .returned (.int .i64 ck) ∧ Below W.heap.size W w')
    (hA1 : ∀ W, Below w.heap.size w W → Calls Try.prog 24 #[.agg #[.int .i64 age, .int .i64 rest, .int .i64 girth, .int .i64 f0, .int .i64 f1, .int .i64 f2, .int .i64 heal, .slice a n c], .int .i64 (which % (n : Int)), .int .i64 year, .int .i64 hv] W fun e' w' => e' = .returned (.tuple #[.agg #[.int .i64 pb, .int .i64 qb], .int .i64 rb]) ∧ Below W.heap.size W w')
    (hA2 : ∀ W, Below w.heap.size w W → Calls Try.prog 24 #[.agg #[.int .i64 age, .int .i64 rest, .int .i64 girth, .int .i64 f0, .int .i64 f1, .int .i64 f2, .int .i64 heal, .slice a n c], .int .i64 (which % (n : Int)), .int .i64 year, .int .i64 height] W fun e' w' => e' = .returned (.tuple #[.agg #[.int .i64 pa, .int .i64 qa], .int .i64 ra]) ∧ Below W.heap.size W w')
    (hA3 : ∀ W, Below w.heap.size w W → Calls Try.prog 24 #[.agg #[.int .i64 age, .int .i64 rest, .int .i64 girth, .int .i64 f0, .int .i64 f1, .int .i64 f2, .int .i64 heal, .slice a n c], .int .i64 (which % (n : Int)), .int .i64 year, .int .i64 (hv - height)] W fun e' w' => e' = .returned (.tuple #[.agg #[.int .i64 pc, .int .i64 qc], .int .i64 rc]) ∧ Below W.heap.size W w')
    (hG : ∀ W, Below w.heap.size w W → Calls Try.prog 16 #[.agg #[.int .i64 age, .int .i64 rest, .int .i64 girth, .int .i64 f0, .int .i64 f1, .int .i64 f2, .int .i64 heal, .slice a n c], .int .i64 (which % (n : Int)), .int .i64 year] W fun e' w' => e' = .returned (.tuple #[.agg #[.int .i64 gm, .int .i64 gM], .int .i64 rg]) ∧ Below W.heap.size W w') :
    Calls Try.prog 13 #[.agg #[.int .i64 age, .int .i64 rest, .int .i64 girth, .int .i64 f0, .int .i64 f1, .int .i64 f2, .int .i64 heal, .slice a n c], .int .u8 which, .int .i64 year, .int .i64 height, .int .u16 more] w fun e w' => e = .returned (.bool true) ∧ Below w.heap.size w w' := by
  have HGreat := Lib.hid hGreat; clear hGreat
  have HCheck := Lib.hid hCheck; clear hCheck
  have hB0 := Lib.hid (show Below w.heap.size w (w.alloc (.cells #[.int .i64 age, .int .i64 rest, .int .i64 girth, .int .i64 f0, .int .i64 f1, .int .i64 f2, .int .i64 heal, .slice a n c] 27)) from (Below.refl _ _).alloc (Nat.le_refl _) _)
  have K0 := Lib.hid (boxed_new w ⟨age, rest, girth, f0, f1, f2, heal⟩ a n c)
  go_enter Try.func13, Try.ntmps13
  go_wp2_with fail
  refine (HGreat.out _ hB0.out).mono ?_
  rintro e w1 ⟨b, rfl, hw1⟩
  have hB1 := hB0.out.trans (hw1.mono hB0.out.size)
  have X1 := Lib.hid (K0.out.below hw1 (by simp))
  have hz1 : w.heap.size < w1.heap.size := by have := hw1.size; simp at this; omega
  clear K0 hB0 hw1
  cases b
  · obtain ⟨g0, g1, g2, g3, g4, g5, g6, g7⟩ := X1.out
    dsimp only at g0 g1 g2 g3 g4 g5 g6
    go_wp2_with fail
    refine (HCheck.out _ hB1).mono ?_
    rintro e w2 ⟨rfl, hw2⟩
    clear g0 g1 g2 g3 g4 g5 g6 g7
    have hB2 := hB1.trans (hw2.mono hB1.size)
    have hz2 : w.heap.size < w2.heap.size := Nat.lt_of_lt_of_le hz1 hw2.size
    have X2 := Lib.hid (X1.out.below hw2 hz1)
    clear hw2 X1
    by_cases hck : ck = 0
    · subst hck
      obtain ⟨g0, g1, g2, g3, g4, g5, g6, g7⟩ := X2.out
      dsimp only at g0 g1 g2 g3 g4 g5 g6
      by_cases hn0 : n = 0
      · subst hn0
        go_wp2_with fail
        refine (grows_calls _).mono ?_
        rintro e w3 ⟨rfl, hw3⟩
        go_wp2
        go_ret
        exact ⟨rfl, hB2.trans (hw3.mono hB2.size)⟩
      · have hn1 : (0 : Int) < (n : Int) := by omega
        have hnb : ((n : Int) == 0) = false := by simp; omega
        have HA1 := Lib.hid hA1; clear hA1
        have HA2 := Lib.hid hA2; clear hA2
        have HA3 := Lib.hid hA3; clear hA3
        have HG := Lib.hid hG; clear hG
        have HC := Lib.hid (hcase rfl hn1); clear hcase
        have hm0 : 0 ≤ more % 1000 := by omega
        have hm1 : more % 1000 < 1000 := by omega
        go_wp2_with fail
        refine (HA1.out _ hB2).mono ?_
        rintro e w3 ⟨rfl, hw3⟩
        clear g0 g1 g2 g3 g4 g5 g6 g7
        have hB3 := hB2.trans (hw3.mono hB2.size)
        have hz3 : w.heap.size < w3.heap.size := Nat.lt_of_lt_of_le hz2 hw3.size
        have X3 := Lib.hid (X2.out.below hw3 hz2)
        clear hw3
        obtain ⟨g0, g1, g2, g3, g4, g5, g6, g7⟩ := X3.out
        dsimp only at g0 g1 g2 g3 g4 g5 g6
        rcases HC.out with ⟨he, rfl, rfl⟩ | ⟨rfl, hlow, rfl⟩ | ⟨rfl, rfl, rfl, rfl, hh0, hh1, hv0, hv1, hf⟩
        · have heb := bne_iff_ne.2 he
          clear he
          go_wp2_with fail
          refine (grows_calls _).mono ?_
          rintro e w4 ⟨rfl, hw4⟩
          have hB4 := hB3.alloc hB3.size (.cells #[.int .i64 0, .int .i64 0] 31)
          go_wp2
          go_ret
          exact ⟨rfl, hB4.trans (hw4.mono hB4.size)⟩
        · have dl : decide (height < 1) = true := decide_eq_true hlow
          go_wp2_with fail
          have hA3 : Below w3.heap.size w3 (w3.alloc (.cells #[.int .i64 pb, .int .i64 qb] 31)) := (Below.refl _ _).alloc (Nat.le_refl _) _
          have B3 : Blk (w3.alloc (.cells #[.int .i64 pb, .int .i64 qb] 31)) w3.heap.size 31 #[.int .i64 pb, .int .i64 qb] := Blk.new w3 _ _
          have hB3' := hB3.trans (hA3.mono hB3.size)
          refine (HA2.out _ hB3').mono ?_
          rintro e w4 ⟨rfl, hw4⟩
          clear g0 g1 g2 g3 g4 g5 g6 g7
          have hB4 := hB3'.trans (hw4.mono hB3'.size)
          have hz4 : w.heap.size < w4.heap.size := Nat.lt_of_lt_of_le hz3 (Nat.le_trans hA3.size hw4.size)
          have X4 := Lib.hid ((X3.out.below hA3 hz3).below hw4 (Nat.lt_of_lt_of_le hz3 hA3.size))
          have B4 := B3.below hw4 B3.lt
          clear hw4 hA3 B3 hB3'
          obtain ⟨g0, g1, g2, g3, g4, g5, g6, g7⟩ := X4.out
          dsimp only at g0 g1 g2 g3 g4 g5 g6
          go_wp2_with fail
          have hB5 := hB4.alloc hB4.size (.cells #[.int .i64 pa, .int .i64 qa] 31)
          refine (grows_calls _).mono ?_
          rintro e w5 ⟨rfl, hw5⟩
          go_wp2
          go_ret
          exact ⟨rfl, hB5.trans (hw5.mono hB5.size)⟩
        · have dl : decide (height < 1) = false := decide_eq_false (by omega)
          obtain ⟨k0, k1, k2, k3, k4, k5, k6, k7, k8, k9, k10, k11, k12, k13, k14, k15, k16, k17, k18, k19, k20, k21, k22⟩ := hf
          have d0 : decide (pb < pa) = false := decide_eq_false (by omega)
          have d1 : decide (qb < qa) = false := decide_eq_false (by omega)
          have d2 : decide (pb < pa + pc) = false := decide_eq_false (by omega)
          have d3 : decide (pa + pc + 1 < pb) = false := decide_eq_false (by omega)
          have d4 : decide (qa + qc < qb) = false := decide_eq_false (by omega)
          have d5 : decide (qb < qa + qc - 1) = false := decide_eq_false (by omega)
          have d6 : decide (pb ≤ qb) = true := decide_eq_true (by omega)
          have d7 : decide (pb * 100 ≤ gm * hv) = true := decide_eq_true (by omega)
          have d8 : decide (gm * hv < pb * 100 + 100) = true := decide_eq_true (by omega)
          have d9 : decide (gM * hv ≤ qb * 100) = true := decide_eq_true (by omega)
          have d10 : decide (qb * 100 < gM * hv + 100) = true := decide_eq_true (by omega)
          go_wp2_with fail
          have hA3 : Below w3.heap.size w3 (w3.alloc (.cells #[.int .i64 pb, .int .i64 qb] 31)) := (Below.refl _ _).alloc (Nat.le_refl _) _
          have B3 : Blk (w3.alloc (.cells #[.int .i64 pb, .int .i64 qb] 31)) w3.heap.size 31 #[.int .i64 pb, .int .i64 qb] := Blk.new w3 _ _
          have hB3' := hB3.trans (hA3.mono hB3.size)
          refine (HA2.out _ hB3').mono ?_
          rintro e w4 ⟨rfl, hw4⟩
          clear g0 g1 g2 g3 g4 g5 g6 g7
          have hB4 := hB3'.trans (hw4.mono hB3'.size)
          have hz4 : w.heap.size < w4.heap.size := Nat.lt_of_lt_of_le hz3 (Nat.le_trans hA3.size hw4.size)
          have X4 := Lib.hid ((X3.out.below hA3 hz3).below hw4 (Nat.lt_of_lt_of_le hz3 hA3.size))
          have B4 := B3.below hw4 B3.lt
          clear hw4 hA3 B3 hB3'
          obtain ⟨g0, g1, g2, g3, g4, g5, g6, g7⟩ := X4.out
          dsimp only at g0 g1 g2 g3 g4 g5 g6
          go_wp2_with fail
          have hA4 : Below w4.heap.size w4 (w4.alloc (.cells #[.int .i64 pa, .int .i64 qa] 31)) := (Below.refl _ _).alloc (Nat.le_refl _) _
          have A4 : Blk (w4.alloc (.cells #[.int .i64 pa, .int .i64 qa] 31)) w4.heap.size 31 #[.int .i64 pa, .int .i64 qa] := Blk.new w4 _ _
          have hB4' := hB4.trans (hA4.mono hB4.size)
          refine (HA3.out _ hB4').mono ?_
          rintro e w5 ⟨rfl, hw5⟩
          clear g0 g1 g2 g3 g4 g5 g6 g7
          have hB5 := hB4'.trans (hw5.mono hB4'.size)
          have hz5 : w.heap.size < w5.heap.size := Nat.lt_of_lt_of_le hz4 (Nat.le_trans hA4.size hw5.size)
          have X5 := Lib.hid ((X4.out.below hA4 hz4).below hw5 (Nat.lt_of_lt_of_le hz4 hA4.size))
          have A5 := A4.below hw5 A4.lt
          have B5 := (B4.below hA4 B4.lt).below hw5 (Nat.lt_of_lt_of_le B4.lt hA4.size)
          clear hw5 hA4 A4 hB4'
          obtain ⟨g0, g1, g2, g3, g4, g5, g6, g7⟩ := X5.out
          dsimp only at g0 g1 g2 g3 g4 g5 g6
          have b0 := B5.cell 0
          have b1 := B5.cell 1
          have a0 := A5.cell 0
          have a1 := A5.cell 1
          simp only [List.getElem?_toArray, List.getElem?_cons_zero, List.getElem?_cons_succ] at b0 b1 a0 a1
          have zB := B5.lt
          have zA := A5.lt
          have nB : w3.heap.size ≠ w5.heap.size := by omega
          have nA : w4.heap.size ≠ w5.heap.size := by omega
          go_wp2_with fail
          have hA5 : Below w5.heap.size w5 (w5.alloc (.cells #[.int .i64 pc, .int .i64 qc] 31)) := (Below.refl _ _).alloc (Nat.le_refl _) _
          have hB5' := hB5.trans (hA5.mono hB5.size)
          refine (HG.out _ hB5').mono ?_
          rintro e w6 ⟨rfl, hw6⟩
          clear g0 g1 g2 g3 g4 g5 g6 g7 b0 b1 a0 a1 nA zA
          have hB6 := hB5'.trans (hw6.mono hB5'.size)
          have B6 := (B5.below hA5 B5.lt).below hw6 (Nat.lt_of_lt_of_le B5.lt hA5.size)
          clear hw6 hA5 hB5'
          have b0 := B6.cell 0
          have b1 := B6.cell 1
          simp only [List.getElem?_toArray, List.getElem?_cons_zero, List.getElem?_cons_succ] at b0 b1
          have zB2 := B6.lt
          have nB2 : w3.heap.size ≠ w6.heap.size := by omega
          go_wp2_with fail
          have hB7 := hB6.alloc hB6.size (.cells #[.int .i64 gm, .int .i64 gM] 31)
          refine (grows_calls _).mono ?_
          rintro e w7 ⟨rfl, hw7⟩
          go_wp2
          go_ret
          exact ⟨rfl, hB7.trans (hw7.mono hB7.size)⟩
    · have hckb : (ck != 0) = true := by simpa using hck
      clear hck hcase
      go_wp2_with fail
      refine (grows_calls _).mono ?_
      rintro e w3 ⟨rfl, hw3⟩
      go_wp2
      go_ret
      exact ⟨rfl, hB2.trans (hw3.mono hB2.size)⟩
  · go_wp2_with fail
    refine (grows_calls _).mono ?_
    rintro e w2 ⟨rfl, hw2⟩
    go_wp2
    go_ret
    exact ⟨rfl, hB1.trans (hw2.mono hB1.size)⟩

set_option maxRecDepth 100000 in
set_option maxHeartbeats 8000000 in
theorem sheet_top (age rest girth f0 f1 f2 heal : Int) (a : Option Addr) (n c : Nat) (which year height more hv : Int) (w : World) (ck : Int)
    (hw0 : 0 ≤ which) (hw1' : which ≤ 255)
    (pb qb rb : Int) (hH : wrap64 (wrap64 (height + 1) + more % 1000) = hv) (hmo0 : 0 ≤ more) (hmo1 : more ≤ 65535)
    (hcase : ck = 0 → 0 < (n : Int) → (¬ rb = 0 ∧ pb = 0 ∧ qb = 0))
    (hGreat : ∀ W, Below w.heap.size w W → Calls Try.prog 14 #[.agg #[.int .i64 age, .int .i64 rest, .int .i64 girth, .int .i64 f0, .int .i64 f1, .int .i64 f2, .int .i64 heal, .slice a n c]] W (SomeBool W))
    (hCheck : ∀ W, Below w.heap.size w W → Calls Try.prog 19 #[.agg #[.int .i64 age, .int .i64 rest, .int .i64 girth, .int .i64 f0, .int .i64 f1, .int .i64 f2, .int .i64 heal, .slice a n c]] W fun e w' => e = .returned (.int .i64 ck) ∧ Below W.heap.size W w')
    (hA1 : ∀ W, Below w.heap.size w W → Calls Try.prog 24 #[.agg #[.int .i64 age, .int .i64 rest, .int .i64 girth, .int .i64 f0, .int .i64 f1, .int .i64 f2, .int .i64 heal, .slice a n c], .int .i64 (which % (n : Int)), .int .i64 year, .int .i64 hv] W fun e' w' => e' = .returned (.tuple #[.agg #[.int .i64 pb, .int .i64 qb], .int .i64 rb]) ∧ Below W.heap.size W w') :
    Calls Try.prog 13 #[.agg #[.int .i64 age, .int .i64 rest, .int .i64 girth, .int .i64 f0, .int .i64 f1, .int .i64 f2, .int .i64 heal, .slice a n c], .int .u8 which, .int .i64 year, .int .i64 height, .int .u16 more] w fun e w' => e = .returned (.bool true) ∧ Below w.heap.size w w' := by
  have HGreat := Lib.hid hGreat; clear hGreat
  have HCheck := Lib.hid hCheck; clear hCheck
  have hB0 := Lib.hid (show Below w.heap.size w (w.alloc (.cells #[.int .i64 age, .int .i64 rest, .int .i64 girth, .int .i64 f0, .int .i64 f1, .int .i64 f2, .int .i64 heal, .slice a n c] 27)) from (Below.refl _ _).alloc (Nat.le_refl _) _)
  have K0 := Lib.hid (boxed_new w ⟨age, rest, girth, f0, f1, f2, heal⟩ a n c)
  go_enter Try.func13, Try.ntmps13
  go_wp2_with fail
  refine (HGreat.out _ hB0.out).mono ?_
  rintro e w1 ⟨b, rfl, hw1⟩
  have hB1 := hB0.out.trans (hw1.mono hB0.out.size)
  have X1 := Lib.hid (K0.out.below hw1 (by simp))
  have hz1 : w.heap.size < w1.heap.size := by have := hw1.size; simp at this; omega
  clear K0 hB0 hw1
  cases b
  · obtain ⟨g0, g1, g2, g3, g4, g5, g6, g7⟩ := X1.out
    dsimp only at g0 g1 g2 g3 g4 g5 g6
    go_wp2_with fail
    refine (HCheck.out _ hB1).mono ?_
    rintro e w2 ⟨rfl, hw2⟩
    clear g0 g1 g2 g3 g4 g5 g6 g7
    have hB2 := hB1.trans (hw2.mono hB1.size)
    have hz2 : w.heap.size < w2.heap.size := Nat.lt_of_lt_of_le hz1 hw2.size
    have X2 := Lib.hid (X1.out.below hw2 hz1)
    clear hw2 X1
    by_cases hck : ck = 0
    · subst hck
      obtain ⟨g0, g1, g2, g3, g4, g5, g6, g7⟩ := X2.out
      dsimp only at g0 g1 g2 g3 g4 g5 g6
      by_cases hn0 : n = 0
      · subst hn0
        go_wp2_with fail
        refine (grows_calls _).mono ?_
        rintro e w3 ⟨rfl, hw3⟩
        go_wp2
        go_ret
        exact ⟨rfl, hB2.trans (hw3.mono hB2.size)⟩
      · have hn1 : (0 : Int) < (n : Int) := by omega
        have hnb : ((n : Int) == 0) = false := by simp; omega
        have HA1 := Lib.hid hA1; clear hA1
        have HC := Lib.hid (hcase rfl hn1); clear hcase
        have hm0 : 0 ≤ more % 1000 := by omega
        have hm1 : more % 1000 < 1000 := by omega
        go_wp2_with fail
        refine (HA1.out _ hB2).mono ?_
        rintro e w3 ⟨rfl, hw3⟩
        clear g0 g1 g2 g3 g4 g5 g6 g7
        have hB3 := hB2.trans (hw3.mono hB2.size)
        have hz3 : w.heap.size < w3.heap.size := Nat.lt_of_lt_of_le hz2 hw3.size
        have X3 := Lib.hid (X2.out.below hw3 hz2)
        clear hw3
        obtain ⟨g0, g1, g2, g3, g4, g5, g6, g7⟩ := X3.out
        dsimp only at g0 g1 g2 g3 g4 g5 g6
        obtain ⟨he, rfl, rfl⟩ := HC.out
        have heb := bne_iff_ne.2 he
        clear he
        go_wp2_with fail
        refine (grows_calls _).mono ?_
        rintro e w4 ⟨rfl, hw4⟩
        have hB4 := hB3.alloc hB3.size (.cells #[.int .i64 0, .int .i64 0] 31)
        go_wp2
        go_ret
        exact ⟨rfl, hB4.trans (hw4.mono hB4.size)⟩
    · have hckb : (ck != 0) = true := by simpa using hck
      clear hck hcase
      go_wp2_with fail
      refine (grows_calls _).mono ?_
      rintro e w3 ⟨rfl, hw3⟩
      go_wp2
      go_ret
      exact ⟨rfl, hB2.trans (hw3.mono hB2.size)⟩
  · go_wp2_with fail
    refine (grows_calls _).mono ?_
    rintro e w2 ⟨rfl, hw2⟩
    go_wp2
    go_ret
    exact ⟨rfl, hB1.trans (hw2.mono hB1.size)⟩

set_option maxRecDepth 100000 in
set_option maxHeartbeats 8000000 in
theorem sheet_over (age rest girth f0 f1 f2 heal : Int) (a : Option Addr) (n c : Nat) (which year height more hv : Int) (w : World) (ck : Int)
    (hw0 : 0 ≤ which) (hw1' : which ≤ 255)
    (pb qb rb : Int) (hH : wrap64 (height + 1 + more % 1000) = hv) (hlo : -9223372036854775808 ≤ height) (hhi : height < 9223372036854775807) (hmo0 : 0 ≤ more) (hmo1 : more ≤ 65535)
    (hcase : ck = 0 → 0 < (n : Int) → (¬ rb = 0 ∧ pb = 0 ∧ qb = 0))
    (hGreat : ∀ W, Below w.heap.size w W → Calls Try.prog 14 #[.agg #[.int .i64 age, .int .i64 rest, .int .i64 girth, .int .i64 f0, .int .i64 f1, .int .i64 f2, .int .i64 heal, .slice a n c]] W (SomeBool W))
    (hCheck : ∀ W, Below w.heap.size w W → Calls Try.prog 19 #[.agg #[.int .i64 age, .int .i64 rest, .int .i64 girth, .int .i64 f0, .int .i64 f1, .int .i64 f2, .int .i64 heal, .slice a n c]] W fun e w' => e = .returned (.int .i64 ck) ∧ Below W.heap.size W w')
    (hA1 : ∀ W, Below w.heap.size w W → Calls Try.prog 24 #[.agg #[.int .i64 age, .int .i64 rest, .int .i64 girth, .int .i64 f0, .int .i64 f1, .int .i64 f2, .int .i64 heal, .slice a n c], .int .i64 (which % (n : Int)), .int .i64 year, .int .i64 hv] W fun e' w' => e' = .returned (.tuple #[.agg #[.int .i64 pb, .int .i64 qb], .int .i64 rb]) ∧ Below W.heap.size W w') :
    Calls Try.prog 13 #[.agg #[.int .i64 age, .int .i64 rest, .int .i64 girth, .int .i64 f0, .int .i64 f1, .int .i64 f2, .int .i64 heal, .slice a n c], .int .u8 which, .int .i64 year, .int .i64 height, .int .u16 more] w fun e w' => e = .returned (.bool true) ∧ Below w.heap.size w w' := by
  have HGreat := Lib.hid hGreat; clear hGreat
  have HCheck := Lib.hid hCheck; clear hCheck
  have hB0 := Lib.hid (show Below w.heap.size w (w.alloc (.cells #[.int .i64 age, .int .i64 rest, .int .i64 girth, .int .i64 f0, .int .i64 f1, .int .i64 f2, .int .i64 heal, .slice a n c] 27)) from (Below.refl _ _).alloc (Nat.le_refl _) _)
  have K0 := Lib.hid (boxed_new w ⟨age, rest, girth, f0, f1, f2, heal⟩ a n c)
  go_enter Try.func13, Try.ntmps13
  go_wp2_with fail
  refine (HGreat.out _ hB0.out).mono ?_
  rintro e w1 ⟨b, rfl, hw1⟩
  have hB1 := hB0.out.trans (hw1.mono hB0.out.size)
  have X1 := Lib.hid (K0.out.below hw1 (by simp))
  have hz1 : w.heap.size < w1.heap.size := by have := hw1.size; simp at this; omega
  clear K0 hB0 hw1
  cases b
  · obtain ⟨g0, g1, g2, g3, g4, g5, g6, g7⟩ := X1.out
    dsimp only at g0 g1 g2 g3 g4 g5 g6
    go_wp2_with fail
    refine (HCheck.out _ hB1).mono ?_
    rintro e w2 ⟨rfl, hw2⟩
    clear g0 g1 g2 g3 g4 g5 g6 g7
    have hB2 := hB1.trans (hw2.mono hB1.size)
    have hz2 : w.heap.size < w2.heap.size := Nat.lt_of_lt_of_le hz1 hw2.size
    have X2 := Lib.hid (X1.out.below hw2 hz1)
    clear hw2 X1
    by_cases hck : ck = 0
    · subst hck
      obtain ⟨g0, g1, g2, g3, g4, g5, g6, g7⟩ := X2.out
      dsimp only at g0 g1 g2 g3 g4 g5 g6
      by_cases hn0 : n = 0
      · subst hn0
        go_wp2_with fail
        refine (grows_calls _).mono ?_
        rintro e w3 ⟨rfl, hw3⟩
        go_wp2
        go_ret
        exact ⟨rfl, hB2.trans (hw3.mono hB2.size)⟩
      · have hn1 : (0 : Int) < (n : Int) := by omega
        have hnb : ((n : Int) == 0) = false := by simp; omega
        have HA1 := Lib.hid hA1; clear hA1
        have HC := Lib.hid (hcase rfl hn1); clear hcase
        have hm0 : 0 ≤ more % 1000 := by omega
        have hm1 : more % 1000 < 1000 := by omega
        go_wp2_with fail
        refine (HA1.out _ hB2).mono ?_
        rintro e w3 ⟨rfl, hw3⟩
        clear g0 g1 g2 g3 g4 g5 g6 g7
        have hB3 := hB2.trans (hw3.mono hB2.size)
        have hz3 : w.heap.size < w3.heap.size := Nat.lt_of_lt_of_le hz2 hw3.size
        have X3 := Lib.hid (X2.out.below hw3 hz2)
        clear hw3
        obtain ⟨g0, g1, g2, g3, g4, g5, g6, g7⟩ := X3.out
        dsimp only at g0 g1 g2 g3 g4 g5 g6
        obtain ⟨he, rfl, rfl⟩ := HC.out
        have heb := bne_iff_ne.2 he
        clear he
        go_wp2_with fail
        refine (grows_calls _).mono ?_
        rintro e w4 ⟨rfl, hw4⟩
        have hB4 := hB3.alloc hB3.size (.cells #[.int .i64 0, .int .i64 0] 31)
        go_wp2
        go_ret
        exact ⟨rfl, hB4.trans (hw4.mono hB4.size)⟩
    · have hckb : (ck != 0) = true := by simpa using hck
      clear hck hcase
      go_wp2_with fail
      refine (grows_calls _).mono ?_
      rintro e w3 ⟨rfl, hw3⟩
      go_wp2
      go_ret
      exact ⟨rfl, hB2.trans (hw3.mono hB2.size)⟩
  · go_wp2_with fail
    refine (grows_calls _).mono ?_
    rintro e w2 ⟨rfl, hw2⟩
    go_wp2
    go_ret
    exact ⟨rfl, hB1.trans (hw2.mono hB1.size)⟩
end Go.Proofs.Ytajbflepjpgnbaa
