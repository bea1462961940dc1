/- TreeLower: a lower strip is never worse than a higher one. -/
import Derived.Test.YtajbflepjpgnbaaRefHighest
namespace Go.Proofs.Ytajbflepjpgnbaa
open Go.RowKit Go.Shelf

set_option maxRecDepth 100000 in
set_option maxHeartbeats 8000000 in
theorem lower_walk (age rest girth f0 f1 f2 heal : Int) (a : Option Addr) (n c : Nat) (which year height lower : Int) (w : World) (ck v r e1 v2 r2 e2 s p e3 : Int)
    (hw0 : 0 ≤ which) (hw1' : which ≤ 255) (hi0 : 0 ≤ height) (hi1 : height ≤ 65535) (hl0 : 0 ≤ lower) (hl1 : lower ≤ 65535)
    (hcase : ck = 0 → 0 < (n : Int) → (¬ e1 = 0 ∧ e2 = e1 ∧ e3 = e1 ∧ s = 0 ∧ p = 0) ∨ (e1 = 0 ∧ e2 = 0 ∧ e3 = 0 ∧ s ≤ p ∧ ((v = 1 ∧ v2 = 1 ∧ (1 + height % 15000) ≤ s ∧ (1 + height % 15000) ≤ p) ∨ (v = 0 ∧ (v2 = 0 ∨ v2 = 1) ∧ s < (1 + height % 15000) ∧ (1 + height % 15000) ≤ p) ∨ (v = 2 ∧ (v2 = 0 ∨ v2 = 1 ∨ v2 = 2) ∧ s < (1 + height % 15000) ∧ p < (1 + height % 15000)))))
    (hGreat : ∀ W, Below w.heap.size w W → Calls Try.prog 14 #[.agg #[.int .i64 age, .int .i64 rest, .int .i64 girth, .int .i64 f0, .int .i64 f1, .int .i64 f2, .int .i64 heal, .slice a n c]] W (SomeBool W))
    (hCheck : ∀ W, Below w.heap.size w W → Calls Try.prog 19 #[.agg #[.int .i64 age, .int .i64 rest, .int .i64 girth, .int .i64 f0, .int .i64 f1, .int .i64 f2, .int .i64 heal, .slice a n c]] W fun e w' => e = .returned (.int .i64 ck) ∧ Below W.heap.size W w')
    (hM1 : ∀ W, Below w.heap.size w W → Calls Try.prog 20 #[.agg #[.int .i64 age, .int .i64 rest, .int .i64 girth, .int .i64 f0, .int .i64 f1, .int .i64 f2, .int .i64 heal, .slice a n c], .int .i64 (which % (n : Int)), .int .i64 year, .int .i64 (1 + height % 15000)] W fun e' w' => e' = .returned (.tuple #[.int .i64 v, .int .i64 r, .int .i64 e1]) ∧ Below W.heap.size W w')
    (hM2 : ∀ W, Below w.heap.size w W → Calls Try.prog 20 #[.agg #[.int .i64 age, .int .i64 rest, .int .i64 girth, .int .i64 f0, .int .i64 f1, .int .i64 f2, .int .i64 heal, .slice a n c], .int .i64 (which % (n : Int)), .int .i64 year, .int .i64 (1 + lower % (1 + height % 15000))] W fun e' w' => e' = .returned (.tuple #[.int .i64 v2, .int .i64 r2, .int .i64 e2]) ∧ Below W.heap.size W w')
    (hH : ∀ W, Below w.heap.size w W → Calls Try.prog 22 #[.agg #[.int .i64 age, .int .i64 rest, .int .i64 girth, .int .i64 f0, .int .i64 f1, .int .i64 f2, .int .i64 heal, .slice a n c], .int .i64 (which % (n : Int)), .int .i64 year] W fun e' w' => e' = .returned (.tuple #[.int .i64 s, .int .i64 p, .int .i64 e3]) ∧ Below W.heap.size W w') :
    Calls Try.prog 9 #[.agg #[.int .i64 age, .int .i64 rest, .int .i64 girth, .int .i64 f0, .int .i64 f1, .int .i64 f2, .int .i64 heal, .slice a n c], .int .u8 which, .int .i64 year, .int .u16 height, .int .u16 lower] w fun e w' => e = .returned (.bool true) ∧ Below w.heap.size w w' := by
  have HGreat := Lib.hid hGreat; clear hGreat
  have HCheck := Lib.hid hCheck; clear hCheck
  have hB0 := Lib.hid (show Below w.heap.size w (w.alloc (.cells #[.int .i64 age, .int .i64 rest, .int .i64 girth, .int .i64 f0, .int .i64 f1, .int .i64 f2, .int .i64 heal, .slice a n c] 27)) from (Below.refl _ _).alloc (Nat.le_refl _) _)
  have K0 := Lib.hid (boxed_new w ⟨age, rest, girth, f0, f1, f2, heal⟩ a n c)
  go_enter Try.func9, Try.ntmps9
  go_wp2_with fail
  refine (HGreat.out _ hB0.out).mono ?_
  rintro e w1 ⟨b, rfl, hw1⟩
  have hB1 := hB0.out.trans (hw1.mono hB0.out.size)
  have X1 := Lib.hid (K0.out.below hw1 (by simp))
  have hz1 : w.heap.size < w1.heap.size := by have := hw1.size; simp at this; omega
  clear K0 hB0 hw1
  cases b
  · obtain ⟨g0, g1, g2, g3, g4, g5, g6, g7⟩ := X1.out
    dsimp only at g0 g1 g2 g3 g4 g5 g6
    go_wp2_with fail
    refine (HCheck.out _ hB1).mono ?_
    rintro e w2 ⟨rfl, hw2⟩
    clear g0 g1 g2 g3 g4 g5 g6 g7
    have hB2 := hB1.trans (hw2.mono hB1.size)
    have hz2 : w.heap.size < w2.heap.size := Nat.lt_of_lt_of_le hz1 hw2.size
    have X2 := Lib.hid (X1.out.below hw2 hz1)
    clear hw2 X1
    by_cases hck : ck = 0
    · subst hck
      obtain ⟨g0, g1, g2, g3, g4, g5, g6, g7⟩ := X2.out
      dsimp only at g0 g1 g2 g3 g4 g5 g6
      by_cases hn0 : n = 0
      · subst hn0
        go_wp2_with fail
        refine (grows_calls _).mono ?_
        rintro e w3 ⟨rfl, hw3⟩
        go_wp2
        go_ret
        exact ⟨rfl, hB2.trans (hw3.mono hB2.size)⟩
      · have hn1 : (0 : Int) < (n : Int) := by omega
        have hnb : ((n : Int) == 0) = false := by simp; omega
        have HC := Lib.hid (hcase rfl hn1)
        clear hcase
        have HM1 := Lib.hid hM1; clear hM1
        have HM2 := Lib.hid hM2; clear hM2
        have HH := Lib.hid hH; clear hH
        have hh0 : 0 ≤ height % 15000 := by omega
        have hh1 : height % 15000 < 15000 := by omega
        have hm0 : 0 ≤ lower % (1 + height % 15000) := Int.emod_nonneg _ (by omega)
        have hm1 : lower % (1 + height % 15000) ≤ 15000 := by have := Int.emod_lt_of_pos lower (show 0 < 1 + height % 15000 by omega); omega
        go_wp2_with fail
        refine (HM1.out _ hB2).mono ?_
        rintro e w3 ⟨rfl, hw3⟩
        clear g0 g1 g2 g3 g4 g5 g6 g7
        have hB3 := hB2.trans (hw3.mono hB2.size)
        have hz3 : w.heap.size < w3.heap.size := Nat.lt_of_lt_of_le hz2 hw3.size
        have X3 := Lib.hid (X2.out.below hw3 hz2)
        clear hw3
        obtain ⟨g0, g1, g2, g3, g4, g5, g6, g7⟩ := X3.out
        dsimp only at g0 g1 g2 g3 g4 g5 g6
        go_wp2_with fail
        refine (HM2.out _ hB3).mono ?_
        rintro e w4 ⟨rfl, hw4⟩
        clear g0 g1 g2 g3 g4 g5 g6 g7
        have hB4 := hB3.trans (hw4.mono hB3.size)
        have hz4 : w.heap.size < w4.heap.size := Nat.lt_of_lt_of_le hz3 hw4.size
        have X4 := Lib.hid (X3.out.below hw4 hz3)
        clear hw4
        obtain ⟨g0, g1, g2, g3, g4, g5, g6, g7⟩ := X4.out
        dsimp only at g0 g1 g2 g3 g4 g5 g6
        go_wp2_with fail
        refine (HH.out _ hB4).mono ?_
        rintro e w5 ⟨rfl, hw5⟩
        clear g0 g1 g2 g3 g4 g5 g6 g7
        have hB5 := hB4.trans (hw5.mono hB4.size)
        have hz5 : w.heap.size < w5.heap.size := Nat.lt_of_lt_of_le hz4 hw5.size
        have X5 := Lib.hid (X4.out.below hw5 hz4)
        clear hw5
        rcases HC.out with ⟨he, rfl, rfl, rfl, rfl⟩ | ⟨rfl, rfl, rfl, hsp, hv⟩
        · have heb := bne_iff_ne.2 he
          clear he
          go_wp2_with fail
          refine (grows_calls _).mono ?_
          rintro e w6 ⟨rfl, hw6⟩
          go_wp2
          go_ret
          exact ⟨rfl, hB5.trans (hw6.mono hB5.size)⟩
        · rcases hv with ⟨rfl, rfl, q1, q2⟩ | ⟨rfl, hv2, q1, q2⟩ | ⟨rfl, hv2, q1, q2⟩
          · have d1 : decide ((1 + height % 15000) ≤ s) = true := decide_eq_true q1
            have d2 : decide ((1 + height % 15000) ≤ p) = true := decide_eq_true q2
            go_wp2_with fail
            refine (grows_calls _).mono ?_
            rintro e w6 ⟨rfl, hw6⟩
            go_wp2
            go_ret
            exact ⟨rfl, hB5.trans (hw6.mono hB5.size)⟩
          · have d1 : decide ((1 + height % 15000) ≤ s) = false := decide_eq_false (by omega)
            have d2 : decide ((1 + height % 15000) ≤ p) = true := decide_eq_true q2
            rcases hv2 with rfl | rfl
            · go_wp2_with fail
              refine (grows_calls _).mono ?_
              rintro e w6 ⟨rfl, hw6⟩
              go_wp2
              go_ret
              exact ⟨rfl, hB5.trans (hw6.mono hB5.size)⟩
            · go_wp2_with fail
              refine (grows_calls _).mono ?_
              rintro e w6 ⟨rfl, hw6⟩
              go_wp2
              go_ret
              exact ⟨rfl, hB5.trans (hw6.mono hB5.size)⟩
          · have d1 : decide ((1 + height % 15000) ≤ s) = false := decide_eq_false (by omega)
            have d2 : decide ((1 + height % 15000) ≤ p) = false := decide_eq_false (by omega)
            rcases hv2 with rfl | rfl | rfl
            · go_wp2_with fail
              refine (grows_calls _).mono ?_
              rintro e w6 ⟨rfl, hw6⟩
              go_wp2
              go_ret
              exact ⟨rfl, hB5.trans (hw6.mono hB5.size)⟩
            · go_wp2_with fail
              refine (grows_calls _).mono ?_
              rintro e w6 ⟨rfl, hw6⟩
              go_wp2
              go_ret
              exact ⟨rfl, hB5.trans (hw6.mono hB5.size)⟩
            · go_wp2_with fail
              refine (grows_calls _).mono ?_
              rintro e w6 ⟨rfl, hw6⟩
              go_wp2
              go_ret
              exact ⟨rfl, hB5.trans (hw6.mono hB5.size)⟩
    · have hckb : (ck != 0) = true := by simpa using hck
      clear hck hcase
      go_wp2_with fail
      refine (grows_calls _).mono ?_
      rintro e w3 ⟨rfl, hw3⟩
      go_wp2
      go_ret
      exact ⟨rfl, hB2.trans (hw3.mono hB2.size)⟩
  · go_wp2_with fail
    refine (grows_calls _).mono ?_
    rintro e w2 ⟨rfl, hw2⟩
    go_wp2
    go_ret
    exact ⟨rfl, hB1.trans (hw2.mono hB1.size)⟩

/-- A question about a forest that is in order. -/
theorem ask_in (f : Forest) (K y h : Int) (hf : checkForest f = 0) (hK0 : 0 ≤ K) (hK1 : K < f.trees.length) : askErr f K y h = if inB y 0 300 && inB h 1 15000 then 0 else 1 := by
  unfold askErr
  rw [if_pos hf, if_pos ⟨hK0, hK1⟩]

theorem lower_calls (f : Forest) (which year height lower : Int) (w : World) (h : TreesHeld w.heap.size w f.tv f.trees) (hw : 0 ≤ which ∧ which ≤ 255) (hh : 0 ≤ height ∧ height ≤ 65535) (hl : 0 ≤ lower ∧ lower ≤ 65535) :
    Calls Try.prog 9 #[.agg f.cells.toArray, .int .u8 which, .int .i64 year, .int .u16 height, .int .u16 lower] w fun e w' => e = .returned (.bool true) ∧ Below w.heap.size w w' := by
  have h1 := fun W (hW : Below w.heap.size w W) => great_calls f W (h.at hW)
  have h2 := fun W (hW : Below w.heap.size w W) => refForest_calls f W (h.at hW)
  have h3 := fun W (hW : Below w.heap.size w W) => may_calls f (which % (f.trees.length : Int)) year (1 + height % 15000) W (h.at hW)
  have h4 := fun W (hW : Below w.heap.size w W) => may_calls f (which % (f.trees.length : Int)) year (1 + lower % (1 + height % 15000)) W (h.at hW)
  have h5 := fun W (hW : Below w.heap.size w W) => highestOf_calls f (which % (f.trees.length : Int)) year W (h.at hW)
  have hh0 : 0 ≤ height % 15000 := Int.emod_nonneg _ (by omega)
  have hh1 : height % 15000 < 15000 := Int.emod_lt_of_pos _ (by omega)
  have hm0 : 0 ≤ lower % (1 + height % 15000) := Int.emod_nonneg _ (by omega)
  have hm1 : lower % (1 + height % 15000) < 1 + height % 15000 := Int.emod_lt_of_pos _ (by omega)
  have hcase : checkForest f = 0 → 0 < (f.trees.length : Int) → (¬ (mayOf f (which % (f.trees.length : Int)) year (1 + height % 15000)).2.2 = 0 ∧ (mayOf f (which % (f.trees.length : Int)) year (1 + lower % (1 + height % 15000))).2.2 = (mayOf f (which % (f.trees.length : Int)) year (1 + height % 15000)).2.2 ∧ (highestOf f (which % (f.trees.length : Int)) year).2.2 = (mayOf f (which % (f.trees.length : Int)) year (1 + height % 15000)).2.2 ∧ (highestOf f (which % (f.trees.length : Int)) year).1 = 0 ∧ (highestOf f (which % (f.trees.length : Int)) year).2.1 = 0) ∨
      ((mayOf f (which % (f.trees.length : Int)) year (1 + height % 15000)).2.2 = 0 ∧ (mayOf f (which % (f.trees.length : Int)) year (1 + lower % (1 + height % 15000))).2.2 = 0 ∧ (highestOf f (which % (f.trees.length : Int)) year).2.2 = 0 ∧ (highestOf f (which % (f.trees.length : Int)) year).1 ≤ (highestOf f (which % (f.trees.length : Int)) year).2.1 ∧
        (((mayOf f (which % (f.trees.length : Int)) year (1 + height % 15000)).1 = 1 ∧ (mayOf f (which % (f.trees.length : Int)) year (1 + lower % (1 + height % 15000))).1 = 1 ∧ 1 + height % 15000 ≤ (highestOf f (which % (f.trees.length : Int)) year).1 ∧ 1 + height % 15000 ≤ (highestOf f (which % (f.trees.length : Int)) year).2.1) ∨
        ((mayOf f (which % (f.trees.length : Int)) year (1 + height % 15000)).1 = 0 ∧ ((mayOf f (which % (f.trees.length : Int)) year (1 + lower % (1 + height % 15000))).1 = 0 ∨ (mayOf f (which % (f.trees.length : Int)) year (1 + lower % (1 + height % 15000))).1 = 1) ∧ (highestOf f (which % (f.trees.length : Int)) year).1 < 1 + height % 15000 ∧ 1 + height % 15000 ≤ (highestOf f (which % (f.trees.length : Int)) year).2.1) ∨
        ((mayOf f (which % (f.trees.length : Int)) year (1 + height % 15000)).1 = 2 ∧ ((mayOf f (which % (f.trees.length : Int)) year (1 + lower % (1 + height % 15000))).1 = 0 ∨ (mayOf f (which % (f.trees.length : Int)) year (1 + lower % (1 + height % 15000))).1 = 1 ∨ (mayOf f (which % (f.trees.length : Int)) year (1 + lower % (1 + height % 15000))).1 = 2) ∧ (highestOf f (which % (f.trees.length : Int)) year).1 < 1 + height % 15000 ∧ (highestOf f (which % (f.trees.length : Int)) year).2.1 < 1 + height % 15000))) := by
    intro hf hn
    have hK0 : 0 ≤ which % (f.trees.length : Int) := Int.emod_nonneg _ (by omega)
    have hK1 : which % (f.trees.length : Int) < (f.trees.length : Int) := Int.emod_lt_of_pos _ hn
    generalize which % (f.trees.length : Int) = K at hK0 hK1 ⊢
    generalize hHd : 1 + height % 15000 = H at hm0 hm1 ⊢
    generalize hLd : 1 + lower % H = L
    have bH : 1 ≤ H ∧ H ≤ 15000 := by omega
    have bL : 1 ≤ L ∧ L ≤ H := by omega
    unfold mayOf highestOf
    cases hy : inB year 0 300
    · have a1 : ∀ h, askErr f K year h = 1 := fun h => by rw [ask_in f K year h hf hK0 hK1, hy]; rfl
      refine .inl ?_
      simp [a1]
    · have a0 : ∀ h, 1 ≤ h → h ≤ 15000 → askErr f K year h = 0 := fun h h0 h1 => by rw [ask_in f K year h hf hK0 hK1, hy, inB_iff.2 ⟨h0, h1⟩]; rfl
      rw [a0 H bH.1 bH.2, a0 L bL.1 (by omega), a0 1 (by omega) (by omega)]
      simp only [if_true]
      refine .inr ⟨trivial, trivial, trivial, ?_⟩
      have hk := asked_of f K year 1 w h (a0 1 (by omega) (by omega))
      obtain ⟨s0, s1, _⟩ := sides f.law f.trees[K.toNat]! year hk.law hk.fine hk.year0 hk.year1
      have eS := fun x hx0 hx1 => sureHeight_iff f.law f.trees[K.toNat]! year s0 x hx0 hx1
      have eO := fun x hx0 hx1 => openHeight_iff f.law f.trees[K.toNat]! year (by omega) s1 x hx0 hx1
      have bS := sureHeight_bounds f.law f.trees[K.toNat]! year s0
      have bO := openHeight_bounds f.law f.trees[K.toNat]! year (by omega)
      have rng := fun x => verdict_range f.law f.trees[K.toNat]! year x
      generalize f.trees[K.toNat]! = t at *
      generalize sureHeight f.law t year = s at *
      generalize openHeight f.law t year = p at *
      have hsp : s ≤ p := by
        by_cases hz : 1 ≤ s
        · have := (eS s hz bS.2).2 (Int.le_refl _)
          exact (eO s hz bS.2).1 (by rw [this]; decide)
        · omega
      refine ⟨hsp, ?_⟩
      have eSH := eS H bH.1 bH.2
      have eOH := eO H bH.1 bH.2
      have eSL := eS L bL.1 (by omega)
      have eOL := eO L bL.1 (by omega)
      have rH := rng H
      have rL := rng L
      generalize (verdictOn f.law t year H).1 = v at *
      generalize (verdictOn f.law t year L).1 = v2 at *
      rcases rH with h | h | h
      · have n1 : ¬ v = 1 := by rw [h]; decide
        have n2 : v ≠ 2 := by rw [h]; decide
        have q1 := mt eSH.2 n1
        have q2 := eOH.1 n2
        have q3 := eOL.2 (by omega)
        refine .inr (.inl ⟨h, ?_, by omega, q2⟩)
        rcases rL with h | h | h
        · exact .inl h
        · exact .inr h
        · exact absurd h q3
      · have q1 := eSH.1 h
        exact .inl ⟨h, eSL.2 (by omega), q1, by omega⟩
      · have n1 : ¬ v = 1 := by rw [h]; decide
        have q1 := mt eSH.2 n1
        have q2 : ¬ H ≤ p := fun hh => eOH.2 hh h
        exact .inr (.inr ⟨h, rL, by omega, by omega⟩)
  obtain ⟨a, c, ev⟩ := h.1.len
  simp only [Forest.cells] at h1 h2 h3 h4 h5 ⊢
  rw [ev] at h1 h2 h3 h4 h5 ⊢
  exact lower_walk _ _ _ _ _ _ _ _ _ _ which year height lower w _ _ _ _ _ _ _ _ _ _ hw.1 hw.2 hh.1 hh.2 hl.1 hl.2 hcase h1 h2 h3 h4 h5
end Go.Proofs.Ytajbflepjpgnbaa
