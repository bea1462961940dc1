/- TreeNarrow: narrower bounds of a tree never make a verdict less known, nor another one. -/
import Derived.Test.YtdpockkfmdkbhaaLawNarrowA
namespace Go.Proofs.Ytdpockkfmdkbhaa
open Go.RowKit Go.Shelf

set_option maxRecDepth 100000 in
set_option maxHeartbeats 8000000 in
theorem narrow_bad (age rest girth f0 f1 f2 heal : Int) (a : Option Addr) (n c : Nat) (which year height : Int) (y0 y1 y2 y3 y4 y5 : Int) (w : World) (ck : Int)
    (hbad : ck = 0 → 0 < (n : Int) → False)
    (hGreat : ∀ W, Below w.heap.size w W → Calls Try.prog 9 #[.agg #[.int .i64 age, .int .i64 rest, .int .i64 girth, .int .i64 f0, .int .i64 f1, .int .i64 f2, .int .i64 heal, .slice a n c]] W (SomeBool W))
    (hCheck : ∀ W, Below w.heap.size w W → Calls Try.prog 10 #[.agg #[.int .i64 age, .int .i64 rest, .int .i64 girth, .int .i64 f0, .int .i64 f1, .int .i64 f2, .int .i64 heal, .slice a n c]] W fun e w' => e = .returned (.int .i64 ck) ∧ Below W.heap.size W w') :
    Calls Try.prog 5 #[.agg #[.int .i64 age, .int .i64 rest, .int .i64 girth, .int .i64 f0, .int .i64 f1, .int .i64 f2, .int .i64 heal, .slice a n c], .int .u8 which, .int .i64 year, .int .i64 height, .agg #[.int .u16 y0, .int .u16 y1, .int .u16 y2, .int .u16 y3, .int .u16 y4, .int .u16 y5]] w fun e w' => e = .returned (.bool true) ∧ Below w.heap.size w w' := by
  have HGreat := Lib.hid hGreat; clear hGreat
  have HCheck := Lib.hid hCheck; clear hCheck
  have hB0 := Lib.hid (show Below w.heap.size w ((w.alloc (.cells #[.int .i64 age, .int .i64 rest, .int .i64 girth, .int .i64 f0, .int .i64 f1, .int .i64 f2, .int .i64 heal, .slice a n c] 27)).alloc (.cells #[.int .u16 y0, .int .u16 y1, .int .u16 y2, .int .u16 y3, .int .u16 y4, .int .u16 y5] 53)) from ((Below.refl _ _).alloc (Nat.le_refl _) _).alloc (by rw [World.size_alloc]; omega) _)
  have K0 := Lib.hid (show Boxed ((w.alloc (.cells #[.int .i64 age, .int .i64 rest, .int .i64 girth, .int .i64 f0, .int .i64 f1, .int .i64 f2, .int .i64 heal, .slice a n c] 27)).alloc (.cells #[.int .u16 y0, .int .u16 y1, .int .u16 y2, .int .u16 y3, .int .u16 y4, .int .u16 y5] 53)) w.heap.size ⟨age, rest, girth, f0, f1, f2, heal⟩ a n c from Boxed.of ((Blk.new w 27 #[.int .i64 age, .int .i64 rest, .int .i64 girth, .int .i64 f0, .int .i64 f1, .int .i64 f2, .int .i64 heal, .slice a n c]).alloc _))
  go_enter Try.func5, Try.ntmps5
  go_wp2_with fail
  refine (HGreat.out _ hB0.out).mono ?_
  rintro e w1 ⟨b, rfl, hw1⟩
  have hB1 := hB0.out.trans (hw1.mono hB0.out.size)
  have X1 := Lib.hid (K0.out.below hw1 (by rw [World.size_alloc, World.size_alloc]; omega))
  have hz1 : w.heap.size < w1.heap.size := by have := hw1.size; simp at this; omega
  clear K0 hB0 hw1
  cases b
  · obtain ⟨g0, g1, g2, g3, g4, g5, g6, g7⟩ := X1.out
    dsimp only at g0 g1 g2 g3 g4 g5 g6
    go_wp2_with fail
    refine (HCheck.out _ hB1).mono ?_
    rintro e w2 ⟨rfl, hw2⟩
    clear g0 g1 g2 g3 g4 g5 g6 g7
    have hB2 := hB1.trans (hw2.mono hB1.size)
    have X2 := Lib.hid (X1.out.below hw2 hz1)
    clear hw2 X1
    by_cases hck : ck = 0
    · subst hck
      obtain ⟨g0, g1, g2, g3, g4, g5, g6, g7⟩ := X2.out
      dsimp only at g0 g1 g2 g3 g4 g5 g6
      by_cases hn0 : n = 0
      · subst hn0
        go_wp2_with fail
        refine (grows_calls _).mono ?_
        rintro e w3 ⟨rfl, hw3⟩
        go_wp2
        go_ret
        exact ⟨rfl, hB2.trans (hw3.mono hB2.size)⟩
      · exact (hbad rfl (by omega)).elim
    · have hckb : (ck != 0) = true := by simpa using hck
      clear hck
      go_wp2_with fail
      refine (grows_calls _).mono ?_
      rintro e w3 ⟨rfl, hw3⟩
      go_wp2
      go_ret
      exact ⟨rfl, hB2.trans (hw3.mono hB2.size)⟩
  · go_wp2_with fail
    refine (grows_calls _).mono ?_
    rintro e w2 ⟨rfl, hw2⟩
    go_wp2
    go_ret
    exact ⟨rfl, hB1.trans (hw2.mono hB1.size)⟩

theorem ask_narrow (f : Forest) (K : Nat) (y h : Int) (hf : checkForest f = 0) (hK : K < f.trees.length) : askErr f K y h = if inB y 0 300 && inB h 1 15000 then 0 else 1 := by
  unfold askErr
  rw [if_pos hf, if_pos ⟨by omega, by omega⟩]

theorem ones_narrow {B : Nat} {w : World} {t : Tree} (h : TreeHeld B w t) : ∀ u ∈ Tree.cells t, u.oneCell' = true := by
  intro u hu
  obtain ⟨sa, sn, sc, es⟩ := h.1.slice
  obtain ⟨wa, wn, wc, ew⟩ := h.2.1.slice
  simp only [Tree.cells, es, ew, List.mem_cons, List.not_mem_nil, or_false] at hu
  rcases hu with rfl | rfl | rfl | rfl | rfl | rfl | rfl | rfl | rfl | rfl | rfl <;> rfl

/-- Bounds within some. -/
theorem within (lo hi y z : Int) (h : lo ≤ hi) : ∃ n m, lo + y % (hi - lo + 1) = n ∧ n + z % (hi - n + 1) = m ∧ lo ≤ n ∧ n ≤ m ∧ m ≤ hi := by
  have a := Int.emod_nonneg y (show hi - lo + 1 ≠ 0 by omega)
  have b := Int.emod_lt_of_pos y (show 0 < hi - lo + 1 by omega)
  obtain ⟨n, hn⟩ : ∃ n, lo + y % (hi - lo + 1) = n := ⟨_, rfl⟩
  have c := Int.emod_nonneg z (show hi - n + 1 ≠ 0 by omega)
  have d := Int.emod_lt_of_pos z (show 0 < hi - n + 1 by omega)
  exact ⟨n, _, hn, rfl, by omega, by omega, by omega⟩

/-- The forest with narrower bounds of a tree. -/
def Forest.inner (f : Forest) (K : Nat) (tv : Value) (b0 b1 g0 g1 w0 w1 : Int) : Forest := { f with tv := tv, trees := f.trees.set K (f.trees[K]!.bounded b0 b1 g0 g1 w0 w1) }

theorem narrow_case (f : Forest) (K : Nat) (tv : Value) (b0 b1 g0 g1 w0 w1 y h : Int) (hf : checkForest f = 0) (hK : K < f.trees.length)
    (hb0 : f.trees[K]!.bmin ≤ b0) (hb : b0 ≤ b1) (hb1 : b1 ≤ f.trees[K]!.bmax) (hg0 : f.trees[K]!.gmin ≤ g0) (hg : g0 ≤ g1) (hg1 : g1 ≤ f.trees[K]!.gmax) (hw0 : f.trees[K]!.wmin ≤ w0) (hw : w0 ≤ w1) (hw1 : w1 ≤ f.trees[K]!.wmax) :
    (¬ (mayOf f K y h).2.2 = 0 ∧ (mayOf (f.inner K tv b0 b1 g0 g1 w0 w1) K y h).2.2 = (mayOf f K y h).2.2) ∨ ((mayOf f K y h).2.2 = 0 ∧ (mayOf (f.inner K tv b0 b1 g0 g1 w0 w1) K y h).2.2 = 0 ∧ (((mayOf f K y h).1 = 0 ∧ (((mayOf (f.inner K tv b0 b1 g0 g1 w0 w1) K y h).1 = 1 ∧ (mayOf (f.inner K tv b0 b1 g0 g1 w0 w1) K y h).2.1 = 0) ∨ (((mayOf (f.inner K tv b0 b1 g0 g1 w0 w1) K y h).1 = 0 ∨ (mayOf (f.inner K tv b0 b1 g0 g1 w0 w1) K y h).1 = 2) ∧ ¬ (mayOf (f.inner K tv b0 b1 g0 g1 w0 w1) K y h).2.1 = 0))) ∨ ((mayOf f K y h).1 = 1 ∧ (mayOf (f.inner K tv b0 b1 g0 g1 w0 w1) K y h).1 = 1 ∧ (mayOf (f.inner K tv b0 b1 g0 g1 w0 w1) K y h).2.1 = 0) ∨ ((mayOf f K y h).1 = 2 ∧ (mayOf (f.inner K tv b0 b1 g0 g1 w0 w1) K y h).1 = 2 ∧ ¬ (mayOf (f.inner K tv b0 b1 g0 g1 w0 w1) K y h).2.1 = 0 ∧ (mayOf (f.inner K tv b0 b1 g0 g1 w0 w1) K y h).2.1 ≤ (mayOf f K y h).2.1))) := by
  have hc : checkForest (f.inner K tv b0 b1 g0 g1 w0 w1) = 0 := checkForest_set f hf tv K hK _ rfl (treeErr_bounded _ b0 b1 g0 g1 w0 w1 (forest_each f hf K hK) hb0 hb hb1 hg0 hg hg1 hw0 hw hw1)
  have hK2 : K < (f.inner K tv b0 b1 g0 g1 w0 w1).trees.length := by show K < (f.trees.set K _).length; rw [List.length_set]; exact hK
  have ht : (f.inner K tv b0 b1 g0 g1 w0 w1).trees[K]! = f.trees[K]!.bounded b0 b1 g0 g1 w0 w1 := by
    show (f.trees.set K (f.trees[K]!.bounded b0 b1 g0 g1 w0 w1))[K]! = _
    rw [getElem!_pos _ K (by rw [List.length_set]; exact hK), List.getElem_set_self]
  obtain ⟨hlawB, _, _⟩ := checkForest_fine f hf
  obtain ⟨hlaw, _⟩ := lawB_fine f.law hlawB
  obtain ⟨n1, n2, n3⟩ := verdict_narrow f.law f.trees[K]! b0 b1 g0 g1 w0 w1 y h hlaw hb0 hb hb1 hg0 hg hg1 hw0 hw hw1
  have hv := verdict_range f.law f.trees[K]! y h
  have hv' := verdict_range f.law (f.trees[K]!.bounded b0 b1 g0 g1 w0 w1) y h
  have hz2 : (verdictOn f.law (f.trees[K]!.bounded b0 b1 g0 g1 w0 w1) y h).1 = 2 → ¬ (verdictOn f.law (f.trees[K]!.bounded b0 b1 g0 g1 w0 w1) y h).2 = 0 := fun h2 h0 => by have := n3.2 h0; omega
  unfold mayOf
  rw [ask_narrow f K y h hf hK, ask_narrow _ K y h hc hK2]
  cases inB y 0 300 && inB h 1 15000 with
  | false => exact .inl ⟨by simp, rfl⟩
  | true =>
    refine .inr ⟨rfl, rfl, ?_⟩
    simp only [if_true, Int.toNat_natCast]
    rw [ht]
    show ((verdictOn f.law f.trees[K]! y h).1 = 0 ∧ (((verdictOn f.law (f.trees[K]!.bounded b0 b1 g0 g1 w0 w1) y h).1 = 1 ∧ (verdictOn f.law (f.trees[K]!.bounded b0 b1 g0 g1 w0 w1) y h).2 = 0) ∨ (((verdictOn f.law (f.trees[K]!.bounded b0 b1 g0 g1 w0 w1) y h).1 = 0 ∨ (verdictOn f.law (f.trees[K]!.bounded b0 b1 g0 g1 w0 w1) y h).1 = 2) ∧ ¬ (verdictOn f.law (f.trees[K]!.bounded b0 b1 g0 g1 w0 w1) y h).2 = 0))) ∨ ((verdictOn f.law f.trees[K]! y h).1 = 1 ∧ (verdictOn f.law (f.trees[K]!.bounded b0 b1 g0 g1 w0 w1) y h).1 = 1 ∧ (verdictOn f.law (f.trees[K]!.bounded b0 b1 g0 g1 w0 w1) y h).2 = 0) ∨ ((verdictOn f.law f.trees[K]! y h).1 = 2 ∧ (verdictOn f.law (f.trees[K]!.bounded b0 b1 g0 g1 w0 w1) y h).1 = 2 ∧ ¬ (verdictOn f.law (f.trees[K]!.bounded b0 b1 g0 g1 w0 w1) y h).2 = 0 ∧ (verdictOn f.law (f.trees[K]!.bounded b0 b1 g0 g1 w0 w1) y h).2 ≤ (verdictOn f.law f.trees[K]! y h).2)
    generalize (verdictOn f.law f.trees[K]! y h).1 = v at *
    generalize (verdictOn f.law f.trees[K]! y h).2 = r at *
    generalize (verdictOn f.law (f.trees[K]!.bounded b0 b1 g0 g1 w0 w1) y h).1 = v2 at *
    generalize (verdictOn f.law (f.trees[K]!.bounded b0 b1 g0 g1 w0 w1) y h).2 = r2 at *
    omega

set_option maxHeartbeats 2000000 in
theorem narrow_calls (f : Forest) (which year height y0 y1 y2 y3 y4 y5 : Int) (w : World) (h : TreesHeld w.heap.size w f.tv f.trees) (hw : 0 ≤ which ∧ which ≤ 255) (hy : (0 ≤ y0 ∧ y0 ≤ 65535) ∧ (0 ≤ y1 ∧ y1 ≤ 65535) ∧ (0 ≤ y2 ∧ y2 ≤ 65535) ∧ (0 ≤ y3 ∧ y3 ≤ 65535) ∧ (0 ≤ y4 ∧ y4 ≤ 65535) ∧ (0 ≤ y5 ∧ y5 ≤ 65535)) :
    Calls Try.prog 5 #[.agg f.cells.toArray, .int .u8 which, .int .i64 year, .int .i64 height, .agg #[.int .u16 y0, .int .u16 y1, .int .u16 y2, .int .u16 y3, .int .u16 y4, .int .u16 y5]] w fun e w' => e = .returned (.bool true) ∧ Below w.heap.size w w' := by
  obtain ⟨⟨p0, q0⟩, ⟨p1, q1⟩, ⟨p2, q2⟩, ⟨p3, q3⟩, ⟨p4, q4⟩, p5, q5⟩ := hy
  have h1 := fun W (hW : Below w.heap.size w W) => great_calls f W (h.at hW)
  have h2 := fun W (hW : Below w.heap.size w W) => refForest_calls f W (h.at hW)
  obtain ⟨a, c, ev⟩ := h.1.len
  by_cases hgood : checkForest f = 0 ∧ 0 < (f.trees.length : Int)
  · obtain ⟨hf, hn⟩ := hgood
    obtain ⟨K, hK⟩ : ∃ K : Nat, which % (f.trees.length : Int) = (K : Int) := Int.eq_ofNat_of_zero_le (Int.emod_nonneg _ (by omega))
    have hKl' : (K : Int) < (f.trees.length : Int) := by rw [← hK]; exact Int.emod_lt_of_pos _ hn
    have hKl : K < f.trees.length := by omega
    have h3 := fun W (hW : Below w.heap.size w W) => may_calls f K year height W (h.at hW)
    rw [hf] at h2
    have hH := h.1
    rw [ev] at hH
    obtain ⟨b, off, rfl, hb, hc⟩ := hH.place hKl
    obtain ⟨_, hl20, hfine⟩ := checkForest_fine f hf
    have hKm : f.trees[K]! ∈ f.trees := by rw [getElem!_pos f.trees K hKl]; exact List.getElem_mem hKl
    obtain ⟨⟨bb0, bb1, bb2⟩, _, ⟨gg0, gg1, gg2⟩, ⟨ww0, ww1, ww2⟩, _, _⟩ := hfine _ hKm
    have hRow : ∀ W, Below w.heap.size w W → W.rangeAt b (off + K * 11) (Tree.cells f.trees[K]!) := fun W hW j v hv => (hW.cell (p := ⟨b, off + K * 11 + j, none⟩) hb).trans (hc K hKl j v hv)
    have hTH : ∀ W, Below w.heap.size w W → Held W.heap.size W 11 Tree.cells (.slice (some ⟨b, off, none⟩) f.trees.length c) f.trees ∧ ∀ t ∈ f.trees, TreeHeld W.heap.size W t := fun W hW => ⟨(hH.below hW).mono hW.size, fun t ht => ((h.2 t ht).below hW).mono hW.size⟩
    have hones : ∀ t ∈ f.trees, ∀ u ∈ Tree.cells t, u.oneCell' = true := fun t ht => ones_narrow (h.2 t ht)
    obtain ⟨sa, sn, sc, es⟩ := (h.2 _ hKm).1.slice
    obtain ⟨wa, wn, wc, ew⟩ := (h.2 _ hKm).2.1.slice
    obtain ⟨n0, m0, a0, b0, c0, d0, e0⟩ := within f.trees[K]!.bmin f.trees[K]!.bmax y0 y1 bb1
    obtain ⟨n1, m1, a1, b1, c1, d1, e1⟩ := within f.trees[K]!.gmin f.trees[K]!.gmax y2 y3 gg1
    obtain ⟨n2, m2, a2, b2, c2, d2, e2⟩ := within f.trees[K]!.wmin f.trees[K]!.wmax y4 y5 ww1
    have hI0 := fun W (_ : Below w.heap.size w W) => inner_calls f.trees[K]!.bmin f.trees[K]!.bmax y0 y1 n0 m0 W bb0 bb1 (by omega) p0 q0 p1 q1 a0 b0 c0 (by omega)
    have hI1 := fun W (_ : Below w.heap.size w W) => inner_calls f.trees[K]!.gmin f.trees[K]!.gmax y2 y3 n1 m1 W gg0 gg1 (by omega) p2 q2 p3 q3 a1 b1 c1 (by omega)
    have hI2 := fun W (_ : Below w.heap.size w W) => inner_calls f.trees[K]!.wmin f.trees[K]!.wmax y4 y5 n2 m2 W ww0 ww1 (by omega) p4 q4 p5 q5 a2 b2 c2 (by omega)
    have hcaseA := fun tv => narrow_case f K tv n0 m0 n1 m1 n2 m2 year height hf hKl c0 d0 e0 c1 d1 e1 c2 d2 e2
    have hM2 := fun W (g cap : Nat) (_ : Below w.heap.size w W) (hT : TreesHeld W.heap.size W (.slice (some ⟨g, 0, none⟩) f.trees.length cap) (f.trees.set K (f.trees[K]!.bounded n0 m0 n1 m1 n2 m2))) => may_calls (f.inner K (.slice (some ⟨g, 0, none⟩) f.trees.length cap) n0 m0 n1 m1 n2 m2) K year height W hT
    have hany : ∀ tv, mayOf (f.inner K tv n0 m0 n1 m1 n2 m2) K year height = mayOf (f.inner K (.slice none 0 0) n0 m0 n1 m1 n2 m2) K year height := fun tv => rfl
    have hcase := hcaseA (.slice none 0 0)
    clear hcaseA
    simp only [hany] at hM2
    generalize mayOf (f.inner K (.slice none 0 0) n0 m0 n1 m1 n2 m2) K year height = M2 at hcase hM2
    generalize mayOf f K year height = M at hcase h3
    obtain ⟨v, r, e⟩ := M
    obtain ⟨v2, r2, e2'⟩ := M2
    dsimp only at hcase h3 hM2
    clear hany hfine hf a0 b0 c0 d0 e0 a1 b1 c1 d1 e1 a2 b2 c2 d2 e2 bb0 bb1 bb2 gg0 gg1 gg2 ww0 ww1 ww2
    obtain ⟨⟨age, rest, girth, f0, f1, f2, heal⟩, tv, ts⟩ := f
    dsimp only at ev es ew hK hKl hKl' hl20 hKm hRow hTH hones hn hH hc hI0 hI1 hI2
    subst ev
    generalize hKt : ts[K]! = t at hRow hI0 hI1 hI2 hM2 es ew hKm
    obtain ⟨code, bmin, bmax, taped, gmin, gmax, wmin, wmax, sv, wv, dead, strips, wounds⟩ := t
    dsimp only at es ew hI0 hI1 hI2
    subst es ew
    simp only [Tree.cells] at hRow
    simp only [Forest.cells] at h1 h2 h3 ⊢
    simp only [Forest.cells, Forest.inner, Tree.bounded] at hM2
    exact narrow_walk age rest girth f0 f1 f2 heal b off _ c K code bmin bmax taped gmin gmax wmin wmax sa sn sc wa wn wc dead strips wounds which year height y0 y1 y2 y3 y4 y5 n0 m0 n1 m1 n2 m2 v r e v2 r2 e2' ts w hw.1 hw.2 hK hKl rfl hl20 hRow hTH hKt hones h1 h2 h3 hI0 hI1 hI2 hM2 hcase
  · simp only [Forest.cells] at h1 h2 ⊢
    rw [ev] at h1 h2 ⊢
    exact narrow_bad _ _ _ _ _ _ _ _ _ _ which year height y0 y1 y2 y3 y4 y5 w _ (fun hc hl => hgood ⟨hc, hl⟩) h1 h2
end Go.Proofs.Ytdpockkfmdkbhaa
