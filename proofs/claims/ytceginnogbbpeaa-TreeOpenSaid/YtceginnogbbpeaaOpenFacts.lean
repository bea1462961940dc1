/- A tree on which the verdict is unknown: with the best ends of its bounds it is surely allowed, with the worst ends never. -/
import Derived.Test.YtceginnogbbpeaaNarrowFacts
import Derived.Test.YtceginnogbbpeaaTrueFacts
namespace Go.Proofs.Ytceginnogbbpeaa
open Go.RowKit Go.Shelf

/-- The growth that leaves the most girth in a year, and the least. -/
def bestGrowth (t : Tree) (y : Int) : Int := if y < t.taped then t.wmin else t.wmax
def worstGrowth (t : Tree) (y : Int) : Int := if y < t.taped then t.wmax else t.wmin
/-- The tree with the best ends of its bounds, with the worst. -/
def Tree.best (t : Tree) (y : Int) : Tree := t.bounded t.bmin t.bmin t.gmax t.gmax (bestGrowth t y) (bestGrowth t y)
def Tree.worst (t : Tree) (y : Int) : Tree := t.bounded t.bmax t.bmax t.gmin t.gmin (worstGrowth t y) (worstGrowth t y)

theorem best_girth (t : Tree) (y : Int) : girthMin (t.best y) y = girthMax t y ∧ girthMax (t.best y) y = girthMax t y := by
  unfold girthMin girthMax
  show (if y - t.taped ≥ 0 then t.gmax + (y - t.taped) * bestGrowth t y else max 0 (t.gmax + (y - t.taped) * bestGrowth t y)) = _ ∧ (if y - t.taped ≥ 0 then t.gmax + (y - t.taped) * bestGrowth t y else max 0 (t.gmax + (y - t.taped) * bestGrowth t y)) = _
  unfold bestGrowth
  by_cases h : y < t.taped
  · simp only [if_pos h, if_neg (show ¬ y - t.taped ≥ 0 by omega), and_self]
  · simp only [if_neg h, if_pos (show y - t.taped ≥ 0 by omega), and_self]
theorem worst_girth (t : Tree) (y : Int) : girthMin (t.worst y) y = girthMin t y ∧ girthMax (t.worst y) y = girthMin t y := by
  unfold girthMin girthMax
  show (if y - t.taped ≥ 0 then t.gmin + (y - t.taped) * worstGrowth t y else max 0 (t.gmin + (y - t.taped) * worstGrowth t y)) = _ ∧ (if y - t.taped ≥ 0 then t.gmin + (y - t.taped) * worstGrowth t y else max 0 (t.gmin + (y - t.taped) * worstGrowth t y)) = _
  unfold worstGrowth
  by_cases h : y < t.taped
  · simp only [if_pos h, if_neg (show ¬ y - t.taped ≥ 0 by omega), and_self]
  · simp only [if_neg h, if_pos (show y - t.taped ≥ 0 by omega), and_self]

theorem verdictV_zero (vs : Nat → Int) (h : (verdictV vs).1 = 0) : (∀ k, k < 6 → ¬ vs k = 2) ∧ ∃ k, k < 6 ∧ vs k = 0 := by
  have n2 : ∀ k, k < 6 → ¬ vs k = 2 := fun k hk h2 => by
    have := (verdictV_never vs).2 ⟨k, hk, h2⟩
    omega
  refine ⟨n2, ?_⟩
  by_cases h0 : ∃ k, k < 6 ∧ vs k = 0
  · exact h0
  · rw [verdict_one vs n2 fun j hj hx => h0 ⟨j, hj, hx⟩] at h
    cases h

theorem judged_not_two {a b : Bool} (h : ¬ judged a b = 2) (hab : a = true → b = true) : b = true := by
  cases a <;> cases b <;> first | rfl | exact absurd rfl h | exact hab rfl
theorem judged_zero {a b : Bool} (h : judged a b = 0) : a = false := by
  cases a
  · rfl
  · cases b <;> cases h
theorem judged_known (a : Bool) : ¬ judged a a = 0 := by cases a <;> decide

theorem open_best (l : Law) (t : Tree) (y h : Int) (hl : LawFine l) (ht : TreeFine t) (hy0 : 0 ≤ y) (hy1 : y ≤ 300) (hv : (verdictOn l t y h).1 = 0) : (verdictOn l (t.best y) y h).1 = 1 := by
  obtain ⟨n2, _⟩ := verdictV_zero _ hv
  obtain ⟨e1, e2⟩ := best_girth t y
  obtain ⟨_, gb1, _⟩ := girth_bounds t y ht hy0 hy1
  obtain ⟨⟨b0, b1, b2⟩, _⟩ := ht
  obtain ⟨f0, _⟩ := factor_bounds l hl (countBefore t.strips y)
  have m := Int.mul_le_mul_of_nonneg_left gb1 f0
  unfold verdictOn
  rw [verdictV_sure _ (jv_range l (t.best y) y h)]
  intro k hk
  have hk2 := n2 k hk
  match k, hk with
  | 0, _ =>
    have v : ¬ judged (decide (t.dead = -1 ∨ y < t.dead)) (decide (t.dead = -1 ∨ y < t.dead)) = 2 := hk2
    have := judged_not_two v id
    show judged (decide (t.dead = -1 ∨ y < t.dead)) (decide (t.dead = -1 ∨ y < t.dead)) = 1
    rw [this]; rfl
  | 1, _ =>
    have v : ¬ judged (decide (l.age ≤ y - t.bmax)) (decide (l.age ≤ y - t.bmin)) = 2 := hk2
    have := judged_not_two v (fun hh => by rw [decide_eq_true_iff] at hh ⊢; omega)
    show judged (decide (l.age ≤ y - t.bmin)) (decide (l.age ≤ y - t.bmin)) = 1
    rw [this]; rfl
  | 2, _ =>
    have v : ¬ judged (!t.strips.any (nearB y l.rest)) (!t.strips.any (nearB y l.rest)) = 2 := hk2
    have := judged_not_two v id
    show judged (!t.strips.any (nearB y l.rest)) (!t.strips.any (nearB y l.rest)) = 1
    rw [this]; rfl
  | 3, _ =>
    have v : ¬ judged (!t.wounds.any (freshB y l.heal)) (!t.wounds.any (freshB y l.heal)) = 2 := hk2
    have := judged_not_two v id
    show judged (!t.wounds.any (freshB y l.heal)) (!t.wounds.any (freshB y l.heal)) = 1
    rw [this]; rfl
  | 4, _ =>
    have v : ¬ (if 0 < countBefore t.strips y then 1 else judged (decide (l.girth ≤ girthMin t y)) (decide (l.girth ≤ girthMax t y))) = 2 := hk2
    show (if 0 < countBefore t.strips y then 1 else judged (decide (l.girth ≤ girthMin (t.best y) y)) (decide (l.girth ≤ girthMax (t.best y) y))) = 1
    rw [e1, e2]
    by_cases hc : 0 < countBefore t.strips y
    · rw [if_pos hc]
    · rw [if_neg hc] at v ⊢
      have := judged_not_two v (fun hh => by rw [decide_eq_true_iff] at hh ⊢; omega)
      rw [this]; rfl
  | 5, _ =>
    have v : ¬ judged (decide (10 * h ≤ factor l (countBefore t.strips y) * girthMin t y)) (decide (10 * h ≤ factor l (countBefore t.strips y) * girthMax t y)) = 2 := hk2
    have := judged_not_two v (fun hh => by rw [decide_eq_true_iff] at hh ⊢; omega)
    show judged (decide (10 * h ≤ factor l (countBefore t.strips y) * girthMin (t.best y) y)) (decide (10 * h ≤ factor l (countBefore t.strips y) * girthMax (t.best y) y)) = 1
    rw [e1, e2, this]; rfl

theorem open_worst (l : Law) (t : Tree) (y h : Int) (hv : (verdictOn l t y h).1 = 0) : (verdictOn l (t.worst y) y h).1 = 2 := by
  obtain ⟨_, k, hk, h0⟩ := verdictV_zero _ hv
  obtain ⟨e1, e2⟩ := worst_girth t y
  unfold verdictOn
  rw [verdictV_never]
  refine ⟨k, hk, ?_⟩
  match k, hk with
  | 0, _ => exact absurd h0 (judged_known _)
  | 1, _ =>
    have := judged_zero (a := decide (l.age ≤ y - t.bmax)) (b := decide (l.age ≤ y - t.bmin)) h0
    show judged (decide (l.age ≤ y - t.bmax)) (decide (l.age ≤ y - t.bmax)) = 2
    rw [this]; rfl
  | 2, _ => exact absurd h0 (judged_known _)
  | 3, _ => exact absurd h0 (judged_known _)
  | 4, _ =>
    have v : (if 0 < countBefore t.strips y then 1 else judged (decide (l.girth ≤ girthMin t y)) (decide (l.girth ≤ girthMax t y))) = 0 := h0
    show (if 0 < countBefore t.strips y then 1 else judged (decide (l.girth ≤ girthMin (t.worst y) y)) (decide (l.girth ≤ girthMax (t.worst y) y))) = 2
    rw [e1, e2]
    by_cases hc : 0 < countBefore t.strips y
    · rw [if_pos hc] at v; cases v
    · rw [if_neg hc] at v ⊢
      rw [judged_zero v]; rfl
  | 5, _ =>
    have := judged_zero (a := decide (10 * h ≤ factor l (countBefore t.strips y) * girthMin t y)) (b := decide (10 * h ≤ factor l (countBefore t.strips y) * girthMax t y)) h0
    show judged (decide (10 * h ≤ factor l (countBefore t.strips y) * girthMin (t.worst y) y)) (decide (10 * h ≤ factor l (countBefore t.strips y) * girthMax (t.worst y) y)) = 2
    rw [e1, e2, this]; rfl

/-- Both are in order. -/
theorem ends_err (t : Tree) (y : Int) (h : treeErr t = 0) : treeErr (t.best y) = 0 ∧ treeErr (t.worst y) = 0 := by
  obtain ⟨⟨b0, b1, b2⟩, _, ⟨g0, g1, g2⟩, ⟨w0, w1, w2⟩, _, _⟩ := treeErr_fine t h
  have hb : t.wmin ≤ bestGrowth t y ∧ bestGrowth t y ≤ t.wmax := by unfold bestGrowth; split <;> omega
  have hw : t.wmin ≤ worstGrowth t y ∧ worstGrowth t y ≤ t.wmax := by unfold worstGrowth; split <;> omega
  exact ⟨treeErr_bounded t _ _ _ _ _ _ h (Int.le_refl _) (Int.le_refl _) b1 g1 (Int.le_refl _) (Int.le_refl _) hb.1 (Int.le_refl _) hb.2, treeErr_bounded t _ _ _ _ _ _ h b1 (Int.le_refl _) (Int.le_refl _) (Int.le_refl _) (Int.le_refl _) g1 hw.1 (Int.le_refl _) hw.2⟩
end Go.Proofs.Ytceginnogbbpeaa
