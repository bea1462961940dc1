/- What a real tree may be, within what is known of it: the verdicts are true. -/
import Derived.Test.YtceginnogbbpeaaKeptFacts
import Derived.Test.YtceginnogbbpeaaSure
namespace Go.Proofs.Ytceginnogbbpeaa
open Go.RowKit Go.Shelf

/-- May a real tree, born in the year p, of the girth g, be stripped. -/
def keptB (l : Law) (t : Tree) (y h p g : Int) : Bool :=
  ((((decide (t.dead < 0) || decide (y < t.dead)) && t.strips.all (farB y l.rest)) && t.wounds.all (healedB y l.heal)) && decide (l.age ≤ y - p) && (decide (0 < countBefore t.strips y) || decide (l.girth ≤ g)) && decide (10 * h ≤ factor l (countBefore t.strips y) * g))

theorem far_near (y rest : Int) (s : Int × Int) : farB y rest s = !nearB y rest s := by
  unfold farB nearB
  rw [show -(y - s.1) = s.1 - y by omega, Bool.eq_iff_iff]
  simp
theorem healed_fresh (y heal x : Int) : healedB y heal x = !freshB y heal x := by
  unfold healedB freshB
  rw [Bool.eq_iff_iff]
  simp
  omega
theorem all_far (y rest : Int) (xs : List (Int × Int)) : xs.all (farB y rest) = !xs.any (nearB y rest) := by
  induction xs with
  | nil => rfl
  | cons x r ih => rw [List.all_cons, List.any_cons, ih, far_near, Bool.not_or]
theorem all_healed (y heal : Int) (xs : List Int) : xs.all (healedB y heal) = !xs.any (freshB y heal) := by
  induction xs with
  | nil => rfl
  | cons x r ih => rw [List.all_cons, List.any_cons, ih, healed_fresh, Bool.not_or]

theorem kept_always (l : Law) (t : Tree) (y h p g : Int) (hl : LawFine l) (hv : (verdictOn l t y h).1 = 1) (hp : p ≤ t.bmax) (hg : girthMin t y ≤ g) (hd : t.dead = -1 → t.dead < 0) : keptB l t y h p g = true := by
  unfold verdictOn at hv
  rw [verdictV_sure _ (jv_range l t y h)] at hv
  have v0 : judged (decide (t.dead = -1 ∨ y < t.dead)) (decide (t.dead = -1 ∨ y < t.dead)) = 1 := hv 0 (by omega)
  have v1 : judged (decide (l.age ≤ y - t.bmax)) (decide (l.age ≤ y - t.bmin)) = 1 := hv 1 (by omega)
  have v2 : judged (!t.strips.any (nearB y l.rest)) (!t.strips.any (nearB y l.rest)) = 1 := hv 2 (by omega)
  have v3 : judged (!t.wounds.any (freshB y l.heal)) (!t.wounds.any (freshB y l.heal)) = 1 := hv 3 (by omega)
  have v4 : (if 0 < countBefore t.strips y then 1 else judged (decide (l.girth ≤ girthMin t y)) (decide (l.girth ≤ girthMax t y))) = 1 := hv 4 (by omega)
  have v5 : judged (decide (10 * h ≤ factor l (countBefore t.strips y) * girthMin t y)) (decide (10 * h ≤ factor l (countBefore t.strips y) * girthMax t y)) = 1 := hv 5 (by omega)
  rw [judged_one] at v0 v1 v2 v3 v5
  unfold keptB
  rw [all_far, all_healed, v2, v3]
  obtain ⟨f0, _⟩ := factor_bounds l hl (countBefore t.strips y)
  have m := Int.mul_le_mul_of_nonneg_left hg f0
  rw [decide_eq_true_iff] at v0 v1 v5
  have a0 : (decide (t.dead < 0) || decide (y < t.dead)) = true := by
    rw [Bool.or_eq_true, decide_eq_true_iff, decide_eq_true_iff]
    exact v0.imp hd id
  have a1 : decide (l.age ≤ y - p) = true := decide_eq_true (by omega)
  have a4 : (decide (0 < countBefore t.strips y) || decide (l.girth ≤ g)) = true := by
    by_cases hc : 0 < countBefore t.strips y
    · simp [hc]
    · rw [if_neg hc, judged_one, decide_eq_true_iff] at v4
      simp only [Bool.or_eq_true, decide_eq_true_iff]
      exact .inr (by omega)
  have a5 : decide (10 * h ≤ factor l (countBefore t.strips y) * g) = true := decide_eq_true (by omega)
  rw [a0, a1, a4, a5]
  rfl

theorem kept_never (l : Law) (t : Tree) (y h p g : Int) (hl : LawFine l) (hv : (verdictOn l t y h).1 = 2) (hp : t.bmin ≤ p) (hg : g ≤ girthMax t y) (hd : t.dead < 0 → t.dead = -1) : keptB l t y h p g = false := by
  unfold verdictOn at hv
  rw [verdictV_never] at hv
  obtain ⟨k, hk, hv⟩ := hv
  unfold keptB
  rw [all_far, all_healed]
  obtain ⟨f0, _⟩ := factor_bounds l hl (countBefore t.strips y)
  have m := Int.mul_le_mul_of_nonneg_left hg f0
  match k, hk with
  | 0, _ =>
    have v : judged (decide (t.dead = -1 ∨ y < t.dead)) (decide (t.dead = -1 ∨ y < t.dead)) = 2 := hv
    rw [judged_two, decide_eq_false_iff_not] at v
    have : (decide (t.dead < 0) || decide (y < t.dead)) = false := by
      rw [Bool.or_eq_false_iff, decide_eq_false_iff_not, decide_eq_false_iff_not]
      exact ⟨fun h => v.1 (.inl (hd h)), fun h => v.1 (.inr h)⟩
    rw [this]; simp
  | 1, _ =>
    have v : judged (decide (l.age ≤ y - t.bmax)) (decide (l.age ≤ y - t.bmin)) = 2 := hv
    rw [judged_two, decide_eq_false_iff_not, decide_eq_false_iff_not] at v
    have : decide (l.age ≤ y - p) = false := decide_eq_false (by omega)
    rw [this]; simp
  | 2, _ =>
    have v : judged (!t.strips.any (nearB y l.rest)) (!t.strips.any (nearB y l.rest)) = 2 := hv
    rw [judged_two] at v
    rw [v.1]; simp
  | 3, _ =>
    have v : judged (!t.wounds.any (freshB y l.heal)) (!t.wounds.any (freshB y l.heal)) = 2 := hv
    rw [judged_two] at v
    rw [v.1]; simp
  | 4, _ =>
    have v : (if 0 < countBefore t.strips y then 1 else judged (decide (l.girth ≤ girthMin t y)) (decide (l.girth ≤ girthMax t y))) = 2 := hv
    by_cases hc : 0 < countBefore t.strips y
    · rw [if_pos hc] at v; exact absurd v (by decide)
    · rw [if_neg hc, judged_two, decide_eq_false_iff_not, decide_eq_false_iff_not] at v
      have : (decide (0 < countBefore t.strips y) || decide (l.girth ≤ g)) = false := by
        rw [Bool.or_eq_false_iff, decide_eq_false_iff_not, decide_eq_false_iff_not]
        exact ⟨hc, by omega⟩
      rw [this]; simp
  | 5, _ =>
    have v : judged (decide (10 * h ≤ factor l (countBefore t.strips y) * girthMin t y)) (decide (10 * h ≤ factor l (countBefore t.strips y) * girthMax t y)) = 2 := hv
    rw [judged_two, decide_eq_false_iff_not, decide_eq_false_iff_not] at v
    have : decide (10 * h ≤ factor l (countBefore t.strips y) * g) = false := decide_eq_false (by omega)
    rw [this]; simp

theorem verdict_none (l : Law) (t : Tree) (y h : Int) : (verdictOn l t y h).1 = 1 ↔ (verdictOn l t y h).2 = 0 := by
  unfold verdictOn
  have hr := jv_range l t y h
  generalize jv l t y h = vs at hr ⊢
  by_cases h2' : ∃ k, k < 6 ∧ vs k = 2
  · obtain ⟨k, hk, hv, hl⟩ := least_of 6 h2'
    rw [verdict_two vs k hk hl hv]
    exact ⟨fun h => (by cases h), fun h => (by have h : ((k : Int) + 1) = 0 := h; omega)⟩
  · have n2 : ∀ j, j < 6 → ¬ vs j = 2 := fun j hj h => h2' ⟨j, hj, h⟩
    by_cases h0 : ∃ k, k < 6 ∧ vs k = 0
    · obtain ⟨k, hk, hv, hl⟩ := least_of 6 h0
      rw [verdict_zero vs k hk n2 hl hv]
      exact ⟨fun h => (by cases h), fun h => (by have h : ((k : Int) + 1) = 0 := h; omega)⟩
    · rw [verdict_one vs n2 fun j hj h => h0 ⟨j, hj, h⟩]
      exact ⟨fun _ => rfl, fun _ => rfl⟩
end Go.Proofs.Ytceginnogbbpeaa
