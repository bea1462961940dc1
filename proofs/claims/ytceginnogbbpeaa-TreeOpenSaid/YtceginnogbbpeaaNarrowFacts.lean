/- A tree with narrower bounds: its book is in order, and its verdict is no less known, and no other one. -/
import Derived.Test.YtceginnogbbpeaaSetFacts
namespace Go.Proofs.Ytceginnogbbpeaa
open Go.RowKit Go.Shelf

theorem verdictV_narrow (vs vs' : Nat → Int) (hr : ∀ k, vs k = 0 ∨ vs k = 1 ∨ vs k = 2) (hr' : ∀ k, vs' k = 0 ∨ vs' k = 1 ∨ vs' k = 2) (h1 : ∀ k, k < 6 → vs k = 1 → vs' k = 1) (h2 : ∀ k, k < 6 → vs k = 2 → vs' k = 2) :
    ((verdictV vs).1 = 1 → (verdictV vs').1 = 1) ∧ ((verdictV vs).1 = 2 → (verdictV vs').1 = 2 ∧ (verdictV vs').2 ≤ (verdictV vs).2) ∧ ((verdictV vs').1 = 1 ↔ (verdictV vs').2 = 0) := by
  refine ⟨fun h => ?_, fun h => ?_, ?_⟩
  · rw [verdictV_sure vs hr] at h
    rw [verdictV_sure vs' hr']
    exact fun k hk => h1 k hk (h k hk)
  · rw [verdictV_never] at h
    obtain ⟨k, hk, hv, hl⟩ := least_of 6 h
    obtain ⟨k', hk', hv', hl'⟩ := least_of (p := fun k => vs' k = 2) 6 ⟨k, hk, h2 k hk hv⟩
    rw [verdict_two vs k hk hl hv, verdict_two vs' k' hk' hl' hv']
    refine ⟨rfl, ?_⟩
    have : k' ≤ k := by
      rcases Nat.lt_or_ge k k' with h | h
      · exact absurd (h2 k hk hv) (hl' k h)
      · exact h
    dsimp only
    omega
  · by_cases h2' : ∃ k, k < 6 ∧ vs' k = 2
    · obtain ⟨k, hk, hv, hl⟩ := least_of 6 h2'
      rw [verdict_two vs' k hk hl hv]
      exact ⟨fun h => (by cases h), fun h => (by have h : ((k : Int) + 1) = 0 := h; omega)⟩
    · have n2 : ∀ j, j < 6 → ¬ vs' j = 2 := fun j hj h => h2' ⟨j, hj, h⟩
      by_cases h0 : ∃ k, k < 6 ∧ vs' k = 0
      · obtain ⟨k, hk, hv, hl⟩ := least_of 6 h0
        rw [verdict_zero vs' k hk n2 hl hv]
        exact ⟨fun h => (by cases h), fun h => (by have h : ((k : Int) + 1) = 0 := h; omega)⟩
      · rw [verdict_one vs' n2 fun j hj h => h0 ⟨j, hj, h⟩]
        exact ⟨fun _ => rfl, fun _ => rfl⟩

theorem judged_narrow {p p' q q' : Prop} [Decidable p] [Decidable p'] [Decidable q] [Decidable q'] (hp : p → p') (hq : q' → q) (hpq : p' → q') : (judged (decide p) (decide q) = 1 → judged (decide p') (decide q') = 1) ∧ (judged (decide p) (decide q) = 2 → judged (decide p') (decide q') = 2) := by
  rw [judged_one, judged_one, judged_two, judged_two]
  simp only [decide_eq_true_iff, decide_eq_false_iff_not]
  exact ⟨hp, fun ⟨_, b⟩ => ⟨fun h => b (hq (hpq h)), fun h => b (hq h)⟩⟩

/-- A tree with other bounds. -/
def Tree.bounded (t : Tree) (b0 b1 g0 g1 w0 w1 : Int) : Tree := { t with bmin := b0, bmax := b1, gmin := g0, gmax := g1, wmin := w0, wmax := w1 }

theorem girth_narrow (t : Tree) (b0 b1 g0 g1 w0 w1 y : Int) (hg0 : t.gmin ≤ g0) (hg : g0 ≤ g1) (hg1 : g1 ≤ t.gmax) (hw0 : t.wmin ≤ w0) (hw : w0 ≤ w1) (hw1 : w1 ≤ t.wmax) :
    girthMin t y ≤ girthMin (t.bounded b0 b1 g0 g1 w0 w1) y ∧ girthMin (t.bounded b0 b1 g0 g1 w0 w1) y ≤ girthMax (t.bounded b0 b1 g0 g1 w0 w1) y ∧ girthMax (t.bounded b0 b1 g0 g1 w0 w1) y ≤ girthMax t y := by
  unfold girthMin girthMax
  show (if y - t.taped ≥ 0 then _ else _) ≤ (if y - t.taped ≥ 0 then g0 + (y - t.taped) * w0 else max 0 (g0 + (y - t.taped) * w1)) ∧ (if y - t.taped ≥ 0 then g0 + (y - t.taped) * w0 else max 0 (g0 + (y - t.taped) * w1)) ≤ (if y - t.taped ≥ 0 then g1 + (y - t.taped) * w1 else max 0 (g1 + (y - t.taped) * w0)) ∧ (if y - t.taped ≥ 0 then g1 + (y - t.taped) * w1 else max 0 (g1 + (y - t.taped) * w0)) ≤ (if y - t.taped ≥ 0 then _ else _)
  by_cases h : y - t.taped ≥ 0
  · simp only [if_pos h]
    have a := Int.mul_le_mul_of_nonneg_left hw0 h
    have b := Int.mul_le_mul_of_nonneg_left hw h
    have c := Int.mul_le_mul_of_nonneg_left hw1 h
    omega
  · simp only [if_neg h]
    have a := Int.mul_le_mul_of_nonpos_left (show y - t.taped ≤ 0 by omega) hw0
    have b := Int.mul_le_mul_of_nonpos_left (show y - t.taped ≤ 0 by omega) hw
    have c := Int.mul_le_mul_of_nonpos_left (show y - t.taped ≤ 0 by omega) hw1
    omega

theorem jv_narrow (l : Law) (t : Tree) (b0 b1 g0 g1 w0 w1 y h : Int) (hl : LawFine l) (hb0 : t.bmin ≤ b0) (hb : b0 ≤ b1) (hb1 : b1 ≤ t.bmax) (hg0 : t.gmin ≤ g0) (hg : g0 ≤ g1) (hg1 : g1 ≤ t.gmax) (hw0 : t.wmin ≤ w0) (hw : w0 ≤ w1) (hw1 : w1 ≤ t.wmax) (k : Nat) (hk : k < 6) :
    (jv l t y h k = 1 → jv l (t.bounded b0 b1 g0 g1 w0 w1) y h k = 1) ∧ (jv l t y h k = 2 → jv l (t.bounded b0 b1 g0 g1 w0 w1) y h k = 2) := by
  obtain ⟨q1, q2, q3⟩ := girth_narrow t b0 b1 g0 g1 w0 w1 y hg0 hg hg1 hw0 hw hw1
  match k, hk with
  | 0, _ => exact ⟨id, id⟩
  | 1, _ => exact judged_narrow (p := l.age ≤ y - t.bmax) (p' := l.age ≤ y - b1) (q := l.age ≤ y - t.bmin) (q' := l.age ≤ y - b0) (fun h => by omega) (fun h => by omega) (fun h => by omega)
  | 2, _ => exact ⟨id, id⟩
  | 3, _ => exact ⟨id, id⟩
  | 4, _ =>
    show ((if 0 < countBefore t.strips y then 1 else _) = 1 → (if 0 < countBefore t.strips y then 1 else _) = 1) ∧ ((if 0 < countBefore t.strips y then 1 else _) = 2 → (if 0 < countBefore t.strips y then 1 else _) = 2)
    by_cases hc : 0 < countBefore t.strips y
    · simp only [if_pos hc]; exact ⟨id, id⟩
    · simp only [if_neg hc]
      exact judged_narrow (fun h => by omega) (fun h => by omega) (fun h => by omega)
  | 5, _ =>
    obtain ⟨f0, _⟩ := factor_bounds l hl (countBefore t.strips y)
    have a := Int.mul_le_mul_of_nonneg_left q1 f0
    have b := Int.mul_le_mul_of_nonneg_left q2 f0
    have c := Int.mul_le_mul_of_nonneg_left q3 f0
    exact judged_narrow (p := 10 * h ≤ factor l (countBefore t.strips y) * girthMin t y) (p' := 10 * h ≤ factor l (countBefore t.strips y) * girthMin (t.bounded b0 b1 g0 g1 w0 w1) y) (q := 10 * h ≤ factor l (countBefore t.strips y) * girthMax t y) (q' := 10 * h ≤ factor l (countBefore t.strips y) * girthMax (t.bounded b0 b1 g0 g1 w0 w1) y) (fun h => by omega) (fun h => by omega) (fun h => by omega)

theorem verdict_narrow (l : Law) (t : Tree) (b0 b1 g0 g1 w0 w1 y h : Int) (hl : LawFine l) (hb0 : t.bmin ≤ b0) (hb : b0 ≤ b1) (hb1 : b1 ≤ t.bmax) (hg0 : t.gmin ≤ g0) (hg : g0 ≤ g1) (hg1 : g1 ≤ t.gmax) (hw0 : t.wmin ≤ w0) (hw : w0 ≤ w1) (hw1 : w1 ≤ t.wmax) :
    ((verdictOn l t y h).1 = 1 → (verdictOn l (t.bounded b0 b1 g0 g1 w0 w1) y h).1 = 1) ∧ ((verdictOn l t y h).1 = 2 → (verdictOn l (t.bounded b0 b1 g0 g1 w0 w1) y h).1 = 2 ∧ (verdictOn l (t.bounded b0 b1 g0 g1 w0 w1) y h).2 ≤ (verdictOn l t y h).2) ∧ ((verdictOn l (t.bounded b0 b1 g0 g1 w0 w1) y h).1 = 1 ↔ (verdictOn l (t.bounded b0 b1 g0 g1 w0 w1) y h).2 = 0) :=
  verdictV_narrow _ _ (jv_range l t y h) (jv_range l _ y h) (fun k hk => (jv_narrow l t b0 b1 g0 g1 w0 w1 y h hl hb0 hb hb1 hg0 hg hg1 hw0 hw hw1 k hk).1) (fun k hk => (jv_narrow l t b0 b1 g0 g1 w0 w1 y h hl hb0 hb hb1 hg0 hg hg1 hw0 hw hw1 k hk).2)

theorem treeErr_bounded (t : Tree) (b0 b1 g0 g1 w0 w1 : Int) (ht : treeErr t = 0) (hb0 : t.bmin ≤ b0) (hb : b0 ≤ b1) (hb1 : b1 ≤ t.bmax) (hg0 : t.gmin ≤ g0) (hg : g0 ≤ g1) (hg1 : g1 ≤ t.gmax) (hw0 : t.wmin ≤ w0) (hw : w0 ≤ w1) (hw1 : w1 ≤ t.wmax) : treeErr (t.bounded b0 b1 g0 g1 w0 w1) = 0 := by
  unfold treeErr at ht ⊢
  split at ht
  · rename_i hm
    have hm' : measuredB (t.bounded b0 b1 g0 g1 w0 w1) = true := by
      simp only [measuredB, Bool.and_eq_true, inB_iff, boundsB_iff] at hm ⊢
      obtain ⟨⟨⟨⟨a, b⟩, c⟩, d⟩, e⟩ := hm
      show ((((0 ≤ b0 ∧ b0 ≤ b1 ∧ b1 ≤ 300) ∧ 0 ≤ t.taped ∧ t.taped ≤ 300) ∧ 0 ≤ g0 ∧ g0 ≤ g1 ∧ g1 ≤ 6000) ∧ 0 ≤ w0 ∧ w0 ≤ w1 ∧ w1 ≤ 50) ∧ -1 ≤ t.dead ∧ t.dead ≤ 300
      omega
    rw [if_pos hm']
    exact ht
  · cases ht
end Go.Proofs.Ytceginnogbbpeaa
