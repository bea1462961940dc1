/- When a verdict is sure, when it is never; the heights up to which it is. -/
import Derived.Test.YtceginnogbbpeaaVerdictFacts
namespace Go.Proofs.Ytceginnogbbpeaa
open Go.RowKit Go.Shelf

theorem least_of {p : Nat → Prop} : ∀ n, (∃ k, k < n ∧ p k) → ∃ k, k < n ∧ p k ∧ ∀ j, j < k → ¬ p j
  | 0, ⟨_, h, _⟩ => absurd h (Nat.not_lt_zero _)
  | n + 1, ⟨k, hk, hp⟩ => by
    by_cases hs : ∃ j, j < n ∧ p j
    · obtain ⟨j, hj, hpj, hl⟩ := least_of n hs
      exact ⟨j, by omega, hpj, hl⟩
    · obtain rfl : k = n := by
        by_cases hkn : k < n
        · exact absurd ⟨k, hkn, hp⟩ hs
        · omega
      exact ⟨k, hk, hp, fun j hj hpj => hs ⟨j, hj, hpj⟩⟩

theorem verdictV_sure (vs : Nat → Int) (hr : ∀ k, vs k = 0 ∨ vs k = 1 ∨ vs k = 2) : (verdictV vs).1 = 1 ↔ ∀ k, k < 6 → vs k = 1 := by
  by_cases h2 : ∃ k, k < 6 ∧ vs k = 2
  · obtain ⟨k, hk, hv, hl⟩ := least_of 6 h2
    rw [verdict_two vs k hk hl hv]
    exact ⟨fun h => by simp at h, fun h => by rw [h k hk] at hv; simp at hv⟩
  · have n2 : ∀ j, j < 6 → ¬ vs j = 2 := fun j hj h => h2 ⟨j, hj, h⟩
    by_cases h0 : ∃ k, k < 6 ∧ vs k = 0
    · obtain ⟨k, hk, hv, hl⟩ := least_of 6 h0
      rw [verdict_zero vs k hk n2 hl hv]
      exact ⟨fun h => by simp at h, fun h => by rw [h k hk] at hv; simp at hv⟩
    · have n0 : ∀ j, j < 6 → ¬ vs j = 0 := fun j hj h => h0 ⟨j, hj, h⟩
      rw [verdict_one vs n2 n0]
      refine ⟨fun _ k hk => ?_, fun _ => rfl⟩
      rcases hr k with h | h | h
      · exact absurd h (n0 k hk)
      · exact h
      · exact absurd h (n2 k hk)

theorem verdictV_never (vs : Nat → Int) : (verdictV vs).1 = 2 ↔ ∃ k, k < 6 ∧ vs k = 2 := by
  by_cases h2 : ∃ k, k < 6 ∧ vs k = 2
  · obtain ⟨k, hk, hv, hl⟩ := least_of 6 h2
    rw [verdict_two vs k hk hl hv]
    exact ⟨fun _ => h2, fun _ => rfl⟩
  · have n2 : ∀ j, j < 6 → ¬ vs j = 2 := fun j hj h => h2 ⟨j, hj, h⟩
    refine ⟨fun h => ?_, fun h => absurd h h2⟩
    by_cases h0 : ∃ k, k < 6 ∧ vs k = 0
    · obtain ⟨k, hk, hv, hl⟩ := least_of 6 h0
      rw [verdict_zero vs k hk n2 hl hv] at h
      simp at h
    · rw [verdict_one vs n2 (fun j hj h => h0 ⟨j, hj, h⟩)] at h
      simp at h

theorem jv_low (l : Law) (t : Tree) (y h h' : Int) (k : Nat) (hk : k < 5) : jv l t y h k = jv l t y h' k := by
  match k, hk with
  | 0, _ => rfl
  | 1, _ => rfl
  | 2, _ => rfl
  | 3, _ => rfl
  | 4, _ => rfl

/-- What the height is held against: the factor times the least, the greatest girth. -/
def lowSide (l : Law) (t : Tree) (y : Int) : Int := factor l (countBefore t.strips y) * girthMin t y
def highSide (l : Law) (t : Tree) (y : Int) : Int := factor l (countBefore t.strips y) * girthMax t y
/-- The other rules are kept, surely; one of them is broken, surely. -/
def allKept (l : Law) (t : Tree) (y : Int) : Prop := ∀ k, k < 5 → jv l t y 1 k = 1
def oneBroken (l : Law) (t : Tree) (y : Int) : Prop := ∃ k, k < 5 ∧ jv l t y 1 k = 2

theorem sides (l : Law) (t : Tree) (y : Int) (hl : LawFine l) (ht : TreeFine t) (hy0 : 0 ≤ y) (hy1 : y ≤ 300) : 0 ≤ lowSide l t y ∧ lowSide l t y ≤ highSide l t y ∧ highSide l t y ≤ 1050000 := by
  obtain ⟨gb0, gb1, gb2⟩ := girth_bounds t y ht hy0 hy1
  obtain ⟨fb0, fb1⟩ := factor_bounds l hl (countBefore t.strips y)
  have p := mul_bounds (a := factor l (countBefore t.strips y)) (b := girthMin t y) (A := 50) (B := 21000) fb0 fb1 gb0 (by omega)
  have q := mul_bounds (a := factor l (countBefore t.strips y)) (b := girthMax t y) (A := 50) (B := 21000) fb0 fb1 (by omega) gb2
  exact ⟨p.1, Int.mul_le_mul_of_nonneg_left gb1 fb0, Int.le_trans q.2 (by decide)⟩

theorem jv_five (l : Law) (t : Tree) (y h : Int) : jv l t y h 5 = judged (decide (10 * h ≤ lowSide l t y)) (decide (10 * h ≤ highSide l t y)) := rfl
theorem judged_one (a b : Bool) : judged a b = 1 ↔ a = true := by cases a <;> cases b <;> decide
theorem judged_two (a b : Bool) : judged a b = 2 ↔ a = false ∧ b = false := by cases a <;> cases b <;> decide

theorem sure_iff (l : Law) (t : Tree) (y h : Int) : (verdictOn l t y h).1 = 1 ↔ allKept l t y ∧ 10 * h ≤ lowSide l t y := by
  unfold verdictOn
  rw [verdictV_sure _ (jv_range l t y h)]
  constructor
  · intro H
    refine ⟨fun k hk => (jv_low l t y 1 h k hk).trans (H k (by omega)), ?_⟩
    have := H 5 (by omega)
    rw [jv_five, judged_one] at this
    simpa using this
  · rintro ⟨H, h5⟩ k hk
    by_cases hk5 : k < 5
    · exact (jv_low l t y h 1 k hk5).trans (H k hk5)
    · obtain rfl : k = 5 := by omega
      rw [jv_five, judged_one]
      simpa using h5

theorem never_iff (l : Law) (t : Tree) (y h : Int) (hs : lowSide l t y ≤ highSide l t y) : (verdictOn l t y h).1 = 2 ↔ oneBroken l t y ∨ highSide l t y < 10 * h := by
  unfold verdictOn
  rw [verdictV_never]
  constructor
  · rintro ⟨k, hk, hv⟩
    by_cases hk5 : k < 5
    · exact .inl ⟨k, hk5, (jv_low l t y 1 h k hk5).trans hv⟩
    · obtain rfl : k = 5 := by omega
      rw [jv_five, judged_two] at hv
      exact .inr (by simpa using hv.2)
  · rintro (⟨k, hk, hv⟩ | h5)
    · exact ⟨k, by omega, (jv_low l t y h 1 k hk).trans hv⟩
    · refine ⟨5, by omega, ?_⟩
      rw [jv_five, judged_two]
      exact ⟨by simp; omega, by simp; omega⟩

/-- A tenth of a side, at most the greatest height; and the height that is asked about. -/
def capped (x : Int) : Int := if x / 10 < 15000 then x / 10 else 15000
def atLeast (s : Int) : Int := if 1 < s then s else 1
/-- The greatest heights that are surely, and possibly, allowed. -/
def sureHeight (l : Law) (t : Tree) (y : Int) : Int := if (verdictOn l t y (atLeast (capped (lowSide l t y)))).1 != 1 then 0 else capped (lowSide l t y)
def openHeight (l : Law) (t : Tree) (y : Int) : Int := if (verdictOn l t y (atLeast (capped (highSide l t y)))).1 == 2 then 0 else capped (highSide l t y)

theorem capped_bounds (x : Int) (h : 0 ≤ x) : 0 ≤ capped x ∧ capped x ≤ 15000 := by unfold capped; split <;> omega
theorem atLeast_bounds (s : Int) (h : s ≤ 15000) : 1 ≤ atLeast s ∧ atLeast s ≤ 15000 := by unfold atLeast; split <;> omega

/-- Up to the sure height the verdict is always, and no further. -/
theorem sureHeight_iff (l : Law) (t : Tree) (y : Int) (hs : 0 ≤ lowSide l t y) (h : Int) (h0 : 1 ≤ h) (h1 : h ≤ 15000) : (verdictOn l t y h).1 = 1 ↔ h ≤ sureHeight l t y := by
  rw [sure_iff]
  unfold sureHeight
  by_cases hA : allKept l t y
  · by_cases hq : 10 * atLeast (capped (lowSide l t y)) ≤ lowSide l t y
    · rw [if_neg (by rw [(sure_iff ..).2 ⟨hA, hq⟩]; decide)]
      refine ⟨fun ⟨_, hh⟩ => ?_, fun hh => ⟨hA, ?_⟩⟩
      · unfold capped; split <;> omega
      · unfold capped at hh; split at hh <;> omega
    · have hv : ((verdictOn l t y (atLeast (capped (lowSide l t y)))).1 != 1) = true := by
        rw [bne_iff_ne]; exact fun h => hq ((sure_iff ..).1 h).2
      rw [if_pos hv]
      refine ⟨fun ⟨_, hh⟩ => ?_, fun hh => by omega⟩
      unfold atLeast capped at hq
      split at hq <;> split at hq <;> omega
  · have hv : ((verdictOn l t y (atLeast (capped (lowSide l t y)))).1 != 1) = true := by
      rw [bne_iff_ne]; exact fun h => hA ((sure_iff ..).1 h).1
    rw [if_pos hv]
    exact ⟨fun h => absurd h.1 hA, fun hh => by omega⟩

/-- Up to the open height the verdict is not never, and no further. -/
theorem openHeight_iff (l : Law) (t : Tree) (y : Int) (hs : 0 ≤ highSide l t y) (hlh : lowSide l t y ≤ highSide l t y) (h : Int) (h0 : 1 ≤ h) (h1 : h ≤ 15000) : (verdictOn l t y h).1 ≠ 2 ↔ h ≤ openHeight l t y := by
  rw [Ne, never_iff l t y h hlh]
  unfold openHeight
  by_cases hA : oneBroken l t y
  · rw [if_pos (by rw [beq_iff_eq, never_iff l t y _ hlh]; exact .inl hA)]
    exact ⟨fun h => absurd (.inl hA) h, fun hh => by omega⟩
  · by_cases hq : highSide l t y < 10 * atLeast (capped (highSide l t y))
    · rw [if_pos (by rw [beq_iff_eq, never_iff l t y _ hlh]; exact .inr hq)]
      refine ⟨fun hh => ?_, fun hh => by omega⟩
      have : 10 * h ≤ highSide l t y := by
        by_cases hx : highSide l t y < 10 * h
        · exact absurd (.inr hx) hh
        · omega
      unfold atLeast capped at hq
      split at hq <;> split at hq <;> omega
    · have hv : ¬ ((verdictOn l t y (atLeast (capped (highSide l t y)))).1 == 2) = true := by
        rw [beq_iff_eq, never_iff l t y _ hlh]
        rintro (h | h)
        · exact hA h
        · exact hq h
      rw [if_neg hv]
      refine ⟨fun hh => ?_, fun hh hx => ?_⟩
      · have : 10 * h ≤ highSide l t y := by
          by_cases hx : highSide l t y < 10 * h
          · exact absurd (.inr hx) hh
          · omega
        unfold capped; split <;> omega
      · rcases hx with hx | hx
        · exact hA hx
        · unfold capped at hh; split at hh <;> omega

theorem sureHeight_bounds (l : Law) (t : Tree) (y : Int) (hs : 0 ≤ lowSide l t y) : 0 ≤ sureHeight l t y ∧ sureHeight l t y ≤ 15000 := by
  have := capped_bounds _ hs
  unfold sureHeight; split <;> omega
theorem openHeight_bounds (l : Law) (t : Tree) (y : Int) (hs : 0 ≤ highSide l t y) : 0 ≤ openHeight l t y ∧ openHeight l t y ≤ 15000 := by
  have := capped_bounds _ hs
  unfold openHeight; split <;> omega

theorem verdict_range (l : Law) (t : Tree) (y h : Int) : (verdictOn l t y h).1 = 0 ∨ (verdictOn l t y h).1 = 1 ∨ (verdictOn l t y h).1 = 2 := by
  unfold verdictOn verdictV
  split
  · exact .inr (.inr rfl)
  · split
    · exact .inl rfl
    · exact .inr (.inl rfl)
end Go.Proofs.Ytceginnogbbpeaa
