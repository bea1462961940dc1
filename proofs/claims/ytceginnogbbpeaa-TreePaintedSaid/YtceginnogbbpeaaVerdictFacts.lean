/- A verdict by its first places. -/
import Derived.Test.YtceginnogbbpeaaGreat
import Derived.Test.YtceginnogbbpeaaHighest
namespace Go.Proofs.Ytceginnogbbpeaa
open Go.RowKit Go.Shelf

theorem jv_range (l : Law) (t : Tree) (y h : Int) (k : Nat) : jv l t y h k = 0 ∨ jv l t y h k = 1 ∨ jv l t y h k = 2 := by
  have hj : ∀ a b : Bool, judged a b = 0 ∨ judged a b = 1 ∨ judged a b = 2 := by decide
  match k with
  | 0 => exact hj _ _
  | 1 => exact hj _ _
  | 2 => exact hj _ _
  | 3 => exact hj _ _
  | 4 =>
    show (if 0 < countBefore t.strips y then (1 : Int) else judged _ _) = 0 ∨ _
    by_cases hn : 0 < countBefore t.strips y
    · rw [show jv l t y h 4 = 1 from if_pos hn, if_pos hn]; decide
    · rw [show jv l t y h 4 = _ from if_neg hn, if_neg hn]; exact hj _ _
  | k + 5 => exact hj _ _

theorem judged_same (a : Bool) : decide (judged a a = 1) = a ∧ decide (judged a a = 2) = !a := by cases a <;> decide
theorem judged_kept (a b : Bool) : decide (judged a b = 1) = a := by cases a <;> cases b <;> decide
theorem judged_broken (a b : Bool) (h : a = true → b = true) : decide (judged a b = 2) = !b := by
  cases a <;> cases b <;> first | decide | (exact absurd (h rfl) (by decide))
theorem not_le_lt (a b : Int) : (!decide (a ≤ b)) = decide (b < a) := by
  rw [Bool.eq_iff_iff]; simp

/-! ### The verdict by its first places -/

theorem place_list (p : Fin 6 → Bool) : firstPlace p = [0, 1, 2, 3, 4, 5].find? p := by kernel_rfl

theorem place_first (p : Nat → Bool) (k : Nat) (hk : k < 6) (h : ∀ j, j < k → p j = false) (hp : p k = true) : firstPlace (fun x => p x.val) = some ⟨k, hk⟩ := by
  rw [place_list]
  match k, hk with
  | 0, _ =>
    have f0 : p (0 : Fin 6).val = true := hp
    simp only [List.find?_cons, f0] <;> rfl
  | 1, _ =>
    have f0 : p (0 : Fin 6).val = false := h 0 (by omega)
    have f1 : p (1 : Fin 6).val = true := hp
    simp only [List.find?_cons, f0, f1] <;> rfl
  | 2, _ =>
    have f0 : p (0 : Fin 6).val = false := h 0 (by omega)
    have f1 : p (1 : Fin 6).val = false := h 1 (by omega)
    have f2 : p (2 : Fin 6).val = true := hp
    simp only [List.find?_cons, f0, f1, f2] <;> rfl
  | 3, _ =>
    have f0 : p (0 : Fin 6).val = false := h 0 (by omega)
    have f1 : p (1 : Fin 6).val = false := h 1 (by omega)
    have f2 : p (2 : Fin 6).val = false := h 2 (by omega)
    have f3 : p (3 : Fin 6).val = true := hp
    simp only [List.find?_cons, f0, f1, f2, f3] <;> rfl
  | 4, _ =>
    have f0 : p (0 : Fin 6).val = false := h 0 (by omega)
    have f1 : p (1 : Fin 6).val = false := h 1 (by omega)
    have f2 : p (2 : Fin 6).val = false := h 2 (by omega)
    have f3 : p (3 : Fin 6).val = false := h 3 (by omega)
    have f4 : p (4 : Fin 6).val = true := hp
    simp only [List.find?_cons, f0, f1, f2, f3, f4] <;> rfl
  | 5, _ =>
    have f0 : p (0 : Fin 6).val = false := h 0 (by omega)
    have f1 : p (1 : Fin 6).val = false := h 1 (by omega)
    have f2 : p (2 : Fin 6).val = false := h 2 (by omega)
    have f3 : p (3 : Fin 6).val = false := h 3 (by omega)
    have f4 : p (4 : Fin 6).val = false := h 4 (by omega)
    have f5 : p (5 : Fin 6).val = true := hp
    simp only [List.find?_cons, f0, f1, f2, f3, f4, f5] <;> rfl
theorem place_none (p : Nat → Bool) (h : ∀ j, j < 6 → p j = false) : firstPlace (fun x => p x.val) = none := by
  rw [place_list]
  have f0 : p (0 : Fin 6).val = false := h 0 (by omega)
  have f1 : p (1 : Fin 6).val = false := h 1 (by omega)
  have f2 : p (2 : Fin 6).val = false := h 2 (by omega)
  have f3 : p (3 : Fin 6).val = false := h 3 (by omega)
  have f4 : p (4 : Fin 6).val = false := h 4 (by omega)
  have f5 : p (5 : Fin 6).val = false := h 5 (by omega)
  simp only [List.find?_cons, List.find?_nil, f0, f1, f2, f3, f4, f5]

theorem verdict_two (vs : Nat → Int) (k : Nat) (hk : k < 6) (h : ∀ j, j < k → ¬ vs j = 2) (hp : vs k = 2) : verdictV vs = (2, (k : Int) + 1) := by
  unfold verdictV
  rw [place_first (fun j => vs j == 2) k hk (fun j hj => beq_eq_false_iff_ne.2 (h j hj)) (beq_iff_eq.2 hp)]
theorem verdict_zero (vs : Nat → Int) (k : Nat) (hk : k < 6) (h2 : ∀ j, j < 6 → ¬ vs j = 2) (h : ∀ j, j < k → ¬ vs j = 0) (hp : vs k = 0) : verdictV vs = (0, (k : Int) + 1) := by
  unfold verdictV
  rw [place_none (fun j => vs j == 2) (fun j hj => beq_eq_false_iff_ne.2 (h2 j hj)), place_first (fun j => vs j == 0) k hk (fun j hj => beq_eq_false_iff_ne.2 (h j hj)) (beq_iff_eq.2 hp)]
theorem verdict_one (vs : Nat → Int) (h2 : ∀ j, j < 6 → ¬ vs j = 2) (h : ∀ j, j < 6 → ¬ vs j = 0) : verdictV vs = (1, 0) := by
  unfold verdictV
  rw [place_none (fun j => vs j == 2) (fun j hj => beq_eq_false_iff_ne.2 (h2 j hj)), place_none (fun j => vs j == 0) (fun j hj => beq_eq_false_iff_ne.2 (h j hj))]

end Go.Proofs.Ytceginnogbbpeaa
