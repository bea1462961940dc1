/- The chapter's example. -/
import Derived.Test.YtajbflepjpgnbaaDates
namespace Go.Proofs.Ytajbflepjpgnbaa
open Go.RowKit Go.Shelf

def exLaw : Law := { age := 25, rest := 9, girth := 700, f0 := 20, f1 := 25, f2 := 30, heal := 3 }
def exTree : Tree := { code := ⟨#[83, 49]⟩, bmin := 10, bmax := 14, taped := 40, gmin := 690, gmax := 700, wmin := 5, wmax := 8, sv := .slice none 0 0, wv := .slice none 0 0, dead := -1, strips := [], wounds := [] }

theorem ex_verdict (h : Int) : verdictOn exLaw exTree 42 h = if h ≤ 1400 then (1, 0) else if h ≤ 1432 then (0, 6) else (2, 6) := by
  have e0 : jv exLaw exTree 42 h 0 = 1 := by kernel_rfl
  have e1 : jv exLaw exTree 42 h 1 = 1 := by kernel_rfl
  have e2 : jv exLaw exTree 42 h 2 = 1 := by kernel_rfl
  have e3 : jv exLaw exTree 42 h 3 = 1 := by kernel_rfl
  have e4 : jv exLaw exTree 42 h 4 = 1 := by kernel_rfl
  have e5 : jv exLaw exTree 42 h 5 = if h ≤ 1400 then 1 else if h ≤ 1432 then 0 else 2 := by
    show judged (decide (10 * h ≤ 14000)) (decide (10 * h ≤ 14320)) = _
    unfold judged
    by_cases h1 : h ≤ 1400
    · rw [if_pos (by simp; omega), if_pos h1]
    · rw [if_neg (by simp; omega), if_neg h1]
      by_cases h2 : h ≤ 1432
      · rw [if_pos (by simp; omega), if_pos h2]
      · rw [if_neg (by simp; omega), if_neg h2]
  have place : ∀ p : Fin 6 → Bool, firstPlace p = [0, 1, 2, 3, 4, 5].find? p := fun p => by kernel_rfl
  unfold verdictOn verdictV
  rw [place, place]
  generalize jv exLaw exTree 42 h = j at e0 e1 e2 e3 e4 e5
  have f0 : j (0 : Fin 6).val = 1 := e0
  have f1 : j (1 : Fin 6).val = 1 := e1
  have f2 : j (2 : Fin 6).val = 1 := e2
  have f3 : j (3 : Fin 6).val = 1 := e3
  have f4 : j (4 : Fin 6).val = 1 := e4
  have f5 : j (5 : Fin 6).val = if h ≤ 1400 then 1 else if h ≤ 1432 then 0 else 2 := e5
  simp only [List.find?_cons, List.find?_nil, f0, f1, f2, f3, f4, f5]
  by_cases h1 : h ≤ 1400
  · simp [h1]
  · by_cases h2 : h ≤ 1432
    · simp [h1, h2]
      rfl
    · simp [h1, h2]
      rfl

theorem ex_sure (k : Nat) : (!((verdictOn exLaw exTree 42 ((k : Int) + 1)).1 == 1)) = decide (1400 ≤ k) := by
  rw [ex_verdict]
  by_cases h1 : (k : Int) + 1 ≤ 1400
  · rw [if_pos h1, decide_eq_false (by omega)]; rfl
  · rw [if_neg h1, decide_eq_true (by omega)]
    by_cases h2 : (k : Int) + 1 ≤ 1432
    · rw [if_pos h2]; rfl
    · rw [if_neg h2]; rfl
theorem ex_possible (k : Nat) : (!((verdictOn exLaw exTree 42 ((k : Int) + 1)).1 != 2)) = decide (1432 ≤ k) := by
  rw [ex_verdict]
  by_cases h1 : (k : Int) + 1 ≤ 1400
  · rw [if_pos h1, decide_eq_false (by omega)]; rfl
  · rw [if_neg h1]
    by_cases h2 : (k : Int) + 1 ≤ 1432
    · rw [if_pos h2, decide_eq_false (by omega)]; rfl
    · rw [if_neg h2, decide_eq_true (by omega)]; rfl
theorem ex_heights {w w' : World} {e : Ending} (h : SomeHeights (fun k => !((verdictOn exLaw exTree 42 ((k : Int) + 1)).1 == 1)) (fun k => !((verdictOn exLaw exTree 42 ((k : Int) + 1)).1 != 2)) w e w') :
    e = .returned (.tuple #[.int .i64 1400, .int .i64 1432, .int .i64 0]) ∧ Below w.heap.size w w' := by
  simp only [ex_sure, ex_possible] at h
  obtain ⟨r, s, he, hr, hs, hb⟩ := h
  obtain ⟨r0, r1, r2⟩ := hr.out
  obtain ⟨s0, s1, s2⟩ := hs.out
  simp only [decide_eq_false_iff_not, decide_eq_true_iff] at r1 r2 s1 s2
  obtain rfl : r = 1400 := by omega
  obtain rfl : s = 1432 := by omega
  exact ⟨he, hb⟩
end Go.Proofs.Ytajbflepjpgnbaa
