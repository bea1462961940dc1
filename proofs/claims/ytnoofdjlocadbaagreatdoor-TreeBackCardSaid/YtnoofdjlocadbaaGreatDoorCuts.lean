/- Lines and fields as the library cuts them: plain functions on lists of bytes; nothing of the program. -/
import Derived.Test.YtnoofdjlocadbaaGreatDoorText
import Derived.Lib.IndexMore
import Derived.Lib.SplitLaws
namespace Go.Proofs.YtnoofdjlocadbaaGreatDoor
open Go Go.Lib

theorem prefix_one (c b : UInt8) (l : List UInt8) : [c].isPrefixOf (b :: l) = (c == b) := by simp [List.isPrefixOf]

theorem index_miss (c : UInt8) : ∀ s : List UInt8, c ∉ s → index s [c] = -1
  | [], _ => by rfl
  | b :: l, h => by
    have hb : (c == b) = false := by rw [beq_eq_false_iff_ne]; intro e; exact h (by simp [e])
    have ih := index_miss c l fun hm => h (by simp [hm])
    unfold index
    rw [prefix_one, hb, ih]
    rfl

theorem index_part (c : UInt8) : ∀ p r : List UInt8, c ∉ p → index (p ++ c :: r) [c] = p.length
  | [], r, _ => by
    show index (c :: r) [c] = _
    unfold index
    rw [prefix_one, beq_self_eq_true]
    rfl
  | b :: p, r, h => by
    have hb : (c == b) = false := by rw [beq_eq_false_iff_ne]; intro e; exact h (by simp [e])
    have ih := index_part c p r fun hm => h (by simp [hm])
    show index (b :: (p ++ c :: r)) [c] = _
    unfold index
    rw [prefix_one, hb, ih]
    have : ((p.length : Int) == -1) = false := by rw [beq_eq_false_iff_ne]; omega
    simp [this]

theorem part_of (c : UInt8) : ∀ s : List UInt8, c ∉ s ∨ ∃ p r, s = p ++ c :: r ∧ c ∉ p
  | [] => .inl (by simp)
  | b :: l => by
    by_cases hb : b = c
    · exact .inr ⟨[], l, by rw [hb]; rfl, by simp⟩
    · rcases part_of c l with h | ⟨p, r, h1, h2⟩
      · exact .inl (by simp [h, Ne.symm hb])
      · exact .inr ⟨b :: p, r, by rw [h1]; rfl, by simp [h2, Ne.symm hb]⟩

theorem cut_miss (c : UInt8) (s : List UInt8) (h : c ∉ s) : cut s [c] = (s, [], false) := by
  unfold cut
  rw [index_miss c s h]
  rfl
theorem cut_part (c : UInt8) (p r : List UInt8) (h : c ∉ p) : cut (p ++ c :: r) [c] = (p, r, true) := by
  unfold cut
  rw [index_part c p r h, if_pos (by omega)]
  simp

theorem split_all (c : UInt8) : ∀ (n : Nat) (s : List UInt8), s.length ≤ n → splitK [c] 0 (s.count c) s = cutAll c s
  | n, s, hn => by
    rcases part_of c s with h | ⟨p, r, rfl, h⟩
    · rw [List.count_eq_zero.mpr h, cutAll_last c s h]
      rfl
    · cases n with
      | zero => simp at hn
      | succ n =>
        have ih := split_all c n r (by simp at hn; omega)
        rw [List.count_append, List.count_eq_zero.mpr h, List.count_cons_self, Nat.zero_add, cutAll_part c p r h, ← ih]
        have e : splitK [c] 0 (List.count c r + 1) (p ++ c :: r) = if index (p ++ c :: r) [c] == -1 then [p ++ c :: r] else (p ++ c :: r).take ((index (p ++ c :: r) [c]).toNat + 0) :: splitK [c] 0 (List.count c r) ((p ++ c :: r).drop ((index (p ++ c :: r) [c]).toNat + [c].length)) := rfl
        rw [e, index_part c p r h]
        have : ((p.length : Int) == -1) = false := by rw [beq_eq_false_iff_ne]; omega
        simp [this]

theorem lines_nil : linesL [] = [] := rfl
theorem lines_cut (s : List UInt8) (h : s ≠ []) : linesL s = (cut s [10]).1 :: linesL (cut s [10]).2.1 := by
  rcases part_of 10 s with h0 | ⟨p, r, rfl, h0⟩
  · rw [cut_miss 10 s h0]
    unfold linesL
    rw [cutAll_last 10 s h0]
    simp [h, cutAll]
  · rw [cut_part 10 p r h0]
    simp only
    unfold linesL
    rw [cutAll_part 10 p r h0]
    have hn := cutAll_ne_nil 10 r
    generalize cutAll 10 r = q at hn
    cases q with
    | nil => exact absurd rfl hn
    | cons a q =>
      rw [List.getLast?_cons_cons]
      split <;> simp

/-- What is left of a text behind k lines. -/
structure Left (t : List UInt8) (k : Nat) (s : List UInt8) : Prop where
  lines : linesL s = (linesL t).drop k
  size : s.length ≤ t.length

theorem left_zero (t : List UInt8) : Left t 0 t := ⟨rfl, Nat.le_refl _⟩
theorem left_end {t s : List UInt8} {k : Nat} (h : Left t k s) : s = [] ↔ (linesL t).length ≤ k := by
  constructor
  · intro e
    have := h.lines
    rw [e, lines_nil] at this
    exact List.drop_eq_nil_iff.mp this.symm
  · intro hk
    by_cases e : s = []
    · exact e
    · have := h.lines
      rw [lines_cut s e, List.drop_of_length_le hk] at this
      cases this
theorem left_next {t s : List UInt8} {k : Nat} (h : Left t k s) (hs : s ≠ []) : (linesL t)[k]? = some (cut s [10]).1 ∧ Left t (k + 1) (cut s [10]).2.1 := by
  have h1 := h.lines
  rw [lines_cut s hs] at h1
  refine ⟨?_, ?_, ?_⟩
  · have := congrArg List.head? h1
    rw [List.head?_drop] at this
    exact this.symm
  · have := congrArg List.tail h1
    rw [List.tail_drop] at this
    exact this
  · have := h.size
    rcases part_of 10 s with h0 | ⟨p, r, rfl, h0⟩
    · rw [cut_miss 10 s h0]; simp
    · rw [cut_part 10 p r h0]; simp at this ⊢; omega
end Go.Proofs.YtnoofdjlocadbaaGreatDoor
