/- Two ascending lists, in order: plain; and what inOrder's iterator yields. -/
import Derived.Test.YtbgojeppfhldjaaYIter
import Derived.Test.YtbgojeppfhldjaaYKeep
namespace Go.Proofs.Ytbgojeppfhldjaa
open Go Go.RowKit Yd

/-- The elements of two ascending lists, ascending; what is in both comes twice. -/
def mg : List Int → List Int → List Int
  | [], [] => []
  | [], b :: m => b :: mg m []
  | a :: l, [] => a :: mg l []
  | a :: l, b :: m => if b < a then b :: mg m (a :: l) else a :: mg l (b :: m)
termination_by l m => l.length + m.length

theorem mg_length (l m : List Int) : (mg l m).length = l.length + m.length := by
  fun_induction mg l m with
  | case1 => rfl
  | case2 b m ih => simp only [List.length_cons, ih, List.length_nil]; first | done | omega
  | case3 a l ih => simp only [List.length_cons, ih, List.length_nil]; first | done | omega
  | case4 a l b m h ih => simp only [List.length_cons, ih]; omega
  | case5 a l b m h ih => simp only [List.length_cons, ih]; omega
theorem mem_mg (l m : List Int) (p : Int) : p ∈ mg l m ↔ p ∈ l ∨ p ∈ m := by
  fun_induction mg l m with
  | case1 => simp
  | case2 b m ih => simp [ih]
  | case3 a l ih => simp [ih]
  | case4 a l b m h ih => simp only [List.mem_cons, ih]; grind
  | case5 a l b m h ih => simp only [List.mem_cons, ih]; grind

/-- The next element, if it is not the last one. -/
def dd (acc : List Int) (x : Int) : List Int := if acc.getLast? = some x then acc else acc ++ [x]
/-- Ascending lists. -/
def Asc (l : List Int) : Prop := l.Pairwise (· < ·)

theorem mg_sorted (l m : List Int) : Asc l → Asc m → (mg l m).Pairwise (· ≤ ·) := by
  fun_induction mg l m with
  | case1 => intro _ _; exact .nil
  | case2 b m ih =>
    intro _ hm
    have hm' := List.pairwise_cons.1 hm
    refine .cons (fun y hy => ?_) (ih hm'.2 .nil)
    rw [mem_mg] at hy
    rcases hy with hy | hy
    · have := hm'.1 y hy; omega
    · simp at hy
  | case3 a l ih =>
    intro hl _
    have hl' := List.pairwise_cons.1 hl
    refine .cons (fun y hy => ?_) (ih hl'.2 .nil)
    rw [mem_mg] at hy
    rcases hy with hy | hy
    · have := hl'.1 y hy; omega
    · simp at hy
  | case4 a l b m h ih =>
    intro hl hm
    have hl' := List.pairwise_cons.1 hl
    have hm' := List.pairwise_cons.1 hm
    refine .cons (fun y hy => ?_) (ih hm'.2 hl)
    rw [mem_mg] at hy
    rcases hy with hy | hy
    · have := hm'.1 y hy; omega
    · rcases List.mem_cons.1 hy with rfl | hy
      · omega
      · have := hl'.1 y hy; omega
  | case5 a l b m h ih =>
    intro hl hm
    have hl' := List.pairwise_cons.1 hl
    have hm' := List.pairwise_cons.1 hm
    refine .cons (fun y hy => ?_) (ih hl'.2 hm)
    rw [mem_mg] at hy
    rcases hy with hy | hy
    · have := hl'.1 y hy; omega
    · rcases List.mem_cons.1 hy with rfl | hy
      · omega
      · have := hm'.1 y hy; omega

theorem fold_dd : ∀ (s acc : List Int), s.Pairwise (· ≤ ·) → Asc acc → (∀ x ∈ acc, ∀ y ∈ s, x ≤ y) → Asc (s.foldl dd acc) ∧ ∀ p, p ∈ s.foldl dd acc ↔ p ∈ acc ∨ p ∈ s
  | [], acc, _, ha, _ => ⟨ha, fun p => by simp⟩
  | x :: s, acc, hs, ha, hx => by
    have hs' := List.pairwise_cons.1 hs
    by_cases h : acc.getLast? = some x
    · have e : dd acc x = acc := if_pos h
      rw [List.foldl_cons, e]
      have hmem : x ∈ acc := List.mem_of_getLast? h
      obtain ⟨h1, h2⟩ := fold_dd s acc hs'.2 ha (fun y hy z hz => hx y hy z (by simp [hz]))
      refine ⟨h1, fun p => ?_⟩
      rw [h2]
      simp only [List.mem_cons]
      grind
    · have e : dd acc x = acc ++ [x] := if_neg h
      rw [List.foldl_cons, e]
      have hlt : ∀ y ∈ acc, y < x := fun y hy => by
        have h1 := hx y hy x (by simp)
        rcases Int.lt_or_eq_of_le h1 with h2 | h2
        · exact h2
        · subst h2
          exfalso
          apply h
          obtain ⟨pre, z, rfl⟩ : ∃ pre z, acc = pre ++ [z] := ⟨acc.dropLast, acc.getLast (fun e => by subst e; simp at hy), (List.dropLast_concat_getLast _).symm⟩
          simp only [List.getLast?_append, List.getLast?_singleton, Option.some_or, Option.some.injEq]
          rcases List.mem_append.1 hy with hy | hy
          · have h3 := (List.pairwise_append.1 ha).2.2 y hy z (by simp)
            have h4 := hx z (by simp) y (by simp)
            omega
          · rw [List.mem_singleton] at hy; exact hy.symm
      obtain ⟨h1, h2⟩ := fold_dd s (acc ++ [x]) hs'.2 (List.pairwise_append.2 ⟨ha, List.pairwise_singleton _ _, fun a ha' b hb => by rw [List.mem_singleton] at hb; subst hb; exact hlt a ha'⟩) (fun y hy z hz => by
        rcases List.mem_append.1 hy with hy | hy
        · exact hx y hy z (by simp [hz])
        · rw [List.mem_singleton] at hy; subst hy; exact hs'.1 z hz)
      refine ⟨h1, fun p => ?_⟩
      rw [h2]
      simp only [List.mem_append, List.mem_cons]
      grind

theorem asc_ext : ∀ {l m : List Int}, Asc l → Asc m → (∀ p, p ∈ l ↔ p ∈ m) → l = m
  | [], [], _, _, _ => rfl
  | [], b :: m, _, _, h => by have := (h b).2 (by simp); simp at this
  | a :: l, [], _, _, h => by have := (h a).1 (by simp); simp at this
  | a :: l, b :: m, hl, hm, h => by
    have hl' := List.pairwise_cons.1 hl
    have hm' := List.pairwise_cons.1 hm
    have hab : a = b := by
      rcases List.mem_cons.1 ((h a).1 (by simp)) with h1 | h1
      · exact h1
      · rcases List.mem_cons.1 ((h b).2 (by simp)) with h2 | h2
        · exact h2.symm
        · have := hm'.1 a h1
          have := hl'.1 b h2
          omega
    subst hab
    congr 1
    refine asc_ext hl'.2 hm'.2 (fun p => ?_)
    constructor
    · intro hp
      rcases List.mem_cons.1 ((h p).1 (by simp [hp])) with h1 | h1
      · subst h1; have := hl'.1 p hp; omega
      · exact h1
    · intro hp
      rcases List.mem_cons.1 ((h p).2 (by simp [hp])) with h1 | h1
      · subst h1; have := hm'.1 p hp; omega
      · exact h1
theorem asc_both (l m : List Int) : Asc l → Asc m → Asc (both l m) := by
  fun_induction both l m with
  | case1 m => intro _ hm; exact hm
  | case2 a l => intro hl _; exact hl
  | case3 a l b m h ih =>
    intro hl hm
    have hl' := List.pairwise_cons.1 hl
    have hm' := List.pairwise_cons.1 hm
    refine .cons (fun y hy => ?_) (ih hl'.2 hm)
    rw [mem_both] at hy
    rcases hy with hy | hy
    · exact hl'.1 y hy
    · rcases List.mem_cons.1 hy with rfl | hy
      · exact h
      · have := hm'.1 y hy; omega
  | case4 a l b m h h' ih =>
    intro hl hm
    have hl' := List.pairwise_cons.1 hl
    have hm' := List.pairwise_cons.1 hm
    refine .cons (fun y hy => ?_) (ih hl hm'.2)
    rw [mem_both] at hy
    rcases hy with hy | hy
    · rcases List.mem_cons.1 hy with rfl | hy
      · exact h'
      · have := hl'.1 y hy; omega
    · exact hm'.1 y hy
  | case5 a l b m h h' ih =>
    intro hl hm
    have hab : a = b := by omega
    subst hab
    have hl' := List.pairwise_cons.1 hl
    have hm' := List.pairwise_cons.1 hm
    refine .cons (fun y hy => ?_) (ih hl'.2 hm'.2)
    rw [mem_both] at hy
    rcases hy with hy | hy
    · exact hl'.1 y hy
    · exact hm'.1 y hy
/-- What is joined. -/
theorem fold_mg {l m : List Int} (hl : Asc l) (hm : Asc m) : (mg l m).foldl dd [] = both l m := by
  obtain ⟨h1, h2⟩ := fold_dd (mg l m) [] (mg_sorted l m hl hm) .nil (fun x hx => by simp at hx)
  refine asc_ext h1 (asc_both l m hl hm) (fun p => ?_)
  rw [h2, mem_mg, mem_both]
  simp
end Go.Proofs.Ytbgojeppfhldjaa
