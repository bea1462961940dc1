/- Texts: numbers as fields, lines and their fields: plain functions on lists of bytes; nothing of the program. -/
import Derived.Lib.ItoaNum
import Derived.Lib.AtoiTie
namespace Go.Proofs.YtnoofdjlocadbaaGreatDoor
open Go Go.Lib

/-! ### Numbers -/

theorem ofNat_digit {k : Nat} (h : k < 10) : (UInt8.ofNat (48 + k)).toNat = 48 + k := by
  rw [UInt8.toNat_ofNat']; omega
theorem digitVal_ofNat {k : Nat} (h : k < 10) : digitVal (UInt8.ofNat (48 + k)) = some k := by
  unfold digitVal
  rw [ofNat_digit h, if_pos (by omega)]
  congr 1; omega

theorem decFrom_append : ∀ (l m : List UInt8) (acc : Nat), decFrom acc (l ++ m) = (decFrom acc l).bind fun n => decFrom n m
  | [], m, acc => rfl
  | b :: r, m, acc => by
    simp only [List.cons_append, decFrom]
    cases digitVal b with
    | none => rfl
    | some d => exact decFrom_append r m _

theorem decFrom_digits (u : Nat) : decFrom 0 (decDigits u) = some u := by
  induction u using Nat.strongRecOn with
  | _ u ih =>
    by_cases h : u < 10
    · rw [decDigits, dif_pos h]
      simp only [decFrom, digitVal_ofNat h]
      congr 1; omega
    · rw [decDigits, dif_neg h, decFrom_append, ih (u / 10) (by omega)]
      simp only [Option.bind_some, decFrom, digitVal_ofNat (Nat.mod_lt u (by decide : 0 < 10))]
      congr 1; omega

theorem head_app {l : List UInt8} (m : List UInt8) (h : l ≠ []) : (l ++ m).head? = l.head? := by
  cases l with
  | nil => exact absurd rfl h
  | cons a r => rfl

theorem digits_ne_nil (u : Nat) : decDigits u ≠ [] := by
  rw [decDigits]
  split
  · simp
  · simp
theorem digits_head (u : Nat) (h : 0 < u) : (decDigits u).head? ≠ some 48 := by
  induction u using Nat.strongRecOn with
  | _ u ih =>
    by_cases h1 : u < 10
    · rw [decDigits, dif_pos h1]
      intro e
      have e' : UInt8.ofNat (48 + u) = 48 := by simpa using e
      have := congrArg UInt8.toNat e'
      rw [ofNat_digit h1] at this
      have h48 : (48 : UInt8).toNat = 48 := rfl
      omega
    · rw [decDigits, dif_neg h1, head_app _ (digits_ne_nil _)]
      exact ih (u / 10) (by omega) (by omega)
theorem digits_zero : decDigits 0 = [48] := by rw [decDigits, dif_pos (by decide)]; rfl

theorem digits_each (u : Nat) : ∀ b ∈ decDigits u, 48 ≤ b.toNat ∧ b.toNat ≤ 57 := by
  induction u using Nat.strongRecOn with
  | _ u ih =>
    by_cases h : u < 10
    · rw [decDigits, dif_pos h]
      intro b hb
      rw [List.mem_singleton] at hb
      rw [hb, ofNat_digit h]; omega
    · rw [decDigits, dif_neg h]
      intro b hb
      rcases List.mem_append.1 hb with hb | hb
      · exact ih (u / 10) (by omega) b hb
      · rw [List.mem_singleton] at hb
        rw [hb, ofNat_digit (Nat.mod_lt u (by decide))]
        have := Nat.mod_lt u (show 0 < 10 by decide)
        omega

theorem digit_of_val {b : UInt8} {d : Nat} (h : digitVal b = some d) : d < 10 ∧ UInt8.ofNat (48 + d) = b := by
  obtain ⟨h1, h2, h3⟩ := digitVal_eq h
  refine ⟨by omega, ?_⟩
  apply UInt8.toNat_inj.1
  rw [ofNat_digit (by omega)]; omega

/-- Digits that spell a number without a leading zero are its digits. -/
theorem digits_of_dec : ∀ (k : Nat) (l : List UInt8) (m : Nat), l.length = k → l ≠ [] → decFrom 0 l = some m → (l.head? ≠ some 48 ∨ l = [48]) → l = decDigits m
  | 0, l, _, hk, hl, _, _ => by cases l <;> simp_all
  | k + 1, l, m, hk, hl, h, hz => by
    rcases List.eq_nil_or_concat l with rfl | ⟨r, b, rfl⟩
    · exact absurd rfl hl
    · rw [List.concat_eq_append] at *
      rw [decFrom_append] at h
      cases hr : decFrom 0 r with
      | none => rw [hr] at h; cases h
      | some n =>
        rw [hr] at h
        simp only [Option.bind_some, decFrom] at h
        cases hb : digitVal b with
        | none => rw [hb] at h; cases h
        | some d =>
          rw [hb] at h
          obtain ⟨hd, hbe⟩ := digit_of_val hb
          have hm : n * 10 + d = m := by simpa using h
          by_cases hrn : r = []
          · subst hrn
            have hn : n = 0 := by simpa [decFrom] using hr.symm
            subst hn
            rw [decDigits, dif_pos (by omega), List.nil_append, ← hbe]
            congr 2; omega
          · have hz' : r.head? ≠ some 48 ∨ r = [48] := by
              rcases hz with hz | hz
              · left
                rwa [head_app _ hrn] at hz
              · have := congrArg List.length hz
                simp at this
                exact absurd this hrn
            have hre := digits_of_dec k r n (by simpa using hk) hrn hr hz'
            have hn : 0 < n := by
              rcases Nat.eq_zero_or_pos n with h0 | h0
              · rw [h0, digits_zero] at hre
                rw [hre] at hz
                rcases hz with hz | hz
                · simp at hz
                · simp at hz
              · exact h0
            rw [decDigits, dif_neg (by omega), show m / 10 = n by omega, ← hre, show m % 10 = d by omega, hbe]

/-- The digits of a field: one to nine; no leading zero unless the field is just that. -/
def magL (d s : List UInt8) : Option Nat := if d.length < 1 ∨ 9 < d.length ∨ (d.head? = some 48 ∧ s ≠ [48]) then none else decFrom 0 d
theorem magL_some {d s : List UInt8} {m : Nat} (h : magL d s = some m) : ¬ d.length < 1 ∧ ¬ 9 < d.length ∧ ¬ (d.head? = some 48 ∧ s ≠ [48]) ∧ decFrom 0 d = some m := by
  unfold magL at h
  split at h
  · cases h
  · rename_i hc
    obtain ⟨h1, hc⟩ := not_or.1 hc
    obtain ⟨h2, h3⟩ := not_or.1 hc
    exact ⟨h1, h2, h3, h⟩

/-- The number that a field is: at most nine digits, no leading zero, no "-0". -/
def numberL (s : List UInt8) : Option Int :=
  if s.head? = some 45 then (magL s.tail s).map fun (m : Nat) => -(m : Int) else (magL s s).map fun (m : Nat) => (m : Int)

theorem digits_length_iff (u : Nat) : (decDigits u).length ≤ 9 ↔ u ≤ 999999999 := by
  rw [decDigits_length]
  constructor
  · intro h
    have := lt_pow_nDigits u
    have h2 := Nat.pow_le_pow_right (show 0 < 10 by decide) h
    have e : (10 : Nat) ^ 9 = 1000000000 := by decide
    omega
  · intro h
    have key : ∀ (k u : Nat), u < 10 ^ (k + 1) → nDigits u ≤ k + 1 := by
      intro k
      induction k with
      | zero => intro u hu; rw [nDigits_small (by simpa using hu)]; exact Nat.le_refl _
      | succ k ih =>
        intro u hu
        by_cases h10 : u < 10
        · rw [nDigits_small h10]; omega
        · rw [nDigits_big h10]
          have : u / 10 < 10 ^ (k + 1) := by
            rw [Nat.pow_succ] at hu
            exact Nat.div_lt_of_lt_mul (by rw [Nat.mul_comm]; exact hu)
          have := ih (u / 10) this
          omega
    exact key 8 u (by have e : (10 : Nat) ^ 9 = 1000000000 := by decide
                      show u < 10 ^ 9; omega)

theorem itoa_head {n : Int} : (itoa n).head? = some 45 ↔ n < 0 := by
  unfold itoa
  split
  · simp [*]
  · rename_i h
    constructor
    · intro e
      have hm : (45 : UInt8) ∈ decDigits n.toNat := List.mem_of_mem_head? (by rw [e]; rfl)
      have := digits_each _ _ hm
      have e45 : (45 : UInt8).toNat = 45 := rfl
      omega
    · intro e; exact absurd e h

theorem numberL_iff (s : List UInt8) (n : Int) : numberL s = some n ↔ s = itoa n ∧ -999999999 ≤ n ∧ n ≤ 999999999 := by
  constructor
  · intro h
    unfold numberL at h
    by_cases hneg : s.head? = some 45
    · rw [if_pos hneg] at h
      obtain ⟨m, hm, hn⟩ := Option.map_eq_some_iff.1 h
      obtain ⟨h1, h2, h3, hd⟩ := magL_some hm
      have hs : s = 45 :: s.tail := by
        cases s with
        | nil => cases hneg
        | cons a r => simp at hneg; rw [hneg]; rfl
      have hne : s ≠ [48] := fun e => by rw [e] at hneg; cases hneg
      have htl : s.tail ≠ [] := fun e => by rw [e] at h1; simp at h1
      have hz : s.tail.head? ≠ some 48 := fun e => h3 ⟨e, hne⟩
      have hdg := digits_of_dec _ _ m rfl htl hd (.inl hz)
      have hm0 : 0 < m := by
        rcases Nat.eq_zero_or_pos m with h0 | h0
        · rw [h0, digits_zero] at hdg; rw [hdg] at hz; simp at hz
        · exact h0
      have hle := (digits_length_iff m).1 (by rw [← hdg]; omega)
      refine ⟨?_, by omega, by omega⟩
      unfold itoa
      rw [if_pos (by omega), show n.natAbs = m by omega, ← hdg]
      exact hs
    · rw [if_neg hneg] at h
      obtain ⟨m, hm, hn⟩ := Option.map_eq_some_iff.1 h
      obtain ⟨h1, h2, h3, hd⟩ := magL_some hm
      have hne : s ≠ [] := fun e => by rw [e] at h1; simp at h1
      have hz : s.head? ≠ some 48 ∨ s = [48] := by
        by_cases e : s = [48]
        · exact .inr e
        · exact .inl fun h' => h3 ⟨h', e⟩
      have hdg := digits_of_dec _ _ m rfl hne hd hz
      have hle := (digits_length_iff m).1 (by rw [← hdg]; omega)
      refine ⟨?_, by omega, by omega⟩
      unfold itoa
      rw [if_neg (by omega), show n.toNat = m by omega]
      exact hdg
  · rintro ⟨rfl, h0, h1⟩
    unfold numberL
    by_cases hneg : n < 0
    · have hh : (itoa n).head? = some 45 := itoa_head.2 hneg
      have he : itoa n = 45 :: decDigits n.natAbs := by unfold itoa; rw [if_pos hneg]
      have hlen := (digits_length_iff n.natAbs).2 (by omega)
      have hpos : 0 < (decDigits n.natAbs).length := List.length_pos_iff.2 (digits_ne_nil _)
      rw [if_pos hh, he, List.tail_cons]
      unfold magL
      rw [if_neg (by
        rintro (h | h | ⟨h, _⟩)
        · omega
        · omega
        · exact digits_head _ (by omega) h), decFrom_digits]
      simp; omega
    · have hh : ¬ (itoa n).head? = some 45 := fun h => hneg (itoa_head.1 h)
      have he : itoa n = decDigits n.toNat := by unfold itoa; rw [if_neg hneg]
      have hlen := (digits_length_iff n.toNat).2 (by omega)
      have hpos : 0 < (decDigits n.toNat).length := List.length_pos_iff.2 (digits_ne_nil _)
      rw [if_neg hh, he]
      unfold magL
      rw [if_neg (by
        rintro (h | h | ⟨h, h'⟩)
        · omega
        · omega
        · by_cases h0' : n.toNat = 0
          · rw [h0', digits_zero] at h'; exact h' rfl
          · exact digits_head _ (by omega) h), decFrom_digits]
      simp; omega

theorem number_itoa {n : Int} (h0 : -999999999 ≤ n) (h1 : n ≤ 999999999) : numberL (itoa n) = some n := (numberL_iff _ _).2 ⟨rfl, h0, h1⟩
theorem number_bounds {s : List UInt8} {n : Int} (h : numberL s = some n) : -999999999 ≤ n ∧ n ≤ 999999999 := ((numberL_iff _ _).1 h).2

/-- What the fields are as numbers, if all are. -/
def numbersL : List (List UInt8) → Option (List Int)
  | [] => some []
  | f :: r => (numberL f).bind fun n => (numbersL r).map fun l => n :: l

theorem numbers_itoa : ∀ (l : List Int), (∀ n ∈ l, -999999999 ≤ n ∧ n ≤ 999999999) → numbersL (l.map itoa) = some l
  | [], _ => rfl
  | n :: r, h => by
    obtain ⟨a, b⟩ := h n (by simp)
    simp only [List.map_cons, numbersL, number_itoa a b, Option.bind_some, numbers_itoa r fun m hm => h m (by simp [hm]), Option.map_some]

/-! ### Lines and fields -/

/-- A text cut at each byte of a kind; it has one part or more. -/
def cutAll (c : UInt8) : List UInt8 → List (List UInt8)
  | [] => [[]]
  | b :: r => if b = c then [] :: cutAll c r else match cutAll c r with
    | p :: ps => (b :: p) :: ps
    | [] => [[b]]

theorem cutAll_ne_nil (c : UInt8) : ∀ l : List UInt8, cutAll c l ≠ []
  | [] => by simp [cutAll]
  | b :: r => by
    unfold cutAll
    split
    · simp
    · split <;> simp
/-- A part without such a byte, then the byte: the part stands first. -/
theorem cutAll_part (c : UInt8) : ∀ (p r : List UInt8), c ∉ p → cutAll c (p ++ c :: r) = p :: cutAll c r
  | [], r, _ => by simp [cutAll]
  | b :: p, r, h => by
    have hb : b ≠ c := fun e => h (by simp [e])
    have ih := cutAll_part c p r fun hm => h (by simp [hm])
    simp only [List.cons_append, cutAll, if_neg hb, ih]
theorem cutAll_last (c : UInt8) : ∀ p : List UInt8, c ∉ p → cutAll c p = [p]
  | [], _ => rfl
  | b :: p, h => by
    have hb : b ≠ c := fun e => h (by simp [e])
    have ih := cutAll_last c p fun hm => h (by simp [hm])
    simp only [cutAll, if_neg hb, ih]
/-- Parts without such a byte, joined by it, are cut into just them. -/
theorem cutAll_join (c : UInt8) (p : List UInt8) : ∀ ps : List (List UInt8), (∀ q ∈ p :: ps, c ∉ q) → cutAll c (p ++ ps.flatMap fun q => c :: q) = p :: ps
  | [], h => by simpa using cutAll_last c p (h p (by simp))
  | q :: ps, h => by
    rw [List.flatMap_cons, List.cons_append, cutAll_part c p _ (h p (by simp))]
    congr 1
    have := cutAll_join c q ps fun x hx => h x (by simp at hx ⊢; exact .inr hx)
    exact this

def fieldsL (l : List UInt8) : List (List UInt8) := cutAll 59 l
/-- The lines of a text: what stands behind the last line feed is one only if there is something. -/
def linesL (l : List UInt8) : List (List UInt8) := if (cutAll 10 l).getLast? = some [] then (cutAll 10 l).dropLast else cutAll 10 l

/-- A line that begins with a word and goes on with numbers, without its line feed. -/
def rowL (word : List UInt8) (ns : List Int) : List UInt8 := word ++ ns.flatMap fun n => 59 :: itoa n
def lineL (word : List UInt8) (ns : List Int) : List UInt8 := rowL word ns ++ [10]

theorem itoa_each (n : Int) : ∀ b ∈ itoa n, b.toNat = 45 ∨ (48 ≤ b.toNat ∧ b.toNat ≤ 57) := by
  intro b hb
  unfold itoa at hb
  split at hb
  · rcases List.mem_cons.1 hb with rfl | hb
    · exact .inl rfl
    · exact .inr (digits_each _ _ hb)
  · exact .inr (digits_each _ _ hb)
theorem itoa_no (n : Int) (c : UInt8) (h : c.toNat = 10 ∨ c.toNat = 59) : c ∉ itoa n := fun hm => by
  have := itoa_each n c hm
  omega
theorem fields_row (word : List UInt8) (ns : List Int) (h : (59 : UInt8) ∉ word) : fieldsL (rowL word ns) = word :: ns.map itoa := by
  unfold fieldsL rowL
  have := cutAll_join 59 word (ns.map itoa) fun q hq => by
    rcases List.mem_cons.1 hq with rfl | hq
    · exact h
    · obtain ⟨n, _, rfl⟩ := List.mem_map.1 hq
      exact itoa_no n _ (.inr rfl)
  rw [List.flatMap_map] at this
  exact this
theorem row_no_feed (word : List UInt8) (ns : List Int) (h : (10 : UInt8) ∉ word) : (10 : UInt8) ∉ rowL word ns := by
  unfold rowL
  intro hm
  rcases List.mem_append.1 hm with hm | hm
  · exact h hm
  · obtain ⟨n, _, hm⟩ := List.mem_flatMap.1 hm
    rcases List.mem_cons.1 hm with hm | hm
    · cases hm
    · exact itoa_no n _ (.inl rfl) hm

theorem lines_feeds : ∀ rows : List (List UInt8), (∀ r ∈ rows, (10 : UInt8) ∉ r) → cutAll 10 (rows.flatMap fun r => r ++ [10]) = rows ++ [[]]
  | [], _ => rfl
  | r :: rs, h => by
    rw [List.flatMap_cons, List.append_assoc, List.singleton_append, cutAll_part 10 r _ (h r (by simp)), lines_feeds rs fun x hx => h x (by simp [hx])]
    rfl
/-- Rows without line feeds, each with one behind it, are the lines of the text. -/
theorem lines_rows (rows : List (List UInt8)) (h : ∀ r ∈ rows, (10 : UInt8) ∉ r) : linesL (rows.flatMap fun r => r ++ [10]) = rows := by
  unfold linesL
  rw [lines_feeds rows h, if_pos (by simp), List.dropLast_concat]
/-- The same without the last line feed, if the last row is not empty. -/
theorem lines_short (rows : List (List UInt8)) (r : List UInt8) (h : ∀ x ∈ rows ++ [r], (10 : UInt8) ∉ x) (hr : r ≠ []) : linesL ((rows.flatMap fun r => r ++ [10]) ++ r) = rows ++ [r] := by
  have hcut : ∀ rows : List (List UInt8), (∀ x ∈ rows, (10 : UInt8) ∉ x) → cutAll 10 ((rows.flatMap fun r => r ++ [10]) ++ r) = rows ++ [r] := by
    intro rows
    induction rows with
    | nil => intro _; simpa using cutAll_last 10 r (h r (by simp))
    | cons x xs ih =>
      intro hx
      rw [List.flatMap_cons, List.append_assoc, List.append_assoc, List.singleton_append, cutAll_part 10 x _ (hx x (by simp)), ih fun y hy => hx y (by simp [hy])]
      rfl
  unfold linesL
  rw [hcut rows fun x hx => h x (by simp [hx]), if_neg (by simp [hr])]
end Go.Proofs.YtnoofdjlocadbaaGreatDoor
