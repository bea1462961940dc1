/- Rows of years: how many there are, counted from either end; where each strip can lie. Plain numbers: no program. -/
namespace Go.Proofs.Ytceginnogbbpeaa

/-- A sum of the first n. -/
def sumTo : Nat → (Nat → Nat) → Nat
  | 0, _ => 0
  | n + 1, f => sumTo n f + f n
theorem sumTo_congr {f g : Nat → Nat} : ∀ {n : Nat}, (∀ k, k < n → f k = g k) → sumTo n f = sumTo n g
  | 0, _ => rfl
  | n + 1, h => by rw [sumTo, sumTo, sumTo_congr (fun k hk => h k (by omega)), h n (by omega)]
theorem sumTo_zero : ∀ n, sumTo n (fun _ => 0) = 0
  | 0 => rfl
  | n + 1 => by rw [sumTo, sumTo_zero n]
theorem sumTo_add (f g : Nat → Nat) : ∀ n, sumTo n (fun k => f k + g k) = sumTo n f + sumTo n g
  | 0 => rfl
  | n + 1 => by simp only [sumTo, sumTo_add f g n]; omega
theorem sumTo_mul (c : Nat) (f : Nat → Nat) : ∀ n, sumTo n (fun k => c * f k) = c * sumTo n f
  | 0 => rfl
  | n + 1 => by rw [sumTo, sumTo_mul c f n, sumTo, Nat.mul_add]
theorem sumTo_swap (f : Nat → Nat → Nat) (m : Nat) : ∀ n, sumTo n (fun i => sumTo m (fun j => f i j)) = sumTo m (fun j => sumTo n (fun i => f i j))
  | 0 => by simp only [sumTo]; rw [sumTo_zero]
  | n + 1 => by simp only [sumTo]; rw [sumTo_swap f m n, ← sumTo_add]
theorem sumTo_le {f g : Nat → Nat} : ∀ {n : Nat}, (∀ k, k < n → f k ≤ g k) → sumTo n f ≤ sumTo n g
  | 0, _ => Nat.le_refl _
  | n + 1, h => Nat.add_le_add (sumTo_le (fun k hk => h k (by omega))) (h n (by omega))
theorem sumTo_mono {f : Nat → Nat} {m : Nat} : ∀ {n : Nat}, m ≤ n → sumTo m f ≤ sumTo n f
  | 0, h => by obtain rfl : m = 0 := by omega
               exact Nat.le_refl _
  | n + 1, h => by
    rcases Nat.lt_or_ge n m with h' | h'
    · obtain rfl : m = n + 1 := by omega
      exact Nat.le_refl _
    · have := sumTo_mono (f := f) h'
      simp only [sumTo]; omega
theorem sumTo_pos {f : Nat → Nat} : ∀ {n : Nat}, 0 < sumTo n f ↔ ∃ k, k < n ∧ 0 < f k
  | 0 => by simp [sumTo]
  | n + 1 => by
    simp only [sumTo]
    constructor
    · intro h
      by_cases hn : 0 < f n
      · exact ⟨n, by omega, hn⟩
      · obtain ⟨k, hk, hf⟩ := sumTo_pos.1 (show 0 < sumTo n f by omega)
        exact ⟨k, by omega, hf⟩
    · rintro ⟨k, hk, hf⟩
      by_cases hkn : k = n
      · subst hkn; omega
      · have := sumTo_pos.2 ⟨k, (show k < n by omega), hf⟩
        omega
/-- A shorter sum as a longer one with a condition. -/
theorem sumTo_cut (f : Nat → Nat) (m : Nat) : ∀ n, m ≤ n → sumTo m f = sumTo n (fun k => if k < m then f k else 0)
  | 0, h => by obtain rfl : m = 0 := by omega
               rfl
  | n + 1, h => by
    rcases Nat.lt_or_ge n m with h' | h'
    · obtain rfl : m = n + 1 := by omega
      exact sumTo_congr (fun k hk => by rw [if_pos hk])
    · rw [sumTo_cut f m n h']
      simp only [sumTo]
      rw [if_neg (by omega), Nat.add_zero]

/-- A year has a digit as its last one, or the digit is unread. -/
def fitsB (y d : Int) : Bool := decide (d = -1) || decide (y % 10 = d)
theorem fitsB_iff {y d : Int} : fitsB y d = true ↔ d = -1 ∨ y % 10 = d := by simp [fitsB]

section
variable (lo : Int) (r : Nat)

/-- How many rows stand ready for a strip at index k: the digits that were, the last one first. -/
def acc : List Int → Nat → Nat
  | [], _ => 1
  | d :: s, k => sumTo (k + 1 - r) (fun j => if fitsB (lo + j) d then acc s j else 0)
/-- How many rows end at index k. -/
def rowsAt (d : Int) (s : List Int) (k : Nat) : Nat := if fitsB (lo + k) d then acc lo r s k else 0
/-- How many rows there are. -/
def tot (n : Nat) : List Int → Nat
  | [] => 1
  | d :: s => sumTo n (rowsAt lo r d s)
/-- How many rows there are for digits from index k on. -/
def bk (n : Nat) : List Int → Nat → Nat
  | [], _ => 1
  | d :: s, k => sumTo n (fun j => if k ≤ j ∧ fitsB (lo + j) d = true then bk n s (j + r) else 0)

def mix (n : Nat) (d : Int) (s t : List Int) : Nat := sumTo n (fun j => rowsAt lo r d s j * bk lo r n t (j + r))

theorem acc_cut {n : Nat} (d : Int) (s : List Int) (i : Nat) (hi : i < n) (hr : 1 ≤ r) : acc lo r (d :: s) i = sumTo n (fun j => if j + r ≤ i then rowsAt lo r d s j else 0) := by
  show sumTo (i + 1 - r) (rowsAt lo r d s) = _
  rw [sumTo_cut _ _ n (by omega)]
  exact sumTo_congr (fun k _ => by
    by_cases h : k < i + 1 - r
    · rw [if_pos h, if_pos (by omega)]
    · rw [if_neg h, if_neg (by omega)])

theorem mix_step (n : Nat) (d e : Int) (s t : List Int) (hr : 1 ≤ r) : mix lo r n d s (e :: t) = mix lo r n e (d :: s) t := by
  have h1 : mix lo r n d s (e :: t) = sumTo n (fun j => sumTo n (fun i => rowsAt lo r d s j * (if j + r ≤ i ∧ fitsB (lo + i) e = true then bk lo r n t (i + r) else 0))) :=
    sumTo_congr (fun j _ => by rw [sumTo_mul]; rfl)
  rw [h1, sumTo_swap]
  refine sumTo_congr (fun i hi => ?_)
  show _ = (if fitsB (lo + i) e then acc lo r (d :: s) i else 0) * bk lo r n t (i + r)
  by_cases he : fitsB (lo + i) e = true
  · rw [if_pos he, acc_cut lo r d s i hi hr, Nat.mul_comm, ← sumTo_mul]
    refine sumTo_congr (fun j _ => ?_)
    by_cases hj : j + r ≤ i
    · rw [if_pos ⟨hj, he⟩, if_pos hj, Nat.mul_comm]
    · rw [if_neg (fun h => hj h.1), if_neg hj, Nat.mul_zero, Nat.mul_zero]
  · rw [if_neg he, Nat.zero_mul]
    exact (sumTo_congr (g := fun _ => 0) (fun j _ => by rw [if_neg (fun h => he h.2), Nat.mul_zero])).trans (sumTo_zero n)

theorem mix_all (n : Nat) (hr : 1 ≤ r) : ∀ (t : List Int) (d : Int) (s : List Int), mix lo r n d s t = tot lo r n (t.reverse ++ d :: s)
  | [], d, s => sumTo_congr (fun j _ => by show _ * 1 = _; rw [Nat.mul_one])
  | e :: t, d, s => by rw [mix_step lo r n d e s t hr, mix_all n hr t e (d :: s), List.reverse_cons, List.append_assoc, List.singleton_append]

/-- Counted from either end there are as many. -/
theorem tot_bk (n : Nat) (hr : 1 ≤ r) (ds : List Int) : tot lo r n ds.reverse = bk lo r n ds 0 := by
  cases ds with
  | nil => rfl
  | cons d t =>
    rw [List.reverse_cons, ← mix_all lo r n hr t d []]
    exact sumTo_congr (fun j _ => by
      show (if fitsB (lo + j) d then 1 else 0) * _ = _
      by_cases h : fitsB (lo + j) d = true
      · rw [if_pos h, if_pos ⟨Nat.zero_le _, h⟩, Nat.one_mul]
      · rw [if_neg h, if_neg (fun x => h x.2), Nat.zero_mul])

/-! No count is too great. -/
theorem pow_step (x : Nat) : ∀ m : Nat, x ^ (m + 1) + (m + 1) * x ^ m ≤ (x + 1) ^ (m + 1)
  | 0 => by simp
  | m + 1 => by
    have h := pow_step x m
    have e1 : (x + 1) ^ (m + 2) = x * (x + 1) ^ (m + 1) + (x + 1) ^ (m + 1) := by rw [Nat.pow_succ, Nat.mul_add, Nat.mul_one, Nat.mul_comm]
    have h2 : x * (x ^ (m + 1) + (m + 1) * x ^ m) ≤ x * (x + 1) ^ (m + 1) := Nat.mul_le_mul_left x h
    have e2 : x * (x ^ (m + 1) + (m + 1) * x ^ m) = x ^ (m + 2) + (m + 1) * x ^ (m + 1) := by
      rw [Nat.mul_add, Nat.pow_succ x (m + 1), Nat.mul_comm x (x ^ (m + 1)), Nat.mul_left_comm, Nat.pow_succ x m, Nat.mul_comm x (x ^ m)]
    have h3 : x ^ (m + 1) ≤ (x + 1) ^ (m + 1) := Nat.pow_le_pow_left (by omega) _
    have e3 : (m + 1 + 1) * x ^ (m + 1) = (m + 1) * x ^ (m + 1) + x ^ (m + 1) := by rw [Nat.add_mul, Nat.one_mul]
    have e4 : x ^ (m + 1 + 1) = x ^ (m + 2) := rfl
    have e5 : (x + 1) ^ (m + 1 + 1) = (x + 1) ^ (m + 2) := rfl
    rw [e5, e1, e3, e4]
    generalize (m + 1) * x ^ (m + 1) = A at *
    generalize x * (x + 1) ^ (m + 1) = B at *
    generalize x ^ (m + 2) = C at *
    rw [e2] at h2
    omega
theorem sum_pow (m : Nat) : ∀ n : Nat, sumTo n (fun j => (m + 1) * (j + 1) ^ m) ≤ (n + 1) ^ (m + 1)
  | 0 => by simp [sumTo]
  | n + 1 => by
    have h1 := sum_pow m n
    have h2 := pow_step (n + 1) m
    simp only [sumTo]
    omega
def fact : Nat → Nat
  | 0 => 1
  | m + 1 => (m + 1) * fact m
theorem acc_le (hr : 1 ≤ r) : ∀ (s : List Int) (k : Nat), fact s.length * acc lo r s k ≤ (k + 1) ^ s.length
  | [], k => by simp [fact, acc]
  | d :: s, k => by
    show (s.length + 1) * fact s.length * sumTo (k + 1 - r) (rowsAt lo r d s) ≤ (k + 1) ^ (s.length + 1)
    rw [← sumTo_mul]
    refine Nat.le_trans (sumTo_le (g := fun j => (s.length + 1) * (j + 1) ^ s.length) (fun j _ => ?_)) (Nat.le_trans (sumTo_mono (show k + 1 - r ≤ k by omega)) (sum_pow _ _))
    rw [Nat.mul_assoc]
    refine Nat.mul_le_mul_left _ (Nat.le_trans (Nat.mul_le_mul_left _ ?_) (acc_le hr s j))
    unfold rowsAt
    split
    · exact Nat.le_refl _
    · exact Nat.zero_le _
theorem tot_le (hr : 1 ≤ r) (n : Nat) (s : List Int) : fact s.length * tot lo r n s ≤ (n + 1) ^ s.length := by
  cases s with
  | nil => simp [fact, tot]
  | cons d s =>
    show (s.length + 1) * fact s.length * sumTo n (rowsAt lo r d s) ≤ (n + 1) ^ (s.length + 1)
    rw [← sumTo_mul]
    refine Nat.le_trans (sumTo_le (g := fun j => (s.length + 1) * (j + 1) ^ s.length) (fun j _ => ?_)) (sum_pow _ _)
    rw [Nat.mul_assoc]
    refine Nat.mul_le_mul_left _ (Nat.le_trans (Nat.mul_le_mul_left _ ?_) (acc_le lo r hr s j))
    unfold rowsAt
    split
    · exact Nat.le_refl _
    · exact Nat.zero_le _

theorem small_of {m a n : Nat} (hm : m ≤ 10) (hn : n ≤ 301) (h : fact m * a ≤ (n + 1) ^ m) : a ≤ 2000000000000000000 := by
  have key : ∀ m, m ≤ 10 → 302 ^ m ≤ fact m * 2000000000000000000 := by decide
  have h1 : fact m * a ≤ fact m * 2000000000000000000 := Nat.le_trans h (Nat.le_trans (Nat.pow_le_pow_left (by omega) _) (key m hm))
  have hf : ∀ m, 0 < fact m := fun m => by
    induction m with
    | zero => exact Nat.one_pos
    | succ m ih => exact Nat.mul_pos (by omega) ih
  exact Nat.le_of_mul_le_mul_left h1 (hf m)
theorem acc_small (hr : 1 ≤ r) (s : List Int) (hs : s.length ≤ 10) (k : Nat) (hk : k ≤ 301) : acc lo r s k ≤ 2000000000000000000 := small_of hs hk (acc_le lo r hr s k)
theorem tot_small (hr : 1 ≤ r) (s : List Int) (hs : s.length ≤ 10) (n : Nat) (hn : n ≤ 301) : tot lo r n s ≤ 2000000000000000000 := small_of hs hn (tot_le lo r hr n s)
end

/-! Where the strips can lie. -/
/-- The first year from y on that has a digit; the last one up to y. -/
def nxt (d y : Int) : Int := if d = -1 then y else y + (d - y) % 10
def prv (d y : Int) : Int := if d = -1 then y else y - (y - d) % 10
theorem nxt_spec {d y : Int} (h0 : -1 ≤ d) (h1 : d ≤ 9) : y ≤ nxt d y ∧ nxt d y ≤ y + 9 ∧ fitsB (nxt d y) d = true ∧ ∀ z, y ≤ z → fitsB z d = true → nxt d y ≤ z := by
  unfold nxt
  by_cases hd : d = -1
  · rw [if_pos hd]
    exact ⟨by omega, by omega, fitsB_iff.2 (.inl hd), fun z hz _ => hz⟩
  · rw [if_neg hd]
    refine ⟨by omega, by omega, fitsB_iff.2 (.inr (by omega)), fun z hz hf => ?_⟩
    rcases fitsB_iff.1 hf with h | h
    · exact absurd h hd
    · omega
theorem prv_spec {d y : Int} (h0 : -1 ≤ d) (h1 : d ≤ 9) : prv d y ≤ y ∧ y - 9 ≤ prv d y ∧ fitsB (prv d y) d = true ∧ ∀ z, z ≤ y → fitsB z d = true → z ≤ prv d y := by
  unfold prv
  by_cases hd : d = -1
  · rw [if_pos hd]
    exact ⟨by omega, by omega, fitsB_iff.2 (.inl hd), fun z hz _ => hz⟩
  · rw [if_neg hd]
    refine ⟨by omega, by omega, fitsB_iff.2 (.inr (by omega)), fun z hz hf => ?_⟩
    rcases fitsB_iff.1 hf with h | h
    · exact absurd h hd
    · omega

/-- From which year on the next strip can lie: the digits that were, the last one first. -/
def thr (lo : Int) (r : Nat) : List Int → Int
  | [] => lo
  | d :: s => nxt d (thr lo r s) + r
theorem thr_lo (lo : Int) (r : Nat) : ∀ s : List Int, (∀ d ∈ s, -1 ≤ d ∧ d ≤ 9) → lo ≤ thr lo r s
  | [], _ => Int.le_refl _
  | d :: s, h => by
    have h1 := thr_lo lo r s (fun d hd => h d (by simp [hd]))
    have h2 := (nxt_spec (y := thr lo r s) (h d (by simp)).1 (h d (by simp)).2).1
    simp only [thr]; omega
theorem acc_pos (lo : Int) (r : Nat) : ∀ (s : List Int), (∀ d ∈ s, -1 ≤ d ∧ d ≤ 9) → ∀ k : Nat, 0 < acc lo r s k ↔ thr lo r s ≤ lo + k
  | [], _, k => by simp only [acc, thr]; omega
  | d :: s, h, k => by
    have ih := acc_pos lo r s (fun d hd => h d (by simp [hd]))
    obtain ⟨n1, n2, n3, n4⟩ := nxt_spec (y := thr lo r s) (h d (by simp)).1 (h d (by simp)).2
    have hl := thr_lo lo r s (fun d hd => h d (by simp [hd]))
    simp only [acc, thr]
    rw [sumTo_pos]
    constructor
    · rintro ⟨j, hj, hf⟩
      by_cases hd : fitsB (lo + j) d = true
      · rw [if_pos hd] at hf
        have h1 := (ih j).1 hf
        have h2 := n4 _ h1 hd
        omega
      · rw [if_neg hd] at hf; omega
    · intro hk
      refine ⟨(nxt d (thr lo r s) - lo).toNat, by omega, ?_⟩
      have e : lo + ((nxt d (thr lo r s) - lo).toNat : Int) = nxt d (thr lo r s) := by omega
      rw [e, if_pos n3]
      exact (ih _).2 (by omega)
theorem rowsAt_pos (lo : Int) (r : Nat) (d : Int) (s : List Int) (h : ∀ e ∈ s, -1 ≤ e ∧ e ≤ 9) (k : Nat) : 0 < rowsAt lo r d s k ↔ fitsB (lo + k) d = true ∧ thr lo r s ≤ lo + k := by
  unfold rowsAt
  by_cases hd : fitsB (lo + k) d = true
  · rw [if_pos hd, acc_pos lo r s h k]; simp [hd]
  · rw [if_neg hd]; simp [hd]
theorem tot_pos (lo : Int) (r n : Nat) (d : Int) (s : List Int) (h0 : -1 ≤ d) (h1 : d ≤ 9) (h : ∀ e ∈ s, -1 ≤ e ∧ e ≤ 9) : 0 < tot lo r n (d :: s) ↔ nxt d (thr lo r s) < lo + n := by
  simp only [tot]
  rw [sumTo_pos]
  obtain ⟨n1, n2, n3, n4⟩ := nxt_spec (y := thr lo r s) h0 h1
  have hl := thr_lo lo r s h
  constructor
  · rintro ⟨k, hk, hf⟩
    obtain ⟨h2, h3⟩ := (rowsAt_pos lo r d s h k).1 hf
    have := n4 _ h3 h2
    omega
  · intro hn
    refine ⟨(nxt d (thr lo r s) - lo).toNat, by omega, (rowsAt_pos lo r d s h _).2 ?_⟩
    have e : lo + ((nxt d (thr lo r s) - lo).toNat : Int) = nxt d (thr lo r s) := by omega
    rw [e]
    exact ⟨n3, n1⟩
/-! The count from an index on, a year at a time. -/
theorem sum_one (y a : Nat) : ∀ n, sumTo n (fun j => if j = y then a else 0) = if y < n then a else 0
  | 0 => by simp [sumTo]
  | n + 1 => by
    rw [sumTo, sum_one y a n]
    by_cases h1 : y < n
    · rw [if_pos h1, if_neg (by omega), if_pos (by omega), Nat.add_zero]
    · by_cases h2 : y = n
      · subst h2; rw [if_neg (by omega), if_pos rfl, if_pos (by omega), Nat.zero_add]
      · rw [if_neg h1, if_neg (fun h => h2 h.symm), if_neg (by omega)]
theorem bk_step (lo : Int) (r n : Nat) (d : Int) (s : List Int) (y : Nat) (hy : y < n) : bk lo r n (d :: s) y = bk lo r n (d :: s) (y + 1) + (if fitsB (lo + y) d = true then bk lo r n s (y + r) else 0) := by
  have h : (if fitsB (lo + y) d = true then bk lo r n s (y + r) else 0) = sumTo n (fun j => if j = y then (if fitsB (lo + y) d = true then bk lo r n s (y + r) else 0) else 0) := by rw [sum_one, if_pos hy]
  rw [h]
  simp only [bk]
  rw [← sumTo_add]
  refine sumTo_congr (fun k _ => ?_)
  by_cases hk : k = y
  · subst hk
    rw [if_pos rfl, if_neg (show ¬ (k + 1 ≤ k ∧ _) from fun h => by have := h.1; omega), Nat.zero_add]
    by_cases hf : fitsB (lo + k) d = true
    · rw [if_pos ⟨Nat.le_refl _, hf⟩, if_pos hf]
    · rw [if_neg (fun h => hf h.2), if_neg hf]
  · rw [if_neg hk, Nat.add_zero]
    by_cases hf : y ≤ k ∧ fitsB (lo + k) d = true
    · rw [if_pos hf, if_pos ⟨by have := hf.1; omega, hf.2⟩]
    · rw [if_neg hf, if_neg (fun h => hf ⟨by have := h.1; omega, h.2⟩)]
theorem bk_end (lo : Int) (r n : Nat) (d : Int) (s : List Int) (y : Nat) (hy : n ≤ y) : bk lo r n (d :: s) y = 0 := by
  simp only [bk]
  exact (sumTo_congr (g := fun _ => 0) (fun k hk => by rw [if_neg (fun h => by have := h.1; omega)])).trans (sumTo_zero n)
theorem bk_le (lo : Int) (r n : Nat) (s : List Int) (y : Nat) : bk lo r n s y ≤ bk lo r n s 0 := by
  cases s with
  | nil => exact Nat.le_refl _
  | cons d s =>
    simp only [bk]
    refine sumTo_le (fun k _ => ?_)
    by_cases h : y ≤ k ∧ fitsB (lo + k) d = true
    · rw [if_pos h, if_pos ⟨Nat.zero_le _, h.2⟩]; exact Nat.le_refl _
    · rw [if_neg h]; exact Nat.zero_le _
theorem bk_small (lo : Int) (r n : Nat) (hr : 1 ≤ r) (s : List Int) (hs : s.length ≤ 10) (hn : n ≤ 301) (y : Nat) : bk lo r n s y ≤ 2000000000000000000 :=
  Nat.le_trans (bk_le lo r n s y) (by rw [← tot_bk lo r n hr s]; exact tot_small lo r hr s.reverse (by simpa using hs) n hn)
theorem sum_front (m : Nat) (f : Nat → Nat) (h : ∀ j, j < m → f j = 0) : ∀ n, sumTo (m + n) f = sumTo n (fun j => f (m + j))
  | 0 => by
    show sumTo m f = 0
    rw [← sumTo_zero m]; exact sumTo_congr (fun k hk => h k hk)
  | n + 1 => by
    show sumTo (m + n) f + f (m + n) = sumTo n (fun j => f (m + j)) + f (m + n)
    rw [sum_front m f h n]
/-- Counted by years from 0 on. -/
theorem bk_abs (m r n : Nat) : ∀ (s : List Int) (k : Nat), bk (m : Int) r n s k = bk 0 r (m + n) s (m + k)
  | [], _ => rfl
  | d :: s, k => by
    simp only [bk]
    rw [sum_front m _ (fun j hj => by rw [if_neg (fun h => by have := h.1; omega)]) n]
    refine sumTo_congr (fun j _ => ?_)
    have e : (0 : Int) + ((m + j : Nat) : Int) = (m : Int) + j := by omega
    rw [e, bk_abs m r n s (j + r), show m + j + r = m + (j + r) by omega]
    by_cases h : k ≤ j ∧ fitsB ((m : Int) + j) d = true
    · rw [if_pos h, if_pos ⟨by have := h.1; omega, h.2⟩]
    · rw [if_neg h, if_neg (fun h' => h ⟨by have := h'.1; omega, h'.2⟩)]
/-- With a first digit: the rows by their first years. -/
theorem bk_cons (lo : Int) (r n : Nat) (d : Int) (s : List Int) (k : Nat) : bk lo r n (d :: s) k = sumTo n (fun j => if k ≤ j ∧ fitsB (lo + j) d = true then bk lo r n s (j + r) else 0) := rfl
end Go.Proofs.Ytceginnogbbpeaa
