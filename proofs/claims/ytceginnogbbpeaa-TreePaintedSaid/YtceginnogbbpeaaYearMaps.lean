/- What the maps of Dates hold: for each year the number of rows; and their least and greatest years. -/
import Derived.Test.YtceginnogbbpeaaFacts
import Derived.Test.YtceginnogbbpeaaYears
namespace Go.Proofs.Ytceginnogbbpeaa
open Go.RowKit Go.Shelf Go.Maps

/-- The entries of the years that have rows. -/
def entsOf (lo : Int) (f : Nat → Nat) : Nat → List (Lit × DataW Unit)
  | 0 => []
  | n + 1 => entsOf lo f n ++ (if 0 < f n then [(.int .i64 (lo + n), .lit (.int .i64 (f n)))] else [])
theorem ents_mem {lo : Int} {f : Nat → Nat} {p : Lit × DataW Unit} : ∀ {n : Nat}, p ∈ entsOf lo f n ↔ ∃ k, k < n ∧ 0 < f k ∧ p = (.int .i64 (lo + k), .lit (.int .i64 (f k)))
  | 0 => by simp [entsOf]
  | n + 1 => by
    simp only [entsOf, List.mem_append, ents_mem (n := n)]
    constructor
    · rintro (⟨k, hk, hf, rfl⟩ | h)
      · exact ⟨k, by omega, hf, rfl⟩
      · split at h
        · rename_i hf
          exact ⟨n, by omega, hf, by simpa using h⟩
        · cases h
    · rintro ⟨k, hk, hf, rfl⟩
      by_cases hkn : k = n
      · subst hkn; exact .inr (by rw [if_pos hf]; simp)
      · exact .inl ⟨k, by omega, hf, rfl⟩

theorem insert_end {x : Int} {d : DataW Unit} : ∀ {es : List (Lit × DataW Unit)}, (∀ p ∈ es, ∃ y, p.1 = .int .i64 y ∧ y < x) → DataW.insert (.int .i64 x, d) es = es ++ [(.int .i64 x, d)]
  | [], _ => rfl
  | q :: es, h => by
    obtain ⟨y, hy, hlt⟩ := h q (by simp)
    have hb : Lit.before (.int .i64 x) q.1 = false := by rw [hy]; simp only [Lit.before]; exact decide_eq_false (by omega)
    show (if Lit.before (.int .i64 x) q.1 = true then _ else _) = _
    rw [hb, insert_end (fun p hp => h p (by simp [hp]))]
    rfl
theorem put_end {x : Int} {d : DataW Unit} {es : List (Lit × DataW Unit)} (h : ∀ p ∈ es, ∃ y, p.1 = .int .i64 y ∧ y < x) : (DataW.map es).put (.int .i64 x) d = .map (es ++ [(.int .i64 x, d)]) := by
  have hf : es.filter (fun p => !p.1.sameKey (.int .i64 x)) = es := List.filter_eq_self.2 (fun p hp => by
    obtain ⟨y, hy, hlt⟩ := h p hp
    rw [hy]
    simp only [Lit.sameKey, true_and, Bool.not_eq_true', decide_eq_false_iff_not]
    omega)
  show DataW.map (DataW.insert _ (es.filter _)) = _
  rw [hf, insert_end h]
theorem ents_low {lo : Int} {f : Nat → Nat} {n : Nat} : ∀ p ∈ entsOf lo f n, ∃ y, p.1 = .int .i64 y ∧ y < lo + n := fun p hp => by
  obtain ⟨k, hk, _, rfl⟩ := ents_mem.1 hp
  exact ⟨_, rfl, by omega⟩

theorem find_ents {lo : Int} {f : Nat → Nat} (x : Int) : ∀ n : Nat, (entsOf lo f n).find? (fun p => p.1.sameKey (.int .i64 x)) = if lo ≤ x ∧ x < lo + n ∧ 0 < f (x - lo).toNat then some (.int .i64 x, .lit (.int .i64 (f (x - lo).toNat))) else none
  | 0 => by rw [if_neg (by omega)]; rfl
  | n + 1 => by
    simp only [entsOf, List.find?_append, find_ents x n]
    by_cases h : lo ≤ x ∧ x < lo + n ∧ 0 < f (x - lo).toNat
    · have h' : lo ≤ x ∧ x < lo + ((n + 1 : Nat) : Int) ∧ 0 < f (x - lo).toNat := ⟨h.1, by omega, h.2.2⟩
      rw [if_pos h, if_pos h']; rfl
    · rw [if_neg h, Option.none_or]
      by_cases hx : x = lo + n
      · have e : (x - lo).toNat = n := by omega
        rw [e]
        by_cases hf : 0 < f n
        · have h' : lo ≤ x ∧ x < lo + ((n + 1 : Nat) : Int) ∧ 0 < f n := ⟨by omega, by omega, hf⟩
          rw [if_pos hf, if_pos h', List.find?_cons_of_pos (by rw [hx]; simp [Lit.sameKey]), hx]
        · have h' : ¬ (lo ≤ x ∧ x < lo + ((n + 1 : Nat) : Int) ∧ 0 < f n) := fun h => hf h.2.2
          rw [if_neg hf, if_neg h']; rfl
      · have hn : ¬ (lo ≤ x ∧ x < lo + (n + 1 : Nat) ∧ 0 < f (x - lo).toNat) := fun h' => h ⟨h'.1, by omega, h'.2.2⟩
        rw [if_neg hn]
        split
        · rw [List.find?_cons_of_neg (by simp [Lit.sameKey]; omega)]; rfl
        · rfl
theorem valAt_ents {lo : Int} {f : Nat → Nat} (x : Int) (n : Nat) : valAt (.map (entsOf lo f n)) x = if lo ≤ x ∧ x < lo + n then (f (x - lo).toNat : Int) else 0 := by
  unfold valAt
  simp only [DataW.atKey, find_ents x n]
  by_cases h : lo ≤ x ∧ x < lo + n
  · rw [if_pos h]
    by_cases hf : 0 < f (x - lo).toNat
    · rw [if_pos ⟨h.1, h.2, hf⟩]
    · rw [if_neg (fun h' => hf h'.2.2)]
      simp; omega
  · rw [if_neg h, if_neg (fun h' => h ⟨h'.1, h'.2.1⟩)]

theorem wrap_small {z : Int} (h0 : 0 ≤ z) (h1 : z ≤ 9000000000000000000) : wrap64 z = z := by unfold wrap64; omega

theorem digit_run (D : DataW Unit) (d rest lo : Int) (g : Nat → Nat) : ∀ n : Nat, 0 ≤ lo → lo + n ≤ 301 → (∀ k : Nat, k < n → valAt D (lo + k - rest) = g k) → (∀ k, k ≤ n → sumTo k g ≤ 2000000000000000000) →
    digitRun D d rest (upto (yearAt lo) n) = (((sumTo n g : Nat) : Int), DataW.map (entsOf lo (fun k => if fitsB (lo + k) d then sumTo (k + 1) g else 0) n))
  | 0, _, _, _, _ => rfl
  | n + 1, h0, h1, hv, hs => by
    rw [upto_succ, digitRun_snoc, digit_run D d rest lo g n h0 (by omega) (fun k hk => hv k (by omega)) (fun k hk => hs k (by omega)), yearAt_val h0 (by omega)]
    have hw : wrap64 ((sumTo n g : Nat) + valAt D (lo + n - rest)) = ((sumTo (n + 1) g : Nat) : Int) := by
      rw [hv n (by omega)]
      have := hs (n + 1) (Nat.le_refl _)
      simp only [sumTo] at this ⊢
      rw [wrap_small (by omega) (by omega)]; omega
    simp only [digitStep, hw]
    refine Prod.ext rfl ?_
    show (if _ then _ else _) = DataW.map (entsOf lo _ n ++ _)
    generalize hF : (fun k : Nat => if fitsB (lo + k) d = true then sumTo (k + 1) g else 0) = F
    have hFn : F n = if fitsB (lo + n) d = true then sumTo (n + 1) g else 0 := by rw [← hF]
    clear hF
    by_cases hf : fitsB (lo + n) d = true
    · rw [if_pos hf] at hFn
      by_cases hp : 0 < sumTo (n + 1) g
      · rw [if_pos ⟨by omega, fitsB_iff.1 hf⟩, put_end ents_low, hFn, if_pos hp]
      · rw [if_neg (fun h => hp (by have := h.1; omega)), hFn, if_neg hp, List.append_nil]
    · rw [if_neg hf] at hFn
      rw [if_neg (fun h => hf (fitsB_iff.2 h.2)), hFn, if_neg (Nat.lt_irrefl 0), List.append_nil]

theorem sum_shift (r : Nat) (f : Nat → Nat) : ∀ k : Nat, sumTo k (fun j => if r ≤ j then f (j - r) else 0) = sumTo (k - r) f
  | 0 => by rw [Nat.zero_sub]; rfl
  | k + 1 => by
    simp only [sumTo]
    rw [sum_shift r f k]
    by_cases h : r ≤ k
    · rw [if_pos h, show k + 1 - r = (k - r) + 1 by omega]; rfl
    · rw [if_neg h, show k + 1 - r = k - r by omega, Nat.add_zero]

/-- The map behind some digits. -/
theorem rows_run (rest lo hi : Int) (r n : Nat) (hr : rest = r) (hr1 : 1 ≤ r) (h0 : 0 ≤ lo) (h1 : lo ≤ hi) (h2 : hi ≤ 300) (hn : n = (hi - lo + 1).toNat) :
    ∀ (s : List Int) (d : Int), s.length ≤ 9 → rowsRun rest lo hi (d :: s).reverse = .map (entsOf lo (rowsAt lo r d s) n)
  | [], d, _ => by
    have e : digitRun (.map [(.int .i64 (lo - rest), .lit (.int .i64 1))]) d rest (upto (yearAt lo) n) = _ := digit_run _ d rest lo (fun k => if k = 0 then 1 else 0) n h0 (by omega) (fun k hk => by
      unfold valAt
      simp only [DataW.atKey, List.find?_cons, List.find?_nil]
      by_cases hk0 : k = 0
      · subst hk0
        rw [show Lit.sameKey (.int .i64 (lo - rest)) (.int .i64 (lo + (0 : Nat) - rest)) = true by simp [Lit.sameKey]]
        rfl
      · rw [show Lit.sameKey (.int .i64 (lo - rest)) (.int .i64 (lo + k - rest)) = false by simp [Lit.sameKey]; omega, if_neg hk0]
        rfl) (fun k _ => by
      refine Nat.le_trans (show _ ≤ 1 from ?_) (by decide)
      induction k with
      | zero => exact Nat.zero_le _
      | succ k ih => 
        simp only [sumTo]
        by_cases hk0 : k = 0
        · subst hk0; simp [sumTo]
        · rw [if_neg hk0]; exact ih (by omega))
    show stepRows rest lo hi (.map [(.int .i64 (lo - rest), .lit (.int .i64 1))]) d = _
    unfold stepRows
    rw [← hn, e]
    show DataW.map (entsOf lo _ n) = _
    congr 2
    funext k
    unfold rowsAt
    by_cases hf : fitsB (lo + k) d = true
    · rw [if_pos hf, if_pos hf]
      show _ = 1
      induction k with
      | zero => rfl
      | succ k ih =>
        have key : ∀ k, sumTo (k + 1) (fun k => if k = 0 then 1 else 0) = 1 := fun k => by
          induction k with
          | zero => rfl
          | succ k ih => rw [sumTo, ih, if_neg (by omega)]
        exact key _
    · rw [if_neg hf, if_neg hf]
  | e :: s, d, hs => by
    have ih := rows_run rest lo hi r n hr hr1 h0 h1 h2 hn s e (by simp at hs; omega)
    have hn1 : n ≤ 301 := by omega
    rw [List.reverse_cons, rowsRun_snoc, ih]
    have hrun := digit_run (.map (entsOf lo (rowsAt lo r e s) n)) d rest lo (fun k => if r ≤ k then rowsAt lo r e s (k - r) else 0) n h0 (by omega) (fun k hk => by
      rw [valAt_ents]
      by_cases h : r ≤ k
      · rw [if_pos ⟨by omega, by omega⟩, if_pos h, show (lo + k - rest - lo).toNat = k - r by omega]
      · rw [if_neg (by omega), if_neg h]; rfl) (fun k hk => by
      rw [sum_shift]
      have := acc_small lo r hr1 (e :: s) (by simp at hs ⊢; omega) k (by omega)
      refine Nat.le_trans ?_ this
      exact sumTo_mono (by omega))
    unfold stepRows
    rw [← hn, hrun]
    show DataW.map (entsOf lo _ n) = _
    congr 2
    funext k
    show _ = (if fitsB (lo + k) d then acc lo r (e :: s) k else 0)
    rw [sum_shift]
    rfl

theorem sum_map_append (xs ys : List (Lit × DataW Unit)) : sumLeft (xs ++ ys) (fun _ => true) = sumLeft xs (fun _ => true) + sumLeft ys (fun _ => true) := by
  unfold sumLeft; simp
theorem total_ents (lo : Int) (f : Nat → Nat) : ∀ n : Nat, total (.map (entsOf lo f n)) = (sumTo n f : Nat)
  | 0 => rfl
  | n + 1 => by
    have e : total (.map (entsOf lo f (n + 1))) = sumLeft (entsOf lo f n ++ (if 0 < f n then [(.int .i64 (lo + n), .lit (.int .i64 (f n)))] else [])) (fun _ => true) := by simp only [total, entsOf]
    rw [e, sum_map_append]
    have ih : sumLeft (entsOf lo f n) (fun _ => true) = (sumTo n f : Nat) := total_ents lo f n
    rw [ih]
    simp only [sumTo]
    split
    · simp [sumLeft, litNum]
    · simp [sumLeft]; omega
/-- The number of all rows. -/
theorem total_run (rest lo hi : Int) (r n : Nat) (hr : rest = r) (hr1 : 1 ≤ r) (h0 : 0 ≤ lo) (h1 : lo ≤ hi) (h2 : hi ≤ 300) (hn : n = (hi - lo + 1).toNat) (ds : List Int) (hl : ds.length ≤ 10) :
    wrap64 (total (rowsRun rest lo hi ds)) = (bk lo r n ds 0 : Nat) := by
  rw [← tot_bk lo r n hr1 ds]
  have hsm := tot_small lo r hr1 ds.reverse (by simpa using hl) n (by omega)
  cases hd : ds.reverse with
  | nil =>
    have : ds = [] := by simpa using hd
    subst this
    have e : total (rowsRun rest lo hi []) = 1 := by simp [rowsRun, total, sumLeft, litNum]
    rw [e]
    exact wrap_small (z := 1) (by omega) (by omega)
  | cons d s =>
    have hs : (d :: s).length ≤ 10 := by rw [← hd]; simpa using hl
    rw [hd] at hsm
    have := rows_run rest lo hi r n hr hr1 h0 h1 h2 hn s d (by simp at hs; omega)
    rw [← hd, List.reverse_reverse] at this
    rw [this, total_ents]
    exact wrap_small (by omega) (by simp only [tot] at hsm; omega)

/-! The least and the greatest year. -/
theorem sorted_first {l : List Int} (hs : l.Pairwise (· < ·)) {m : Int} (hm : m ∈ l) (hle : ∀ z ∈ l, m ≤ z) : l.getD 0 0 = m := by
  cases l with
  | nil => cases hm
  | cons a l =>
    rcases List.mem_cons.1 hm with rfl | h
    · rfl
    · have h1 := (List.pairwise_cons.1 hs).1 m h
      have h2 := hle a (by simp)
      omega
theorem sorted_last {l : List Int} (hs : l.Pairwise (· < ·)) {m : Int} (hm : m ∈ l) (hle : ∀ z ∈ l, z ≤ m) : l.getD (l.length - 1) 0 = m := by
  obtain ⟨i, hi, rfl⟩ := List.getElem_of_mem hm
  have hp := List.pairwise_iff_getElem.1 hs
  have hlast : l.length - 1 < l.length := by omega
  rw [List.getD_eq_getElem?_getD, List.getElem?_eq_getElem hlast]
  show l[l.length - 1] = l[i]
  have h1 := hle l[l.length - 1] (List.getElem_mem hlast)
  rcases Nat.lt_or_ge i (l.length - 1) with h | h
  · have := hp i (l.length - 1) hi hlast h; omega
  · have : i = l.length - 1 := by omega
    subst this; rfl

theorem ents_sorted (lo : Int) (f : Nat → Nat) : ∀ n : Nat, (entsOf lo f n).Pairwise (fun p q => keyNum p.1 < keyNum q.1)
  | 0 => List.Pairwise.nil
  | n + 1 => by
    simp only [entsOf]
    refine List.pairwise_append.2 ⟨ents_sorted lo f n, ?_, fun p hp q hq => ?_⟩
    · split
      · exact List.pairwise_singleton _ _
      · exact List.Pairwise.nil
    · obtain ⟨k, hk, _, rfl⟩ := ents_mem.1 hp
      split at hq
      · obtain rfl := List.mem_singleton.1 hq
        show lo + (k : Int) < lo + (n : Int)
        omega
      · cases hq
theorem spanKeys_ents (lo : Int) (f : Nat → Nat) (n : Nat) (L : Int) : (spanKeys (.map (entsOf lo f n)) L).Pairwise (· < ·) ∧ ∀ z, z ∈ spanKeys (.map (entsOf lo f n)) L ↔ ∃ k : Nat, k < n ∧ 0 < f k ∧ z = lo + k ∧ z ≤ L := by
  have hlist : intKeys (earlyD (.map (entsOf lo f n)) L) = ((entsOf lo f n).filter fun p => decide (keyNum p.1 ≤ L)).map fun p => keyNum p.1 := by
    show List.map _ _ = _
    refine List.map_congr_left (fun p hp => ?_)
    obtain ⟨k, _, _, rfl⟩ := ents_mem.1 (List.mem_filter.1 hp).1
    rfl
  have hsort : (((entsOf lo f n).filter fun p => decide (keyNum p.1 ≤ L)).map fun p => keyNum p.1).Pairwise (· < ·) := List.pairwise_map.2 ((ents_sorted lo f n).filter _)
  have he : spanKeys (.map (entsOf lo f n)) L = ((entsOf lo f n).filter fun p => decide (keyNum p.1 ≤ L)).map fun p => keyNum p.1 := by
    unfold spanKeys
    rw [hlist]
    exact List.mergeSort_of_pairwise (hsort.imp (fun {a b} h => by simp only [decide_eq_true_eq]; omega))
  rw [he]
  refine ⟨hsort, fun z => ?_⟩
  simp only [List.mem_map, List.mem_filter, decide_eq_true_eq]
  constructor
  · rintro ⟨p, ⟨hp, hL⟩, rfl⟩
    obtain ⟨k, hk, hf, rfl⟩ := ents_mem.1 hp
    exact ⟨k, hk, hf, rfl, hL⟩
  · rintro ⟨k, hk, hf, rfl, hL⟩
    exact ⟨_, ⟨ents_mem.2 ⟨k, hk, hf, rfl⟩, hL⟩, rfl⟩

/-- Where a strip can lie, if it must not lie later than L. -/
theorem span_ends (lo : Int) (r n : Nat) (d : Int) (s : List Int) (L : Int) (h0 : -1 ≤ d) (h1 : d ≤ 9) (h : ∀ e ∈ s, -1 ≤ e ∧ e ≤ 9) (hL : nxt d (thr lo r s) ≤ L) (hLn : L < lo + n) :
    0 < (spanKeys (.map (entsOf lo (rowsAt lo r d s) n)) L).length ∧ spanLo (.map (entsOf lo (rowsAt lo r d s) n)) L = nxt d (thr lo r s) ∧ spanHi (.map (entsOf lo (rowsAt lo r d s) n)) L = prv d L := by
  obtain ⟨hs, hm⟩ := spanKeys_ents lo (rowsAt lo r d s) n L
  obtain ⟨n1, n2, n3, n4⟩ := nxt_spec (y := thr lo r s) h0 h1
  obtain ⟨p1, p2, p3, p4⟩ := prv_spec (y := L) h0 h1
  have hl := thr_lo lo r s h
  have hnp := p4 _ hL n3
  have hmem : nxt d (thr lo r s) ∈ spanKeys (.map (entsOf lo (rowsAt lo r d s) n)) L := (hm _).2 ⟨(nxt d (thr lo r s) - lo).toNat, by omega, (rowsAt_pos lo r d s h _).2 (by rw [show lo + ((nxt d (thr lo r s) - lo).toNat : Int) = nxt d (thr lo r s) by omega]; exact ⟨n3, n1⟩), by omega, hL⟩
  have hmem2 : prv d L ∈ spanKeys (.map (entsOf lo (rowsAt lo r d s) n)) L := (hm _).2 ⟨(prv d L - lo).toNat, by omega, (rowsAt_pos lo r d s h _).2 (by rw [show lo + ((prv d L - lo).toNat : Int) = prv d L by omega]; exact ⟨p3, by omega⟩), by omega, p1⟩
  refine ⟨List.length_pos_of_mem hmem, sorted_first hs hmem (fun z hz => ?_), sorted_last hs hmem2 (fun z hz => ?_)⟩
  · obtain ⟨k, _, hf, rfl, _⟩ := (hm z).1 hz
    obtain ⟨hf1, hf2⟩ := (rowsAt_pos lo r d s h k).1 hf
    exact n4 _ hf2 hf1
  · obtain ⟨k, _, hf, rfl, hzL⟩ := (hm z).1 hz
    obtain ⟨hf1, hf2⟩ := (rowsAt_pos lo r d s h k).1 hf
    exact p4 _ hzL hf1

/-- By which year the strip before some digits must lie. -/
def late (hi : Int) (r : Nat) : List Int → Int
  | [] => hi
  | d :: s => prv d (late hi r s) - r
/-- The first and the last year of strip j. -/
def minAt (lo : Int) (r : Nat) (ds : List Int) (j : Nat) : Int := nxt (ds.getD j 0) (thr lo r (ds.take j).reverse)
def maxAt (hi : Int) (r : Nat) (ds : List Int) (j : Nat) : Int := prv (ds.getD j 0) (late hi r (ds.drop (j + 1)))

theorem late_le (hi : Int) (r : Nat) : ∀ s : List Int, (∀ d ∈ s, -1 ≤ d ∧ d ≤ 9) → late hi r s ≤ hi
  | [], _ => Int.le_refl _
  | d :: s, h => by
    have h1 := late_le hi r s (fun d hd => h d (by simp [hd]))
    have h2 := (prv_spec (y := late hi r s) (h d (by simp)).1 (h d (by simp)).2).1
    simp only [late]; omega
theorem drop_at (ds : List Int) {j : Nat} (hj : j < ds.length) : ds.drop j = ds.getD j 0 :: ds.drop (j + 1) := by
  rw [List.drop_eq_getElem_cons hj, List.getD_eq_getElem?_getD, List.getElem?_eq_getElem hj]; rfl
theorem take_rev (ds : List Int) {j : Nat} (hj : j < ds.length) : (ds.take (j + 1)).reverse = ds.getD j 0 :: (ds.take j).reverse := by
  rw [take_snoc ds hj, List.reverse_append]; rfl
theorem getD_all {ds : List Int} (h : ∀ d ∈ ds, -1 ≤ d ∧ d ≤ 9) {j : Nat} (hj : j < ds.length) : -1 ≤ ds.getD j 0 ∧ ds.getD j 0 ≤ 9 := by
  rw [List.getD_eq_getElem?_getD, List.getElem?_eq_getElem hj]
  exact h _ (List.getElem_mem hj)

/-- If there are rows, each strip's first year is early enough. -/
theorem min_late (lo hi : Int) (r n : Nat) (hn : hi = lo + n - 1) (ds : List Int) (h : ∀ d ∈ ds, -1 ≤ d ∧ d ≤ 9) (hp : 0 < bk lo r n ds 0) (hr1 : 1 ≤ r) : ∀ k, k < ds.length → minAt lo r ds (ds.length - 1 - k) ≤ late hi r (ds.drop (ds.length - k))
  | 0, hk => by
    have hj : ds.length - 1 < ds.length := by omega
    rw [Nat.sub_zero, Nat.sub_zero, List.drop_eq_nil_of_le (Nat.le_refl _)]
    have h1 := take_rev ds hj
    rw [show ds.length - 1 + 1 = ds.length by omega, List.take_length] at h1
    rw [← tot_bk lo r n hr1, h1] at hp
    obtain ⟨d0, d1⟩ := getD_all h hj
    have := (tot_pos lo r n _ _ d0 d1 (fun e he => h e (List.mem_of_mem_take (List.mem_reverse.1 he)))).1 hp
    show nxt _ _ ≤ hi
    omega
  | k + 1, hk => by
    have ih := min_late lo hi r n hn ds h hp hr1 k (by omega)
    have hj : ds.length - 1 - k < ds.length := by omega
    rw [show ds.length - (k + 1) = ds.length - 1 - k by omega, drop_at ds hj, show ds.length - 1 - k + 1 = ds.length - k by omega]
    have h1 := take_rev ds (show ds.length - 1 - (k + 1) < ds.length by omega)
    rw [show ds.length - 1 - (k + 1) + 1 = ds.length - 1 - k by omega] at h1
    obtain ⟨d0, d1⟩ := getD_all h hj
    obtain ⟨p1, p2, p3, p4⟩ := prv_spec (y := late hi r (ds.drop (ds.length - k))) d0 d1
    unfold minAt at ih ⊢
    rw [h1] at ih
    obtain ⟨n1, n2, n3, n4⟩ := nxt_spec (y := thr lo r (ds.getD (ds.length - 1 - (k + 1)) 0 :: (ds.take (ds.length - 1 - (k + 1))).reverse)) d0 d1
    have := p4 _ ih n3
    simp only [thr] at n1 this ⊢
    simp only [late]
    omega

theorem fits_at (rest lo hi : Int) (ds : List Int) {j : Nat} : ∀ {m : Nat}, j < m → (fits rest lo hi ds m).getD j (.map []) = rowsRun rest lo hi (ds.take (j + 1))
  | m + 1, hj => by
    simp only [fits]
    by_cases h : j < m
    · rw [getD_app (by rw [fits_length]; exact h)]
      exact fits_at rest lo hi ds h
    · obtain rfl : j = m := by omega
      rw [List.getD_eq_getElem?_getD, List.getElem?_append_right (by rw [fits_length]; exact Nat.le_refl _), fits_length, Nat.sub_self]
      rfl

/-- What Dates finds. -/
theorem dates_ends (rest lo hi : Int) (r n : Nat) (hr : rest = r) (hr1 : 1 ≤ r) (h0 : 0 ≤ lo) (h1 : lo ≤ hi) (h2 : hi ≤ 300) (hn : n = (hi - lo + 1).toNat) (ds : List Int) (hl : ds.length ≤ 10) (h : ∀ d ∈ ds, -1 ≤ d ∧ d ≤ 9) (hp : 0 < bk lo r n ds 0) :
    ∀ k, k < ds.length → latAt (fits rest lo hi ds ds.length) rest hi k = late hi r (ds.drop (ds.length - k)) ∧
      0 < (spanKeys ((fits rest lo hi ds ds.length).getD (ds.length - 1 - k) (.map [])) (latAt (fits rest lo hi ds ds.length) rest hi k)).length ∧
      spanLo ((fits rest lo hi ds ds.length).getD (ds.length - 1 - k) (.map [])) (latAt (fits rest lo hi ds ds.length) rest hi k) = minAt lo r ds (ds.length - 1 - k) ∧
      spanHi ((fits rest lo hi ds ds.length).getD (ds.length - 1 - k) (.map [])) (latAt (fits rest lo hi ds ds.length) rest hi k) = maxAt hi r ds (ds.length - 1 - k) := by
  intro k
  induction k with
  | zero =>
    intro hk
    have hlat : latAt (fits rest lo hi ds ds.length) rest hi 0 = late hi r (ds.drop (ds.length - 0)) := by
      rw [Nat.sub_zero, List.drop_eq_nil_of_le (Nat.le_refl _)]; rfl
    refine ⟨hlat, ?_⟩
    have hml := min_late lo hi r n (by omega) ds h hp hr1 0 hk
    have hj : ds.length - 1 - 0 < ds.length := by omega
    obtain ⟨d0, d1⟩ := getD_all h hj
    have hrr := rows_run rest lo hi r n hr hr1 h0 h1 h2 hn (ds.take (ds.length - 1 - 0)).reverse (ds.getD (ds.length - 1 - 0) 0) (by simp; omega)
    rw [← take_rev ds hj, List.reverse_reverse] at hrr
    rw [fits_at rest lo hi ds hj, hrr, hlat]
    have hll := late_le hi r (ds.drop (ds.length - 0)) (fun d hd => h d (List.mem_of_mem_drop hd))
    have := span_ends lo r n (ds.getD (ds.length - 1 - 0) 0) (ds.take (ds.length - 1 - 0)).reverse (late hi r (ds.drop (ds.length - 0))) d0 d1 (fun e he => h e (List.mem_of_mem_take (List.mem_reverse.1 he))) hml (by omega)
    refine ⟨this.1, this.2.1, ?_⟩
    rw [this.2.2]
    unfold maxAt
    rw [show ds.length - 1 - 0 + 1 = ds.length - 0 by omega]
  | succ k ih =>
    intro hk
    obtain ⟨i1, i2, i3, i4⟩ := ih (by omega)
    have hlat : latAt (fits rest lo hi ds ds.length) rest hi (k + 1) = late hi r (ds.drop (ds.length - (k + 1))) := by
      show spanHi ((fits rest lo hi ds ds.length).getD ((fits rest lo hi ds ds.length).length - 1 - k) (.map [])) (latAt (fits rest lo hi ds ds.length) rest hi k) - rest = _
      rw [fits_length, i4]
      rw [show ds.length - (k + 1) = ds.length - 1 - k by omega, drop_at ds (show ds.length - 1 - k < ds.length by omega)]
      unfold maxAt
      simp only [late]
      rw [hr]
    refine ⟨hlat, ?_⟩
    have hml := min_late lo hi r n (by omega) ds h hp hr1 (k + 1) hk
    have hj : ds.length - 1 - (k + 1) < ds.length := by omega
    obtain ⟨d0, d1⟩ := getD_all h hj
    have hrr := rows_run rest lo hi r n hr hr1 h0 h1 h2 hn (ds.take (ds.length - 1 - (k + 1))).reverse (ds.getD (ds.length - 1 - (k + 1)) 0) (by simp; omega)
    rw [← take_rev ds hj, List.reverse_reverse] at hrr
    rw [fits_at rest lo hi ds hj, hrr, hlat]
    have hll := late_le hi r (ds.drop (ds.length - (k + 1))) (fun d hd => h d (List.mem_of_mem_drop hd))
    have := span_ends lo r n (ds.getD (ds.length - 1 - (k + 1)) 0) (ds.take (ds.length - 1 - (k + 1))).reverse (late hi r (ds.drop (ds.length - (k + 1)))) d0 d1 (fun e he => h e (List.mem_of_mem_take (List.mem_reverse.1 he))) hml (by omega)
    refine ⟨this.1, this.2.1, ?_⟩
    rw [this.2.2]
    unfold maxAt
    rw [show ds.length - 1 - (k + 1) + 1 = ds.length - (k + 1) by omega]
theorem max_at_le (lo hi : Int) (r n : Nat) (hn : hi = lo + n - 1) (ds : List Int) (h : ∀ d ∈ ds, -1 ≤ d ∧ d ≤ 9) (hp : 0 < bk lo r n ds 0) (hr1 : 1 ≤ r) {j : Nat} (hj : j < ds.length) :
    lo ≤ minAt lo r ds j ∧ minAt lo r ds j ≤ maxAt hi r ds j ∧ maxAt hi r ds j ≤ hi := by
  have hml := min_late lo hi r n hn ds h hp hr1 (ds.length - 1 - j) (by omega)
  rw [show ds.length - 1 - (ds.length - 1 - j) = j by omega, show ds.length - (ds.length - 1 - j) = j + 1 by omega] at hml
  obtain ⟨d0, d1⟩ := getD_all h hj
  have ht := thr_lo lo r (ds.take j).reverse (fun e he => h e (List.mem_of_mem_take (List.mem_reverse.1 he)))
  have hll := late_le hi r (ds.drop (j + 1)) (fun d hd => h d (List.mem_of_mem_drop hd))
  unfold minAt at hml ⊢
  unfold maxAt
  obtain ⟨n1, n2, n3, n4⟩ := nxt_spec (y := thr lo r (ds.take j).reverse) d0 d1
  obtain ⟨p1, p2, p3, p4⟩ := prv_spec (y := late hi r (ds.drop (j + 1))) d0 d1
  have := p4 _ hml n3
  omega
end Go.Proofs.Ytceginnogbbpeaa
