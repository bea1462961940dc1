/- TreePainted: the years in which a trunk was really painted, their digits, and what Dates returns for them: plain numbers. -/
import Derived.Test.YtceginnogbbpeaaPainted
import Derived.Test.YtceginnogbbpeaaDates
namespace Go.Proofs.Ytceginnogbbpeaa
open Go.RowKit Go.Shelf Go.Maps

/-- The k-th year: each r years and some more behind the one before it. -/
def yr (r y0 : Int) (gs : List Int) : Nat → Int
  | 0 => y0
  | k + 1 => yr r y0 gs k + r + gs[k]! % 12

theorem yr_bounds (r y0 : Int) (gs : List Int) (hr0 : 1 ≤ r) (hr1 : r ≤ 30) (h0 : 0 ≤ y0) (h1 : y0 ≤ 255) : ∀ k : Nat, 0 ≤ yr r y0 gs k ∧ yr r y0 gs k ≤ 255 + 41 * k
  | 0 => ⟨h0, by simpa [yr] using h1⟩
  | k + 1 => by
    have ih := yr_bounds r y0 gs hr0 hr1 h0 h1 k
    have a := Int.emod_nonneg (gs[k]!) (show (12 : Int) ≠ 0 by omega)
    have b := Int.emod_lt_of_pos (gs[k]!) (show (0 : Int) < 12 by omega)
    simp only [yr]
    omega
theorem yr_step (r y0 : Int) (gs : List Int) (k : Nat) : yr r y0 gs k + r ≤ yr r y0 gs (k + 1) := by
  have a := Int.emod_nonneg (gs[k]!) (show (12 : Int) ≠ 0 by omega)
  simp only [yr]
  omega
theorem yr_mono (r y0 : Int) (gs : List Int) (hr0 : 1 ≤ r) (j : Nat) : ∀ k : Nat, yr r y0 gs j ≤ yr r y0 gs (j + k)
  | 0 => Int.le_refl _
  | k + 1 => by
    have ih := yr_mono r y0 gs hr0 j k
    have := yr_step r y0 gs (j + k)
    rw [show j + (k + 1) = j + k + 1 by omega]
    omega

/-- What stands at the first m indexes, from k on. -/
def listOf (f : Nat → Int) (k m : Nat) : List Int := (List.range m).map fun j => f (k + j)
theorem listOf_cons (f : Nat → Int) (k m : Nat) : listOf f k (m + 1) = f k :: listOf f (k + 1) m := by
  unfold listOf
  rw [List.range_succ_eq_map, List.map_cons, List.map_map, Nat.add_zero]
  congr 1
  refine List.map_congr_left fun j _ => ?_
  show f (k + (j + 1)) = f (k + 1 + j)
  rw [show k + (j + 1) = k + 1 + j by omega]
theorem listOf_length (f : Nat → Int) (k m : Nat) : (listOf f k m).length = m := by simp [listOf]
theorem listOf_getD (f : Nat → Int) (k m j : Nat) (h : j < m) : (listOf f k m).getD j 0 = f (k + j) := by simp [listOf, h]
theorem listOf_mem {f : Nat → Int} {k m : Nat} {P : Int → Prop} (h : ∀ j, P (f j)) : ∀ d ∈ listOf f k m, P d := by
  intro d hd
  simp only [listOf, List.mem_map, List.mem_range] at hd
  obtain ⟨j, _, rfl⟩ := hd
  exact h _
theorem listOf_snoc (f : Nat → Int) (m : Nat) : listOf f 0 (m + 1) = listOf f 0 m ++ [f m] := by
  simp [listOf, List.range_succ]

theorem row_of (r hi : Int) (Y D : Nat → Int) (hr : 0 ≤ r) (hs : ∀ k, Y k + r ≤ Y (k + 1)) (hf : ∀ k, fitsB (Y k) (D k) = true) : ∀ (m k : Nat) (lo : Int), lo ≤ Y k → (∀ j, j < m → Y (k + j) ≤ hi) → IsRow r.toNat hi lo (listOf D k m) (listOf Y k m)
  | 0, _, _, _, _ => trivial
  | m + 1, k, lo, hl, hh => by
    rw [listOf_cons, listOf_cons]
    refine ⟨hl, hh 0 (by omega), hf k, ?_⟩
    refine row_of r hi Y D hr hs hf m (k + 1) _ ?_ fun j hj => ?_
    · have := hs k; omega
    · have := hh (j + 1) (by omega)
      rwa [show k + (j + 1) = k + 1 + j by omega] at this
theorem unread_of {D E : Nat → Int} (h : ∀ k, E k = D k ∨ E k = -1) : ∀ (m k : Nat), Unread (listOf E k m) (listOf D k m)
  | 0, _ => trivial
  | m + 1, k => by rw [listOf_cons, listOf_cons]; exact ⟨h k, unread_of h m (k + 1)⟩

theorem minAt_ge (r : Nat) : ∀ (ds : List Int) (lo : Int), (∀ d ∈ ds, -1 ≤ d ∧ d ≤ 9) → ∀ j, j < ds.length → lo ≤ minAt lo r ds j
  | [], _, _, _, hj => by cases hj
  | d :: s, lo, hd, 0, _ => by
    obtain ⟨d0, d1⟩ := hd d (by simp)
    exact (nxt_spec (y := lo) d0 d1).1
  | d :: s, lo, hd, j + 1, hj => by
    obtain ⟨d0, d1⟩ := hd d (by simp)
    have a := (nxt_spec (y := lo) d0 d1).1
    have := minAt_ge r s (nxt d lo + r) (fun d hx => hd d (by simp [hx])) j (by simpa using hj)
    rw [minAt_succ]
    omega

/-- All that the law asks of the answers for a row of years and its digits. -/
theorem painted_facts (r y0 lo hi : Int) (gs : List Int) (n : Nat) (E : Nat → Int) (hr0 : 1 ≤ r) (hr1 : r ≤ 30) (h0 : 0 ≤ y0) (h1 : y0 ≤ 255) (hn : n < 10) (hlo0 : 0 ≤ lo) (hlo : lo ≤ y0) (hhi : yr r y0 gs n ≤ hi) (hhi1 : hi ≤ 300)
    (hE : ∀ k, E k = yr r y0 gs k % 10 ∨ E k = -1) :
    ∃ (N1 N2 : Int) (m0 m1 p0 p1 : Nat → Int), 1 ≤ N1 ∧ N1 ≤ N2 ∧
      (∀ w v, Held w.heap.size w 1 intCells v (listOf (fun k => yr r y0 gs k % 10) 0 (n + 1)) → Calls Try.prog 18 #[.int .i64 r, v, .agg #[.int .i64 lo, .int .i64 hi]] w fun e w' => ∃ v' : Value, e = .returned (.tuple #[v', .int .i64 N1, .int .i64 0]) ∧ Held w'.heap.size w' 2 stripCells v' ((List.range (n + 1)).map fun j => (m0 j, m1 j)) ∧ Below w.heap.size w w') ∧
      (∀ w v, Held w.heap.size w 1 intCells v (listOf E 0 (n + 1)) → Calls Try.prog 18 #[.int .i64 r, v, .agg #[.int .i64 lo, .int .i64 hi]] w fun e w' => ∃ v' : Value, e = .returned (.tuple #[v', .int .i64 N2, .int .i64 0]) ∧ Held w'.heap.size w' 2 stripCells v' ((List.range (n + 1)).map fun j => (p0 j, p1 j)) ∧ Below w.heap.size w w') ∧
      (∀ k, k ≤ n → 0 ≤ m0 k ∧ 0 ≤ m1 k ∧ m0 k ≤ yr r y0 gs k ∧ yr r y0 gs k ≤ m1 k ∧ p0 k ≤ m0 k ∧ m1 k ≤ p1 k ∧ m0 k % 10 = yr r y0 gs k % 10 ∧ m1 k % 10 = yr r y0 gs k % 10) ∧
      (((List.range (n + 1)).all fun j => m0 j == m1 j) = (N1 == 1)) := by
  obtain ⟨Y, hY⟩ : ∃ Y, Y = yr r y0 gs := ⟨_, rfl⟩
  obtain ⟨D, hD⟩ : ∃ D : Nat → Int, D = fun k => Y k % 10 := ⟨_, rfl⟩
  have hs : ∀ k, Y k + r ≤ Y (k + 1) := fun k => hY ▸ yr_step r y0 gs k
  have hup : ∀ j, j ≤ n → Y j ≤ hi := fun j hj => by
    have := yr_mono r y0 gs hr0 j (n - j)
    rw [show j + (n - j) = n by omega] at this
    rw [hY]; omega
  have hd0 : ∀ k, -1 ≤ D k ∧ D k ≤ 9 := fun k => by
    rw [hD]
    have a := Int.emod_nonneg (Y k) (show (10 : Int) ≠ 0 by omega)
    have b := Int.emod_lt_of_pos (Y k) (show (0 : Int) < 10 by omega)
    dsimp only; omega
  have hEk : ∀ k, E k = D k ∨ E k = -1 := fun k => by rw [hD, hY]; exact hE k
  have he0 : ∀ k, -1 ≤ E k ∧ E k ≤ 9 := fun k => by
    have := hd0 k
    rcases hEk k with h | h <;> omega
  have hfD : ∀ k, fitsB (Y k) (D k) = true := fun k => fitsB_iff.2 (.inr (by rw [hD]))
  have hfE : ∀ k, fitsB (Y k) (E k) = true := fun k => fits_unread (hEk k) (hfD k)
  have hlY : lo ≤ Y 0 := by rw [hY]; exact hlo
  have hiN : hi = lo + (hi - lo + 1).toNat - 1 := by have := hup 0 (by omega); omega
  have memD : ∀ d ∈ listOf D 0 (n + 1), -1 ≤ d ∧ d ≤ 9 := listOf_mem hd0
  have memE : ∀ d ∈ listOf E 0 (n + 1), -1 ≤ d ∧ d ≤ 9 := listOf_mem he0
  have rowD := row_of r hi Y D (by omega) hs hfD (n + 1) 0 lo hlY (fun j hj => by rw [Nat.zero_add]; exact hup j (by omega))
  have rowE := row_of r hi Y E (by omega) hs hfE (n + 1) 0 lo hlY (fun j hj => by rw [Nat.zero_add]; exact hup j (by omega))
  have cD := row_counts lo hi r.toNat (hi - lo + 1).toNat hiN _ _ 0 (by simpa using rowD)
  have cE := row_counts lo hi r.toNat (hi - lo + 1).toNat hiN _ _ 0 (by simpa using rowE)
  have hu := unread_of hEk (n + 1) 0
  have hle := unread_rows lo r.toNat (hi - lo + 1).toNat _ _ 0 hu
  have hhl : lo ≤ hi := by have := hup 0 (by omega); omega
  have errOf : ∀ F : Nat → Int, (∀ k, -1 ≤ F k ∧ F k ≤ 9) → datesErr r (listOf F 0 (n + 1)) lo hi = 0 := fun F hF => by
    unfold datesErr
    rw [if_pos (by simp [inB, boundsB, hr0, hr1, hlo0, hhl, hhi1]), if_neg (by rw [listOf_length]; omega)]
    exact digits_all.2 (listOf_mem hF)
  have eD := errOf D hd0
  have eE := errOf E he0
  have zD : datesE r (listOf D 0 (n + 1)) lo hi = 0 := by unfold datesE rowsOf; rw [if_pos eD, if_neg (by omega)]
  have zE : datesE r (listOf E 0 (n + 1)) lo hi = 0 := by unfold datesE rowsOf; rw [if_pos eE, if_neg (by omega)]
  have nD : datesN r (listOf D 0 (n + 1)) lo hi = (bk lo r.toNat (hi - lo + 1).toNat (listOf D 0 (n + 1)) 0 : Nat) := by unfold datesN; rw [if_pos zD]; rfl
  have nE : datesN r (listOf E 0 (n + 1)) lo hi = (bk lo r.toNat (hi - lo + 1).toNat (listOf E 0 (n + 1)) 0 : Nat) := by unfold datesN; rw [if_pos zE]; rfl
  have lD : datesL r (listOf D 0 (n + 1)) lo hi = (List.range (n + 1)).map fun j => (minAt lo r.toNat (listOf D 0 (n + 1)) j, maxAt hi r.toNat (listOf D 0 (n + 1)) j) := by unfold datesL endsOf; rw [if_pos zD, listOf_length]
  have lE : datesL r (listOf E 0 (n + 1)) lo hi = (List.range (n + 1)).map fun j => (minAt lo r.toNat (listOf E 0 (n + 1)) j, maxAt hi r.toNat (listOf E 0 (n + 1)) j) := by unfold datesL endsOf; rw [if_pos zE, listOf_length]
  rw [← hY]
  refine ⟨(bk lo r.toNat (hi - lo + 1).toNat (listOf D 0 (n + 1)) 0 : Nat), (bk lo r.toNat (hi - lo + 1).toNat (listOf E 0 (n + 1)) 0 : Nat), minAt lo r.toNat (listOf D 0 (n + 1)), maxAt hi r.toNat (listOf D 0 (n + 1)), minAt lo r.toNat (listOf E 0 (n + 1)), maxAt hi r.toNat (listOf E 0 (n + 1)), ?_, ?_, fun w v hv => ?_, fun w v hv => ?_, fun k hk => ?_, ?_⟩
  rotate_left 2
  · have := dates_calls (v := v) (ds := listOf D 0 (n + 1)) (by rw [hD]; exact hv) r lo hi
    refine this.mono fun e w' ⟨v', he, hh, hb⟩ => ⟨v', ?_, by rw [← lD]; exact hh, hb⟩
    rw [he, zD, nD]
  · have := dates_calls (v := v) (ds := listOf E 0 (n + 1)) hv r lo hi
    refine this.mono fun e w' ⟨v', he, hh, hb⟩ => ⟨v', ?_, by rw [← lE]; exact hh, hb⟩
    rw [he, zE, nE]
  · have hkl : k < (listOf D 0 (n + 1)).length := by rw [listOf_length]; omega
    have b := row_between r.toNat hi _ _ lo memD rowD k hkl
    rw [listOf_getD Y 0 (n + 1) k (by omega), Nat.zero_add] at b
    have u0 := unread_min r.toNat _ _ lo lo hu memE memD (Int.le_refl _) k hkl
    have u1 := unread_max r.toNat hi _ _ hu memE memD k hkl
    obtain ⟨f0, f1⟩ := ends_fit lo hi r.toNat _ memD hkl
    rw [listOf_getD D 0 (n + 1) k (by omega), Nat.zero_add] at f0 f1
    have hDk : D k = Y k % 10 := by rw [hD]
    have hnn : ¬ D k = -1 := by
      rw [hDk]
      have a := Int.emod_nonneg (Y k) (show (10 : Int) ≠ 0 by omega)
      omega
    have g0 := (fitsB_iff.1 f0).resolve_left hnn
    have g1 := (fitsB_iff.1 f1).resolve_left hnn
    have hlow : 0 ≤ minAt lo r.toNat (listOf D 0 (n + 1)) k := Int.le_trans hlo0 (minAt_ge r.toNat _ lo memD k hkl)
    have hYk : 0 ≤ Y k := by rw [hY]; exact (yr_bounds r y0 gs hr0 hr1 h0 h1 k).1
    exact ⟨hlow, by omega, b.1, b.2, u0, u1, by rw [g0, hDk], by rw [g1, hDk]⟩
  · rw [Bool.eq_iff_iff, List.all_eq_true]
    have o := one_row lo hi r.toNat (hi - lo + 1).toNat hiN _ memD 0 cD
    rw [Int.ofNat_zero, Int.add_zero] at o
    simp only [List.mem_range, beq_iff_eq]
    constructor
    · intro h
      have := o.1 fun j hj => h j (by rwa [listOf_length] at hj)
      omega
    · intro h j hj
      exact o.2 (by omega) j (by rw [listOf_length]; exact hj)
  · omega
  · omega
end Go.Proofs.Ytceginnogbbpeaa
