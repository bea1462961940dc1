/- Rows of years that were really painted, and the ends that Dates returns: plain numbers. -/
import Derived.Test.YtceginnogbbpeaaYearMaps
namespace Go.Proofs.Ytceginnogbbpeaa
open Go.RowKit Go.Shelf Go.Maps

/-- Years that have digits, each at least r behind the one before it, the first one not before lo, none behind hi. -/
def IsRow (r : Nat) (hi : Int) : Int → List Int → List Int → Prop
  | _, [], [] => True
  | lo, d :: s, y :: ys => lo ≤ y ∧ y ≤ hi ∧ fitsB y d = true ∧ IsRow r hi (y + r) s ys
  | _, _, _ => False

theorem IsRow.mono {r : Nat} {hi lo lo' : Int} (h : lo' ≤ lo) : ∀ {ds ys : List Int}, IsRow r hi lo ds ys → IsRow r hi lo' ds ys
  | [], [], _ => trivial
  | _ :: _, _ :: _, ⟨a, b, c, d⟩ => ⟨by omega, b, c, d⟩
  | [], _ :: _, x => x.elim
  | _ :: _, [], x => x.elim
theorem IsRow.length {r : Nat} {hi : Int} : ∀ {lo : Int} {ds ys : List Int}, IsRow r hi lo ds ys → ys.length = ds.length
  | _, [], [], _ => rfl
  | _, _ :: _, _ :: _, ⟨_, _, _, d⟩ => by simp [IsRow.length d]
  | _, [], _ :: _, x => x.elim
  | _, _ :: _, [], x => x.elim

/-- A row is counted. -/
theorem row_counts (lo hi : Int) (r n : Nat) (hn : hi = lo + n - 1) : ∀ (ds ys : List Int) (k : Nat), IsRow r hi (lo + k) ds ys → 0 < bk lo r n ds k
  | [], [], _, _ => Nat.one_pos
  | d :: s, y :: ys, k, ⟨a, b, c, e⟩ => by
    rw [bk_cons, sumTo_pos]
    have ey : lo + ((y - lo).toNat : Int) = y := by omega
    refine ⟨(y - lo).toNat, by omega, ?_⟩
    rw [ey, if_pos ⟨by omega, c⟩]
    exact row_counts lo hi r n hn s ys _ (by rw [show lo + (((y - lo).toNat + r : Nat) : Int) = y + r by omega]; exact e)
  | [], _ :: _, _, x => x.elim
  | _ :: _, [], _, x => x.elim

/-- The strip before a row lies early enough. -/
theorem row_late (r : Nat) (hi : Int) : ∀ (s ys : List Int) (y : Int), (∀ d ∈ s, -1 ≤ d ∧ d ≤ 9) → y ≤ hi → IsRow r hi (y + r) s ys → y ≤ late hi r s
  | [], [], y, _, h, _ => h
  | e :: s, z :: zs, y, hd, _, ⟨a, b, c, f⟩ => by
    have ih := row_late r hi s zs z (fun d hx => hd d (by simp [hx])) b f
    have := (prv_spec (y := late hi r s) (hd e (by simp)).1 (hd e (by simp)).2).2.2.2 z ih c
    simp only [late]
    omega
  | [], _ :: _, _, _, _, x => x.elim
  | _ :: _, [], _, _, _, x => x.elim

theorem thr_snoc (lo : Int) (r : Nat) (d : Int) : ∀ l : List Int, thr lo r (l ++ [d]) = thr (nxt d lo + r) r l
  | [] => rfl
  | e :: l => by rw [List.cons_append]; simp only [thr]; rw [thr_snoc lo r d l]
theorem minAt_succ (lo : Int) (r : Nat) (d : Int) (s : List Int) (j : Nat) : minAt lo r (d :: s) (j + 1) = minAt (nxt d lo + r) r s j := by
  unfold minAt
  rw [List.take_succ_cons, List.reverse_cons, thr_snoc]
  rfl
theorem maxAt_succ (hi : Int) (r : Nat) (d : Int) (s : List Int) (j : Nat) : maxAt hi r (d :: s) (j + 1) = maxAt hi r s j := rfl

/-- Each year of a row lies between its ends. -/
theorem row_between (r : Nat) (hi : Int) : ∀ (ds ys : List Int) (lo : Int), (∀ d ∈ ds, -1 ≤ d ∧ d ≤ 9) → IsRow r hi lo ds ys → ∀ j, j < ds.length → minAt lo r ds j ≤ ys.getD j 0 ∧ ys.getD j 0 ≤ maxAt hi r ds j
  | [], [], _, _, _, j, hj => by cases hj
  | d :: s, y :: ys, lo, hd, ⟨a, b, c, e⟩, 0, _ => by
    obtain ⟨d0, d1⟩ := hd d (by simp)
    refine ⟨(nxt_spec (y := lo) d0 d1).2.2.2 y a c, ?_⟩
    exact (prv_spec (y := late hi r s) d0 d1).2.2.2 y (row_late r hi s ys y (fun d hx => hd d (by simp [hx])) b e) c
  | d :: s, y :: ys, lo, hd, ⟨a, b, c, e⟩, j + 1, hj => by
    obtain ⟨d0, d1⟩ := hd d (by simp)
    have hm := (nxt_spec (y := lo) d0 d1).2.2.2 y a c
    have := row_between r hi s ys (nxt d lo + r) (fun d hx => hd d (by simp [hx])) (e.mono (by omega)) j (by simpa using hj)
    rw [minAt_succ, maxAt_succ]
    exact this
  | [], _ :: _, _, _, x, _, _ => x.elim
  | _ :: _, [], _, _, x, _, _ => x.elim

/-- Some of the digits are unread. -/
def Unread : List Int → List Int → Prop
  | [], [] => True
  | e :: t, d :: s => (e = d ∨ e = -1) ∧ Unread t s
  | _, _ => False
theorem Unread.length : ∀ {t s : List Int}, Unread t s → t.length = s.length
  | [], [], _ => rfl
  | _ :: _, _ :: _, ⟨_, h⟩ => by simp [Unread.length h]
  | [], _ :: _, x => x.elim
  | _ :: _, [], x => x.elim
theorem fits_unread {y d e : Int} (h : e = d ∨ e = -1) (hf : fitsB y d = true) : fitsB y e = true := by
  rcases h with rfl | rfl
  · exact hf
  · exact fitsB_iff.2 (.inl rfl)

/-- Unread digits leave no fewer rows. -/
theorem unread_rows (lo : Int) (r n : Nat) : ∀ (t s : List Int) (k : Nat), Unread t s → bk lo r n s k ≤ bk lo r n t k
  | [], [], _, _ => Nat.le_refl _
  | e :: t, d :: s, k, ⟨h, hu⟩ => by
    rw [bk_cons, bk_cons]
    refine sumTo_le fun j _ => ?_
    by_cases hc : k ≤ j ∧ fitsB (lo + j) d = true
    · rw [if_pos hc, if_pos ⟨hc.1, fits_unread h hc.2⟩]
      exact unread_rows lo r n t s _ hu
    · rw [if_neg hc]; exact Nat.zero_le _
  | [], _ :: _, _, x => x.elim
  | _ :: _, [], _, x => x.elim

theorem unread_min (r : Nat) : ∀ (t s : List Int) (lo lo' : Int), Unread t s → (∀ d ∈ t, -1 ≤ d ∧ d ≤ 9) → (∀ d ∈ s, -1 ≤ d ∧ d ≤ 9) → lo ≤ lo' → ∀ j, j < s.length → minAt lo r t j ≤ minAt lo' r s j
  | [], [], _, _, _, _, _, _, j, hj => by cases hj
  | e :: t, d :: s, lo, lo', ⟨h, hu⟩, ht, hs, hl, j, hj => by
    obtain ⟨d0, d1⟩ := hs d (by simp)
    obtain ⟨e0, e1⟩ := ht e (by simp)
    obtain ⟨a1, a2, a3, a4⟩ := nxt_spec (y := lo') d0 d1
    have hm := (nxt_spec (y := lo) e0 e1).2.2.2 (nxt d lo') (by omega) (fits_unread h a3)
    match j with
    | 0 => exact hm
    | j + 1 =>
      rw [minAt_succ, minAt_succ]
      exact unread_min r t s _ _ hu (fun d hx => ht d (by simp [hx])) (fun d hx => hs d (by simp [hx])) (by omega) j (by simpa using hj)
  | [], _ :: _, _, _, x, _, _, _, _, _ => x.elim
  | _ :: _, [], _, _, x, _, _, _, _, _ => x.elim
theorem unread_late (r : Nat) (hi : Int) : ∀ (t s : List Int), Unread t s → (∀ d ∈ t, -1 ≤ d ∧ d ≤ 9) → (∀ d ∈ s, -1 ≤ d ∧ d ≤ 9) → late hi r s ≤ late hi r t
  | [], [], _, _, _ => Int.le_refl _
  | e :: t, d :: s, ⟨h, hu⟩, ht, hs => by
    have ih := unread_late r hi t s hu (fun d hx => ht d (by simp [hx])) (fun d hx => hs d (by simp [hx]))
    obtain ⟨d0, d1⟩ := hs d (by simp)
    obtain ⟨e0, e1⟩ := ht e (by simp)
    obtain ⟨a1, a2, a3, a4⟩ := prv_spec (y := late hi r s) d0 d1
    have := (prv_spec (y := late hi r t) e0 e1).2.2.2 (prv d (late hi r s)) (by omega) (fits_unread h a3)
    simp only [late]
    omega
  | [], _ :: _, x, _, _ => x.elim
  | _ :: _, [], x, _, _ => x.elim
theorem unread_max (r : Nat) (hi : Int) : ∀ (t s : List Int), Unread t s → (∀ d ∈ t, -1 ≤ d ∧ d ≤ 9) → (∀ d ∈ s, -1 ≤ d ∧ d ≤ 9) → ∀ j, j < s.length → maxAt hi r s j ≤ maxAt hi r t j
  | [], [], _, _, _, j, hj => by cases hj
  | e :: t, d :: s, ⟨h, hu⟩, ht, hs, 0, _ => by
    have ih := unread_late r hi t s hu (fun d hx => ht d (by simp [hx])) (fun d hx => hs d (by simp [hx]))
    obtain ⟨d0, d1⟩ := hs d (by simp)
    obtain ⟨e0, e1⟩ := ht e (by simp)
    obtain ⟨a1, a2, a3, a4⟩ := prv_spec (y := late hi r s) d0 d1
    exact (prv_spec (y := late hi r t) e0 e1).2.2.2 (prv d (late hi r s)) (by omega) (fits_unread h a3)
  | e :: t, d :: s, ⟨h, hu⟩, ht, hs, j + 1, hj => by
    rw [maxAt_succ, maxAt_succ]
    exact unread_max r hi t s hu (fun d hx => ht d (by simp [hx])) (fun d hx => hs d (by simp [hx])) j (by simpa using hj)
  | [], _ :: _, x, _, _, _, _ => x.elim
  | _ :: _, [], x, _, _, _, _ => x.elim

/-! The ends are all equal just if there is one row. -/
theorem bk_pos (lo hi : Int) (r n : Nat) (hn : hi = lo + n - 1) : ∀ (s : List Int), (∀ d ∈ s, -1 ≤ d ∧ d ≤ 9) → ∀ j : Nat, j < n → (0 < bk lo r n s (j + r) ↔ lo + j ≤ late hi r s)
  | [], _, j, hj => by simp only [bk, late]; omega
  | e :: s, hs, j, hj => by
    have ih := bk_pos lo hi r n hn s (fun d hx => hs d (by simp [hx]))
    have hl := late_le hi r s (fun d hx => hs d (by simp [hx]))
    obtain ⟨e0, e1⟩ := hs e (by simp)
    obtain ⟨p1, p2, p3, p4⟩ := prv_spec (y := late hi r s) e0 e1
    rw [bk_cons, sumTo_pos]
    simp only [late]
    constructor
    · rintro ⟨i, hi', hf⟩
      by_cases hc : j + r ≤ i ∧ fitsB (lo + i) e = true
      · rw [if_pos hc] at hf
        have := p4 _ ((ih i hi').1 hf) hc.2
        have := hc.1
        omega
      · rw [if_neg hc] at hf; omega
    · intro hle
      have ei : lo + ((prv e (late hi r s) - lo).toNat : Int) = prv e (late hi r s) := by omega
      refine ⟨(prv e (late hi r s) - lo).toNat, by omega, ?_⟩
      rw [ei, if_pos ⟨by omega, p3⟩]
      exact (ih _ (by omega)).2 (by omega)

theorem sum_only {f : Nat → Nat} {i n : Nat} (hi : i < n) (h : ∀ j, j < n → j ≠ i → f j = 0) : sumTo n f = f i := by
  have := sum_one i (f i) n
  rw [if_pos hi] at this
  rw [← this]
  refine sumTo_congr fun j hj => ?_
  by_cases hji : j = i
  · rw [if_pos hji, hji]
  · rw [if_neg hji, h j hj hji]
theorem sum_two {f : Nat → Nat} {a b n : Nat} (ha : a < n) (hb : b < n) (hab : a ≠ b) : f a + f b ≤ sumTo n f := by
  have h1 := sum_one a (f a) n
  have h2 := sum_one b (f b) n
  rw [if_pos ha] at h1
  rw [if_pos hb] at h2
  rw [← h1, ← h2, ← sumTo_add]
  refine sumTo_le fun j _ => ?_
  by_cases hja : j = a
  · rw [if_pos hja, if_neg (by omega), hja]; exact Nat.le_refl _
  · by_cases hjb : j = b
    · rw [if_neg hja, if_pos hjb, hjb, Nat.zero_add]; exact Nat.le_refl _
    · rw [if_neg hja, if_neg hjb]; exact Nat.zero_le _

theorem one_row (lo hi : Int) (r n : Nat) (hn : hi = lo + n - 1) : ∀ (ds : List Int), (∀ d ∈ ds, -1 ≤ d ∧ d ≤ 9) → ∀ k : Nat, 0 < bk lo r n ds k → ((∀ j, j < ds.length → minAt (lo + k) r ds j = maxAt hi r ds j) ↔ bk lo r n ds k = 1)
  | [], _, k, _ => by simp [bk]
  | d :: s, hd, k, hp => by
    have hs : ∀ e ∈ s, -1 ≤ e ∧ e ≤ 9 := fun e hx => hd e (by simp [hx])
    obtain ⟨d0, d1⟩ := hd d (by simp)
    obtain ⟨m1, m2, m3, m4⟩ := nxt_spec (y := lo + k) d0 d1
    obtain ⟨p1, p2, p3, p4⟩ := prv_spec (y := late hi r s) d0 d1
    have hl := late_le hi r s hs
    have hb := bk_pos lo hi r n hn s hs
    -- what each year adds
    have hc : ∀ j, j < n → (0 < (if k ≤ j ∧ fitsB (lo + j) d = true then bk lo r n s (j + r) else 0) ↔ k ≤ j ∧ fitsB (lo + j) d = true ∧ lo + j ≤ late hi r s) := fun j hj => by
      by_cases hx : k ≤ j ∧ fitsB (lo + j) d = true
      · rw [if_pos hx, hb j hj]; exact ⟨fun h => ⟨hx.1, hx.2, h⟩, fun h => h.2.2⟩
      · rw [if_neg hx]; exact ⟨fun h => (by omega), fun h => absurd ⟨h.1, h.2.1⟩ hx⟩
    rw [bk_cons] at hp ⊢
    obtain ⟨j0, hj0, hpos⟩ := sumTo_pos.1 hp
    obtain ⟨c1, c2, c3⟩ := (hc j0 hj0).1 hpos
    have hmj := m4 _ (show lo + (k : Int) ≤ lo + j0 by omega) c2
    have hMj := p4 _ c3 c2
    have em : lo + ((nxt d (lo + k) - lo).toNat : Int) = nxt d (lo + k) := by omega
    have eM : lo + ((prv d (late hi r s) - lo).toNat : Int) = prv d (late hi r s) := by omega
    have hin : (nxt d (lo + k) - lo).toNat < n := by omega
    have hMn : (prv d (late hi r s) - lo).toNat < n := by omega
    have hposm := (hc (nxt d (lo + k) - lo).toNat hin).2 ⟨by omega, by rw [em]; exact m3, by omega⟩
    have hposM := (hc (prv d (late hi r s) - lo).toNat hMn).2 ⟨by omega, by rw [eM]; exact p3, by omega⟩
    have hval : (if k ≤ (nxt d (lo + k) - lo).toNat ∧ fitsB (lo + ((nxt d (lo + k) - lo).toNat : Nat)) d = true then bk lo r n s ((nxt d (lo + k) - lo).toNat + r) else 0) = bk lo r n s ((nxt d (lo + k) - lo).toNat + r) := by
      rw [if_pos ⟨by omega, by rw [em]; exact m3⟩]
    have ih := one_row lo hi r n hn s hs ((nxt d (lo + k) - lo).toNat + r) (by rw [hval] at hposm; exact hposm)
    have es : lo + (((nxt d (lo + k) - lo).toNat + r : Nat) : Int) = nxt d (lo + k) + r := by omega
    rw [es] at ih
    have honly : nxt d (lo + k) = prv d (late hi r s) → sumTo n (fun j => if k ≤ j ∧ fitsB (lo + j) d = true then bk lo r n s (j + r) else 0) = bk lo r n s ((nxt d (lo + k) - lo).toNat + r) := fun he => by
      rw [sum_only hin (fun j hj hne => ?_)]
      · exact hval
      · by_cases hz : 0 < (if k ≤ j ∧ fitsB (lo + j) d = true then bk lo r n s (j + r) else 0)
        · obtain ⟨a1, a2, a3⟩ := (hc j hj).1 hz
          have h1 := m4 _ (show lo + (k : Int) ≤ lo + j by omega) a2
          have h2 := p4 _ a3 a2
          omega
        · omega
    constructor
    · intro hall
      have he : nxt d (lo + k) = prv d (late hi r s) := hall 0 (by simp)
      rw [honly he]
      refine ih.1 fun j hj => ?_
      have := hall (j + 1) (by simpa using hj)
      rwa [minAt_succ, maxAt_succ] at this
    · intro hone
      have he : nxt d (lo + k) = prv d (late hi r s) := by
        by_cases h : nxt d (lo + k) = prv d (late hi r s)
        · exact h
        · have := sum_two (f := fun j => if k ≤ j ∧ fitsB (lo + j) d = true then bk lo r n s (j + r) else 0) hin hMn (by omega)
          omega
      have ht := ih.2 (by rw [← honly he]; exact hone)
      intro j hj
      match j with
      | 0 => exact he
      | j + 1 =>
        rw [minAt_succ, maxAt_succ]
        exact ht j (by simpa using hj)

/-- The ends have the digits. -/
theorem ends_fit (lo hi : Int) (r : Nat) (ds : List Int) (hd : ∀ d ∈ ds, -1 ≤ d ∧ d ≤ 9) {j : Nat} (hj : j < ds.length) : fitsB (minAt lo r ds j) (ds.getD j 0) = true ∧ fitsB (maxAt hi r ds j) (ds.getD j 0) = true := by
  obtain ⟨d0, d1⟩ := getD_all hd hj
  exact ⟨(nxt_spec d0 d1).2.2.1, (prv_spec d0 d1).2.2.1⟩
end Go.Proofs.Ytceginnogbbpeaa
