/- TreeSheet: the area of a strip is the difference of two lower ones within the rounding; a thicker tree and a higher strip never give less. -/
import Derived.Test.YtajbflepjpgnbaaLawSheetA
import Derived.Test.YtajbflepjpgnbaaHeightOf
namespace Go.Proofs.Ytajbflepjpgnbaa
open Go.RowKit Go.Shelf

theorem sheet_facts (gm gM h1 h : Int) (g0 : 0 ≤ gm) (g1 : gm ≤ gM) (h0 : 0 ≤ h1) (hh : h1 ≤ h) :
    gm * h1 / 100 ≤ gm * h / 100 ∧ (gM * h1 + 99) / 100 ≤ (gM * h + 99) / 100 ∧ gm * h1 / 100 + gm * (h - h1) / 100 ≤ gm * h / 100 ∧ gm * h / 100 ≤ gm * h1 / 100 + gm * (h - h1) / 100 + 1 ∧
    (gM * h + 99) / 100 ≤ (gM * h1 + 99) / 100 + (gM * (h - h1) + 99) / 100 ∧ (gM * h1 + 99) / 100 + (gM * (h - h1) + 99) / 100 - 1 ≤ (gM * h + 99) / 100 ∧
    gm * h / 100 ≤ (gM * h + 99) / 100 ∧ gm * h / 100 * 100 ≤ gm * h ∧ gm * h < gm * h / 100 * 100 + 100 ∧ gM * h ≤ (gM * h + 99) / 100 * 100 ∧ (gM * h + 99) / 100 * 100 < gM * h + 100 := by
  have e1 : gm * h = gm * h1 + gm * (h - h1) := by rw [← Int.mul_add]; congr 1; omega
  have e2 : gM * h = gM * h1 + gM * (h - h1) := by rw [← Int.mul_add]; congr 1; omega
  have x0 : 0 ≤ gm * h1 := Int.mul_nonneg g0 h0
  have y0 : 0 ≤ gm * (h - h1) := Int.mul_nonneg g0 (by omega)
  have x1 : gm * h1 ≤ gM * h1 := Int.mul_le_mul_of_nonneg_right g1 h0
  have y1 : gm * (h - h1) ≤ gM * (h - h1) := Int.mul_le_mul_of_nonneg_right g1 (by omega)
  rw [e1, e2]
  generalize gm * h1 = X at *
  generalize gm * (h - h1) = Y at *
  generalize gM * h1 = X' at *
  generalize gM * (h - h1) = Y' at *
  omega

/-- A question about a forest that is in order. -/
theorem ask_sheet (f : Forest) (K y h : Int) (hf : checkForest f = 0) (hK0 : 0 ≤ K) (hK1 : K < f.trees.length) : askErr f K y h = if inB y 0 300 && inB h 1 15000 then 0 else 1 := by
  unfold askErr
  rw [if_pos hf, if_pos ⟨hK0, hK1⟩]

theorem area_bad (f : Forest) (K y h : Int) (hf : checkForest f = 0) (hK0 : 0 ≤ K) (hK1 : K < f.trees.length) (hh : ¬ (1 ≤ h ∧ h ≤ 15000)) : areaOf f K y h = (0, 0, 1) := by
  have e : askErr f K y h = 1 := by
    rw [ask_sheet f K y h hf hK0 hK1, if_neg]
    intro hc
    rw [Bool.and_eq_true] at hc
    exact hh (inB_iff.1 hc.2)
  unfold areaOf
  rw [e]
  rfl

theorem area_zero (f : Forest) (K y h : Int) (he : ¬ (areaOf f K y h).2.2 = 0) : (areaOf f K y h).1 = 0 ∧ (areaOf f K y h).2.1 = 0 := by
  unfold areaOf at he ⊢
  by_cases h1 : askErr f K y h = 0
  · rw [if_pos h1] at he ⊢
    by_cases h2 : (verdictOn f.law f.trees[K.toNat]! y h).1 = 2
    · rw [if_pos h2]; exact ⟨rfl, rfl⟩
    · rw [if_neg h2] at he; exact absurd rfl he
  · rw [if_neg h1]; exact ⟨rfl, rfl⟩

theorem area_good (f : Forest) (K y h : Int) (he : (areaOf f K y h).2.2 = 0) : askErr f K y h = 0 ∧ (verdictOn f.law f.trees[K.toNat]! y h).1 ≠ 2 := by
  unfold areaOf at he
  by_cases h1 : askErr f K y h = 0
  · rw [if_pos h1] at he
    by_cases h2 : (verdictOn f.law f.trees[K.toNat]! y h).1 = 2
    · rw [if_pos h2] at he; cases he
    · exact ⟨h1, h2⟩
  · rw [if_neg h1] at he; exact absurd he h1

theorem area_is (f : Forest) (K y h : Int) (h1 : askErr f K y h = 0) (h2 : (verdictOn f.law f.trees[K.toNat]! y h).1 ≠ 2) : areaOf f K y h = (girthMin f.trees[K.toNat]! y * h / 100, (girthMax f.trees[K.toNat]! y * h + 99) / 100, 0) := by
  unfold areaOf
  rw [if_pos h1, if_neg h2]

set_option maxHeartbeats 1000000 in
theorem sheet_calls (f : Forest) (which year height more : Int) (w : World) (h : TreesHeld w.heap.size w f.tv f.trees) (hw : 0 ≤ which ∧ which ≤ 255) (hh : -9223372036854775808 ≤ height ∧ height ≤ 9223372036854775807) (hm : 0 ≤ more ∧ more ≤ 65535) :
    Calls Try.prog 13 #[.agg f.cells.toArray, .int .u8 which, .int .i64 year, .int .i64 height, .int .u16 more] w fun e w' => e = .returned (.bool true) ∧ Below w.heap.size w w' := by
  have h1 := fun W (hW : Below w.heap.size w W) => great_calls f W (h.at hW)
  have h2 := fun W (hW : Below w.heap.size w W) => refForest_calls f W (h.at hW)
  have hA := fun x W (hW : Below w.heap.size w W) => areaOf_calls f (which % (f.trees.length : Int)) year x W (h.at hW)
  have hG := fun W (hW : Below w.heap.size w W) => girthOf_calls f (which % (f.trees.length : Int)) year W (h.at hW)
  have m0 : 0 ≤ more % 1000 := by omega
  have m1 : more % 1000 < 1000 := by omega
  have far : ∀ hv : Int, ¬ (1 ≤ hv ∧ hv ≤ 15000) → checkForest f = 0 → 0 < (f.trees.length : Int) → (¬ (areaOf f (which % (f.trees.length : Int)) year hv).2.2 = 0 ∧ (areaOf f (which % (f.trees.length : Int)) year hv).1 = 0 ∧ (areaOf f (which % (f.trees.length : Int)) year hv).2.1 = 0) := by
    intro hv hn hf hl
    rw [area_bad f (which % (f.trees.length : Int)) year hv hf (Int.emod_nonneg _ (by omega)) (Int.emod_lt_of_pos _ hl) hn]
    exact ⟨by decide, rfl, rfl⟩
  by_cases hov : height + 1 + more % 1000 ≤ 9223372036854775807
  · obtain ⟨hv, hH⟩ : ∃ hv, height + 1 + more % 1000 = hv := ⟨_, rfl⟩
    have hc : checkForest f = 0 → 0 < (f.trees.length : Int) → (¬ (areaOf f (which % (f.trees.length : Int)) year hv).2.2 = 0 ∧ (areaOf f (which % (f.trees.length : Int)) year hv).1 = 0 ∧ (areaOf f (which % (f.trees.length : Int)) year hv).2.1 = 0) ∨ ((areaOf f (which % (f.trees.length : Int)) year hv).2.2 = 0 ∧ height < 1 ∧ (areaOf f (which % (f.trees.length : Int)) year height).2.2 = 1) ∨
        ((areaOf f (which % (f.trees.length : Int)) year hv).2.2 = 0 ∧ (areaOf f (which % (f.trees.length : Int)) year height).2.2 = 0 ∧ (areaOf f (which % (f.trees.length : Int)) year (hv - height)).2.2 = 0 ∧ (girthOf f (which % (f.trees.length : Int)) year).2.2 = 0 ∧ 1 ≤ height ∧ height ≤ 15000 ∧ 0 ≤ hv - height ∧ hv ≤ 15000 ∧
        0 ≤ (areaOf f (which % (f.trees.length : Int)) year height).1 ∧ (areaOf f (which % (f.trees.length : Int)) year height).1 ≤ (areaOf f (which % (f.trees.length : Int)) year hv).1 ∧ 0 ≤ (areaOf f (which % (f.trees.length : Int)) year (hv - height)).1 ∧ (areaOf f (which % (f.trees.length : Int)) year (hv - height)).1 ≤ 10000000 ∧ (areaOf f (which % (f.trees.length : Int)) year hv).1 ≤ 10000000 ∧ 0 ≤ (areaOf f (which % (f.trees.length : Int)) year height).2.1 ∧ (areaOf f (which % (f.trees.length : Int)) year height).2.1 ≤ (areaOf f (which % (f.trees.length : Int)) year hv).2.1 ∧ 0 ≤ (areaOf f (which % (f.trees.length : Int)) year (hv - height)).2.1 ∧ (areaOf f (which % (f.trees.length : Int)) year (hv - height)).2.1 ≤ 10000000 ∧ (areaOf f (which % (f.trees.length : Int)) year hv).2.1 ≤ 10000000 ∧ (areaOf f (which % (f.trees.length : Int)) year height).1 + (areaOf f (which % (f.trees.length : Int)) year (hv - height)).1 ≤ (areaOf f (which % (f.trees.length : Int)) year hv).1 ∧ (areaOf f (which % (f.trees.length : Int)) year hv).1 ≤ (areaOf f (which % (f.trees.length : Int)) year height).1 + (areaOf f (which % (f.trees.length : Int)) year (hv - height)).1 + 1 ∧ (areaOf f (which % (f.trees.length : Int)) year hv).2.1 ≤ (areaOf f (which % (f.trees.length : Int)) year height).2.1 + (areaOf f (which % (f.trees.length : Int)) year (hv - height)).2.1 ∧ (areaOf f (which % (f.trees.length : Int)) year height).2.1 + (areaOf f (which % (f.trees.length : Int)) year (hv - height)).2.1 - 1 ≤ (areaOf f (which % (f.trees.length : Int)) year hv).2.1 ∧ (areaOf f (which % (f.trees.length : Int)) year hv).1 ≤ (areaOf f (which % (f.trees.length : Int)) year hv).2.1 ∧ 0 ≤ (girthOf f (which % (f.trees.length : Int)) year).1 * hv ∧ (girthOf f (which % (f.trees.length : Int)) year).1 * hv ≤ 1000000000 ∧ 0 ≤ (girthOf f (which % (f.trees.length : Int)) year).2.1 * hv ∧ (girthOf f (which % (f.trees.length : Int)) year).2.1 * hv ≤ 1000000000 ∧ (areaOf f (which % (f.trees.length : Int)) year hv).1 * 100 ≤ (girthOf f (which % (f.trees.length : Int)) year).1 * hv ∧ (girthOf f (which % (f.trees.length : Int)) year).1 * hv < (areaOf f (which % (f.trees.length : Int)) year hv).1 * 100 + 100 ∧ (girthOf f (which % (f.trees.length : Int)) year).2.1 * hv ≤ (areaOf f (which % (f.trees.length : Int)) year hv).2.1 * 100 ∧ (areaOf f (which % (f.trees.length : Int)) year hv).2.1 * 100 < (girthOf f (which % (f.trees.length : Int)) year).2.1 * hv + 100) := by
      intro hf hl
      have hK0 : 0 ≤ (which % (f.trees.length : Int)) := Int.emod_nonneg _ (by omega)
      have hK1 : (which % (f.trees.length : Int)) < (f.trees.length : Int) := Int.emod_lt_of_pos _ hl
      generalize (which % (f.trees.length : Int)) = K at hK0 hK1 ⊢
      by_cases he : (areaOf f K year hv).2.2 = 0
      · obtain ⟨e1, e2⟩ := area_good f K year hv he
        have hk := asked_of f K year hv w h e1
        by_cases hlow : height < 1
        · exact .inr (.inl ⟨he, hlow, by rw [area_bad f K year height hf hK0 hK1 (by omega)]⟩)
        · have hh1 := hk.height1
          have iy : inB year 0 300 = true := inB_iff.2 ⟨hk.year0, hk.year1⟩
          have e3 : askErr f K year height = 0 := by rw [ask_sheet f K year height hf hK0 hK1, iy, inB_iff.2 ⟨by omega, by omega⟩]; rfl
          have e4 : askErr f K year (hv - height) = 0 := by rw [ask_sheet f K year (hv - height) hf hK0 hK1, iy, inB_iff.2 ⟨by omega, by omega⟩]; rfl
          have e5 : askErr f K year 1 = 0 := by rw [ask_sheet f K year 1 hf hK0 hK1, iy, inB_iff.2 ⟨by omega, by omega⟩]; rfl
          obtain ⟨s0, s1, _⟩ := sides f.law f.trees[K.toNat]! year hk.law hk.fine hk.year0 hk.year1
          have mono : ∀ x, x ≤ hv → (verdictOn f.law f.trees[K.toNat]! year x).1 ≠ 2 := fun x hx hc => e2 ((never_iff f.law f.trees[K.toNat]! year hv s1).2 (((never_iff f.law f.trees[K.toNat]! year x s1).1 hc).imp id fun q => by omega))
          obtain ⟨gb0, gb1, gb2⟩ := girth_bounds f.trees[K.toNat]! year hk.fine hk.year0 hk.year1
          have r1 := area_is f K year hv e1 e2
          have r2 := area_is f K year height e3 (mono _ (by omega))
          have r3 := area_is f K year (hv - height) e4 (mono _ (by omega))
          have r4 : girthOf f K year = (girthMin f.trees[K.toNat]! year, girthMax f.trees[K.toNat]! year, 0) := by unfold girthOf; rw [if_pos e5]
          rw [r1, r2, r3, r4]
          have F := sheet_facts (girthMin f.trees[K.toNat]! year) (girthMax f.trees[K.toNat]! year) height hv gb0 gb1 (by omega) (by omega)
          generalize girthMin f.trees[K.toNat]! year = gm at gb0 gb1 gb2 F ⊢
          generalize girthMax f.trees[K.toNat]! year = gM at gb0 gb1 gb2 F ⊢
          have p1 := mul_bounds (a := gm) (b := hv) (A := 21000) (B := 15000) gb0 (by omega) (by omega) (by omega)
          have p2 := mul_bounds (a := gM) (b := hv) (A := 21000) (B := 15000) (by omega) gb2 (by omega) (by omega)
          have p3 := mul_bounds (a := gm) (b := height) (A := 21000) (B := 15000) gb0 (by omega) (by omega) (by omega)
          have p4 := mul_bounds (a := gM) (b := height) (A := 21000) (B := 15000) (by omega) gb2 (by omega) (by omega)
          have p5 := mul_bounds (a := gm) (b := hv - height) (A := 21000) (B := 15000) gb0 (by omega) (by omega) (by omega)
          have p6 := mul_bounds (a := gM) (b := hv - height) (A := 21000) (B := 15000) (by omega) gb2 (by omega) (by omega)
          refine .inr (.inr ⟨rfl, rfl, rfl, rfl, by omega, by omega, by omega, by omega, ?_⟩)
          dsimp only
          generalize gm * hv = a1 at *
          generalize gM * hv = a2 at *
          generalize gm * height = a3 at *
          generalize gM * height = a4 at *
          generalize gm * (hv - height) = a5 at *
          generalize gM * (hv - height) = a6 at *
          clear r1 r2 r3 r4 mono hk e1 e2 e3 e4 e5 far hA hG h1 h2
          omega
      · exact .inl ⟨he, area_zero f K year hv he⟩
    obtain ⟨a, c, ev⟩ := h.1.len
    simp only [Forest.cells] at h1 h2 hA hG ⊢
    rw [ev] at h1 h2 hA hG ⊢
    exact sheet_walk _ _ _ _ _ _ _ _ _ _ which year height more hv w _ hw.1 hw.2 _ _ _ _ _ _ _ _ _ _ _ _ hH hh.1 hov hm.1 hm.2 hc h1 h2 (hA hv) (hA height) (hA (hv - height)) hG
  · by_cases htop : height = 9223372036854775807
    · obtain ⟨hv, hH⟩ : ∃ hv, wrap64 (wrap64 (height + 1) + more % 1000) = hv := ⟨_, rfl⟩
      have hn : ¬ (1 ≤ hv ∧ hv ≤ 15000) := by
        rw [← hH, htop]
        unfold wrap64
        omega
      have hc := far hv hn
      obtain ⟨a, c, ev⟩ := h.1.len
      simp only [Forest.cells] at h1 h2 hA hG ⊢
      rw [ev] at h1 h2 hA hG ⊢
      exact sheet_top _ _ _ _ _ _ _ _ _ _ which year height more hv w _ hw.1 hw.2 _ _ _ hH hm.1 hm.2 hc h1 h2 (hA hv)
    · obtain ⟨hv, hH⟩ : ∃ hv, wrap64 (height + 1 + more % 1000) = hv := ⟨_, rfl⟩
      have hn : ¬ (1 ≤ hv ∧ hv ≤ 15000) := by
        rw [← hH]
        unfold wrap64
        omega
      have hc := far hv hn
      obtain ⟨a, c, ev⟩ := h.1.len
      simp only [Forest.cells] at h1 h2 hA hG ⊢
      rw [ev] at h1 h2 hA hG ⊢
      exact sheet_over _ _ _ _ _ _ _ _ _ _ which year height more hv w _ hw.1 hw.2 _ _ _ hH hh.1 (by omega) hm.1 hm.2 hc h1 h2 (hA hv)
end Go.Proofs.Ytajbflepjpgnbaa
