/- TreeSoon: in no year before the ones that Next returns is a strip of the height 1 surely, or possibly, allowed; in these it is; and whoever waits longer finds no earlier year. -/
import Derived.Test.YtajbflepjpgnbaaLawSoonA
import Derived.Test.YtajbflepjpgnbaaLawSoonB
namespace Go.Proofs.Ytajbflepjpgnbaa
open Go.RowKit Go.Shelf

theorem findYear_is (p : Int → Bool) (lo : Int) (h0 : 0 ≤ lo) : ∀ n : Nat, lo + n ≤ 301 → (findYear p lo n = none ∧ ∀ x, lo ≤ x → x < lo + n → p x = false) ∨ (∃ x, findYear p lo n = some x ∧ lo ≤ x ∧ x < lo + n ∧ p x = true ∧ ∀ z, lo ≤ z → z < x → p z = false)
  | 0, _ => .inl ⟨rfl, fun x h1 h2 => by omega⟩
  | n + 1, hn => by
    have hv := yearAt_val (lo := lo) (k := n) h0 (by omega)
    have e : findYear p lo (n + 1) = (findYear p lo n).or (if p (lo + n) then some (lo + n) else none) := by
      unfold findYear
      rw [upto_succ, List.find?_append, List.find?_cons, List.find?_nil, hv]
      cases hq : p (lo + n) <;> cases (List.find? (fun x : Year => p x.val) (upto (yearAt lo) n)) <;> simp [hv]
    rcases findYear_is p lo h0 n (by omega) with ⟨h1, h2⟩ | ⟨x, h1, h2, h3, h4, h5⟩
    · rw [h1] at e
      cases hp : p (lo + n)
      · rw [hp] at e
        refine .inl ⟨e, fun x hx1 hx2 => ?_⟩
        by_cases hx : x = lo + n
        · rw [hx]; exact hp
        · exact h2 x hx1 (by omega)
      · rw [hp] at e
        exact .inr ⟨lo + n, e, by omega, by omega, hp, fun z hz1 hz2 => h2 z hz1 hz2⟩
    · rw [h1] at e
      exact .inr ⟨x, e, h2, by omega, h4, h5⟩

theorem firstYear_is (p : Int → Bool) (y : Int) (h0 : 0 ≤ y) (h1 : y ≤ 300) : (firstYear p y = -1 ∧ ∀ x, y ≤ x → x ≤ 300 → p x = false) ∨ (y ≤ firstYear p y ∧ firstYear p y ≤ 300 ∧ p (firstYear p y) = true ∧ ∀ z, y ≤ z → z < firstYear p y → p z = false) := by
  unfold firstYear
  rcases findYear_is p y h0 (300 - y + 1).toNat (by omega) with ⟨h1, h2⟩ | ⟨x, h1, h2, h3, h4, h5⟩
  · rw [h1]; exact .inl ⟨rfl, fun x hx1 hx2 => h2 x hx1 (by omega)⟩
  · rw [h1]; exact .inr ⟨h2, by dsimp only; omega, h4, h5⟩

/-- What the law asks of the first years, and of the verdict in a later year. -/
theorem soon_facts (A P : Int → Bool) (from_ yv v : Int) (h0 : 0 ≤ from_) (h1 : from_ ≤ yv) (h2 : yv ≤ 300) (hAP : ∀ x, A x = true → P x = true) (hv : v = 0 ∨ v = 1 ∨ v = 2) (hA : A yv = (v == 1)) (hP : P yv = (v != 2)) :
    ((v = 1 ∧ 0 ≤ firstYear A from_ ∧ firstYear A from_ ≤ yv ∧ from_ ≤ firstYear P from_ ∧ firstYear P from_ ≤ yv ∧ firstYear P from_ ≤ firstYear A from_) ∨ (v = 0 ∧ from_ ≤ firstYear P from_ ∧ firstYear P from_ ≤ yv ∧ 0 ≤ firstYear P from_ ∧ firstYear A from_ = -1) ∨ (v = 0 ∧ from_ ≤ firstYear P from_ ∧ firstYear P from_ ≤ yv ∧ 0 ≤ firstYear P from_ ∧ firstYear P from_ ≤ firstYear A from_ ∧ yv ≠ firstYear A from_) ∨
      (v = 2 ∧ firstYear A from_ = -1 ∧ firstYear P from_ = -1) ∨ (v = 2 ∧ firstYear A from_ = -1 ∧ from_ ≤ firstYear P from_ ∧ yv ≠ firstYear P from_) ∨ (v = 2 ∧ from_ ≤ firstYear P from_ ∧ firstYear P from_ ≤ firstYear A from_ ∧ yv ≠ firstYear A from_ ∧ yv ≠ firstYear P from_)) ∧
    (firstYear A yv = -1 ∨ (yv ≤ firstYear A yv ∧ 0 ≤ firstYear A from_ ∧ firstYear A from_ ≤ firstYear A yv)) ∧ (firstYear P yv = -1 ∨ (yv ≤ firstYear P yv ∧ firstYear P from_ ≤ firstYear P yv)) := by
  have key : ∀ Q : Int → Bool, (Q yv = true → 0 ≤ firstYear Q from_ ∧ firstYear Q from_ ≤ yv) ∧ (firstYear Q yv = -1 ∨ (yv ≤ firstYear Q yv ∧ 0 ≤ firstYear Q from_ ∧ firstYear Q from_ ≤ firstYear Q yv)) ∧ (firstYear Q from_ = -1 ∨ from_ ≤ firstYear Q from_) ∧ (yv = firstYear Q from_ → Q yv = true) := by
    intro Q
    rcases firstYear_is Q from_ h0 (by omega) with ⟨a1, a2⟩ | ⟨a1, a2, a3, a4⟩
    · refine ⟨fun hq => ?_, ?_, .inl a1, fun e => by omega⟩
      · rw [a2 yv h1 h2] at hq; cases hq
      · rcases firstYear_is Q yv (by omega) h2 with ⟨b1, b2⟩ | ⟨b1, b2, b3, b4⟩
        · exact .inl b1
        · rw [a2 _ (by omega) b2] at b3; cases b3
    · refine ⟨fun hq => ?_, ?_, .inr a1, fun e => by rw [e]; exact a3⟩
      · refine ⟨by omega, ?_⟩
        rcases Int.lt_or_le yv (firstYear Q from_) with h | h
        · rw [a4 yv h1 h] at hq; cases hq
        · exact h
      · rcases firstYear_is Q yv (by omega) h2 with ⟨b1, b2⟩ | ⟨b1, b2, b3, b4⟩
        · exact .inl b1
        · refine .inr ⟨b1, by omega, ?_⟩
          rcases Int.lt_or_le (firstYear Q yv) (firstYear Q from_) with h | h
          · rw [a4 _ (by omega) h] at b3; cases b3
          · exact h
  have both : firstYear A from_ = -1 ∨ (from_ ≤ firstYear P from_ ∧ firstYear P from_ ≤ firstYear A from_) := by
    rcases firstYear_is A from_ h0 (by omega) with ⟨a1, a2⟩ | ⟨a1, a2, a3, a4⟩
    · exact .inl a1
    · have hp := hAP _ a3
      rcases firstYear_is P from_ h0 (by omega) with ⟨b1, b2⟩ | ⟨b1, b2, b3, b4⟩
      · rw [b2 _ a1 a2] at hp; cases hp
      · refine .inr ⟨b1, ?_⟩
        rcases Int.lt_or_le (firstYear A from_) (firstYear P from_) with h | h
        · rw [b4 _ a1 h] at hp; cases hp
        · exact h
  obtain ⟨kA1, kA2, kA3, kA4⟩ := key A
  obtain ⟨kP1, kP2, kP3, kP4⟩ := key P
  refine ⟨?_, kA2, kP2.imp id fun ⟨a, _, c⟩ => ⟨a, c⟩⟩
  generalize firstYear A from_ = s at *
  generalize firstYear P from_ = p at *
  clear kA2 kP2 key
  rcases hv with rfl | rfl | rfl
  · have eP : P yv = true := by rw [hP]; rfl
    have eA : A yv = false := by rw [hA]; rfl
    have := kP1 eP
    have hs : yv ≠ s := fun e => by rw [kA4 e] at eA; cases eA
    rcases both with h | h
    · exact .inr (.inl ⟨rfl, by omega, by omega, by omega, h⟩)
    · exact .inr (.inr (.inl ⟨rfl, by omega, by omega, by omega, by omega, hs⟩))
  · have eA : A yv = true := by rw [hA]; rfl
    have eP := hAP _ eA
    have a := kA1 eA
    have b := kP1 eP
    exact .inl ⟨rfl, by omega, by omega, by omega, by omega, by omega⟩
  · have eP : P yv = false := by rw [hP]; rfl
    have eA : A yv = false := by rw [hA]; rfl
    have hs : yv ≠ s := fun e => by rw [kA4 e] at eA; cases eA
    have hp : yv ≠ p := fun e => by rw [kP4 e] at eP; cases eP
    rcases both with h | h
    · rcases kP3 with k | k
      · exact .inr (.inr (.inr (.inl ⟨rfl, h, k⟩)))
      · exact .inr (.inr (.inr (.inr (.inl ⟨rfl, h, k, hp⟩))))
    · exact .inr (.inr (.inr (.inr (.inr ⟨rfl, h.1, h.2, hs, hp⟩))))

/-- A question about a forest that is in order. -/
theorem ask_right (f : Forest) (K y h : Int) (hf : checkForest f = 0) (hK0 : 0 ≤ K) (hK1 : K < f.trees.length) : askErr f K y h = if inB y 0 300 && inB h 1 15000 then 0 else 1 := by
  unfold askErr
  rw [if_pos hf, if_pos ⟨hK0, hK1⟩]

theorem verdict_three (l : Law) (t : Tree) (y h : Int) : (verdictOn l t y h).1 = 0 ∨ (verdictOn l t y h).1 = 1 ∨ (verdictOn l t y h).1 = 2 := by
  unfold verdictOn verdictV
  split
  · exact .inr (.inr rfl)
  · split
    · exact .inl rfl
    · exact .inr (.inl rfl)

theorem soon_calls (f : Forest) (which from_ later : Int) (w : World) (h : TreesHeld w.heap.size w f.tv f.trees) (hw : 0 ≤ which ∧ which ≤ 255) (hl : 0 ≤ later ∧ later ≤ 65535) :
    Calls Try.prog 11 #[.agg f.cells.toArray, .int .u8 which, .int .i64 from_, .int .u16 later] w fun e w' => e = .returned (.bool true) ∧ Below w.heap.size w w' := by
  have h1 := fun W (hW : Below w.heap.size w W) => great_calls f W (h.at hW)
  have h2 := fun W (hW : Below w.heap.size w W) => refForest_calls f W (h.at hW)
  have h3 := fun W (hW : Below w.heap.size w W) => nextOf_calls f (which % (f.trees.length : Int)) from_ W (h.at hW)
  obtain ⟨yv, hyv⟩ : ∃ yv, from_ + later % (300 - from_ + 1) = yv := ⟨_, rfl⟩
  have h4 := fun W (hW : Below w.heap.size w W) => may_calls f (which % (f.trees.length : Int)) yv 1 W (h.at hW)
  have h5 := fun W (hW : Below w.heap.size w W) => nextOf_calls f (which % (f.trees.length : Int)) yv W (h.at hW)
  by_cases hgood : (checkForest f = 0 ∧ 0 < (f.trees.length : Int)) ∧ inB from_ 0 300 = true
  · obtain ⟨⟨hf, hn⟩, hin⟩ := hgood
    have hK0 : 0 ≤ (which % (f.trees.length : Int)) := Int.emod_nonneg _ (by omega)
    have hK1 : (which % (f.trees.length : Int)) < (f.trees.length : Int) := Int.emod_lt_of_pos _ hn
    have hi := inB_iff.1 hin
    have m0 : 0 ≤ later % (300 - from_ + 1) := Int.emod_nonneg _ (by omega)
    have m1 : later % (300 - from_ + 1) < 300 - from_ + 1 := Int.emod_lt_of_pos _ (by omega)
    have e0 : ∀ y, 0 ≤ y → y ≤ 300 → askErr f (which % (f.trees.length : Int)) y 1 = 0 := fun y y0 y1 => by rw [ask_right f _ _ _ hf hK0 hK1, inB_iff.2 ⟨y0, y1⟩]; rfl
    have n1 : nextOf f (which % (f.trees.length : Int)) from_ = (firstYear (fun x => (verdictOn f.law f.trees[(which % (f.trees.length : Int)).toNat]! x 1).1 == 1) from_, firstYear (fun x => (verdictOn f.law f.trees[(which % (f.trees.length : Int)).toNat]! x 1).1 != 2) from_, 0) := by unfold nextOf; rw [e0 _ hi.1 hi.2]; rfl
    have n2 : nextOf f (which % (f.trees.length : Int)) yv = (firstYear (fun x => (verdictOn f.law f.trees[(which % (f.trees.length : Int)).toNat]! x 1).1 == 1) yv, firstYear (fun x => (verdictOn f.law f.trees[(which % (f.trees.length : Int)).toNat]! x 1).1 != 2) yv, 0) := by unfold nextOf; rw [e0 _ (by omega) (by omega)]; rfl
    have n3 : mayOf f (which % (f.trees.length : Int)) yv 1 = ((verdictOn f.law f.trees[(which % (f.trees.length : Int)).toNat]! yv 1).1, (verdictOn f.law f.trees[(which % (f.trees.length : Int)).toNat]! yv 1).2, 0) := by unfold mayOf; rw [e0 _ (by omega) (by omega)]; rfl
    have F := soon_facts (fun x => (verdictOn f.law f.trees[(which % (f.trees.length : Int)).toNat]! x 1).1 == 1) (fun x => (verdictOn f.law f.trees[(which % (f.trees.length : Int)).toNat]! x 1).1 != 2) from_ yv (verdictOn f.law f.trees[(which % (f.trees.length : Int)).toNat]! yv 1).1 hi.1 (by omega) (by omega) (fun x hx => by have := beq_iff_eq.1 hx; rw [this]; rfl) (verdict_three _ _ _ _) rfl rfl
    rw [n1] at h3
    rw [n3] at h4
    rw [n2] at h5
    generalize firstYear (fun x => (verdictOn f.law f.trees[(which % (f.trees.length : Int)).toNat]! x 1).1 == 1) from_ = s at *
    generalize firstYear (fun x => (verdictOn f.law f.trees[(which % (f.trees.length : Int)).toNat]! x 1).1 != 2) from_ = p at *
    generalize firstYear (fun x => (verdictOn f.law f.trees[(which % (f.trees.length : Int)).toNat]! x 1).1 == 1) yv = a' at *
    generalize firstYear (fun x => (verdictOn f.law f.trees[(which % (f.trees.length : Int)).toNat]! x 1).1 != 2) yv = b' at *
    generalize (verdictOn f.law f.trees[(which % (f.trees.length : Int)).toNat]! yv 1).1 = v at *
    generalize (verdictOn f.law f.trees[(which % (f.trees.length : Int)).toNat]! yv 1).2 = r at *
    obtain ⟨FV, FA, FB⟩ := F
    obtain ⟨a, c, ev⟩ := h.1.len
    simp only [Forest.cells] at h1 h2 h3 h4 h5 ⊢
    rw [ev] at h1 h2 h3 h4 h5 ⊢
    rcases FV with hk | hk | hk | hk | hk | hk
    · exact soon_0 _ _ _ _ _ _ _ _ _ _ which from_ later yv w _ hw.1 hw.2 hyv _ _ _ _ _ _ _ _ _ hl.1 hl.2 (fun _ _ => ⟨hin, hi.1, hi.2, by omega, rfl, rfl, rfl, hk⟩) (fun _ _ _ => FA) (fun _ _ _ => FB) h1 h2 h3 h4 h5
    · exact soon_1 _ _ _ _ _ _ _ _ _ _ which from_ later yv w _ hw.1 hw.2 hyv _ _ _ _ _ _ _ _ _ hl.1 hl.2 (fun _ _ => ⟨hin, hi.1, hi.2, by omega, rfl, rfl, rfl, hk⟩) (fun _ _ _ => FA) (fun _ _ _ => FB) h1 h2 h3 h4 h5
    · exact soon_2 _ _ _ _ _ _ _ _ _ _ which from_ later yv w _ hw.1 hw.2 hyv _ _ _ _ _ _ _ _ _ hl.1 hl.2 (fun _ _ => ⟨hin, hi.1, hi.2, by omega, rfl, rfl, rfl, hk⟩) (fun _ _ _ => FA) (fun _ _ _ => FB) h1 h2 h3 h4 h5
    · exact soon_3 _ _ _ _ _ _ _ _ _ _ which from_ later yv w _ hw.1 hw.2 hyv _ _ _ _ _ _ _ _ _ hl.1 hl.2 (fun _ _ => ⟨hin, hi.1, hi.2, by omega, rfl, rfl, rfl, hk⟩) (fun _ _ _ => FA) (fun _ _ _ => FB) h1 h2 h3 h4 h5
    · exact soon_4 _ _ _ _ _ _ _ _ _ _ which from_ later yv w _ hw.1 hw.2 hyv _ _ _ _ _ _ _ _ _ hl.1 hl.2 (fun _ _ => ⟨hin, hi.1, hi.2, by omega, rfl, rfl, rfl, hk⟩) (fun _ _ _ => FA) (fun _ _ _ => FB) h1 h2 h3 h4 h5
    · exact soon_5 _ _ _ _ _ _ _ _ _ _ which from_ later yv w _ hw.1 hw.2 hyv _ _ _ _ _ _ _ _ _ hl.1 hl.2 (fun _ _ => ⟨hin, hi.1, hi.2, by omega, rfl, rfl, rfl, hk⟩) (fun _ _ _ => FA) (fun _ _ _ => FB) h1 h2 h3 h4 h5
  · have hc : checkForest f = 0 → 0 < (f.trees.length : Int) → inB from_ 0 300 = false ∧ (nextOf f (which % (f.trees.length : Int)) from_).2.2 = 1 ∧ (nextOf f (which % (f.trees.length : Int)) from_).1 = 0 ∧ (nextOf f (which % (f.trees.length : Int)) from_).2.1 = 0 := by
      intro hf hn
      have hK0 : 0 ≤ (which % (f.trees.length : Int)) := Int.emod_nonneg _ (by omega)
      have hK1 : (which % (f.trees.length : Int)) < (f.trees.length : Int) := Int.emod_lt_of_pos _ hn
      cases hin : inB from_ 0 300
      · have e : askErr f (which % (f.trees.length : Int)) from_ 1 = 1 := by rw [ask_right f _ _ _ hf hK0 hK1, hin]; rfl
        refine ⟨rfl, ?_⟩
        unfold nextOf
        rw [e]
        exact ⟨rfl, rfl, rfl⟩
      · exact absurd ⟨⟨hf, hn⟩, hin⟩ hgood
    obtain ⟨a, c, ev⟩ := h.1.len
    simp only [Forest.cells] at h1 h2 h3 ⊢
    rw [ev] at h1 h2 h3 ⊢
    exact soon_out _ _ _ _ _ _ _ _ _ _ which from_ later w _ hw.1 hw.2 _ _ _ hc h1 h2 h3
end Go.Proofs.Ytajbflepjpgnbaa
