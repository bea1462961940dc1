/- The document's own answers: the first years in which a tree may be stripped. -/
import Derived.Test.YtajbflepjpgnbaaGreatBoxed
import Derived.Test.YtajbflepjpgnbaaGreatNextOf
import Derived.StillTailTactics
namespace Go.Proofs.YtajbflepjpgnbaaGreat
open Go.RowKit Go.Shelf

theorem findYear_is (p : Int → Bool) (lo : Int) (h0 : 0 ≤ lo) : ∀ n : Nat, lo + n ≤ 301 → (findYear p lo n = none ∧ ∀ x, lo ≤ x → x < lo + n → p x = false) ∨ (∃ x, findYear p lo n = some x ∧ lo ≤ x ∧ x < lo + n ∧ p x = true ∧ ∀ z, lo ≤ z → z < x → p z = false)
  | 0, _ => .inl ⟨rfl, fun x h1 h2 => by omega⟩
  | n + 1, hn => by
    have hv := yearAt_val (lo := lo) (k := n) h0 (by omega)
    have e : findYear p lo (n + 1) = (findYear p lo n).or (if p (lo + n) then some (lo + n) else none) := by
      unfold findYear
      rw [upto_succ, List.find?_append, List.find?_cons, List.find?_nil, hv]
      cases hq : p (lo + n) <;> cases (List.find? (fun x : Year => p x.val) (upto (yearAt lo) n)) <;> simp [hv]
    rcases findYear_is p lo h0 n (by omega) with ⟨h1, h2⟩ | ⟨x, h1, h2, h3, h4, h5⟩
    · rw [h1] at e
      cases hp : p (lo + n)
      · rw [hp] at e
        refine .inl ⟨e, fun x hx1 hx2 => ?_⟩
        by_cases hx : x = lo + n
        · rw [hx]; exact hp
        · exact h2 x hx1 (by omega)
      · rw [hp] at e
        exact .inr ⟨lo + n, e, by omega, by omega, hp, fun z hz1 hz2 => h2 z hz1 hz2⟩
    · rw [h1] at e
      exact .inr ⟨x, e, h2, by omega, h4, h5⟩

theorem firstYear_is (p : Int → Bool) (y : Int) (h0 : 0 ≤ y) (h1 : y ≤ 300) : (firstYear p y = -1 ∧ ∀ x, y ≤ x → x ≤ 300 → p x = false) ∨ (y ≤ firstYear p y ∧ firstYear p y ≤ 300 ∧ p (firstYear p y) = true ∧ ∀ z, y ≤ z → z < firstYear p y → p z = false) := by
  unfold firstYear
  rcases findYear_is p y h0 (300 - y + 1).toNat (by omega) with ⟨h1, h2⟩ | ⟨x, h1, h2, h3, h4, h5⟩
  · rw [h1]; exact .inl ⟨rfl, fun x hx1 hx2 => h2 x hx1 (by omega)⟩
  · rw [h1]; exact .inr ⟨h2, by dsimp only; omega, h4, h5⟩

theorem verdict_three (l : Law) (t : Tree) (y h : Int) : (verdictOn l t y h).1 = 0 ∨ (verdictOn l t y h).1 = 1 ∨ (verdictOn l t y h).1 = 2 := by
  unfold verdictOn verdictV
  split
  · exact .inr (.inr rfl)
  · split
    · exact .inl rfl
    · exact .inr (.inl rfl)

set_option maxRecDepth 100000 in
set_option maxHeartbeats 1000000 in
theorem refNext_no (f : Forest) (tree year : Int) (w : World) (h : TreesHeld w.heap.size w f.tv f.trees) (he : ¬ askErr f tree year 1 = 0) :
    Calls Tryz.prog 7 #[.agg f.cells.toArray, .int .i64 tree, .int .i64 year] w fun e w' => e = .returned (.tuple #[.int .i64 0, .int .i64 0, .int .i64 (askErr f tree year 1)]) ∧ Below w.heap.size w w' := by
  have hA := refAsked_calls f tree year 1 (w.alloc (.cells f.cells.toArray 27)) (h.at ((Below.refl _ _).alloc (Nat.le_refl _) _)) h.1.short
  have hne : (askErr f tree year 1 != 0) = true := by simpa using he
  obtain ⟨a, c, ev⟩ := h.1.len
  clear h he
  generalize askErr f tree year 1 = r at hA hne ⊢
  simp only [Forest.cells] at hA ⊢
  rw [ev] at hA ⊢
  clear ev
  have HA := Lib.hid hA; clear hA
  go_enter Tryz.func7, Tryz.ntmps7
  go_wp2_with (go_at_call 18; refine HA.out.mono ?_; rintro e w1 ⟨rfl, hw1⟩; have hB1 := ((Below.refl _ w).alloc (Nat.le_refl _) _).trans (hw1.mono (by simp)); clear hw1)
  go_ret3
  exact ⟨rfl, hB1⟩

/-- What has been found of the first good year when those before y have been asked about. -/
def FirstTo (p : Int → Bool) (lo y s : Int) : Prop := (s = -1 ∧ ∀ x, lo ≤ x → x < y → p x = false) ∨ (lo ≤ s ∧ s < y ∧ p s = true ∧ ∀ z, lo ≤ z → z < s → p z = false)
theorem FirstTo.start (p : Int → Bool) (lo : Int) : FirstTo p lo lo (-1) := .inl ⟨rfl, fun x h1 h2 => by omega⟩
theorem FirstTo.miss {p : Int → Bool} {lo y s : Int} (h : FirstTo p lo y s) (hp : p y = false) : FirstTo p lo (y + 1) s := by
  rcases h with ⟨h1, h2⟩ | ⟨h1, h2, h3, h4⟩
  · refine .inl ⟨h1, fun x hx1 hx2 => ?_⟩
    by_cases hx : x = y
    · rw [hx]; exact hp
    · exact h2 x hx1 (by omega)
  · exact .inr ⟨h1, by omega, h3, h4⟩
theorem FirstTo.keep {p : Int → Bool} {lo y s : Int} (h : FirstTo p lo y s) (hs : 0 ≤ s) : FirstTo p lo (y + 1) s := by
  rcases h with ⟨h1, h2⟩ | ⟨h1, h2, h3, h4⟩
  · omega
  · exact .inr ⟨h1, by omega, h3, h4⟩
theorem FirstTo.hit {p : Int → Bool} {lo y s : Int} (h : FirstTo p lo y s) (hlo : 0 ≤ lo) (hy : lo ≤ y) (hs : s < 0) (hp : p y = true) : FirstTo p lo (y + 1) y := by
  rcases h with ⟨h1, h2⟩ | ⟨h1, h2, h3, h4⟩
  · exact .inr ⟨hy, by omega, hp, h2⟩
  · omega
theorem FirstTo.range {p : Int → Bool} {lo y s : Int} (h : FirstTo p lo y s) (hlo : 0 ≤ lo) : s = -1 ∨ 0 ≤ s := by
  rcases h with ⟨h1, h2⟩ | ⟨h1, h2, h3, h4⟩
  · exact .inl h1
  · exact .inr (by omega)
theorem FirstTo.done {p : Int → Bool} {lo s : Int} (h : FirstTo p lo 301 s) (h0 : 0 ≤ lo) (h1 : lo ≤ 300) : s = firstYear p lo := by
  rcases firstYear_is p lo h0 h1 with ⟨a1, a2⟩ | ⟨a1, a2, a3, a4⟩
  · rcases h with ⟨b1, b2⟩ | ⟨b1, b2, b3, b4⟩
    · rw [b1, a1]
    · rw [a2 s b1 (by omega)] at b3; cases b3
  · rcases h with ⟨b1, b2⟩ | ⟨b1, b2, b3, b4⟩
    · rw [b2 _ a1 (by omega)] at a3; cases a3
    · by_cases hx : s < firstYear p lo
      · rw [a4 s b1 hx] at b3; cases b3
      · by_cases hy : firstYear p lo < s
        · rw [b4 _ a1 hy] at a3; cases a3
        · omega

set_option maxRecDepth 100000 in
set_option maxHeartbeats 4000000 in
theorem refNext_yes (f : Forest) (tree year : Int) (w : World) (h : TreesHeld w.heap.size w f.tv f.trees) (he : askErr f tree year 1 = 0) :
    Calls Tryz.prog 7 #[.agg f.cells.toArray, .int .i64 tree, .int .i64 year] w fun e w' => e = .returned (.tuple #[.int .i64 (firstYear (fun x => (verdictOn f.law f.trees[tree.toNat]! x 1).1 == 1) year), .int .i64 (firstYear (fun x => (verdictOn f.law f.trees[tree.toNat]! x 1).1 != 2) year), .int .i64 0]) ∧ Below w.heap.size w w' := by
  have hA := refAsked_calls f tree year 1 (w.alloc (.cells f.cells.toArray 27)) (h.at ((Below.refl _ _).alloc (Nat.le_refl _) _)) h.1.short
  rw [he] at hA
  have hk := asked_of f tree year 1 w h he
  have hV : ∀ x W, 0 ≤ x → x ≤ 300 → Below w.heap.size w W → Calls Tryz.prog 19 #[.agg f.law.cells.toArray, .agg f.trees[tree.toNat]!.cells.toArray, .int .i64 x, .int .i64 1] W fun e w' => e = .returned (.tuple #[.int .i64 (verdictOn f.law f.trees[tree.toNat]! x 1).1, .int .i64 (verdictOn f.law f.trees[tree.toNat]! x 1).2]) ∧ Below W.heap.size W w' := fun x W hx0 hx1 hW =>
    refMay_calls _ _ _ _ W hk.law hk.fine ((hk.held.below hW).mono hW.size) hx0 hx1 (by omega) (by omega)
  have hy0 := hk.year0
  have hy1 := hk.year1
  have hsx := hk.held.1.slice
  have hwx := hk.held.2.1.slice
  obtain ⟨k, rfl⟩ := Int.eq_ofNat_of_zero_le hk.tree0
  rw [Int.toNat_natCast] at hV hsx hwx ⊢
  have hkl : k < f.trees.length := by have := hk.tree1; omega
  have hkl' : (k : Int) < (f.trees.length : Int) := by omega
  obtain ⟨a, c, ev⟩ := h.1.len
  have h1 := h.1
  rw [ev] at h1
  obtain ⟨b, off, rfl, hb, hc⟩ := h1.place hkl
  have HC := Lib.hid (fun (W : World) (hW : Below w.heap.size w W) i u (hu : (Tree.cells f.trees[k]!)[i]? = some u) => (hW.cell (p := ⟨b, off + k * 11 + i, none⟩) hb).trans (hc k hkl i u hu))
  clear h h1 he hk hc
  have hrng := fun x => verdict_three f.law f.trees[k]! x 1
  obtain ⟨V, hVd⟩ : ∃ V : Int → Int × Int, (fun x => verdictOn f.law f.trees[k]! x 1) = V := ⟨_, rfl⟩
  have hVx : ∀ x, verdictOn f.law f.trees[k]! x 1 = V x := fun x => congrFun hVd x
  simp only [hVx] at hV hrng ⊢
  clear hVx hVd
  generalize f.trees[k]! = x at HC hV hsx hwx
  obtain ⟨code, bmin, bmax, taped, gmin, gmax, wmin, wmax, sv, wv, dead, strips, wounds⟩ := x
  dsimp only at hsx hwx
  obtain ⟨sa, sn, sc, rfl⟩ := hsx
  obtain ⟨wa, wn, wc, rfl⟩ := hwx
  obtain ⟨⟨age, rest, girth, f0, f1, f2, heal⟩, tv, ts⟩ := f
  dsimp only at ev hkl hkl'
  subst ev
  simp only [Forest.cells] at hA ⊢
  simp only [Tree.cells, Law.cells] at hV
  generalize ts.length = n at hA hkl hkl' ⊢
  obtain ⟨S, hS⟩ : ∃ S, firstYear (fun x => (V x).1 == 1) year = S := ⟨_, rfl⟩
  obtain ⟨P, hP⟩ : ∃ P, firstYear (fun x => (V x).1 != 2) year = P := ⟨_, rfl⟩
  rw [hS, hP]
  have HS := Lib.hid hS; clear hS
  have HP := Lib.hid hP; clear hP
  have HA := Lib.hid hA; clear hA
  have HV := Lib.hid hV; clear hV
  have HR := Lib.hid hrng; clear hrng
  have HX := Lib.hid (show Below w.heap.size w (w.alloc (.cells #[.int .i64 age, .int .i64 rest, .int .i64 girth, .int .i64 f0, .int .i64 f1, .int .i64 f2, .int .i64 heal, .slice (some ⟨b, off, none⟩) n c] 27)) from (Below.refl _ _).alloc (Nat.le_refl _) _)
  have HK := Lib.hid (boxed_new w ⟨age, rest, girth, f0, f1, f2, heal⟩ (some ⟨b, off, none⟩) n c)
  go_enter Tryz.func7, Tryz.ntmps7
  go_wp2_with (go_at_call 18; refine HA.out.mono ?_; rintro e w1 ⟨rfl, hw1⟩; have hB1 := HX.out.trans (hw1.mono HX.out.size); have X1 := Lib.hid (HK.out.below hw1 (by simp)); have hz1 : w.heap.size < w1.heap.size := (by (have := hw1.size; simp at this; omega)); clear hw1)
  go_loopw [10, 11, 12] (fun i j u wr => ∃ y s p : Int, year ≤ y ∧ y ≤ 301 ∧ u = .int .i64 y ∧ i = .int .i64 s ∧ j = .int .i64 p ∧ Below w.heap.size w wr ∧ Hid (Boxed wr w.heap.size ⟨age, rest, girth, f0, f1, f2, heal⟩ (some ⟨b, off, none⟩) n c) ∧ Hid (FirstTo (fun x => (V x).1 == 1) year y s) ∧ Hid (FirstTo (fun x => (V x).1 != 2) year y p)) (fun _ _ u _ => (301 - intOf u).toNat)
  case atStart => exact ⟨year, -1, -1, by omega, by omega, rfl, rfl, rfl, hB1, X1, Lib.hid (FirstTo.start _ _), Lib.hid (FirstTo.start _ _)⟩
  case round =>
    clear X1 hB1
    obtain ⟨y, s, p, hy2, hy3, rfl, rfl, rfl, hB, X, HF, HG⟩ := hrel
    by_cases hlt : y ≤ 300
    · obtain ⟨g0, g1, g2, g3, g4, g5, g6, g7⟩ := X.out
      dsimp only at g0 g1 g2 g3 g4 g5 g6
      have c0 : wr.cell? ⟨b, off + k * 11, none⟩ = some (Value.string code) := HC.out wr hB 0 _ rfl
      have c1 : wr.cell? ⟨b, off + k * 11 + 1, none⟩ = some (Value.int .i64 bmin) := HC.out wr hB 1 _ rfl
      have c2 : wr.cell? ⟨b, off + k * 11 + 2, none⟩ = some (Value.int .i64 bmax) := HC.out wr hB 2 _ rfl
      have c3 : wr.cell? ⟨b, off + k * 11 + 3, none⟩ = some (Value.int .i64 taped) := HC.out wr hB 3 _ rfl
      have c4 : wr.cell? ⟨b, off + k * 11 + 4, none⟩ = some (Value.int .i64 gmin) := HC.out wr hB 4 _ rfl
      have c5 : wr.cell? ⟨b, off + k * 11 + 5, none⟩ = some (Value.int .i64 gmax) := HC.out wr hB 5 _ rfl
      have c6 : wr.cell? ⟨b, off + k * 11 + 6, none⟩ = some (Value.int .i64 wmin) := HC.out wr hB 6 _ rfl
      have c7 : wr.cell? ⟨b, off + k * 11 + 7, none⟩ = some (Value.int .i64 wmax) := HC.out wr hB 7 _ rfl
      have c8 : wr.cell? ⟨b, off + k * 11 + 8, none⟩ = some (Value.slice sa sn sc) := HC.out wr hB 8 _ rfl
      have c9 : wr.cell? ⟨b, off + k * 11 + 9, none⟩ = some (Value.slice wa wn wc) := HC.out wr hB 9 _ rfl
      have c10 : wr.cell? ⟨b, off + k * 11 + 10, none⟩ = some (Value.int .i64 dead) := HC.out wr hB 10 _ rfl
      have hwz := hB.size
      have hzq : w.heap.size < wr.heap.size := lt_of_boxed X.out
      have HVC := Lib.hid (fun W hW => HV.out y W (by omega) hlt hW)
      have HY := Lib.hid (HR.out y)
      have hyA : (fun x => (V x).1 == 1) y = ((V y).1 == 1) := rfl
      have hyP : (fun x => (V x).1 != 2) y = ((V y).1 != 2) := rfl
      have HYA := Lib.hid hyA; clear hyA
      have HYP := Lib.hid hyP; clear hyP
      generalize V y = vv at HVC HY HYA HYP
      obtain ⟨v, r⟩ := vv
      dsimp only at HVC HY HYA HYP
      go_wp2_with fail
      go_region_with (go_at_call 19; (with_reducible refine (HVC.out _ ?_).mono ?_); go_must ((repeat (first | exact hB | refine Below.drew ?_)); rintro e w5 ⟨rfl, hw5⟩; have hB5 : Below w.heap.size w w5 := Below.trans (by repeat (first | exact hB | refine Below.drew ?_)) (hw5.mono hB.size); have X5 := Lib.hid (X.out.below (B := wr.heap.size) (Below.trans (by repeat (first | exact Below.refl _ _ | refine Below.drew ?_)) hw5) hzq); clear hw5))
      all_goals
        rcases HY.out with rfl | rfl | rfl
        · by_cases hp : p < 0
          · have dp : decide (p < 0) = true := decide_eq_true hp
            have HF5 := Lib.hid (show FirstTo (fun x => (V x).1 == 1) year (y + 1) s from HF.out.miss HYA.out)
            have HG5 := Lib.hid (show FirstTo (fun x => (V x).1 != 2) year (y + 1) y from HG.out.hit hy0 hy2 hp HYP.out)
            clear HF HG
            go_wp2
            exact ⟨⟨y + 1, s, y, by omega, by omega, by go_num, rfl, rfl, hB5, X5, HF5, HG5⟩, by simp [intOf]; omega⟩
          · have dp : decide (p < 0) = false := decide_eq_false hp
            have HF5 := Lib.hid (show FirstTo (fun x => (V x).1 == 1) year (y + 1) s from HF.out.miss HYA.out)
            have HG5 := Lib.hid (show FirstTo (fun x => (V x).1 != 2) year (y + 1) p from HG.out.keep (by omega))
            clear HF HG
            go_wp2
            exact ⟨⟨y + 1, s, p, by omega, by omega, by go_num, rfl, rfl, hB5, X5, HF5, HG5⟩, by simp [intOf]; omega⟩
        · by_cases hp : p < 0
          · have dp : decide (p < 0) = true := decide_eq_true hp
            by_cases hs : s < 0
            · have ds : decide (s < 0) = true := decide_eq_true hs
              have HF5 := Lib.hid (show FirstTo (fun x => (V x).1 == 1) year (y + 1) y from HF.out.hit hy0 hy2 hs HYA.out)
              have HG5 := Lib.hid (show FirstTo (fun x => (V x).1 != 2) year (y + 1) y from HG.out.hit hy0 hy2 hp HYP.out)
              clear HF HG
              go_wp2
              exact ⟨⟨y + 1, y, y, by omega, by omega, by go_num, rfl, rfl, hB5, X5, HF5, HG5⟩, by simp [intOf]; omega⟩
            · have ds : decide (s < 0) = false := decide_eq_false hs
              have HF5 := Lib.hid (show FirstTo (fun x => (V x).1 == 1) year (y + 1) s from HF.out.keep (by omega))
              have HG5 := Lib.hid (show FirstTo (fun x => (V x).1 != 2) year (y + 1) y from HG.out.hit hy0 hy2 hp HYP.out)
              clear HF HG
              go_wp2
              exact ⟨⟨y + 1, s, y, by omega, by omega, by go_num, rfl, rfl, hB5, X5, HF5, HG5⟩, by simp [intOf]; omega⟩
          · have dp : decide (p < 0) = false := decide_eq_false hp
            by_cases hs : s < 0
            · have ds : decide (s < 0) = true := decide_eq_true hs
              have HF5 := Lib.hid (show FirstTo (fun x => (V x).1 == 1) year (y + 1) y from HF.out.hit hy0 hy2 hs HYA.out)
              have HG5 := Lib.hid (show FirstTo (fun x => (V x).1 != 2) year (y + 1) p from HG.out.keep (by omega))
              clear HF HG
              go_wp2
              exact ⟨⟨y + 1, y, p, by omega, by omega, by go_num, rfl, rfl, hB5, X5, HF5, HG5⟩, by simp [intOf]; omega⟩
            · have ds : decide (s < 0) = false := decide_eq_false hs
              have HF5 := Lib.hid (show FirstTo (fun x => (V x).1 == 1) year (y + 1) s from HF.out.keep (by omega))
              have HG5 := Lib.hid (show FirstTo (fun x => (V x).1 != 2) year (y + 1) p from HG.out.keep (by omega))
              clear HF HG
              go_wp2
              exact ⟨⟨y + 1, s, p, by omega, by omega, by go_num, rfl, rfl, hB5, X5, HF5, HG5⟩, by simp [intOf]; omega⟩
        · have HF5 := Lib.hid (show FirstTo (fun x => (V x).1 == 1) year (y + 1) s from HF.out.miss HYA.out)
          have HG5 := Lib.hid (show FirstTo (fun x => (V x).1 != 2) year (y + 1) p from HG.out.miss HYP.out)
          clear HF HG
          go_wp2
          exact ⟨⟨y + 1, s, p, by omega, by omega, by go_num, rfl, rfl, hB5, X5, HF5, HG5⟩, by simp [intOf]; omega⟩
    · obtain rfl : y = 301 := by omega
      have HS2 := Lib.hid ((HF.out.done hy0 hy1).trans HS.out)
      have HP2 := Lib.hid ((HG.out.done hy0 hy1).trans HP.out)
      go_wp2
      go_ret3
      exact ⟨by rw [← HS2.out, ← HP2.out]; rfl, hB⟩

theorem refNext_calls (f : Forest) (tree year : Int) (w : World) (h : TreesHeld w.heap.size w f.tv f.trees) :
    Calls Tryz.prog 7 #[.agg f.cells.toArray, .int .i64 tree, .int .i64 year] w fun e w' => e = .returned (.tuple #[.int .i64 (nextOf f tree year).1, .int .i64 (nextOf f tree year).2.1, .int .i64 (nextOf f tree year).2.2]) ∧ Below w.heap.size w w' := by
  unfold nextOf
  by_cases he : askErr f tree year 1 = 0
  · rw [if_pos he]; exact refNext_yes f tree year w h he
  · rw [if_neg he]; exact refNext_no f tree year w h he
end Go.Proofs.YtajbflepjpgnbaaGreat
