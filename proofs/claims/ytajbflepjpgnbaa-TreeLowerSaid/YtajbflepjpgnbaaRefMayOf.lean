/- The document's own answers: may a tree be stripped. -/
import Derived.Test.YtajbflepjpgnbaaRefMay
import Derived.Test.YtajbflepjpgnbaaLaws
namespace Go.Proofs.Ytajbflepjpgnbaa
open Go.RowKit Go.Shelf

set_option maxRecDepth 100000 in
set_option maxHeartbeats 1000000 in
theorem refMayOf_no (f : Forest) (tree year height : Int) (w : World) (h : TreesHeld w.heap.size w f.tv f.trees) (he : ¬ askErr f tree year height = 0) :
    Calls Try.prog 21 #[.agg f.cells.toArray, .int .i64 tree, .int .i64 year, .int .i64 height] w fun e w' => e = .returned (.tuple #[.int .i64 0, .int .i64 0, .int .i64 (askErr f tree year height)]) ∧ Below w.heap.size w w' := by
  have hA := refAsked_calls f tree year height (w.alloc (.cells f.cells.toArray 27)) (h.at ((Below.refl _ _).alloc (Nat.le_refl _) _)) h.1.short
  have hne : (askErr f tree year height != 0) = true := by simpa using he
  obtain ⟨a, c, ev⟩ := h.1.len
  clear h he
  generalize askErr f tree year height = r at hA hne ⊢
  simp only [Forest.cells] at hA ⊢
  rw [ev] at hA ⊢
  clear ev
  have HA := Lib.hid hA; clear hA
  go_enter Try.func21, Try.ntmps21
  go_wp2_with (go_at_call 36; refine HA.out.mono ?_; rintro e w1 ⟨rfl, hw1⟩; have hB1 := ((Below.refl _ w).alloc (Nat.le_refl _) _).trans (hw1.mono (by simp)); clear hw1)
  go_ret3
  exact ⟨rfl, hB1⟩

set_option maxRecDepth 100000 in
set_option maxHeartbeats 2000000 in
theorem refMayOf_yes (f : Forest) (tree year height : Int) (w : World) (h : TreesHeld w.heap.size w f.tv f.trees) (he : askErr f tree year height = 0) :
    Calls Try.prog 21 #[.agg f.cells.toArray, .int .i64 tree, .int .i64 year, .int .i64 height] w fun e w' => e = .returned (.tuple #[.int .i64 (verdictOn f.law f.trees[tree.toNat]! year height).1, .int .i64 (verdictOn f.law f.trees[tree.toNat]! year height).2, .int .i64 0]) ∧ Below w.heap.size w w' := by
  have hA := refAsked_calls f tree year height (w.alloc (.cells f.cells.toArray 27)) (h.at ((Below.refl _ _).alloc (Nat.le_refl _) _)) h.1.short
  rw [he] at hA
  have hk := asked_of f tree year height w h he
  have hV : ∀ W, Below w.heap.size w W → Calls Try.prog 44 #[.agg f.law.cells.toArray, .agg f.trees[tree.toNat]!.cells.toArray, .int .i64 year, .int .i64 height] W fun e w' => e = .returned (.tuple #[.int .i64 (verdictOn f.law f.trees[tree.toNat]! year height).1, .int .i64 (verdictOn f.law f.trees[tree.toNat]! year height).2]) ∧ Below W.heap.size W w' := fun W hW =>
    refMay_calls _ _ _ _ W hk.law hk.fine ((hk.held.below hW).mono hW.size) hk.year0 hk.year1 hk.height0 hk.height1
  have hsx := hk.held.1.slice
  have hwx := hk.held.2.1.slice
  obtain ⟨k, rfl⟩ := Int.eq_ofNat_of_zero_le hk.tree0
  rw [Int.toNat_natCast] at hV hsx hwx ⊢
  have hkl : k < f.trees.length := by have := hk.tree1; omega
  have hkl' : (k : Int) < (f.trees.length : Int) := by omega
  obtain ⟨a, c, ev⟩ := h.1.len
  have h1 := h.1
  rw [ev] at h1
  obtain ⟨b, off, rfl, hb, hc⟩ := h1.place hkl
  have HC := Lib.hid (fun (W : World) (hW : Below w.heap.size w W) i u (hu : (Tree.cells f.trees[k]!)[i]? = some u) => (hW.cell (p := ⟨b, off + k * 11 + i, none⟩) hb).trans (hc k hkl i u hu))
  clear h h1 he hk hc
  generalize verdictOn f.law f.trees[k]! year height = v at hV ⊢
  generalize f.trees[k]! = x at HC hV hsx hwx
  obtain ⟨code, bmin, bmax, taped, gmin, gmax, wmin, wmax, sv, wv, dead, strips, wounds⟩ := x
  dsimp only at hsx hwx
  obtain ⟨sa, sn, sc, rfl⟩ := hsx
  obtain ⟨wa, wn, wc, rfl⟩ := hwx
  obtain ⟨⟨age, rest, girth, f0, f1, f2, heal⟩, tv, ts⟩ := f
  dsimp only at ev hkl hkl'
  subst ev
  simp only [Forest.cells] at hA ⊢
  simp only [Tree.cells, Law.cells] at hV
  generalize ts.length = n at hA hkl hkl' ⊢
  have HA := Lib.hid hA; clear hA
  have HV := Lib.hid hV; clear hV
  have HX := Lib.hid (show Below w.heap.size w (w.alloc (.cells #[.int .i64 age, .int .i64 rest, .int .i64 girth, .int .i64 f0, .int .i64 f1, .int .i64 f2, .int .i64 heal, .slice (some ⟨b, off, none⟩) n c] 27)) from (Below.refl _ _).alloc (Nat.le_refl _) _)
  have HK := Lib.hid (boxed_new w ⟨age, rest, girth, f0, f1, f2, heal⟩ (some ⟨b, off, none⟩) n c)
  go_enter Try.func21, Try.ntmps21
  go_wp2_with (go_at_call 36; refine HA.out.mono ?_; rintro e w1 ⟨rfl, hw1⟩; have hB1 := HX.out.trans (hw1.mono HX.out.size); obtain ⟨g0, g1, g2, g3, g4, g5, g6, g7⟩ := HK.out.below hw1 (by simp); dsimp only at g0 g1 g2 g3 g4 g5 g6; have c0 : w1.cell? ⟨b, off + k * 11, none⟩ = some (Value.string code) := HC.out w1 hB1 0 _ rfl; have c1 : w1.cell? ⟨b, off + k * 11 + 1, none⟩ = some (Value.int .i64 bmin) := HC.out w1 hB1 1 _ rfl; have c2 : w1.cell? ⟨b, off + k * 11 + 2, none⟩ = some (Value.int .i64 bmax) := HC.out w1 hB1 2 _ rfl; have c3 : w1.cell? ⟨b, off + k * 11 + 3, none⟩ = some (Value.int .i64 taped) := HC.out w1 hB1 3 _ rfl; have c4 : w1.cell? ⟨b, off + k * 11 + 4, none⟩ = some (Value.int .i64 gmin) := HC.out w1 hB1 4 _ rfl; have c5 : w1.cell? ⟨b, off + k * 11 + 5, none⟩ = some (Value.int .i64 gmax) := HC.out w1 hB1 5 _ rfl; have c6 : w1.cell? ⟨b, off + k * 11 + 6, none⟩ = some (Value.int .i64 wmin) := HC.out w1 hB1 6 _ rfl; have c7 : w1.cell? ⟨b, off + k * 11 + 7, none⟩ = some (Value.int .i64 wmax) := HC.out w1 hB1 7 _ rfl; have c8 : w1.cell? ⟨b, off + k * 11 + 8, none⟩ = some (Value.slice sa sn sc) := HC.out w1 hB1 8 _ rfl; have c9 : w1.cell? ⟨b, off + k * 11 + 9, none⟩ = some (Value.slice wa wn wc) := HC.out w1 hB1 9 _ rfl; have c10 : w1.cell? ⟨b, off + k * 11 + 10, none⟩ = some (Value.int .i64 dead) := HC.out w1 hB1 10 _ rfl; clear hw1)
  go_region_with (go_at_call 44; (with_reducible refine (HV.out _ ?_).mono ?_); go_must ((repeat (first | exact hB1 | refine Below.drew ?_)); rintro e w2 ⟨rfl, hw2⟩; have hB2 : Below w.heap.size w w2 := Below.trans (by repeat (first | exact hB1 | refine Below.drew ?_)) (hw2.mono hB1.size); clear hw2))
  all_goals
    go_wp2
    go_ret3
    exact ⟨rfl, by repeat (first | exact hB2 | refine Below.drew ?_ | exact below_drewN hB2 _)⟩

theorem refMayOf_calls (f : Forest) (tree year height : Int) (w : World) (h : TreesHeld w.heap.size w f.tv f.trees) :
    Calls Try.prog 21 #[.agg f.cells.toArray, .int .i64 tree, .int .i64 year, .int .i64 height] w fun e w' => e = .returned (.tuple #[.int .i64 (mayOf f tree year height).1, .int .i64 (mayOf f tree year height).2.1, .int .i64 (mayOf f tree year height).2.2]) ∧ Below w.heap.size w w' := by
  unfold mayOf
  by_cases he : askErr f tree year height = 0
  · rw [if_pos he]; exact refMayOf_yes f tree year height w h he
  · rw [if_neg he]; exact refMayOf_no f tree year height w h he
end Go.Proofs.Ytajbflepjpgnbaa
