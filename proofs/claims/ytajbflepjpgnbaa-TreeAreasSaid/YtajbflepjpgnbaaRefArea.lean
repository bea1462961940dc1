/- The document's own answers: the area of the bark that is taken. -/
import Derived.Test.YtajbflepjpgnbaaRefMayOf
import Derived.Test.YtajbflepjpgnbaaAreaOf
namespace Go.Proofs.Ytajbflepjpgnbaa
open Go.RowKit Go.Shelf

set_option maxRecDepth 100000 in
set_option maxHeartbeats 1000000 in
theorem refAreaOf_no (f : Forest) (tree year height : Int) (w : World) (h : TreesHeld w.heap.size w f.tv f.trees) (he : ¬ askErr f tree year height = 0) :
    Calls Try.prog 25 #[.agg f.cells.toArray, .int .i64 tree, .int .i64 year, .int .i64 height] w fun e w' => e = .returned (.tuple #[.agg #[.int .i64 0, .int .i64 0], .int .i64 (askErr f tree year height)]) ∧ Below w.heap.size w w' := by
  have hA := refAsked_calls f tree year height ((w.alloc (.cells f.cells.toArray 27)).alloc (.cells #[.int .i64 0, .int .i64 0] 31)) ((h.below (two_below w _ _ _ _)).mono (two_below w _ _ _ _).size) h.1.short
  have hne : (askErr f tree year height != 0) = true := by simpa using he
  obtain ⟨a, c, ev⟩ := h.1.len
  clear h he
  generalize askErr f tree year height = r at hA hne ⊢
  simp only [Forest.cells] at hA ⊢
  rw [ev] at hA ⊢
  clear ev
  have HA := Lib.hid hA; clear hA
  have HX := Lib.hid (two_below w #[.int .i64 f.law.age, .int .i64 f.law.rest, .int .i64 f.law.girth, .int .i64 f.law.f0, .int .i64 f.law.f1, .int .i64 f.law.f2, .int .i64 f.law.heal, .slice a f.trees.length c] #[.int .i64 0, .int .i64 0] 27 31)
  have HK := Lib.hid (two_new w #[.int .i64 f.law.age, .int .i64 f.law.rest, .int .i64 f.law.girth, .int .i64 f.law.f0, .int .i64 f.law.f1, .int .i64 f.law.f2, .int .i64 f.law.heal, .slice a f.trees.length c] #[.int .i64 0, .int .i64 0] 27 31)
  go_enter Try.func25, Try.ntmps25
  go_wp2_with (go_at_call 36; refine HA.out.mono ?_; rintro e w1 ⟨rfl, hw1⟩; have hB1 := HX.out.trans (hw1.mono HX.out.size); have k1 := Blk.below HK.out hw1 HK.out.lt; have e2 : w1.cell? ⟨w.heap.size + 1, 0, none⟩ = some (.int .i64 0) := k1.cell 0; have e3 : w1.cell? ⟨w.heap.size + 1, 1, none⟩ = some (.int .i64 0) := k1.cell 1; have z2 : w1.frozen? ⟨w.heap.size + 1, 0, none⟩ = false := k1.frozen 0; have z3 : w1.frozen? ⟨w.heap.size + 1, 1, none⟩ = false := k1.frozen 1; clear hw1)
  have k4 : Blk _ (w.heap.size + 1) 31 #[.int .i64 0, .int .i64 0] := (k1.set_ 0 (.int .i64 0)).set_ 1 (.int .i64 0)
  exact bodyPost_ret (results_cell_one rfl _ _ (w.heap.size + 1) 31 #[.int .i64 0, .int .i64 0] (0, 0) _ rfl k4 Try.underlying31 rfl bounds_size) rfl ⟨rfl, (hB1.setCell (by dsimp only; omega) _).setCell (by dsimp only; omega) _⟩

set_option maxRecDepth 100000 in
set_option maxHeartbeats 4000000 in
theorem refAreaOf_yes (f : Forest) (tree year height : Int) (w : World) (h : TreesHeld w.heap.size w f.tv f.trees) (he : askErr f tree year height = 0) (bb : Bool) (hbb : ((verdictOn f.law f.trees[tree.toNat]! year height).1 == 2) = bb) :
    Calls Try.prog 25 #[.agg f.cells.toArray, .int .i64 tree, .int .i64 year, .int .i64 height] w fun e w' => e = .returned (.tuple #[.agg #[.int .i64 (if bb then 0 else girthMin f.trees[tree.toNat]! year * height / 100), .int .i64 (if bb then 0 else (girthMax f.trees[tree.toNat]! year * height + 99) / 100)], .int .i64 (if bb then 9 else 0)]) ∧ Below w.heap.size w w' := by
  have hA := refAsked_calls f tree year height ((w.alloc (.cells f.cells.toArray 27)).alloc (.cells #[.int .i64 0, .int .i64 0] 31)) ((h.below (two_below w _ _ _ _)).mono (two_below w _ _ _ _).size) h.1.short
  rw [he] at hA
  have hk := asked_of f tree year height w h he
  have hV : ∀ W, Below w.heap.size w W → Calls Try.prog 44 #[.agg f.law.cells.toArray, .agg f.trees[tree.toNat]!.cells.toArray, .int .i64 year, .int .i64 height] W fun e w' => e = .returned (.tuple #[.int .i64 (verdictOn f.law f.trees[tree.toNat]! year height).1, .int .i64 (verdictOn f.law f.trees[tree.toNat]! year height).2]) ∧ Below W.heap.size W w' := fun W hW =>
    refMay_calls _ _ _ _ W hk.law hk.fine ((hk.held.below hW).mono hW.size) hk.year0 hk.year1 hk.height0 hk.height1
  have hG : ∀ W, Calls Try.prog 37 #[.agg f.trees[tree.toNat]!.cells.toArray, .int .i64 year] W fun e w' => e = .returned (.agg #[.int .i64 (girthMin f.trees[tree.toNat]! year), .int .i64 (girthMax f.trees[tree.toNat]! year)]) ∧ Below W.heap.size W w' := fun W =>
    refGirth_says _ _ w.heap.size w hk.fine hk.held hk.year0 hk.year1 W
  obtain ⟨gb0, gb1, gb2⟩ := girth_bounds f.trees[tree.toNat]! year hk.fine hk.year0 hk.year1
  have hh0 := hk.height0
  have hh1 := hk.height1
  have p := mul_bounds (a := girthMin f.trees[tree.toNat]! year) (b := height) (A := 21000) (B := 15000) gb0 (by omega) (by omega) (by omega)
  have q := mul_bounds (a := girthMax f.trees[tree.toNat]! year) (b := height) (A := 21000) (B := 15000) (by omega) gb2 (by omega) (by omega)
  have hsx := hk.held.1.slice
  have hwx := hk.held.2.1.slice
  obtain ⟨k, rfl⟩ := Int.eq_ofNat_of_zero_le hk.tree0
  rw [Int.toNat_natCast] at hV hG hsx hwx hbb p q gb0 gb1 gb2 ⊢
  have hkl : k < f.trees.length := by have := hk.tree1; omega
  have hkl' : (k : Int) < (f.trees.length : Int) := by omega
  obtain ⟨a, c, ev⟩ := h.1.len
  have h1 := h.1
  rw [ev] at h1
  obtain ⟨b, off, rfl, hb, hc⟩ := h1.place hkl
  have HC := Lib.hid (fun (W : World) (hW : Below w.heap.size w W) i u (hu : (Tree.cells f.trees[k]!)[i]? = some u) => (hW.cell (p := ⟨b, off + k * 11 + i, none⟩) hb).trans (hc k hkl i u hu))
  clear h h1 he hk hc
  generalize verdictOn f.law f.trees[k]! year height = v at hV hbb ⊢
  generalize girthMin f.trees[k]! year = lo at hG p gb0 gb1 ⊢
  generalize girthMax f.trees[k]! year = hi at hG q gb1 gb2 ⊢
  generalize f.trees[k]! = x at HC hV hG hsx hwx
  have p1 : 0 ≤ lo * height := p.1
  have p2 : lo * height ≤ 400000000 := Int.le_trans p.2 (by decide)
  have q1 : 0 ≤ hi * height := q.1
  have q2 : hi * height ≤ 400000000 := Int.le_trans q.2 (by decide)
  clear p q
  obtain ⟨v1, v2⟩ := v
  dsimp only at hV hbb
  obtain ⟨code, bmin, bmax, taped, gmin, gmax, wmin, wmax, sv, wv, dead, strips, wounds⟩ := x
  dsimp only at hsx hwx
  obtain ⟨sa, sn, sc, rfl⟩ := hsx
  obtain ⟨wa, wn, wc, rfl⟩ := hwx
  obtain ⟨⟨age, rest, girth, f0, f1, f2, heal⟩, tv, ts⟩ := f
  dsimp only at ev hkl hkl'
  subst ev
  simp only [Forest.cells] at hA ⊢
  simp only [Tree.cells, Law.cells] at hV hG
  generalize ts.length = n at hA hkl hkl' ⊢
  have HA := Lib.hid hA; clear hA
  have HV := Lib.hid hV; clear hV
  have HG := Lib.hid hG; clear hG
  have HX := Lib.hid (two_below w #[.int .i64 age, .int .i64 rest, .int .i64 girth, .int .i64 f0, .int .i64 f1, .int .i64 f2, .int .i64 heal, .slice (some ⟨b, off, none⟩) n c] #[.int .i64 0, .int .i64 0] 27 31)
  have HK := Lib.hid (two_new w #[.int .i64 age, .int .i64 rest, .int .i64 girth, .int .i64 f0, .int .i64 f1, .int .i64 f2, .int .i64 heal, .slice (some ⟨b, off, none⟩) n c] #[.int .i64 0, .int .i64 0] 27 31)
  have HE := Lib.hid ((boxed_new w ⟨age, rest, girth, f0, f1, f2, heal⟩ (some ⟨b, off, none⟩) n c).below (B := w.heap.size + 1) ((Below.refl _ _).alloc (by simp) (.cells #[.int .i64 0, .int .i64 0] 31)) (by omega))
  have hz : w.heap.size < ((w.alloc (.cells #[.int .i64 age, .int .i64 rest, .int .i64 girth, .int .i64 f0, .int .i64 f1, .int .i64 f2, .int .i64 heal, .slice (some ⟨b, off, none⟩) n c] 27)).alloc (.cells #[.int .i64 0, .int .i64 0] 31)).heap.size := by simp; omega
  cases bb
  · go_enter Try.func25, Try.ntmps25
    go_wp2_with (go_at_call 36; refine HA.out.mono ?_; rintro e w1 ⟨rfl, hw1⟩; have hB1 := HX.out.trans (hw1.mono HX.out.size); have k1 := Blk.below HK.out hw1 HK.out.lt; have E1 := HE.out.below hw1 hz; obtain ⟨g0, g1, g2, g3, g4, g5, g6, g7⟩ := E1; dsimp only at g0 g1 g2 g3 g4 g5 g6; have c0 : w1.cell? ⟨b, off + k * 11, none⟩ = some (Value.string code) := HC.out w1 hB1 0 _ rfl; have c1 : w1.cell? ⟨b, off + k * 11 + 1, none⟩ = some (Value.int .i64 bmin) := HC.out w1 hB1 1 _ rfl; have c2 : w1.cell? ⟨b, off + k * 11 + 2, none⟩ = some (Value.int .i64 bmax) := HC.out w1 hB1 2 _ rfl; have c3 : w1.cell? ⟨b, off + k * 11 + 3, none⟩ = some (Value.int .i64 taped) := HC.out w1 hB1 3 _ rfl; have c4 : w1.cell? ⟨b, off + k * 11 + 4, none⟩ = some (Value.int .i64 gmin) := HC.out w1 hB1 4 _ rfl; have c5 : w1.cell? ⟨b, off + k * 11 + 5, none⟩ = some (Value.int .i64 gmax) := HC.out w1 hB1 5 _ rfl; have c6 : w1.cell? ⟨b, off + k * 11 + 6, none⟩ = some (Value.int .i64 wmin) := HC.out w1 hB1 6 _ rfl; have c7 : w1.cell? ⟨b, off + k * 11 + 7, none⟩ = some (Value.int .i64 wmax) := HC.out w1 hB1 7 _ rfl; have c8 : w1.cell? ⟨b, off + k * 11 + 8, none⟩ = some (Value.slice sa sn sc) := HC.out w1 hB1 8 _ rfl; have c9 : w1.cell? ⟨b, off + k * 11 + 9, none⟩ = some (Value.slice wa wn wc) := HC.out w1 hB1 9 _ rfl; have c10 : w1.cell? ⟨b, off + k * 11 + 10, none⟩ = some (Value.int .i64 dead) := HC.out w1 hB1 10 _ rfl; clear hw1)
    clear hz
    go_region_with (go_at_call 44; (with_reducible refine (HV.out _ ?_).mono ?_); go_must ((repeat (first | exact hB1 | refine Below.drew ?_)); rintro e w2 ⟨rfl, hw2⟩; have hT2 : Below w1.heap.size w1 w2 := Below.trans (by repeat (first | exact Below.refl _ _ | refine Below.drew ?_)) hw2; have hB2 := hB1.trans (hT2.mono hB1.size); have k2 := Blk.below k1 hT2 k1.lt; have e2 : w2.cell? ⟨w.heap.size + 1, 0, none⟩ = some (.int .i64 0) := k2.cell 0; have e3 : w2.cell? ⟨w.heap.size + 1, 1, none⟩ = some (.int .i64 0) := k2.cell 1; have z2 : w2.frozen? ⟨w.heap.size + 1, 0, none⟩ = false := k2.frozen 0; have z3 : w2.frozen? ⟨w.heap.size + 1, 1, none⟩ = false := k2.frozen 1; have i7 : w2.cell? ⟨w.heap.size, 7, none⟩ = some (.slice (some ⟨b, off, none⟩) n c) := (hT2.cell (p := ⟨w.heap.size, 7, none⟩) (by have := k1.lt; show w.heap.size < w1.heap.size; omega)).trans g7; have d0 : w2.cell? ⟨b, off + k * 11, none⟩ = some (Value.string code) := HC.out w2 hB2 0 _ rfl; have d1 : w2.cell? ⟨b, off + k * 11 + 1, none⟩ = some (Value.int .i64 bmin) := HC.out w2 hB2 1 _ rfl; have d2 : w2.cell? ⟨b, off + k * 11 + 2, none⟩ = some (Value.int .i64 bmax) := HC.out w2 hB2 2 _ rfl; have d3 : w2.cell? ⟨b, off + k * 11 + 3, none⟩ = some (Value.int .i64 taped) := HC.out w2 hB2 3 _ rfl; have d4 : w2.cell? ⟨b, off + k * 11 + 4, none⟩ = some (Value.int .i64 gmin) := HC.out w2 hB2 4 _ rfl; have d5 : w2.cell? ⟨b, off + k * 11 + 5, none⟩ = some (Value.int .i64 gmax) := HC.out w2 hB2 5 _ rfl; have d6 : w2.cell? ⟨b, off + k * 11 + 6, none⟩ = some (Value.int .i64 wmin) := HC.out w2 hB2 6 _ rfl; have d7 : w2.cell? ⟨b, off + k * 11 + 7, none⟩ = some (Value.int .i64 wmax) := HC.out w2 hB2 7 _ rfl; have d8 : w2.cell? ⟨b, off + k * 11 + 8, none⟩ = some (Value.slice sa sn sc) := HC.out w2 hB2 8 _ rfl; have d9 : w2.cell? ⟨b, off + k * 11 + 9, none⟩ = some (Value.slice wa wn wc) := HC.out w2 hB2 9 _ rfl; have d10 : w2.cell? ⟨b, off + k * 11 + 10, none⟩ = some (Value.int .i64 dead) := HC.out w2 hB2 10 _ rfl; clear hw2))
    all_goals
      clear g0 g1 g2 g3 g4 g5 g6 g7 c0 c1 c2 c3 c4 c5 c6 c7 c8 c9 c10
      go_wp2_with (go_at_call 37; refine (HG.out _).mono ?_; rintro e w3 ⟨rfl, hw3⟩; have hT3 : Below w2.heap.size w2 w3 := Below.trans (by repeat (first | exact Below.refl _ _ | refine Below.drew ?_ | exact below_drewN (Below.refl _ _) _)) hw3; have hB3 := hB2.trans (hT3.mono hB2.size); have k3 := Blk.below k2 hT3 k2.lt; have hz3 : w.heap.size + 1 < w3.heap.size := k3.lt; clear e2 e3 z2 z3; have e2 : w3.cell? ⟨w.heap.size + 1, 0, none⟩ = some (.int .i64 0) := k3.cell 0; have e3 : w3.cell? ⟨w.heap.size + 1, 1, none⟩ = some (.int .i64 0) := k3.cell 1; have z2 : w3.frozen? ⟨w.heap.size + 1, 0, none⟩ = false := k3.frozen 0; have z3 : w3.frozen? ⟨w.heap.size + 1, 1, none⟩ = false := k3.frozen 1; clear hw3 d0 d1 d2 d3 d4 d5 d6 d7 d8 d9 d10)
      have k4 : Blk _ (w.heap.size + 1) 31 #[.int .i64 (lo * height / 100), .int .i64 ((hi * height + 99) / 100)] := ((k3.set_ 0 (.int .i64 (lo * height / 100))).set_ 1 (.int .i64 ((hi * height + 99) / 100))).alloc (.cells #[.int .i64 lo, .int .i64 hi] 31)
      have hBs : Below w.heap.size w ((w3.setCell ⟨w.heap.size + 1, 0, none⟩ (.int .i64 (lo * height / 100))).setCell ⟨w.heap.size + 1, 1, none⟩ (.int .i64 ((hi * height + 99) / 100))) := (hB3.setCell (by dsimp only; omega) _).setCell (by dsimp only; omega) _
      exact bodyPost_ret (results_cell_one rfl _ _ (w.heap.size + 1) 31 #[.int .i64 (lo * height / 100), .int .i64 ((hi * height + 99) / 100)] (0, 0) _ rfl k4 Try.underlying31 rfl bounds_size) rfl ⟨rfl, hBs.alloc hBs.size _⟩
  · go_enter Try.func25, Try.ntmps25
    go_wp2_with (go_at_call 36; refine HA.out.mono ?_; rintro e w1 ⟨rfl, hw1⟩; have hB1 := HX.out.trans (hw1.mono HX.out.size); have k1 := Blk.below HK.out hw1 HK.out.lt; have E1 := HE.out.below hw1 hz; obtain ⟨g0, g1, g2, g3, g4, g5, g6, g7⟩ := E1; dsimp only at g0 g1 g2 g3 g4 g5 g6; have c0 : w1.cell? ⟨b, off + k * 11, none⟩ = some (Value.string code) := HC.out w1 hB1 0 _ rfl; have c1 : w1.cell? ⟨b, off + k * 11 + 1, none⟩ = some (Value.int .i64 bmin) := HC.out w1 hB1 1 _ rfl; have c2 : w1.cell? ⟨b, off + k * 11 + 2, none⟩ = some (Value.int .i64 bmax) := HC.out w1 hB1 2 _ rfl; have c3 : w1.cell? ⟨b, off + k * 11 + 3, none⟩ = some (Value.int .i64 taped) := HC.out w1 hB1 3 _ rfl; have c4 : w1.cell? ⟨b, off + k * 11 + 4, none⟩ = some (Value.int .i64 gmin) := HC.out w1 hB1 4 _ rfl; have c5 : w1.cell? ⟨b, off + k * 11 + 5, none⟩ = some (Value.int .i64 gmax) := HC.out w1 hB1 5 _ rfl; have c6 : w1.cell? ⟨b, off + k * 11 + 6, none⟩ = some (Value.int .i64 wmin) := HC.out w1 hB1 6 _ rfl; have c7 : w1.cell? ⟨b, off + k * 11 + 7, none⟩ = some (Value.int .i64 wmax) := HC.out w1 hB1 7 _ rfl; have c8 : w1.cell? ⟨b, off + k * 11 + 8, none⟩ = some (Value.slice sa sn sc) := HC.out w1 hB1 8 _ rfl; have c9 : w1.cell? ⟨b, off + k * 11 + 9, none⟩ = some (Value.slice wa wn wc) := HC.out w1 hB1 9 _ rfl; have c10 : w1.cell? ⟨b, off + k * 11 + 10, none⟩ = some (Value.int .i64 dead) := HC.out w1 hB1 10 _ rfl; clear hw1)
    clear hz
    go_region_with (go_at_call 44; (with_reducible refine (HV.out _ ?_).mono ?_); go_must ((repeat (first | exact hB1 | refine Below.drew ?_)); rintro e w2 ⟨rfl, hw2⟩; have hT2 : Below w1.heap.size w1 w2 := Below.trans (by repeat (first | exact Below.refl _ _ | refine Below.drew ?_)) hw2; have hB2 := hB1.trans (hT2.mono hB1.size); have k2 := Blk.below k1 hT2 k1.lt; have e2 : w2.cell? ⟨w.heap.size + 1, 0, none⟩ = some (.int .i64 0) := k2.cell 0; have e3 : w2.cell? ⟨w.heap.size + 1, 1, none⟩ = some (.int .i64 0) := k2.cell 1; have z2 : w2.frozen? ⟨w.heap.size + 1, 0, none⟩ = false := k2.frozen 0; have z3 : w2.frozen? ⟨w.heap.size + 1, 1, none⟩ = false := k2.frozen 1; have i7 : w2.cell? ⟨w.heap.size, 7, none⟩ = some (.slice (some ⟨b, off, none⟩) n c) := (hT2.cell (p := ⟨w.heap.size, 7, none⟩) (by have := k1.lt; show w.heap.size < w1.heap.size; omega)).trans g7; have d0 : w2.cell? ⟨b, off + k * 11, none⟩ = some (Value.string code) := HC.out w2 hB2 0 _ rfl; have d1 : w2.cell? ⟨b, off + k * 11 + 1, none⟩ = some (Value.int .i64 bmin) := HC.out w2 hB2 1 _ rfl; have d2 : w2.cell? ⟨b, off + k * 11 + 2, none⟩ = some (Value.int .i64 bmax) := HC.out w2 hB2 2 _ rfl; have d3 : w2.cell? ⟨b, off + k * 11 + 3, none⟩ = some (Value.int .i64 taped) := HC.out w2 hB2 3 _ rfl; have d4 : w2.cell? ⟨b, off + k * 11 + 4, none⟩ = some (Value.int .i64 gmin) := HC.out w2 hB2 4 _ rfl; have d5 : w2.cell? ⟨b, off + k * 11 + 5, none⟩ = some (Value.int .i64 gmax) := HC.out w2 hB2 5 _ rfl; have d6 : w2.cell? ⟨b, off + k * 11 + 6, none⟩ = some (Value.int .i64 wmin) := HC.out w2 hB2 6 _ rfl; have d7 : w2.cell? ⟨b, off + k * 11 + 7, none⟩ = some (Value.int .i64 wmax) := HC.out w2 hB2 7 _ rfl; have d8 : w2.cell? ⟨b, off + k * 11 + 8, none⟩ = some (Value.slice sa sn sc) := HC.out w2 hB2 8 _ rfl; have d9 : w2.cell? ⟨b, off + k * 11 + 9, none⟩ = some (Value.slice wa wn wc) := HC.out w2 hB2 9 _ rfl; have d10 : w2.cell? ⟨b, off + k * 11 + 10, none⟩ = some (Value.int .i64 dead) := HC.out w2 hB2 10 _ rfl; clear hw2))
    all_goals
      clear g0 g1 g2 g3 g4 g5 g6 g7 c0 c1 c2 c3 c4 c5 c6 c7 c8 c9 c10
      go_wp2
      have k4 : Blk _ (w.heap.size + 1) 31 #[.int .i64 0, .int .i64 0] := (k2.set_ 0 (.int .i64 0)).set_ 1 (.int .i64 0)
      exact bodyPost_ret (results_cell_one rfl _ _ (w.heap.size + 1) 31 #[.int .i64 0, .int .i64 0] (0, 0) _ rfl k4 Try.underlying31 rfl bounds_size) rfl ⟨rfl, (hB2.setCell (by dsimp only; omega) _).setCell (by dsimp only; omega) _⟩

theorem refAreaOf_calls (f : Forest) (tree year height : Int) (w : World) (h : TreesHeld w.heap.size w f.tv f.trees) :
    Calls Try.prog 25 #[.agg f.cells.toArray, .int .i64 tree, .int .i64 year, .int .i64 height] w fun e w' => e = .returned (.tuple #[.agg #[.int .i64 (areaOf f tree year height).1, .int .i64 (areaOf f tree year height).2.1], .int .i64 (areaOf f tree year height).2.2]) ∧ Below w.heap.size w w' := by
  unfold areaOf
  by_cases he : askErr f tree year height = 0
  · rw [if_pos he]
    by_cases hv : (verdictOn f.law f.trees[tree.toNat]! year height).1 = 2
    · rw [if_pos hv]; exact refAreaOf_yes f tree year height w h he true (beq_iff_eq.2 hv)
    · rw [if_neg hv]; exact refAreaOf_yes f tree year height w h he false (beq_eq_false_iff_ne.2 hv)
  · rw [if_neg he]; exact refAreaOf_no f tree year height w h he
end Go.Proofs.Ytajbflepjpgnbaa
