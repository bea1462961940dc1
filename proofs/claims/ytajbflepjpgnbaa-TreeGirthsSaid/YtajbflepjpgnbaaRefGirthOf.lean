/- The document's own answers: a tree's girth in a year, or the error. -/
import Derived.Test.YtajbflepjpgnbaaRefGirth
namespace Go.Proofs.Ytajbflepjpgnbaa
open Go.RowKit Go.Shelf

theorem Held.short {α : Type} [Inhabited α] {B : Nat} {w : World} {k : Nat} {enc : α → List Value} {v : Value} {xs : List α} (h : Held B w k enc v xs) : xs.length ≤ 140737488355328 := by
  rcases h with ⟨_, h⟩ | ⟨_, _, c, _, _, ⟨h1, h2⟩, _⟩
  · rw [h]; exact Nat.zero_le _
  · omega

/-- What stands of a block that a call finds, and of the call's own new block. -/
theorem eight (w : World) (a : Option Addr) (f : Forest) (c : Nat) (o : Obj) : ((w.alloc (.cells #[.int .i64 f.law.age, .int .i64 f.law.rest, .int .i64 f.law.girth, .int .i64 f.law.f0, .int .i64 f.law.f1, .int .i64 f.law.f2, .int .i64 f.law.heal, .slice a f.trees.length c] 27)).alloc o).cell? ⟨w.heap.size, 7, none⟩ = some (.slice a f.trees.length c) :=
  ((Blk.new w 27 #[.int .i64 f.law.age, .int .i64 f.law.rest, .int .i64 f.law.girth, .int .i64 f.law.f0, .int .i64 f.law.f1, .int .i64 f.law.f2, .int .i64 f.law.heal, .slice a f.trees.length c]).alloc o).cell 7

set_option maxRecDepth 100000 in
set_option maxHeartbeats 1000000 in
theorem refGirthOf_no (f : Forest) (tree year : Int) (w : World) (h : TreesHeld w.heap.size w f.tv f.trees) (he : ¬ askErr f tree year 1 = 0) :
    Calls Try.prog 17 #[.agg f.cells.toArray, .int .i64 tree, .int .i64 year] w fun e w' => e = .returned (.tuple #[.agg #[.int .i64 0, .int .i64 0], .int .i64 (askErr f tree year 1)]) ∧ Below w.heap.size w w' := by
  have hA := refAsked_calls f tree year 1 ((w.alloc (.cells f.cells.toArray 27)).alloc (.cells #[.int .i64 0, .int .i64 0] 31)) ((h.below (two_below w _ _ _ _)).mono (two_below w _ _ _ _).size) h.1.short
  have hne : (askErr f tree year 1 != 0) = true := by simpa using he
  obtain ⟨a, c, ev⟩ := h.1.len
  clear h he
  generalize askErr f tree year 1 = r at hA hne ⊢
  simp only [Forest.cells] at hA ⊢
  rw [ev] at hA ⊢
  clear ev
  have HA := Lib.hid hA; clear hA
  have HX := Lib.hid (two_below w #[.int .i64 f.law.age, .int .i64 f.law.rest, .int .i64 f.law.girth, .int .i64 f.law.f0, .int .i64 f.law.f1, .int .i64 f.law.f2, .int .i64 f.law.heal, .slice a f.trees.length c] #[.int .i64 0, .int .i64 0] 27 31)
  have HK := Lib.hid (two_new w #[.int .i64 f.law.age, .int .i64 f.law.rest, .int .i64 f.law.girth, .int .i64 f.law.f0, .int .i64 f.law.f1, .int .i64 f.law.f2, .int .i64 f.law.heal, .slice a f.trees.length c] #[.int .i64 0, .int .i64 0] 27 31)
  go_enter Try.func17, Try.ntmps17
  go_wp2_with (go_at_call 36; refine HA.out.mono ?_; rintro e w1 ⟨rfl, hw1⟩; have hB1 := HX.out.trans (hw1.mono HX.out.size); have k1 := Blk.below HK.out hw1 HK.out.lt; have e2 : w1.cell? ⟨w.heap.size + 1, 0, none⟩ = some (.int .i64 0) := k1.cell 0; have e3 : w1.cell? ⟨w.heap.size + 1, 1, none⟩ = some (.int .i64 0) := k1.cell 1; have z2 : w1.frozen? ⟨w.heap.size + 1, 0, none⟩ = false := k1.frozen 0; have z3 : w1.frozen? ⟨w.heap.size + 1, 1, none⟩ = false := k1.frozen 1; clear hw1)
  have k4 : Blk _ (w.heap.size + 1) 31 #[.int .i64 0, .int .i64 0] := (k1.set_ 0 (.int .i64 0)).set_ 1 (.int .i64 0)
  exact bodyPost_ret (results_cell_one rfl _ _ (w.heap.size + 1) 31 #[.int .i64 0, .int .i64 0] (0, 0) _ rfl k4 Try.underlying31 rfl bounds_size) rfl ⟨rfl, (hB1.setCell (by dsimp only; omega) _).setCell (by dsimp only; omega) _⟩

set_option maxRecDepth 100000 in
set_option maxHeartbeats 1000000 in
theorem refGirthOf_yes (f : Forest) (tree year : Int) (w : World) (h : TreesHeld w.heap.size w f.tv f.trees) (he : askErr f tree year 1 = 0) :
    Calls Try.prog 17 #[.agg f.cells.toArray, .int .i64 tree, .int .i64 year] w fun e w' => e = .returned (.tuple #[.agg #[.int .i64 (girthMin f.trees[tree.toNat]! year), .int .i64 (girthMax f.trees[tree.toNat]! year)], .int .i64 0]) ∧ Below w.heap.size w w' := by
  have hA := refAsked_calls f tree year 1 ((w.alloc (.cells f.cells.toArray 27)).alloc (.cells #[.int .i64 0, .int .i64 0] 31)) ((h.below (two_below w _ _ _ _)).mono (two_below w _ _ _ _).size) h.1.short
  rw [he] at hA
  have hk := asked_of f tree year 1 w h he
  have hV : ∀ W, Calls Try.prog 37 #[.agg f.trees[tree.toNat]!.cells.toArray, .int .i64 year] W fun e w' => e = .returned (.agg #[.int .i64 (girthMin f.trees[tree.toNat]! year), .int .i64 (girthMax f.trees[tree.toNat]! year)]) ∧ Below W.heap.size W w' := fun W =>
    refGirth_says _ _ w.heap.size w hk.fine hk.held hk.year0 hk.year1 W
  have hsx := hk.held.1.slice
  have hwx := hk.held.2.1.slice
  obtain ⟨k, rfl⟩ := Int.eq_ofNat_of_zero_le hk.tree0
  rw [Int.toNat_natCast] at hV hsx hwx ⊢
  have hkl : k < f.trees.length := by have := hk.tree1; omega
  have hkl' : (k : Int) < (f.trees.length : Int) := by omega
  obtain ⟨a, c, ev⟩ := h.1.len
  have h1 := h.1
  rw [ev] at h1
  obtain ⟨b, off, rfl, hb, hc⟩ := h1.place hkl
  have HC := Lib.hid (fun (W : World) (hW : Below w.heap.size w W) i u (hu : (Tree.cells f.trees[k]!)[i]? = some u) => (hW.cell (p := ⟨b, off + k * 11 + i, none⟩) hb).trans (hc k hkl i u hu))
  clear h h1 he hk hc
  generalize girthMin f.trees[k]! year = g0 at hV ⊢
  generalize girthMax f.trees[k]! year = g1 at hV ⊢
  generalize f.trees[k]! = x at HC hV hsx hwx
  obtain ⟨code, bmin, bmax, taped, gmin, gmax, wmin, wmax, sv, wv, dead, strips, wounds⟩ := x
  dsimp only at hsx hwx
  obtain ⟨sa, sn, sc, rfl⟩ := hsx
  obtain ⟨wa, wn, wc, rfl⟩ := hwx
  simp only [Forest.cells] at hA ⊢
  rw [ev] at hA ⊢
  clear ev
  simp only [Tree.cells] at hV
  have HA := Lib.hid hA; clear hA
  have HV := Lib.hid hV; clear hV
  have HX := Lib.hid (two_below w #[.int .i64 f.law.age, .int .i64 f.law.rest, .int .i64 f.law.girth, .int .i64 f.law.f0, .int .i64 f.law.f1, .int .i64 f.law.f2, .int .i64 f.law.heal, .slice (some ⟨b, off, none⟩) f.trees.length c] #[.int .i64 0, .int .i64 0] 27 31)
  have HK := Lib.hid (two_new w #[.int .i64 f.law.age, .int .i64 f.law.rest, .int .i64 f.law.girth, .int .i64 f.law.f0, .int .i64 f.law.f1, .int .i64 f.law.f2, .int .i64 f.law.heal, .slice (some ⟨b, off, none⟩) f.trees.length c] #[.int .i64 0, .int .i64 0] 27 31)
  have HE := Lib.hid (eight w (some ⟨b, off, none⟩) f c (.cells #[.int .i64 0, .int .i64 0] 31))
  go_enter Try.func17, Try.ntmps17
  go_wp2_with (first | (go_at_call 36; refine HA.out.mono ?_; rintro e w1 ⟨rfl, hw1⟩; have hB1 := HX.out.trans (hw1.mono HX.out.size); have k1 := Blk.below HK.out hw1 HK.out.lt; have q7 := (hw1.cell (p := ⟨w.heap.size, 7, none⟩) (by simp <;> omega)).trans HE.out; have c0 : w1.cell? ⟨b, off + k * 11, none⟩ = some (Value.string code) := HC.out w1 hB1 0 _ rfl; have c1 : w1.cell? ⟨b, off + k * 11 + 1, none⟩ = some (Value.int .i64 bmin) := HC.out w1 hB1 1 _ rfl; have c2 : w1.cell? ⟨b, off + k * 11 + 2, none⟩ = some (Value.int .i64 bmax) := HC.out w1 hB1 2 _ rfl; have c3 : w1.cell? ⟨b, off + k * 11 + 3, none⟩ = some (Value.int .i64 taped) := HC.out w1 hB1 3 _ rfl; have c4 : w1.cell? ⟨b, off + k * 11 + 4, none⟩ = some (Value.int .i64 gmin) := HC.out w1 hB1 4 _ rfl; have c5 : w1.cell? ⟨b, off + k * 11 + 5, none⟩ = some (Value.int .i64 gmax) := HC.out w1 hB1 5 _ rfl; have c6 : w1.cell? ⟨b, off + k * 11 + 6, none⟩ = some (Value.int .i64 wmin) := HC.out w1 hB1 6 _ rfl; have c7 : w1.cell? ⟨b, off + k * 11 + 7, none⟩ = some (Value.int .i64 wmax) := HC.out w1 hB1 7 _ rfl; have c8 : w1.cell? ⟨b, off + k * 11 + 8, none⟩ = some (Value.slice sa sn sc) := HC.out w1 hB1 8 _ rfl; have c9 : w1.cell? ⟨b, off + k * 11 + 9, none⟩ = some (Value.slice wa wn wc) := HC.out w1 hB1 9 _ rfl; have c10 : w1.cell? ⟨b, off + k * 11 + 10, none⟩ = some (Value.int .i64 dead) := HC.out w1 hB1 10 _ rfl; clear hw1) | (go_at_call 37; refine (HV.out _).mono ?_; rintro e w3 ⟨rfl, hw3⟩; have k3 := Blk.below k1 hw3 k1.lt; have e2 : w3.cell? ⟨w.heap.size + 1, 0, none⟩ = some (.int .i64 0) := k3.cell 0; have e3 : w3.cell? ⟨w.heap.size + 1, 1, none⟩ = some (.int .i64 0) := k3.cell 1; have z2 : w3.frozen? ⟨w.heap.size + 1, 0, none⟩ = false := k3.frozen 0; have z3 : w3.frozen? ⟨w.heap.size + 1, 1, none⟩ = false := k3.frozen 1))
  have k4 : Blk _ (w.heap.size + 1) 31 #[.int .i64 g0, .int .i64 g1] := (k3.set_ 0 (.int .i64 g0)).set_ 1 (.int .i64 g1)
  exact bodyPost_ret (results_cell_one rfl _ _ (w.heap.size + 1) 31 #[.int .i64 g0, .int .i64 g1] (0, 0) _ rfl k4 Try.underlying31 rfl bounds_size) rfl ⟨rfl, ((hB1.trans (hw3.mono hB1.size)).setCell (by dsimp only; omega) _).setCell (by dsimp only; omega) _⟩
end Go.Proofs.Ytajbflepjpgnbaa
