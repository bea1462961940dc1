/- The document's own answers: the error of a question, a tree's girth. -/
import Derived.Test.YtajbflepjpgnbaaRefForest
import Derived.Test.YtajbflepjpgnbaaGirthOf
namespace Go.Proofs.Ytajbflepjpgnbaa
open Go.RowKit Go.Shelf

set_option maxRecDepth 100000 in
set_option maxHeartbeats 1000000 in
theorem refAsked_calls (f : Forest) (tree year height : Int) (w : World) (h : TreesHeld w.heap.size w f.tv f.trees) (hlen : f.trees.length ≤ 140737488355328) :
    Calls Try.prog 36 #[.agg f.cells.toArray, .int .i64 tree, .int .i64 year, .int .i64 height] w fun e w' => e = .returned (.int .i64 (askErr f tree year height)) ∧ Below w.heap.size w w' := by
  have hA := refForest_calls f (w.alloc (.cells f.cells.toArray 27)) ((h.below ((Below.refl _ w).alloc (Nat.le_refl _) _)).mono (by simp))
  have hlen' : (f.trees.length : Int) ≤ 140737488355328 := by omega
  obtain ⟨a, c, ev⟩ := h.1.len
  clear h
  unfold askErr
  generalize checkForest f = r at hA ⊢
  simp only [Forest.cells] at hA ⊢
  rw [ev] at hA ⊢
  generalize f.trees.length = n at ev hlen hlen' hA ⊢
  clear ev
  by_cases hr : r = 0
  · subst hr
    rw [if_pos rfl]
    have HA := Lib.hid hA; clear hA
    by_cases ht : 0 ≤ tree ∧ tree < (n : Int)
    · rw [if_pos ht]
      have hi : inB tree 0 ((n : Int) - 1) = true := by simp [inB]; omega
      cases hy : inB year 0 300
      · rw [Bool.false_and, if_neg (by simp)]
        go_enter Try.func36, Try.ntmps36
        go_wp2_with (first | (go_at_call 19; refine HA.out.mono ?_; rintro e w1 ⟨rfl, hw1⟩; have hB1 := ((Below.refl _ w).alloc (Nat.le_refl _) _).trans (hw1.mono (by simp)); have k7 := (hw1.cell (p := ⟨w.heap.size, 7, none⟩) (by simp)).trans (show _ = some (Value.slice a n c) from by go_simp); clear hw1) | (go_at_call 26; refine (in_calls _ _ _ _).mono ?_; rintro e w' ⟨rfl, rfl⟩))
        go_ret
        exact ⟨rfl, hB1⟩
      · rw [Bool.true_and]
        cases hh : inB height 1 15000
        · rw [if_neg (by simp)]
          go_enter Try.func36, Try.ntmps36
          go_wp2_with (first | (go_at_call 19; refine HA.out.mono ?_; rintro e w1 ⟨rfl, hw1⟩; have hB1 := ((Below.refl _ w).alloc (Nat.le_refl _) _).trans (hw1.mono (by simp)); have k7 := (hw1.cell (p := ⟨w.heap.size, 7, none⟩) (by simp)).trans (show _ = some (Value.slice a n c) from by go_simp); clear hw1) | (go_at_call 26; refine (in_calls _ _ _ _).mono ?_; rintro e w' ⟨rfl, rfl⟩))
          go_ret
          exact ⟨rfl, hB1⟩
        · rw [if_pos rfl]
          go_enter Try.func36, Try.ntmps36
          go_wp2_with (first | (go_at_call 19; refine HA.out.mono ?_; rintro e w1 ⟨rfl, hw1⟩; have hB1 := ((Below.refl _ w).alloc (Nat.le_refl _) _).trans (hw1.mono (by simp)); have k7 := (hw1.cell (p := ⟨w.heap.size, 7, none⟩) (by simp)).trans (show _ = some (Value.slice a n c) from by go_simp); clear hw1) | (go_at_call 26; refine (in_calls _ _ _ _).mono ?_; rintro e w' ⟨rfl, rfl⟩))
          go_ret
          exact ⟨rfl, hB1⟩
    · rw [if_neg ht]
      have hi : inB tree 0 ((n : Int) - 1) = false := by simp [inB]; omega
      go_enter Try.func36, Try.ntmps36
      go_wp2_with (first | (go_at_call 19; refine HA.out.mono ?_; rintro e w1 ⟨rfl, hw1⟩; have hB1 := ((Below.refl _ w).alloc (Nat.le_refl _) _).trans (hw1.mono (by simp)); have k7 := (hw1.cell (p := ⟨w.heap.size, 7, none⟩) (by simp)).trans (show _ = some (Value.slice a n c) from by go_simp); clear hw1) | (go_at_call 26; refine (in_calls _ _ _ _).mono ?_; rintro e w' ⟨rfl, rfl⟩))
      go_ret
      exact ⟨rfl, hB1⟩
  · rw [if_neg hr]
    have hne : (r != 0) = true := by simpa using hr
    have HA := Lib.hid hA; clear hA hr
    go_enter Try.func36, Try.ntmps36
    go_wp2_with (first | (go_at_call 19; refine HA.out.mono ?_; rintro e w1 ⟨rfl, hw1⟩; have hB1 := ((Below.refl _ w).alloc (Nat.le_refl _) _).trans (hw1.mono (by simp)); clear hw1))
    go_ret
    exact ⟨rfl, hB1⟩
set_option maxRecDepth 100000 in
set_option maxHeartbeats 1000000 in
theorem refGirth_after (code : ByteArray) (bmin bmax taped gmin gmax wmin wmax : Int) (sa : Option Addr) (sn sc : Nat) (wa : Option Addr) (wn wc : Nat) (dead : Int) (year : Int) (w : World) (hy0 : 0 ≤ year) (hy1 : year ≤ 300) (ht0 : 0 ≤ taped) (ht1 : taped ≤ 300) (h : taped ≤ year) (hg0 : 0 ≤ gmin) (hg1 : gmin ≤ gmax) (hg2 : gmax ≤ 6000) (hw0 : 0 ≤ wmin) (hw1 : wmin ≤ wmax) (hw2 : wmax ≤ 50) :
    Calls Try.prog 37 #[.agg #[.string code, .int .i64 bmin, .int .i64 bmax, .int .i64 taped, .int .i64 gmin, .int .i64 gmax, .int .i64 wmin, .int .i64 wmax, .slice sa sn sc, .slice wa wn wc, .int .i64 dead], .int .i64 year] w fun e w' => e = .returned (.agg #[.int .i64 (gmin + (year - taped) * wmin), .int .i64 (gmax + (year - taped) * wmax)]) ∧ Below w.heap.size w w' := by
  obtain ⟨p0, p1⟩ := mul_bounds (a := year - taped) (b := wmin) (A := 300) (B := 50) (by omega) (by omega) (by omega) (by omega)
  obtain ⟨q0, q1⟩ := mul_bounds (a := year - taped) (b := wmax) (A := 300) (B := 50) (by omega) (by omega) (by omega) (by omega)
  have h' : 0 ≤ year - taped := by omega
  go_enter Try.func37, Try.ntmps37
  go_wp2
  exact bodyPost_ret (results_cell_row rfl _ _ (w.heap.size + 1) 31 #[.int .i64 (gmin + (year - taped) * wmin), .int .i64 (gmax + (year - taped) * wmax)] (0, 0) _ rfl (heap_alloc2_new w _ _) Try.underlying31 rfl size_bounds) rfl ⟨rfl, (by repeat (first | exact Below.refl _ _ | refine Below.alloc ?_ (by simp <;> omega) _))⟩

set_option maxRecDepth 100000 in
set_option maxHeartbeats 1000000 in
theorem refGirth_before (code : ByteArray) (bmin bmax taped gmin gmax wmin wmax : Int) (sa : Option Addr) (sn sc : Nat) (wa : Option Addr) (wn wc : Nat) (dead : Int) (year : Int) (w : World) (hy0 : 0 ≤ year) (hy1 : year ≤ 300) (ht0 : 0 ≤ taped) (ht1 : taped ≤ 300) (h : year < taped) (hg0 : 0 ≤ gmin) (hg1 : gmin ≤ gmax) (hg2 : gmax ≤ 6000) (hw0 : 0 ≤ wmin) (hw1 : wmin ≤ wmax) (hw2 : wmax ≤ 50) :
    Calls Try.prog 37 #[.agg #[.string code, .int .i64 bmin, .int .i64 bmax, .int .i64 taped, .int .i64 gmin, .int .i64 gmax, .int .i64 wmin, .int .i64 wmax, .slice sa sn sc, .slice wa wn wc, .int .i64 dead], .int .i64 year] w fun e w' => e = .returned (.agg #[.int .i64 (max 0 (gmin + (year - taped) * wmax)), .int .i64 (max 0 (gmax + (year - taped) * wmin))]) ∧ Below w.heap.size w w' := by
  obtain ⟨p0, p1⟩ := mul_bounds_neg (a := year - taped) (b := wmin) (A := 300) (B := 50) (by omega) (by omega) (by omega) (by omega)
  obtain ⟨q0, q1⟩ := mul_bounds_neg (a := year - taped) (b := wmax) (A := 300) (B := 50) (by omega) (by omega) (by omega) (by omega)
  have h' : year - taped < 0 := by omega
  by_cases h1 : 0 < gmin + (year - taped) * wmax
  · rw [Int.max_eq_right (show (0 : Int) ≤ gmin + (year - taped) * wmax by omega)]
    by_cases h2 : 0 < gmax + (year - taped) * wmin
    · rw [Int.max_eq_right (show (0 : Int) ≤ gmax + (year - taped) * wmin by omega)]
      go_enter Try.func37, Try.ntmps37
      go_wp2
      exact bodyPost_ret (results_cell_row rfl _ _ (w.heap.size + 1) 31 #[.int .i64 (gmin + (year - taped) * wmax), .int .i64 (gmax + (year - taped) * wmin)] (0, 0) _ rfl (heap_alloc2_new w _ _) Try.underlying31 rfl size_bounds) rfl ⟨rfl, (by repeat (first | exact Below.refl _ _ | refine Below.alloc ?_ (by simp <;> omega) _))⟩
    · rw [Int.max_eq_left (show gmax + (year - taped) * wmin ≤ 0 by omega)]
      have h2' : gmax + (year - taped) * wmin ≤ 0 := by omega
      go_enter Try.func37, Try.ntmps37
      go_wp2
      exact bodyPost_ret (results_cell_row rfl _ _ (w.heap.size + 1) 31 #[.int .i64 (gmin + (year - taped) * wmax), .int .i64 (0)] (0, 0) _ rfl (heap_alloc2_new w _ _) Try.underlying31 rfl size_bounds) rfl ⟨rfl, (by repeat (first | exact Below.refl _ _ | refine Below.alloc ?_ (by simp <;> omega) _))⟩
  · rw [Int.max_eq_left (show gmin + (year - taped) * wmax ≤ 0 by omega)]
    have h1' : gmin + (year - taped) * wmax ≤ 0 := by omega
    by_cases h2 : 0 < gmax + (year - taped) * wmin
    · rw [Int.max_eq_right (show (0 : Int) ≤ gmax + (year - taped) * wmin by omega)]
      go_enter Try.func37, Try.ntmps37
      go_wp2
      exact bodyPost_ret (results_cell_row rfl _ _ (w.heap.size + 1) 31 #[.int .i64 (0), .int .i64 (gmax + (year - taped) * wmin)] (0, 0) _ rfl (heap_alloc2_new w _ _) Try.underlying31 rfl size_bounds) rfl ⟨rfl, (by repeat (first | exact Below.refl _ _ | refine Below.alloc ?_ (by simp <;> omega) _))⟩
    · rw [Int.max_eq_left (show gmax + (year - taped) * wmin ≤ 0 by omega)]
      have h2' : gmax + (year - taped) * wmin ≤ 0 := by omega
      go_enter Try.func37, Try.ntmps37
      go_wp2
      exact bodyPost_ret (results_cell_row rfl _ _ (w.heap.size + 1) 31 #[.int .i64 (0), .int .i64 (0)] (0, 0) _ rfl (heap_alloc2_new w _ _) Try.underlying31 rfl size_bounds) rfl ⟨rfl, (by repeat (first | exact Below.refl _ _ | refine Below.alloc ?_ (by simp <;> omega) _))⟩


theorem refGirth_says (t : Tree) (y : Int) (B : Nat) (w : World) (ht : TreeFine t) (hH : TreeHeld B w t) (hy0 : 0 ≤ y) (hy1 : y ≤ 300) (W : World) :
    Calls Try.prog 37 #[.agg t.cells.toArray, .int .i64 y] W fun e w' => e = .returned (.agg #[.int .i64 (girthMin t y), .int .i64 (girthMax t y)]) ∧ Below W.heap.size W w' := by
  obtain ⟨sa, sn, sc, hs⟩ := hH.1.slice
  obtain ⟨wa, wn, wc, hw⟩ := hH.2.1.slice
  obtain ⟨⟨b0, b1, b2⟩, ⟨t0, t1⟩, ⟨g0, g1, g2⟩, ⟨w0, w1, w2⟩, _, _⟩ := ht
  unfold Tree.cells girthMin girthMax
  rw [hs, hw]
  by_cases hc : y - t.taped ≥ 0
  · rw [if_pos hc, if_pos hc]
    exact refGirth_after t.code t.bmin t.bmax t.taped t.gmin t.gmax t.wmin t.wmax sa sn sc wa wn wc t.dead y W hy0 hy1 t0 t1 (by omega) g0 g1 g2 w0 w1 w2
  · rw [if_neg hc, if_neg hc]
    exact refGirth_before t.code t.bmin t.bmax t.taped t.gmin t.gmax t.wmin t.wmax sa sn sc wa wn wc t.dead y W hy0 hy1 t0 t1 (by omega) g0 g1 g2 w0 w1 w2

end Go.Proofs.Ytajbflepjpgnbaa
