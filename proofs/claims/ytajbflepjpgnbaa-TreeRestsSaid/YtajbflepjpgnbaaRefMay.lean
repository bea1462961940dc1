/- The document's own answers: the error of a question, a tree's girth. The document's own answers: a tree's girth in a year, or the error. The document's own answers: is a rule kept, is it broken. The document's own answers: the rules of rest and of healing. The document's own answers: a rule, the verdict on a tree. -/
import Derived.Test.YtajbflepjpgnbaaGreat
import Derived.Test.YtajbflepjpgnbaaTwo
/-! The document's own answers: the error of a question, a tree's girth. -/
namespace Go.Proofs.Ytajbflepjpgnbaa
open Go.RowKit Go.Shelf

set_option maxRecDepth 100000 in
set_option maxHeartbeats 1000000 in
theorem refAsked_calls (f : Forest) (tree year height : Int) (w : World) (h : TreesHeld w.heap.size w f.tv f.trees) (hlen : f.trees.length ≤ 140737488355328) :
    Calls Try.prog 36 #[.agg f.cells.toArray, .int .i64 tree, .int .i64 year, .int .i64 height] w fun e w' => e = .returned (.int .i64 (askErr f tree year height)) ∧ Below w.heap.size w w' := by
  have hA := refForest_calls f (w.alloc (.cells f.cells.toArray 27)) ((h.below ((Below.refl _ w).alloc (Nat.le_refl _) _)).mono (by simp))
  have hlen' : (f.trees.length : Int) ≤ 140737488355328 := by omega
  obtain ⟨a, c, ev⟩ := h.1.len
  clear h
  unfold askErr
  generalize checkForest f = r at hA ⊢
  simp only [Forest.cells] at hA ⊢
  rw [ev] at hA ⊢
  generalize f.trees.length = n at ev hlen hlen' hA ⊢
  clear ev
  by_cases hr : r = 0
  · subst hr
    rw [if_pos rfl]
    have HA := Lib.hid hA; clear hA
    by_cases ht : 0 ≤ tree ∧ tree < (n : Int)
    · rw [if_pos ht]
      have hi : inB tree 0 ((n : Int) - 1) = true := by simp [inB]; omega
      cases hy : inB year 0 300
      · rw [Bool.false_and, if_neg (by simp)]
        go_enter Try.func36, Try.ntmps36
        go_wp2_with (first | (go_at_call 19; refine HA.out.mono ?_; rintro e w1 ⟨rfl, hw1⟩; have hB1 := ((Below.refl _ w).alloc (Nat.le_refl _) _).trans (hw1.mono (by simp)); have k7 := (hw1.cell (p := ⟨w.heap.size, 7, none⟩) (by simp)).trans (show _ = some (Value.slice a n c) from by go_simp); clear hw1) | (go_at_call 26; refine (in_calls _ _ _ _).mono ?_; rintro e w' ⟨rfl, rfl⟩))
        go_ret
        exact ⟨rfl, hB1⟩
      · rw [Bool.true_and]
        cases hh : inB height 1 15000
        · rw [if_neg (by simp)]
          go_enter Try.func36, Try.ntmps36
          go_wp2_with (first | (go_at_call 19; refine HA.out.mono ?_; rintro e w1 ⟨rfl, hw1⟩; have hB1 := ((Below.refl _ w).alloc (Nat.le_refl _) _).trans (hw1.mono (by simp)); have k7 := (hw1.cell (p := ⟨w.heap.size, 7, none⟩) (by simp)).trans (show _ = some (Value.slice a n c) from by go_simp); clear hw1) | (go_at_call 26; refine (in_calls _ _ _ _).mono ?_; rintro e w' ⟨rfl, rfl⟩))
          go_ret
          exact ⟨rfl, hB1⟩
        · rw [if_pos rfl]
          go_enter Try.func36, Try.ntmps36
          go_wp2_with (first | (go_at_call 19; refine HA.out.mono ?_; rintro e w1 ⟨rfl, hw1⟩; have hB1 := ((Below.refl _ w).alloc (Nat.le_refl _) _).trans (hw1.mono (by simp)); have k7 := (hw1.cell (p := ⟨w.heap.size, 7, none⟩) (by simp)).trans (show _ = some (Value.slice a n c) from by go_simp); clear hw1) | (go_at_call 26; refine (in_calls _ _ _ _).mono ?_; rintro e w' ⟨rfl, rfl⟩))
          go_ret
          exact ⟨rfl, hB1⟩
    · rw [if_neg ht]
      have hi : inB tree 0 ((n : Int) - 1) = false := by simp [inB]; omega
      go_enter Try.func36, Try.ntmps36
      go_wp2_with (first | (go_at_call 19; refine HA.out.mono ?_; rintro e w1 ⟨rfl, hw1⟩; have hB1 := ((Below.refl _ w).alloc (Nat.le_refl _) _).trans (hw1.mono (by simp)); have k7 := (hw1.cell (p := ⟨w.heap.size, 7, none⟩) (by simp)).trans (show _ = some (Value.slice a n c) from by go_simp); clear hw1) | (go_at_call 26; refine (in_calls _ _ _ _).mono ?_; rintro e w' ⟨rfl, rfl⟩))
      go_ret
      exact ⟨rfl, hB1⟩
  · rw [if_neg hr]
    have hne : (r != 0) = true := by simpa using hr
    have HA := Lib.hid hA; clear hA hr
    go_enter Try.func36, Try.ntmps36
    go_wp2_with (first | (go_at_call 19; refine HA.out.mono ?_; rintro e w1 ⟨rfl, hw1⟩; have hB1 := ((Below.refl _ w).alloc (Nat.le_refl _) _).trans (hw1.mono (by simp)); clear hw1))
    go_ret
    exact ⟨rfl, hB1⟩
set_option maxRecDepth 100000 in
set_option maxHeartbeats 1000000 in
theorem refGirth_after (code : ByteArray) (bmin bmax taped gmin gmax wmin wmax : Int) (sa : Option Addr) (sn sc : Nat) (wa : Option Addr) (wn wc : Nat) (dead : Int) (year : Int) (w : World) (hy0 : 0 ≤ year) (hy1 : year ≤ 300) (ht0 : 0 ≤ taped) (ht1 : taped ≤ 300) (h : taped ≤ year) (hg0 : 0 ≤ gmin) (hg1 : gmin ≤ gmax) (hg2 : gmax ≤ 6000) (hw0 : 0 ≤ wmin) (hw1 : wmin ≤ wmax) (hw2 : wmax ≤ 50) :
    Calls Try.prog 37 #[.agg #[.string code, .int .i64 bmin, .int .i64 bmax, .int .i64 taped, .int .i64 gmin, .int .i64 gmax, .int .i64 wmin, .int .i64 wmax, .slice sa sn sc, .slice wa wn wc, .int .i64 dead], .int .i64 year] w fun e w' => e = .returned (.agg #[.int .i64 (gmin + (year - taped) * wmin), .int .i64 (gmax + (year - taped) * wmax)]) ∧ Below w.heap.size w w' := by
  obtain ⟨p0, p1⟩ := mul_bounds (a := year - taped) (b := wmin) (A := 300) (B := 50) (by omega) (by omega) (by omega) (by omega)
  obtain ⟨q0, q1⟩ := mul_bounds (a := year - taped) (b := wmax) (A := 300) (B := 50) (by omega) (by omega) (by omega) (by omega)
  have h' : 0 ≤ year - taped := by omega
  go_enter Try.func37, Try.ntmps37
  go_wp2
  exact bodyPost_ret (results_cell_row rfl _ _ (w.heap.size + 1) 31 #[.int .i64 (gmin + (year - taped) * wmin), .int .i64 (gmax + (year - taped) * wmax)] (0, 0) _ rfl (heap_alloc2_new w _ _) Try.underlying31 rfl size_bounds) rfl ⟨rfl, (by repeat (first | exact Below.refl _ _ | refine Below.alloc ?_ (by simp <;> omega) _))⟩

set_option maxRecDepth 100000 in
set_option maxHeartbeats 1000000 in
theorem refGirth_before (code : ByteArray) (bmin bmax taped gmin gmax wmin wmax : Int) (sa : Option Addr) (sn sc : Nat) (wa : Option Addr) (wn wc : Nat) (dead : Int) (year : Int) (w : World) (hy0 : 0 ≤ year) (hy1 : year ≤ 300) (ht0 : 0 ≤ taped) (ht1 : taped ≤ 300) (h : year < taped) (hg0 : 0 ≤ gmin) (hg1 : gmin ≤ gmax) (hg2 : gmax ≤ 6000) (hw0 : 0 ≤ wmin) (hw1 : wmin ≤ wmax) (hw2 : wmax ≤ 50) :
    Calls Try.prog 37 #[.agg #[.string code, .int .i64 bmin, .int .i64 bmax, .int .i64 taped, .int .i64 gmin, .int .i64 gmax, .int .i64 wmin, .int .i64 wmax, .slice sa sn sc, .slice wa wn wc, .int .i64 dead], .int .i64 year] w fun e w' => e = .returned (.agg #[.int .i64 (max 0 (gmin + (year - taped) * wmax)), .int .i64 (max 0 (gmax + (year - taped) * wmin))]) ∧ Below w.heap.size w w' := by
  obtain ⟨p0, p1⟩ := mul_bounds_neg (a := year - taped) (b := wmin) (A := 300) (B := 50) (by omega) (by omega) (by omega) (by omega)
  obtain ⟨q0, q1⟩ := mul_bounds_neg (a := year - taped) (b := wmax) (A := 300) (B := 50) (by omega) (by omega) (by omega) (by omega)
  have h' : year - taped < 0 := by omega
  by_cases h1 : 0 < gmin + (year - taped) * wmax
  · rw [Int.max_eq_right (show (0 : Int) ≤ gmin + (year - taped) * wmax by omega)]
    by_cases h2 : 0 < gmax + (year - taped) * wmin
    · rw [Int.max_eq_right (show (0 : Int) ≤ gmax + (year - taped) * wmin by omega)]
      go_enter Try.func37, Try.ntmps37
      go_wp2
      exact bodyPost_ret (results_cell_row rfl _ _ (w.heap.size + 1) 31 #[.int .i64 (gmin + (year - taped) * wmax), .int .i64 (gmax + (year - taped) * wmin)] (0, 0) _ rfl (heap_alloc2_new w _ _) Try.underlying31 rfl size_bounds) rfl ⟨rfl, (by repeat (first | exact Below.refl _ _ | refine Below.alloc ?_ (by simp <;> omega) _))⟩
    · rw [Int.max_eq_left (show gmax + (year - taped) * wmin ≤ 0 by omega)]
      have h2' : gmax + (year - taped) * wmin ≤ 0 := by omega
      go_enter Try.func37, Try.ntmps37
      go_wp2
      exact bodyPost_ret (results_cell_row rfl _ _ (w.heap.size + 1) 31 #[.int .i64 (gmin + (year - taped) * wmax), .int .i64 (0)] (0, 0) _ rfl (heap_alloc2_new w _ _) Try.underlying31 rfl size_bounds) rfl ⟨rfl, (by repeat (first | exact Below.refl _ _ | refine Below.alloc ?_ (by simp <;> omega) _))⟩
  · rw [Int.max_eq_left (show gmin + (year - taped) * wmax ≤ 0 by omega)]
    have h1' : gmin + (year - taped) * wmax ≤ 0 := by omega
    by_cases h2 : 0 < gmax + (year - taped) * wmin
    · rw [Int.max_eq_right (show (0 : Int) ≤ gmax + (year - taped) * wmin by omega)]
      go_enter Try.func37, Try.ntmps37
      go_wp2
      exact bodyPost_ret (results_cell_row rfl _ _ (w.heap.size + 1) 31 #[.int .i64 (0), .int .i64 (gmax + (year - taped) * wmin)] (0, 0) _ rfl (heap_alloc2_new w _ _) Try.underlying31 rfl size_bounds) rfl ⟨rfl, (by repeat (first | exact Below.refl _ _ | refine Below.alloc ?_ (by simp <;> omega) _))⟩
    · rw [Int.max_eq_left (show gmax + (year - taped) * wmin ≤ 0 by omega)]
      have h2' : gmax + (year - taped) * wmin ≤ 0 := by omega
      go_enter Try.func37, Try.ntmps37
      go_wp2
      exact bodyPost_ret (results_cell_row rfl _ _ (w.heap.size + 1) 31 #[.int .i64 (0), .int .i64 (0)] (0, 0) _ rfl (heap_alloc2_new w _ _) Try.underlying31 rfl size_bounds) rfl ⟨rfl, (by repeat (first | exact Below.refl _ _ | refine Below.alloc ?_ (by simp <;> omega) _))⟩


theorem refGirth_says (t : Tree) (y : Int) (B : Nat) (w : World) (ht : TreeFine t) (hH : TreeHeld B w t) (hy0 : 0 ≤ y) (hy1 : y ≤ 300) (W : World) :
    Calls Try.prog 37 #[.agg t.cells.toArray, .int .i64 y] W fun e w' => e = .returned (.agg #[.int .i64 (girthMin t y), .int .i64 (girthMax t y)]) ∧ Below W.heap.size W w' := by
  obtain ⟨sa, sn, sc, hs⟩ := hH.1.slice
  obtain ⟨wa, wn, wc, hw⟩ := hH.2.1.slice
  obtain ⟨⟨b0, b1, b2⟩, ⟨t0, t1⟩, ⟨g0, g1, g2⟩, ⟨w0, w1, w2⟩, _, _⟩ := ht
  unfold Tree.cells girthMin girthMax
  rw [hs, hw]
  by_cases hc : y - t.taped ≥ 0
  · rw [if_pos hc, if_pos hc]
    exact refGirth_after t.code t.bmin t.bmax t.taped t.gmin t.gmax t.wmin t.wmax sa sn sc wa wn wc t.dead y W hy0 hy1 t0 t1 (by omega) g0 g1 g2 w0 w1 w2
  · rw [if_neg hc, if_neg hc]
    exact refGirth_before t.code t.bmin t.bmax t.taped t.gmin t.gmax t.wmin t.wmax sa sn sc wa wn wc t.dead y W hy0 hy1 t0 t1 (by omega) g0 g1 g2 w0 w1 w2

theorem Held.short {α : Type} [Inhabited α] {B : Nat} {w : World} {k : Nat} {enc : α → List Value} {v : Value} {xs : List α} (h : Held B w k enc v xs) : xs.length ≤ 140737488355328 := by
  rcases h with ⟨_, h⟩ | ⟨_, _, c, _, _, ⟨h1, h2⟩, _⟩
  · rw [h]; exact Nat.zero_le _
  · omega

end Go.Proofs.Ytajbflepjpgnbaa

/-! The document's own answers: is a rule kept, is it broken. -/
namespace Go.Proofs.Ytajbflepjpgnbaa
open Go.RowKit Go.Shelf

set_option maxRecDepth 100000 in
set_option maxHeartbeats 2000000 in
theorem refBefore_some (code : ByteArray) (bmin bmax taped gmin gmax wmin wmax : Int) (sa : Option Addr) (sc : Nat) (wa : Option Addr) (wn wc : Nat) (dead : Int) (year : Int) (xs : List (Int × Int)) (B : Nat) (w : World) (hB0 : B ≤ w.heap.size) (hl : xs.length ≤ 140737488355328) (h : Held B w 2 stripCells (.slice sa xs.length sc) xs) :
    Calls Try.prog 48 #[.agg #[.string code, .int .i64 bmin, .int .i64 bmax, .int .i64 taped, .int .i64 gmin, .int .i64 gmax, .int .i64 wmin, .int .i64 wmax, .slice sa xs.length sc, .slice wa wn wc, .int .i64 dead], .int .i64 year] w fun e w' => e = .returned (.int .i64 (countBefore xs year : Nat)) ∧ Below w.heap.size w w' := by
  have hr : countBefore xs year = 0 + countBefore (xs.drop 0) year := by simp
  generalize countBefore xs year = r at hr ⊢
  have HR := Lib.hid hr; clear hr
  have HS := Lib.hid h; clear h
  go_enter Try.func48, Try.ntmps48
  go_wp2
  go_loopw [5, 6] (fun n i wr => ∃ k m : Nat, k ≤ xs.length ∧ m ≤ k ∧ i = .int .i64 k ∧ n = .int .i64 m ∧ Hid (r = m + countBefore (xs.drop k) year) ∧ Below w.heap.size w wr ∧ w.heap.size < wr.heap.size ∧ wr.cell? ⟨w.heap.size, 8, none⟩ = some (.slice sa xs.length sc)) (fun _ i _ => xs.length - (intOf i).toNat)
  case atStart => exact ⟨0, 0, by omega, by omega, rfl, rfl, HR, (Below.refl _ _).alloc (Nat.le_refl _) _, by simp, by go_simp⟩
  case round =>
    clear HR
    obtain ⟨k, m, hk, hmk, rfl, rfl, HR, hB, hz, k8⟩ := hrel
    by_cases hlt : k < xs.length
    · obtain ⟨b, off, rfl, hb, hc⟩ := HS.out.place hlt
      have c0 : wr.cell? ⟨b, off + k * 2, none⟩ = some (.int .i64 xs[k]!.1) := (hB.cell (p := ⟨b, off + k * 2, none⟩) (by show b < w.heap.size; omega)).trans (hc k hlt 0 _ rfl)
      clear hc
      by_cases hp : xs[k]!.1 < year
      · have HT := Lib.hid (count_yes xs year k hlt r m HR.out hp)
        generalize xs[k]!.1 = y at c0 hp
        go_wp2
        exact ⟨⟨k + 1, m + 1, by omega, by omega, by go_num, by go_num, HT, hB, hz, k8⟩, by simp [intOf]; omega⟩
      · have HT := Lib.hid (count_no xs year k hlt r m HR.out hp)
        generalize xs[k]!.1 = y at c0 hp
        go_wp2
        exact ⟨⟨k + 1, m, by omega, by omega, by go_num, rfl, HT, hB, hz, k8⟩, by simp [intOf]; omega⟩
    · have HT := Lib.hid (count_end xs year k (by omega) r m HR.out)
      have hge : xs.length ≤ k := by omega
      go_wp2
      go_ret
      exact ⟨by rw [HT.out]; rfl, hB⟩

theorem refBefore_calls (t : Tree) (year : Int) (B : Nat) (w : World) (hB : B ≤ w.heap.size) (h : TreeHeld B w t) :
    Calls Try.prog 48 #[.agg t.cells.toArray, .int .i64 year] w fun e w' => e = .returned (.int .i64 (countBefore t.strips year : Nat)) ∧ Below w.heap.size w w' := by
  obtain ⟨code, bmin, bmax, taped, gmin, gmax, wmin, wmax, sv, wv, dead, strips, wounds⟩ := t
  obtain ⟨hs, hw, _⟩ := h
  dsimp only at hs hw
  obtain ⟨sa, sn, sc, rfl⟩ := hs.slice
  obtain ⟨wa, wn, wc, rfl⟩ := hw.slice
  have ns := hs.count
  subst ns
  exact refBefore_some code bmin bmax taped gmin gmax wmin wmax sa sc wa wn wc dead year strips B w hB hs.short hs

set_option maxRecDepth 100000 in
set_option maxHeartbeats 2000000 in
theorem refRule_dead (age rest girth f0 f1 f2 heal : Int) (code : ByteArray) (bmin bmax taped gmin gmax wmin wmax : Int) (sa : Option Addr) (sn sc : Nat) (wa : Option Addr) (wn wc : Nat) (dead : Int) (year height : Int) (lo hi : Int) (n : Nat) (w : World) (hd : (dead == -1) = true)
    (hG : ∀ W, Calls Try.prog 37 #[.agg #[.string code, .int .i64 bmin, .int .i64 bmax, .int .i64 taped, .int .i64 gmin, .int .i64 gmax, .int .i64 wmin, .int .i64 wmax, .slice sa sn sc, .slice wa wn wc, .int .i64 dead], .int .i64 year] W fun e w' => e = .returned (.agg #[.int .i64 lo, .int .i64 hi]) ∧ Below W.heap.size W w')
    (hN : ∀ W, Below w.heap.size w W → Calls Try.prog 48 #[.agg #[.string code, .int .i64 bmin, .int .i64 bmax, .int .i64 taped, .int .i64 gmin, .int .i64 gmax, .int .i64 wmin, .int .i64 wmax, .slice sa sn sc, .slice wa wn wc, .int .i64 dead], .int .i64 year] W fun e w' => e = .returned (.int .i64 (n : Nat)) ∧ Below W.heap.size W w') :
    Calls Try.prog 69 #[.agg #[.int .i64 age, .int .i64 rest, .int .i64 girth, .int .i64 f0, .int .i64 f1, .int .i64 f2, .int .i64 heal], .agg #[.string code, .int .i64 bmin, .int .i64 bmax, .int .i64 taped, .int .i64 gmin, .int .i64 gmax, .int .i64 wmin, .int .i64 wmax, .slice sa sn sc, .slice wa wn wc, .int .i64 dead], .int .i64 year, .int .i64 height, .int .i64 1] w fun e w' => e = .returned (.tuple #[.bool (true), .bool (false)]) ∧ Below w.heap.size w w' := by
  have HG := Lib.hid hG; clear hG
  have HN := Lib.hid hN; clear hN
  have HB0 := Lib.hid (show Below w.heap.size w ((w.alloc (.cells #[.int .i64 age, .int .i64 rest, .int .i64 girth, .int .i64 f0, .int .i64 f1, .int .i64 f2, .int .i64 heal] 24)).alloc (.cells #[.string code, .int .i64 bmin, .int .i64 bmax, .int .i64 taped, .int .i64 gmin, .int .i64 gmax, .int .i64 wmin, .int .i64 wmax, .slice sa sn sc, .slice wa wn wc, .int .i64 dead] 53)) from ((Below.refl _ _).alloc (Nat.le_refl _) _).alloc (by simp) _)
  have KL := Lib.hid (show Blk ((w.alloc (.cells #[.int .i64 age, .int .i64 rest, .int .i64 girth, .int .i64 f0, .int .i64 f1, .int .i64 f2, .int .i64 heal] 24)).alloc (.cells #[.string code, .int .i64 bmin, .int .i64 bmax, .int .i64 taped, .int .i64 gmin, .int .i64 gmax, .int .i64 wmin, .int .i64 wmax, .slice sa sn sc, .slice wa wn wc, .int .i64 dead] 53)) w.heap.size 24 #[.int .i64 age, .int .i64 rest, .int .i64 girth, .int .i64 f0, .int .i64 f1, .int .i64 f2, .int .i64 heal] from (Blk.new w _ _).alloc _)
  have KT := Lib.hid (show Blk ((w.alloc (.cells #[.int .i64 age, .int .i64 rest, .int .i64 girth, .int .i64 f0, .int .i64 f1, .int .i64 f2, .int .i64 heal] 24)).alloc (.cells #[.string code, .int .i64 bmin, .int .i64 bmax, .int .i64 taped, .int .i64 gmin, .int .i64 gmax, .int .i64 wmin, .int .i64 wmax, .slice sa sn sc, .slice wa wn wc, .int .i64 dead] 53)) (w.heap.size + 1) 53 #[.string code, .int .i64 bmin, .int .i64 bmax, .int .i64 taped, .int .i64 gmin, .int .i64 gmax, .int .i64 wmin, .int .i64 wmax, .slice sa sn sc, .slice wa wn wc, .int .i64 dead] from two_new w _ _ _ _)
  go_enter Try.func69, Try.ntmps69
  go_wp2_with fail
  refine (HG.out _).mono ?_
  rintro e w1 ⟨rfl, hw1⟩
  have hB1 := HB0.out.trans (hw1.mono HB0.out.size)
  have kl1 := Lib.hid (KL.out.below hw1 KL.out.lt)
  have kt1 := Lib.hid (KT.out.below hw1 KT.out.lt)
  have t0 : w1.cell? ⟨w.heap.size + 1, 0, none⟩ = some (Value.string code) := kt1.out.cell 0
  have t1 : w1.cell? ⟨w.heap.size + 1, 1, none⟩ = some (Value.int .i64 bmin) := kt1.out.cell 1
  have t2 : w1.cell? ⟨w.heap.size + 1, 2, none⟩ = some (Value.int .i64 bmax) := kt1.out.cell 2
  have t3 : w1.cell? ⟨w.heap.size + 1, 3, none⟩ = some (Value.int .i64 taped) := kt1.out.cell 3
  have t4 : w1.cell? ⟨w.heap.size + 1, 4, none⟩ = some (Value.int .i64 gmin) := kt1.out.cell 4
  have t5 : w1.cell? ⟨w.heap.size + 1, 5, none⟩ = some (Value.int .i64 gmax) := kt1.out.cell 5
  have t6 : w1.cell? ⟨w.heap.size + 1, 6, none⟩ = some (Value.int .i64 wmin) := kt1.out.cell 6
  have t7 : w1.cell? ⟨w.heap.size + 1, 7, none⟩ = some (Value.int .i64 wmax) := kt1.out.cell 7
  have t8 : w1.cell? ⟨w.heap.size + 1, 8, none⟩ = some (Value.slice sa sn sc) := kt1.out.cell 8
  have t9 : w1.cell? ⟨w.heap.size + 1, 9, none⟩ = some (Value.slice wa wn wc) := kt1.out.cell 9
  have t10 : w1.cell? ⟨w.heap.size + 1, 10, none⟩ = some (Value.int .i64 dead) := kt1.out.cell 10
  have hz1 : w.heap.size + 1 < w1.heap.size := kt1.out.lt
  clear hw1 HB0 KL KT
  go_wp2_with fail
  clear t0 t1 t2 t3 t4 t5 t6 t7 t8 t9 t10
  have hB2 := hB1.alloc hB1.size (.cells #[.int .i64 lo, .int .i64 hi] 31)
  refine (HN.out _ hB2).mono ?_
  rintro e w2 ⟨rfl, hw2⟩
  have hB3 := hB2.trans (hw2.mono hB2.size)
  have kl2 := Lib.hid ((kl1.out.alloc (.cells #[.int .i64 lo, .int .i64 hi] 31)).below hw2 (by simp; omega))
  have kt2 := Lib.hid ((kt1.out.alloc (.cells #[.int .i64 lo, .int .i64 hi] 31)).below hw2 (by simp; omega))
  have kg2 := Lib.hid ((Blk.new w1 31 #[.int .i64 lo, .int .i64 hi]).below hw2 (by simp))
  have t10 : w2.cell? ⟨w.heap.size + 1, 10, none⟩ = some (Value.int .i64 dead) := kt2.out.cell 10
  clear kl1 kt1 hw2 hB2 hB1
  go_wp2
  go_ret2
  exact ⟨rfl, hB3⟩

set_option maxRecDepth 100000 in
set_option maxHeartbeats 2000000 in
theorem refRule_dead2 (age rest girth f0 f1 f2 heal : Int) (code : ByteArray) (bmin bmax taped gmin gmax wmin wmax : Int) (sa : Option Addr) (sn sc : Nat) (wa : Option Addr) (wn wc : Nat) (dead : Int) (year height : Int) (lo hi : Int) (n : Nat) (w : World) (hd : (dead == -1) = false)
    (hG : ∀ W, Calls Try.prog 37 #[.agg #[.string code, .int .i64 bmin, .int .i64 bmax, .int .i64 taped, .int .i64 gmin, .int .i64 gmax, .int .i64 wmin, .int .i64 wmax, .slice sa sn sc, .slice wa wn wc, .int .i64 dead], .int .i64 year] W fun e w' => e = .returned (.agg #[.int .i64 lo, .int .i64 hi]) ∧ Below W.heap.size W w')
    (hN : ∀ W, Below w.heap.size w W → Calls Try.prog 48 #[.agg #[.string code, .int .i64 bmin, .int .i64 bmax, .int .i64 taped, .int .i64 gmin, .int .i64 gmax, .int .i64 wmin, .int .i64 wmax, .slice sa sn sc, .slice wa wn wc, .int .i64 dead], .int .i64 year] W fun e w' => e = .returned (.int .i64 (n : Nat)) ∧ Below W.heap.size W w') :
    Calls Try.prog 69 #[.agg #[.int .i64 age, .int .i64 rest, .int .i64 girth, .int .i64 f0, .int .i64 f1, .int .i64 f2, .int .i64 heal], .agg #[.string code, .int .i64 bmin, .int .i64 bmax, .int .i64 taped, .int .i64 gmin, .int .i64 gmax, .int .i64 wmin, .int .i64 wmax, .slice sa sn sc, .slice wa wn wc, .int .i64 dead], .int .i64 year, .int .i64 height, .int .i64 1] w fun e w' => e = .returned (.tuple #[.bool (decide (year < dead)), .bool (!decide (year < dead))]) ∧ Below w.heap.size w w' := by
  have HG := Lib.hid hG; clear hG
  have HN := Lib.hid hN; clear hN
  have HB0 := Lib.hid (show Below w.heap.size w ((w.alloc (.cells #[.int .i64 age, .int .i64 rest, .int .i64 girth, .int .i64 f0, .int .i64 f1, .int .i64 f2, .int .i64 heal] 24)).alloc (.cells #[.string code, .int .i64 bmin, .int .i64 bmax, .int .i64 taped, .int .i64 gmin, .int .i64 gmax, .int .i64 wmin, .int .i64 wmax, .slice sa sn sc, .slice wa wn wc, .int .i64 dead] 53)) from ((Below.refl _ _).alloc (Nat.le_refl _) _).alloc (by simp) _)
  have KL := Lib.hid (show Blk ((w.alloc (.cells #[.int .i64 age, .int .i64 rest, .int .i64 girth, .int .i64 f0, .int .i64 f1, .int .i64 f2, .int .i64 heal] 24)).alloc (.cells #[.string code, .int .i64 bmin, .int .i64 bmax, .int .i64 taped, .int .i64 gmin, .int .i64 gmax, .int .i64 wmin, .int .i64 wmax, .slice sa sn sc, .slice wa wn wc, .int .i64 dead] 53)) w.heap.size 24 #[.int .i64 age, .int .i64 rest, .int .i64 girth, .int .i64 f0, .int .i64 f1, .int .i64 f2, .int .i64 heal] from (Blk.new w _ _).alloc _)
  have KT := Lib.hid (show Blk ((w.alloc (.cells #[.int .i64 age, .int .i64 rest, .int .i64 girth, .int .i64 f0, .int .i64 f1, .int .i64 f2, .int .i64 heal] 24)).alloc (.cells #[.string code, .int .i64 bmin, .int .i64 bmax, .int .i64 taped, .int .i64 gmin, .int .i64 gmax, .int .i64 wmin, .int .i64 wmax, .slice sa sn sc, .slice wa wn wc, .int .i64 dead] 53)) (w.heap.size + 1) 53 #[.string code, .int .i64 bmin, .int .i64 bmax, .int .i64 taped, .int .i64 gmin, .int .i64 gmax, .int .i64 wmin, .int .i64 wmax, .slice sa sn sc, .slice wa wn wc, .int .i64 dead] from two_new w _ _ _ _)
  go_enter Try.func69, Try.ntmps69
  go_wp2_with fail
  refine (HG.out _).mono ?_
  rintro e w1 ⟨rfl, hw1⟩
  have hB1 := HB0.out.trans (hw1.mono HB0.out.size)
  have kl1 := Lib.hid (KL.out.below hw1 KL.out.lt)
  have kt1 := Lib.hid (KT.out.below hw1 KT.out.lt)
  have t0 : w1.cell? ⟨w.heap.size + 1, 0, none⟩ = some (Value.string code) := kt1.out.cell 0
  have t1 : w1.cell? ⟨w.heap.size + 1, 1, none⟩ = some (Value.int .i64 bmin) := kt1.out.cell 1
  have t2 : w1.cell? ⟨w.heap.size + 1, 2, none⟩ = some (Value.int .i64 bmax) := kt1.out.cell 2
  have t3 : w1.cell? ⟨w.heap.size + 1, 3, none⟩ = some (Value.int .i64 taped) := kt1.out.cell 3
  have t4 : w1.cell? ⟨w.heap.size + 1, 4, none⟩ = some (Value.int .i64 gmin) := kt1.out.cell 4
  have t5 : w1.cell? ⟨w.heap.size + 1, 5, none⟩ = some (Value.int .i64 gmax) := kt1.out.cell 5
  have t6 : w1.cell? ⟨w.heap.size + 1, 6, none⟩ = some (Value.int .i64 wmin) := kt1.out.cell 6
  have t7 : w1.cell? ⟨w.heap.size + 1, 7, none⟩ = some (Value.int .i64 wmax) := kt1.out.cell 7
  have t8 : w1.cell? ⟨w.heap.size + 1, 8, none⟩ = some (Value.slice sa sn sc) := kt1.out.cell 8
  have t9 : w1.cell? ⟨w.heap.size + 1, 9, none⟩ = some (Value.slice wa wn wc) := kt1.out.cell 9
  have t10 : w1.cell? ⟨w.heap.size + 1, 10, none⟩ = some (Value.int .i64 dead) := kt1.out.cell 10
  have hz1 : w.heap.size + 1 < w1.heap.size := kt1.out.lt
  clear hw1 HB0 KL KT
  go_wp2_with fail
  clear t0 t1 t2 t3 t4 t5 t6 t7 t8 t9 t10
  have hB2 := hB1.alloc hB1.size (.cells #[.int .i64 lo, .int .i64 hi] 31)
  refine (HN.out _ hB2).mono ?_
  rintro e w2 ⟨rfl, hw2⟩
  have hB3 := hB2.trans (hw2.mono hB2.size)
  have kl2 := Lib.hid ((kl1.out.alloc (.cells #[.int .i64 lo, .int .i64 hi] 31)).below hw2 (by simp; omega))
  have kt2 := Lib.hid ((kt1.out.alloc (.cells #[.int .i64 lo, .int .i64 hi] 31)).below hw2 (by simp; omega))
  have kg2 := Lib.hid ((Blk.new w1 31 #[.int .i64 lo, .int .i64 hi]).below hw2 (by simp))
  have t10 : w2.cell? ⟨w.heap.size + 1, 10, none⟩ = some (Value.int .i64 dead) := kt2.out.cell 10
  clear kl1 kt1 hw2 hB2 hB1
  go_wp2
  go_ret2
  exact ⟨rfl, hB3⟩

set_option maxRecDepth 100000 in
set_option maxHeartbeats 2000000 in
theorem refRule_age (age rest girth f0 f1 f2 heal : Int) (code : ByteArray) (bmin bmax taped gmin gmax wmin wmax : Int) (sa : Option Addr) (sn sc : Nat) (wa : Option Addr) (wn wc : Nat) (dead : Int) (year height : Int) (lo hi : Int) (n : Nat) (w : World) (hy0 : 0 ≤ year) (hy1 : year ≤ 300) (hb0 : 0 ≤ bmin) (hb1 : bmin ≤ 300) (hb2 : 0 ≤ bmax) (hb3 : bmax ≤ 300)
    (hG : ∀ W, Calls Try.prog 37 #[.agg #[.string code, .int .i64 bmin, .int .i64 bmax, .int .i64 taped, .int .i64 gmin, .int .i64 gmax, .int .i64 wmin, .int .i64 wmax, .slice sa sn sc, .slice wa wn wc, .int .i64 dead], .int .i64 year] W fun e w' => e = .returned (.agg #[.int .i64 lo, .int .i64 hi]) ∧ Below W.heap.size W w')
    (hN : ∀ W, Below w.heap.size w W → Calls Try.prog 48 #[.agg #[.string code, .int .i64 bmin, .int .i64 bmax, .int .i64 taped, .int .i64 gmin, .int .i64 gmax, .int .i64 wmin, .int .i64 wmax, .slice sa sn sc, .slice wa wn wc, .int .i64 dead], .int .i64 year] W fun e w' => e = .returned (.int .i64 (n : Nat)) ∧ Below W.heap.size W w') :
    Calls Try.prog 69 #[.agg #[.int .i64 age, .int .i64 rest, .int .i64 girth, .int .i64 f0, .int .i64 f1, .int .i64 f2, .int .i64 heal], .agg #[.string code, .int .i64 bmin, .int .i64 bmax, .int .i64 taped, .int .i64 gmin, .int .i64 gmax, .int .i64 wmin, .int .i64 wmax, .slice sa sn sc, .slice wa wn wc, .int .i64 dead], .int .i64 year, .int .i64 height, .int .i64 2] w fun e w' => e = .returned (.tuple #[.bool (decide (age ≤ year - bmax)), .bool (decide (year - bmin < age))]) ∧ Below w.heap.size w w' := by
  have HG := Lib.hid hG; clear hG
  have HN := Lib.hid hN; clear hN
  have HB0 := Lib.hid (show Below w.heap.size w ((w.alloc (.cells #[.int .i64 age, .int .i64 rest, .int .i64 girth, .int .i64 f0, .int .i64 f1, .int .i64 f2, .int .i64 heal] 24)).alloc (.cells #[.string code, .int .i64 bmin, .int .i64 bmax, .int .i64 taped, .int .i64 gmin, .int .i64 gmax, .int .i64 wmin, .int .i64 wmax, .slice sa sn sc, .slice wa wn wc, .int .i64 dead] 53)) from ((Below.refl _ _).alloc (Nat.le_refl _) _).alloc (by simp) _)
  have KL := Lib.hid (show Blk ((w.alloc (.cells #[.int .i64 age, .int .i64 rest, .int .i64 girth, .int .i64 f0, .int .i64 f1, .int .i64 f2, .int .i64 heal] 24)).alloc (.cells #[.string code, .int .i64 bmin, .int .i64 bmax, .int .i64 taped, .int .i64 gmin, .int .i64 gmax, .int .i64 wmin, .int .i64 wmax, .slice sa sn sc, .slice wa wn wc, .int .i64 dead] 53)) w.heap.size 24 #[.int .i64 age, .int .i64 rest, .int .i64 girth, .int .i64 f0, .int .i64 f1, .int .i64 f2, .int .i64 heal] from (Blk.new w _ _).alloc _)
  have KT := Lib.hid (show Blk ((w.alloc (.cells #[.int .i64 age, .int .i64 rest, .int .i64 girth, .int .i64 f0, .int .i64 f1, .int .i64 f2, .int .i64 heal] 24)).alloc (.cells #[.string code, .int .i64 bmin, .int .i64 bmax, .int .i64 taped, .int .i64 gmin, .int .i64 gmax, .int .i64 wmin, .int .i64 wmax, .slice sa sn sc, .slice wa wn wc, .int .i64 dead] 53)) (w.heap.size + 1) 53 #[.string code, .int .i64 bmin, .int .i64 bmax, .int .i64 taped, .int .i64 gmin, .int .i64 gmax, .int .i64 wmin, .int .i64 wmax, .slice sa sn sc, .slice wa wn wc, .int .i64 dead] from two_new w _ _ _ _)
  go_enter Try.func69, Try.ntmps69
  go_wp2_with fail
  refine (HG.out _).mono ?_
  rintro e w1 ⟨rfl, hw1⟩
  have hB1 := HB0.out.trans (hw1.mono HB0.out.size)
  have kl1 := Lib.hid (KL.out.below hw1 KL.out.lt)
  have kt1 := Lib.hid (KT.out.below hw1 KT.out.lt)
  have t0 : w1.cell? ⟨w.heap.size + 1, 0, none⟩ = some (Value.string code) := kt1.out.cell 0
  have t1 : w1.cell? ⟨w.heap.size + 1, 1, none⟩ = some (Value.int .i64 bmin) := kt1.out.cell 1
  have t2 : w1.cell? ⟨w.heap.size + 1, 2, none⟩ = some (Value.int .i64 bmax) := kt1.out.cell 2
  have t3 : w1.cell? ⟨w.heap.size + 1, 3, none⟩ = some (Value.int .i64 taped) := kt1.out.cell 3
  have t4 : w1.cell? ⟨w.heap.size + 1, 4, none⟩ = some (Value.int .i64 gmin) := kt1.out.cell 4
  have t5 : w1.cell? ⟨w.heap.size + 1, 5, none⟩ = some (Value.int .i64 gmax) := kt1.out.cell 5
  have t6 : w1.cell? ⟨w.heap.size + 1, 6, none⟩ = some (Value.int .i64 wmin) := kt1.out.cell 6
  have t7 : w1.cell? ⟨w.heap.size + 1, 7, none⟩ = some (Value.int .i64 wmax) := kt1.out.cell 7
  have t8 : w1.cell? ⟨w.heap.size + 1, 8, none⟩ = some (Value.slice sa sn sc) := kt1.out.cell 8
  have t9 : w1.cell? ⟨w.heap.size + 1, 9, none⟩ = some (Value.slice wa wn wc) := kt1.out.cell 9
  have t10 : w1.cell? ⟨w.heap.size + 1, 10, none⟩ = some (Value.int .i64 dead) := kt1.out.cell 10
  have hz1 : w.heap.size + 1 < w1.heap.size := kt1.out.lt
  clear hw1 HB0 KL KT
  go_wp2_with fail
  clear t0 t1 t2 t3 t4 t5 t6 t7 t8 t9 t10
  have hB2 := hB1.alloc hB1.size (.cells #[.int .i64 lo, .int .i64 hi] 31)
  refine (HN.out _ hB2).mono ?_
  rintro e w2 ⟨rfl, hw2⟩
  have hB3 := hB2.trans (hw2.mono hB2.size)
  have kl2 := Lib.hid ((kl1.out.alloc (.cells #[.int .i64 lo, .int .i64 hi] 31)).below hw2 (by simp; omega))
  have kt2 := Lib.hid ((kt1.out.alloc (.cells #[.int .i64 lo, .int .i64 hi] 31)).below hw2 (by simp; omega))
  have kg2 := Lib.hid ((Blk.new w1 31 #[.int .i64 lo, .int .i64 hi]).below hw2 (by simp))
  have l0 : w2.cell? ⟨w.heap.size, 0, none⟩ = some (Value.int .i64 age) := kl2.out.cell 0
  have t1 : w2.cell? ⟨w.heap.size + 1, 1, none⟩ = some (Value.int .i64 bmin) := kt2.out.cell 1
  have t2 : w2.cell? ⟨w.heap.size + 1, 2, none⟩ = some (Value.int .i64 bmax) := kt2.out.cell 2
  clear kl1 kt1 hw2 hB2 hB1
  go_wp2
  go_quiet (fail)
  go_wp2
  go_ret2
  exact ⟨rfl, below_drewN hB3 _⟩

set_option maxRecDepth 100000 in
set_option maxHeartbeats 2000000 in
theorem refRule_girth_yes (age rest girth f0 f1 f2 heal : Int) (code : ByteArray) (bmin bmax taped gmin gmax wmin wmax : Int) (sa : Option Addr) (sn sc : Nat) (wa : Option Addr) (wn wc : Nat) (dead : Int) (year height : Int) (lo hi : Int) (n : Nat) (w : World) (hn : 0 < n)
    (hG : ∀ W, Calls Try.prog 37 #[.agg #[.string code, .int .i64 bmin, .int .i64 bmax, .int .i64 taped, .int .i64 gmin, .int .i64 gmax, .int .i64 wmin, .int .i64 wmax, .slice sa sn sc, .slice wa wn wc, .int .i64 dead], .int .i64 year] W fun e w' => e = .returned (.agg #[.int .i64 lo, .int .i64 hi]) ∧ Below W.heap.size W w')
    (hN : ∀ W, Below w.heap.size w W → Calls Try.prog 48 #[.agg #[.string code, .int .i64 bmin, .int .i64 bmax, .int .i64 taped, .int .i64 gmin, .int .i64 gmax, .int .i64 wmin, .int .i64 wmax, .slice sa sn sc, .slice wa wn wc, .int .i64 dead], .int .i64 year] W fun e w' => e = .returned (.int .i64 (n : Nat)) ∧ Below W.heap.size W w') :
    Calls Try.prog 69 #[.agg #[.int .i64 age, .int .i64 rest, .int .i64 girth, .int .i64 f0, .int .i64 f1, .int .i64 f2, .int .i64 heal], .agg #[.string code, .int .i64 bmin, .int .i64 bmax, .int .i64 taped, .int .i64 gmin, .int .i64 gmax, .int .i64 wmin, .int .i64 wmax, .slice sa sn sc, .slice wa wn wc, .int .i64 dead], .int .i64 year, .int .i64 height, .int .i64 5] w fun e w' => e = .returned (.tuple #[.bool (true), .bool (false)]) ∧ Below w.heap.size w w' := by
  have hn' : (0 : Int) < (n : Int) := by omega
  have hne : ((n : Int) == 0) = false := by simp; omega
  have HG := Lib.hid hG; clear hG
  have HN := Lib.hid hN; clear hN
  have HB0 := Lib.hid (show Below w.heap.size w ((w.alloc (.cells #[.int .i64 age, .int .i64 rest, .int .i64 girth, .int .i64 f0, .int .i64 f1, .int .i64 f2, .int .i64 heal] 24)).alloc (.cells #[.string code, .int .i64 bmin, .int .i64 bmax, .int .i64 taped, .int .i64 gmin, .int .i64 gmax, .int .i64 wmin, .int .i64 wmax, .slice sa sn sc, .slice wa wn wc, .int .i64 dead] 53)) from ((Below.refl _ _).alloc (Nat.le_refl _) _).alloc (by simp) _)
  have KL := Lib.hid (show Blk ((w.alloc (.cells #[.int .i64 age, .int .i64 rest, .int .i64 girth, .int .i64 f0, .int .i64 f1, .int .i64 f2, .int .i64 heal] 24)).alloc (.cells #[.string code, .int .i64 bmin, .int .i64 bmax, .int .i64 taped, .int .i64 gmin, .int .i64 gmax, .int .i64 wmin, .int .i64 wmax, .slice sa sn sc, .slice wa wn wc, .int .i64 dead] 53)) w.heap.size 24 #[.int .i64 age, .int .i64 rest, .int .i64 girth, .int .i64 f0, .int .i64 f1, .int .i64 f2, .int .i64 heal] from (Blk.new w _ _).alloc _)
  have KT := Lib.hid (show Blk ((w.alloc (.cells #[.int .i64 age, .int .i64 rest, .int .i64 girth, .int .i64 f0, .int .i64 f1, .int .i64 f2, .int .i64 heal] 24)).alloc (.cells #[.string code, .int .i64 bmin, .int .i64 bmax, .int .i64 taped, .int .i64 gmin, .int .i64 gmax, .int .i64 wmin, .int .i64 wmax, .slice sa sn sc, .slice wa wn wc, .int .i64 dead] 53)) (w.heap.size + 1) 53 #[.string code, .int .i64 bmin, .int .i64 bmax, .int .i64 taped, .int .i64 gmin, .int .i64 gmax, .int .i64 wmin, .int .i64 wmax, .slice sa sn sc, .slice wa wn wc, .int .i64 dead] from two_new w _ _ _ _)
  go_enter Try.func69, Try.ntmps69
  go_wp2_with fail
  refine (HG.out _).mono ?_
  rintro e w1 ⟨rfl, hw1⟩
  have hB1 := HB0.out.trans (hw1.mono HB0.out.size)
  have kl1 := Lib.hid (KL.out.below hw1 KL.out.lt)
  have kt1 := Lib.hid (KT.out.below hw1 KT.out.lt)
  have t0 : w1.cell? ⟨w.heap.size + 1, 0, none⟩ = some (Value.string code) := kt1.out.cell 0
  have t1 : w1.cell? ⟨w.heap.size + 1, 1, none⟩ = some (Value.int .i64 bmin) := kt1.out.cell 1
  have t2 : w1.cell? ⟨w.heap.size + 1, 2, none⟩ = some (Value.int .i64 bmax) := kt1.out.cell 2
  have t3 : w1.cell? ⟨w.heap.size + 1, 3, none⟩ = some (Value.int .i64 taped) := kt1.out.cell 3
  have t4 : w1.cell? ⟨w.heap.size + 1, 4, none⟩ = some (Value.int .i64 gmin) := kt1.out.cell 4
  have t5 : w1.cell? ⟨w.heap.size + 1, 5, none⟩ = some (Value.int .i64 gmax) := kt1.out.cell 5
  have t6 : w1.cell? ⟨w.heap.size + 1, 6, none⟩ = some (Value.int .i64 wmin) := kt1.out.cell 6
  have t7 : w1.cell? ⟨w.heap.size + 1, 7, none⟩ = some (Value.int .i64 wmax) := kt1.out.cell 7
  have t8 : w1.cell? ⟨w.heap.size + 1, 8, none⟩ = some (Value.slice sa sn sc) := kt1.out.cell 8
  have t9 : w1.cell? ⟨w.heap.size + 1, 9, none⟩ = some (Value.slice wa wn wc) := kt1.out.cell 9
  have t10 : w1.cell? ⟨w.heap.size + 1, 10, none⟩ = some (Value.int .i64 dead) := kt1.out.cell 10
  have hz1 : w.heap.size + 1 < w1.heap.size := kt1.out.lt
  clear hw1 HB0 KL KT
  go_wp2_with fail
  clear t0 t1 t2 t3 t4 t5 t6 t7 t8 t9 t10
  have hB2 := hB1.alloc hB1.size (.cells #[.int .i64 lo, .int .i64 hi] 31)
  refine (HN.out _ hB2).mono ?_
  rintro e w2 ⟨rfl, hw2⟩
  have hB3 := hB2.trans (hw2.mono hB2.size)
  have kl2 := Lib.hid ((kl1.out.alloc (.cells #[.int .i64 lo, .int .i64 hi] 31)).below hw2 (by simp; omega))
  have kt2 := Lib.hid ((kt1.out.alloc (.cells #[.int .i64 lo, .int .i64 hi] 31)).below hw2 (by simp; omega))
  have kg2 := Lib.hid ((Blk.new w1 31 #[.int .i64 lo, .int .i64 hi]).below hw2 (by simp))
  have l2 : w2.cell? ⟨w.heap.size, 2, none⟩ = some (Value.int .i64 girth) := kl2.out.cell 2
  have q0 : w2.cell? ⟨w1.heap.size, 0, none⟩ = some (Value.int .i64 lo) := kg2.out.cell 0
  have q1 : w2.cell? ⟨w1.heap.size, 1, none⟩ = some (Value.int .i64 hi) := kg2.out.cell 1
  clear kl1 kt1 hw2 hB2 hB1
  go_wp2
  go_quiet (fail)
  go_wp2
  go_ret2
  exact ⟨rfl, below_drewN hB3 _⟩

set_option maxRecDepth 100000 in
set_option maxHeartbeats 2000000 in
theorem refRule_girth_no (age rest girth f0 f1 f2 heal : Int) (code : ByteArray) (bmin bmax taped gmin gmax wmin wmax : Int) (sa : Option Addr) (sn sc : Nat) (wa : Option Addr) (wn wc : Nat) (dead : Int) (year height : Int) (lo hi : Int) (n : Nat) (w : World) (hn : n = 0)
    (hG : ∀ W, Calls Try.prog 37 #[.agg #[.string code, .int .i64 bmin, .int .i64 bmax, .int .i64 taped, .int .i64 gmin, .int .i64 gmax, .int .i64 wmin, .int .i64 wmax, .slice sa sn sc, .slice wa wn wc, .int .i64 dead], .int .i64 year] W fun e w' => e = .returned (.agg #[.int .i64 lo, .int .i64 hi]) ∧ Below W.heap.size W w')
    (hN : ∀ W, Below w.heap.size w W → Calls Try.prog 48 #[.agg #[.string code, .int .i64 bmin, .int .i64 bmax, .int .i64 taped, .int .i64 gmin, .int .i64 gmax, .int .i64 wmin, .int .i64 wmax, .slice sa sn sc, .slice wa wn wc, .int .i64 dead], .int .i64 year] W fun e w' => e = .returned (.int .i64 (n : Nat)) ∧ Below W.heap.size W w') :
    Calls Try.prog 69 #[.agg #[.int .i64 age, .int .i64 rest, .int .i64 girth, .int .i64 f0, .int .i64 f1, .int .i64 f2, .int .i64 heal], .agg #[.string code, .int .i64 bmin, .int .i64 bmax, .int .i64 taped, .int .i64 gmin, .int .i64 gmax, .int .i64 wmin, .int .i64 wmax, .slice sa sn sc, .slice wa wn wc, .int .i64 dead], .int .i64 year, .int .i64 height, .int .i64 5] w fun e w' => e = .returned (.tuple #[.bool (decide (girth ≤ lo)), .bool (decide (hi < girth))]) ∧ Below w.heap.size w w' := by
  subst hn
  have HG := Lib.hid hG; clear hG
  have HN := Lib.hid hN; clear hN
  have HB0 := Lib.hid (show Below w.heap.size w ((w.alloc (.cells #[.int .i64 age, .int .i64 rest, .int .i64 girth, .int .i64 f0, .int .i64 f1, .int .i64 f2, .int .i64 heal] 24)).alloc (.cells #[.string code, .int .i64 bmin, .int .i64 bmax, .int .i64 taped, .int .i64 gmin, .int .i64 gmax, .int .i64 wmin, .int .i64 wmax, .slice sa sn sc, .slice wa wn wc, .int .i64 dead] 53)) from ((Below.refl _ _).alloc (Nat.le_refl _) _).alloc (by simp) _)
  have KL := Lib.hid (show Blk ((w.alloc (.cells #[.int .i64 age, .int .i64 rest, .int .i64 girth, .int .i64 f0, .int .i64 f1, .int .i64 f2, .int .i64 heal] 24)).alloc (.cells #[.string code, .int .i64 bmin, .int .i64 bmax, .int .i64 taped, .int .i64 gmin, .int .i64 gmax, .int .i64 wmin, .int .i64 wmax, .slice sa sn sc, .slice wa wn wc, .int .i64 dead] 53)) w.heap.size 24 #[.int .i64 age, .int .i64 rest, .int .i64 girth, .int .i64 f0, .int .i64 f1, .int .i64 f2, .int .i64 heal] from (Blk.new w _ _).alloc _)
  have KT := Lib.hid (show Blk ((w.alloc (.cells #[.int .i64 age, .int .i64 rest, .int .i64 girth, .int .i64 f0, .int .i64 f1, .int .i64 f2, .int .i64 heal] 24)).alloc (.cells #[.string code, .int .i64 bmin, .int .i64 bmax, .int .i64 taped, .int .i64 gmin, .int .i64 gmax, .int .i64 wmin, .int .i64 wmax, .slice sa sn sc, .slice wa wn wc, .int .i64 dead] 53)) (w.heap.size + 1) 53 #[.string code, .int .i64 bmin, .int .i64 bmax, .int .i64 taped, .int .i64 gmin, .int .i64 gmax, .int .i64 wmin, .int .i64 wmax, .slice sa sn sc, .slice wa wn wc, .int .i64 dead] from two_new w _ _ _ _)
  go_enter Try.func69, Try.ntmps69
  go_wp2_with fail
  refine (HG.out _).mono ?_
  rintro e w1 ⟨rfl, hw1⟩
  have hB1 := HB0.out.trans (hw1.mono HB0.out.size)
  have kl1 := Lib.hid (KL.out.below hw1 KL.out.lt)
  have kt1 := Lib.hid (KT.out.below hw1 KT.out.lt)
  have t0 : w1.cell? ⟨w.heap.size + 1, 0, none⟩ = some (Value.string code) := kt1.out.cell 0
  have t1 : w1.cell? ⟨w.heap.size + 1, 1, none⟩ = some (Value.int .i64 bmin) := kt1.out.cell 1
  have t2 : w1.cell? ⟨w.heap.size + 1, 2, none⟩ = some (Value.int .i64 bmax) := kt1.out.cell 2
  have t3 : w1.cell? ⟨w.heap.size + 1, 3, none⟩ = some (Value.int .i64 taped) := kt1.out.cell 3
  have t4 : w1.cell? ⟨w.heap.size + 1, 4, none⟩ = some (Value.int .i64 gmin) := kt1.out.cell 4
  have t5 : w1.cell? ⟨w.heap.size + 1, 5, none⟩ = some (Value.int .i64 gmax) := kt1.out.cell 5
  have t6 : w1.cell? ⟨w.heap.size + 1, 6, none⟩ = some (Value.int .i64 wmin) := kt1.out.cell 6
  have t7 : w1.cell? ⟨w.heap.size + 1, 7, none⟩ = some (Value.int .i64 wmax) := kt1.out.cell 7
  have t8 : w1.cell? ⟨w.heap.size + 1, 8, none⟩ = some (Value.slice sa sn sc) := kt1.out.cell 8
  have t9 : w1.cell? ⟨w.heap.size + 1, 9, none⟩ = some (Value.slice wa wn wc) := kt1.out.cell 9
  have t10 : w1.cell? ⟨w.heap.size + 1, 10, none⟩ = some (Value.int .i64 dead) := kt1.out.cell 10
  have hz1 : w.heap.size + 1 < w1.heap.size := kt1.out.lt
  clear hw1 HB0 KL KT
  go_wp2_with fail
  clear t0 t1 t2 t3 t4 t5 t6 t7 t8 t9 t10
  have hB2 := hB1.alloc hB1.size (.cells #[.int .i64 lo, .int .i64 hi] 31)
  refine (HN.out _ hB2).mono ?_
  rintro e w2 ⟨rfl, hw2⟩
  have hB3 := hB2.trans (hw2.mono hB2.size)
  have kl2 := Lib.hid ((kl1.out.alloc (.cells #[.int .i64 lo, .int .i64 hi] 31)).below hw2 (by simp; omega))
  have kt2 := Lib.hid ((kt1.out.alloc (.cells #[.int .i64 lo, .int .i64 hi] 31)).below hw2 (by simp; omega))
  have kg2 := Lib.hid ((Blk.new w1 31 #[.int .i64 lo, .int .i64 hi]).below hw2 (by simp))
  have l2 : w2.cell? ⟨w.heap.size, 2, none⟩ = some (Value.int .i64 girth) := kl2.out.cell 2
  have q0 : w2.cell? ⟨w1.heap.size, 0, none⟩ = some (Value.int .i64 lo) := kg2.out.cell 0
  have q1 : w2.cell? ⟨w1.heap.size, 1, none⟩ = some (Value.int .i64 hi) := kg2.out.cell 1
  clear kl1 kt1 hw2 hB2 hB1
  go_wp2
  go_quiet (fail)
  go_wp2
  go_ret2
  exact ⟨rfl, below_drewN hB3 _⟩

set_option maxRecDepth 100000 in
set_option maxHeartbeats 2000000 in
theorem refRule_height_none (age rest girth f0 f1 f2 heal : Int) (code : ByteArray) (bmin bmax taped gmin gmax wmin wmax : Int) (sa : Option Addr) (sn sc : Nat) (wa : Option Addr) (wn wc : Nat) (dead : Int) (year height : Int) (lo hi : Int) (n : Nat) (w : World) (hn : n = 0) (hh0 : 1 ≤ height) (hh1 : height ≤ 15000) (hp0 : 0 ≤ f0 * lo) (hp1 : f0 * lo ≤ 10000000) (hq0 : 0 ≤ f0 * hi) (hq1 : f0 * hi ≤ 10000000)
    (hG : ∀ W, Calls Try.prog 37 #[.agg #[.string code, .int .i64 bmin, .int .i64 bmax, .int .i64 taped, .int .i64 gmin, .int .i64 gmax, .int .i64 wmin, .int .i64 wmax, .slice sa sn sc, .slice wa wn wc, .int .i64 dead], .int .i64 year] W fun e w' => e = .returned (.agg #[.int .i64 lo, .int .i64 hi]) ∧ Below W.heap.size W w')
    (hN : ∀ W, Below w.heap.size w W → Calls Try.prog 48 #[.agg #[.string code, .int .i64 bmin, .int .i64 bmax, .int .i64 taped, .int .i64 gmin, .int .i64 gmax, .int .i64 wmin, .int .i64 wmax, .slice sa sn sc, .slice wa wn wc, .int .i64 dead], .int .i64 year] W fun e w' => e = .returned (.int .i64 (n : Nat)) ∧ Below W.heap.size W w') :
    Calls Try.prog 69 #[.agg #[.int .i64 age, .int .i64 rest, .int .i64 girth, .int .i64 f0, .int .i64 f1, .int .i64 f2, .int .i64 heal], .agg #[.string code, .int .i64 bmin, .int .i64 bmax, .int .i64 taped, .int .i64 gmin, .int .i64 gmax, .int .i64 wmin, .int .i64 wmax, .slice sa sn sc, .slice wa wn wc, .int .i64 dead], .int .i64 year, .int .i64 height, .int .i64 6] w fun e w' => e = .returned (.tuple #[.bool (decide (10 * height ≤ f0 * lo)), .bool (decide (f0 * hi < 10 * height))]) ∧ Below w.heap.size w w' := by
  subst hn
  have HG := Lib.hid hG; clear hG
  have HN := Lib.hid hN; clear hN
  have HB0 := Lib.hid (show Below w.heap.size w ((w.alloc (.cells #[.int .i64 age, .int .i64 rest, .int .i64 girth, .int .i64 f0, .int .i64 f1, .int .i64 f2, .int .i64 heal] 24)).alloc (.cells #[.string code, .int .i64 bmin, .int .i64 bmax, .int .i64 taped, .int .i64 gmin, .int .i64 gmax, .int .i64 wmin, .int .i64 wmax, .slice sa sn sc, .slice wa wn wc, .int .i64 dead] 53)) from ((Below.refl _ _).alloc (Nat.le_refl _) _).alloc (by simp) _)
  have KL := Lib.hid (show Blk ((w.alloc (.cells #[.int .i64 age, .int .i64 rest, .int .i64 girth, .int .i64 f0, .int .i64 f1, .int .i64 f2, .int .i64 heal] 24)).alloc (.cells #[.string code, .int .i64 bmin, .int .i64 bmax, .int .i64 taped, .int .i64 gmin, .int .i64 gmax, .int .i64 wmin, .int .i64 wmax, .slice sa sn sc, .slice wa wn wc, .int .i64 dead] 53)) w.heap.size 24 #[.int .i64 age, .int .i64 rest, .int .i64 girth, .int .i64 f0, .int .i64 f1, .int .i64 f2, .int .i64 heal] from (Blk.new w _ _).alloc _)
  have KT := Lib.hid (show Blk ((w.alloc (.cells #[.int .i64 age, .int .i64 rest, .int .i64 girth, .int .i64 f0, .int .i64 f1, .int .i64 f2, .int .i64 heal] 24)).alloc (.cells #[.string code, .int .i64 bmin, .int .i64 bmax, .int .i64 taped, .int .i64 gmin, .int .i64 gmax, .int .i64 wmin, .int .i64 wmax, .slice sa sn sc, .slice wa wn wc, .int .i64 dead] 53)) (w.heap.size + 1) 53 #[.string code, .int .i64 bmin, .int .i64 bmax, .int .i64 taped, .int .i64 gmin, .int .i64 gmax, .int .i64 wmin, .int .i64 wmax, .slice sa sn sc, .slice wa wn wc, .int .i64 dead] from two_new w _ _ _ _)
  go_enter Try.func69, Try.ntmps69
  go_wp2_with fail
  refine (HG.out _).mono ?_
  rintro e w1 ⟨rfl, hw1⟩
  have hB1 := HB0.out.trans (hw1.mono HB0.out.size)
  have kl1 := Lib.hid (KL.out.below hw1 KL.out.lt)
  have kt1 := Lib.hid (KT.out.below hw1 KT.out.lt)
  have t0 : w1.cell? ⟨w.heap.size + 1, 0, none⟩ = some (Value.string code) := kt1.out.cell 0
  have t1 : w1.cell? ⟨w.heap.size + 1, 1, none⟩ = some (Value.int .i64 bmin) := kt1.out.cell 1
  have t2 : w1.cell? ⟨w.heap.size + 1, 2, none⟩ = some (Value.int .i64 bmax) := kt1.out.cell 2
  have t3 : w1.cell? ⟨w.heap.size + 1, 3, none⟩ = some (Value.int .i64 taped) := kt1.out.cell 3
  have t4 : w1.cell? ⟨w.heap.size + 1, 4, none⟩ = some (Value.int .i64 gmin) := kt1.out.cell 4
  have t5 : w1.cell? ⟨w.heap.size + 1, 5, none⟩ = some (Value.int .i64 gmax) := kt1.out.cell 5
  have t6 : w1.cell? ⟨w.heap.size + 1, 6, none⟩ = some (Value.int .i64 wmin) := kt1.out.cell 6
  have t7 : w1.cell? ⟨w.heap.size + 1, 7, none⟩ = some (Value.int .i64 wmax) := kt1.out.cell 7
  have t8 : w1.cell? ⟨w.heap.size + 1, 8, none⟩ = some (Value.slice sa sn sc) := kt1.out.cell 8
  have t9 : w1.cell? ⟨w.heap.size + 1, 9, none⟩ = some (Value.slice wa wn wc) := kt1.out.cell 9
  have t10 : w1.cell? ⟨w.heap.size + 1, 10, none⟩ = some (Value.int .i64 dead) := kt1.out.cell 10
  have hz1 : w.heap.size + 1 < w1.heap.size := kt1.out.lt
  clear hw1 HB0 KL KT
  go_wp2_with fail
  clear t0 t1 t2 t3 t4 t5 t6 t7 t8 t9 t10
  have hB2 := hB1.alloc hB1.size (.cells #[.int .i64 lo, .int .i64 hi] 31)
  refine (HN.out _ hB2).mono ?_
  rintro e w2 ⟨rfl, hw2⟩
  have hB3 := hB2.trans (hw2.mono hB2.size)
  have kl2 := Lib.hid ((kl1.out.alloc (.cells #[.int .i64 lo, .int .i64 hi] 31)).below hw2 (by simp; omega))
  have kt2 := Lib.hid ((kt1.out.alloc (.cells #[.int .i64 lo, .int .i64 hi] 31)).below hw2 (by simp; omega))
  have kg2 := Lib.hid ((Blk.new w1 31 #[.int .i64 lo, .int .i64 hi]).below hw2 (by simp))
  have l3 : w2.cell? ⟨w.heap.size, 3, none⟩ = some (Value.int .i64 f0) := kl2.out.cell 3
  have q0 : w2.cell? ⟨w1.heap.size, 0, none⟩ = some (Value.int .i64 lo) := kg2.out.cell 0
  have q1 : w2.cell? ⟨w1.heap.size, 1, none⟩ = some (Value.int .i64 hi) := kg2.out.cell 1
  clear kl1 kt1 hw2 hB2 hB1
  go_wp2
  go_quiet (fail)
  go_wp2
  go_ret2
  exact ⟨rfl, below_drewN hB3 _⟩

set_option maxRecDepth 100000 in
set_option maxHeartbeats 2000000 in
theorem refRule_height_one (age rest girth f0 f1 f2 heal : Int) (code : ByteArray) (bmin bmax taped gmin gmax wmin wmax : Int) (sa : Option Addr) (sn sc : Nat) (wa : Option Addr) (wn wc : Nat) (dead : Int) (year height : Int) (lo hi : Int) (n : Nat) (w : World) (hn : n = 1) (hh0 : 1 ≤ height) (hh1 : height ≤ 15000) (hp0 : 0 ≤ f1 * lo) (hp1 : f1 * lo ≤ 10000000) (hq0 : 0 ≤ f1 * hi) (hq1 : f1 * hi ≤ 10000000)
    (hG : ∀ W, Calls Try.prog 37 #[.agg #[.string code, .int .i64 bmin, .int .i64 bmax, .int .i64 taped, .int .i64 gmin, .int .i64 gmax, .int .i64 wmin, .int .i64 wmax, .slice sa sn sc, .slice wa wn wc, .int .i64 dead], .int .i64 year] W fun e w' => e = .returned (.agg #[.int .i64 lo, .int .i64 hi]) ∧ Below W.heap.size W w')
    (hN : ∀ W, Below w.heap.size w W → Calls Try.prog 48 #[.agg #[.string code, .int .i64 bmin, .int .i64 bmax, .int .i64 taped, .int .i64 gmin, .int .i64 gmax, .int .i64 wmin, .int .i64 wmax, .slice sa sn sc, .slice wa wn wc, .int .i64 dead], .int .i64 year] W fun e w' => e = .returned (.int .i64 (n : Nat)) ∧ Below W.heap.size W w') :
    Calls Try.prog 69 #[.agg #[.int .i64 age, .int .i64 rest, .int .i64 girth, .int .i64 f0, .int .i64 f1, .int .i64 f2, .int .i64 heal], .agg #[.string code, .int .i64 bmin, .int .i64 bmax, .int .i64 taped, .int .i64 gmin, .int .i64 gmax, .int .i64 wmin, .int .i64 wmax, .slice sa sn sc, .slice wa wn wc, .int .i64 dead], .int .i64 year, .int .i64 height, .int .i64 6] w fun e w' => e = .returned (.tuple #[.bool (decide (10 * height ≤ f1 * lo)), .bool (decide (f1 * hi < 10 * height))]) ∧ Below w.heap.size w w' := by
  subst hn
  have HG := Lib.hid hG; clear hG
  have HN := Lib.hid hN; clear hN
  have HB0 := Lib.hid (show Below w.heap.size w ((w.alloc (.cells #[.int .i64 age, .int .i64 rest, .int .i64 girth, .int .i64 f0, .int .i64 f1, .int .i64 f2, .int .i64 heal] 24)).alloc (.cells #[.string code, .int .i64 bmin, .int .i64 bmax, .int .i64 taped, .int .i64 gmin, .int .i64 gmax, .int .i64 wmin, .int .i64 wmax, .slice sa sn sc, .slice wa wn wc, .int .i64 dead] 53)) from ((Below.refl _ _).alloc (Nat.le_refl _) _).alloc (by simp) _)
  have KL := Lib.hid (show Blk ((w.alloc (.cells #[.int .i64 age, .int .i64 rest, .int .i64 girth, .int .i64 f0, .int .i64 f1, .int .i64 f2, .int .i64 heal] 24)).alloc (.cells #[.string code, .int .i64 bmin, .int .i64 bmax, .int .i64 taped, .int .i64 gmin, .int .i64 gmax, .int .i64 wmin, .int .i64 wmax, .slice sa sn sc, .slice wa wn wc, .int .i64 dead] 53)) w.heap.size 24 #[.int .i64 age, .int .i64 rest, .int .i64 girth, .int .i64 f0, .int .i64 f1, .int .i64 f2, .int .i64 heal] from (Blk.new w _ _).alloc _)
  have KT := Lib.hid (show Blk ((w.alloc (.cells #[.int .i64 age, .int .i64 rest, .int .i64 girth, .int .i64 f0, .int .i64 f1, .int .i64 f2, .int .i64 heal] 24)).alloc (.cells #[.string code, .int .i64 bmin, .int .i64 bmax, .int .i64 taped, .int .i64 gmin, .int .i64 gmax, .int .i64 wmin, .int .i64 wmax, .slice sa sn sc, .slice wa wn wc, .int .i64 dead] 53)) (w.heap.size + 1) 53 #[.string code, .int .i64 bmin, .int .i64 bmax, .int .i64 taped, .int .i64 gmin, .int .i64 gmax, .int .i64 wmin, .int .i64 wmax, .slice sa sn sc, .slice wa wn wc, .int .i64 dead] from two_new w _ _ _ _)
  go_enter Try.func69, Try.ntmps69
  go_wp2_with fail
  refine (HG.out _).mono ?_
  rintro e w1 ⟨rfl, hw1⟩
  have hB1 := HB0.out.trans (hw1.mono HB0.out.size)
  have kl1 := Lib.hid (KL.out.below hw1 KL.out.lt)
  have kt1 := Lib.hid (KT.out.below hw1 KT.out.lt)
  have t0 : w1.cell? ⟨w.heap.size + 1, 0, none⟩ = some (Value.string code) := kt1.out.cell 0
  have t1 : w1.cell? ⟨w.heap.size + 1, 1, none⟩ = some (Value.int .i64 bmin) := kt1.out.cell 1
  have t2 : w1.cell? ⟨w.heap.size + 1, 2, none⟩ = some (Value.int .i64 bmax) := kt1.out.cell 2
  have t3 : w1.cell? ⟨w.heap.size + 1, 3, none⟩ = some (Value.int .i64 taped) := kt1.out.cell 3
  have t4 : w1.cell? ⟨w.heap.size + 1, 4, none⟩ = some (Value.int .i64 gmin) := kt1.out.cell 4
  have t5 : w1.cell? ⟨w.heap.size + 1, 5, none⟩ = some (Value.int .i64 gmax) := kt1.out.cell 5
  have t6 : w1.cell? ⟨w.heap.size + 1, 6, none⟩ = some (Value.int .i64 wmin) := kt1.out.cell 6
  have t7 : w1.cell? ⟨w.heap.size + 1, 7, none⟩ = some (Value.int .i64 wmax) := kt1.out.cell 7
  have t8 : w1.cell? ⟨w.heap.size + 1, 8, none⟩ = some (Value.slice sa sn sc) := kt1.out.cell 8
  have t9 : w1.cell? ⟨w.heap.size + 1, 9, none⟩ = some (Value.slice wa wn wc) := kt1.out.cell 9
  have t10 : w1.cell? ⟨w.heap.size + 1, 10, none⟩ = some (Value.int .i64 dead) := kt1.out.cell 10
  have hz1 : w.heap.size + 1 < w1.heap.size := kt1.out.lt
  clear hw1 HB0 KL KT
  go_wp2_with fail
  clear t0 t1 t2 t3 t4 t5 t6 t7 t8 t9 t10
  have hB2 := hB1.alloc hB1.size (.cells #[.int .i64 lo, .int .i64 hi] 31)
  refine (HN.out _ hB2).mono ?_
  rintro e w2 ⟨rfl, hw2⟩
  have hB3 := hB2.trans (hw2.mono hB2.size)
  have kl2 := Lib.hid ((kl1.out.alloc (.cells #[.int .i64 lo, .int .i64 hi] 31)).below hw2 (by simp; omega))
  have kt2 := Lib.hid ((kt1.out.alloc (.cells #[.int .i64 lo, .int .i64 hi] 31)).below hw2 (by simp; omega))
  have kg2 := Lib.hid ((Blk.new w1 31 #[.int .i64 lo, .int .i64 hi]).below hw2 (by simp))
  have l4 : w2.cell? ⟨w.heap.size, 4, none⟩ = some (Value.int .i64 f1) := kl2.out.cell 4
  have q0 : w2.cell? ⟨w1.heap.size, 0, none⟩ = some (Value.int .i64 lo) := kg2.out.cell 0
  have q1 : w2.cell? ⟨w1.heap.size, 1, none⟩ = some (Value.int .i64 hi) := kg2.out.cell 1
  clear kl1 kt1 hw2 hB2 hB1
  go_wp2
  go_quiet (fail)
  go_wp2
  go_ret2
  exact ⟨rfl, below_drewN hB3 _⟩

set_option maxRecDepth 100000 in
set_option maxHeartbeats 2000000 in
theorem refRule_height_two (age rest girth f0 f1 f2 heal : Int) (code : ByteArray) (bmin bmax taped gmin gmax wmin wmax : Int) (sa : Option Addr) (sn sc : Nat) (wa : Option Addr) (wn wc : Nat) (dead : Int) (year height : Int) (lo hi : Int) (n : Nat) (w : World) (hn : n = 2) (hh0 : 1 ≤ height) (hh1 : height ≤ 15000) (hp0 : 0 ≤ f2 * lo) (hp1 : f2 * lo ≤ 10000000) (hq0 : 0 ≤ f2 * hi) (hq1 : f2 * hi ≤ 10000000)
    (hG : ∀ W, Calls Try.prog 37 #[.agg #[.string code, .int .i64 bmin, .int .i64 bmax, .int .i64 taped, .int .i64 gmin, .int .i64 gmax, .int .i64 wmin, .int .i64 wmax, .slice sa sn sc, .slice wa wn wc, .int .i64 dead], .int .i64 year] W fun e w' => e = .returned (.agg #[.int .i64 lo, .int .i64 hi]) ∧ Below W.heap.size W w')
    (hN : ∀ W, Below w.heap.size w W → Calls Try.prog 48 #[.agg #[.string code, .int .i64 bmin, .int .i64 bmax, .int .i64 taped, .int .i64 gmin, .int .i64 gmax, .int .i64 wmin, .int .i64 wmax, .slice sa sn sc, .slice wa wn wc, .int .i64 dead], .int .i64 year] W fun e w' => e = .returned (.int .i64 (n : Nat)) ∧ Below W.heap.size W w') :
    Calls Try.prog 69 #[.agg #[.int .i64 age, .int .i64 rest, .int .i64 girth, .int .i64 f0, .int .i64 f1, .int .i64 f2, .int .i64 heal], .agg #[.string code, .int .i64 bmin, .int .i64 bmax, .int .i64 taped, .int .i64 gmin, .int .i64 gmax, .int .i64 wmin, .int .i64 wmax, .slice sa sn sc, .slice wa wn wc, .int .i64 dead], .int .i64 year, .int .i64 height, .int .i64 6] w fun e w' => e = .returned (.tuple #[.bool (decide (10 * height ≤ f2 * lo)), .bool (decide (f2 * hi < 10 * height))]) ∧ Below w.heap.size w w' := by
  subst hn
  have HG := Lib.hid hG; clear hG
  have HN := Lib.hid hN; clear hN
  have HB0 := Lib.hid (show Below w.heap.size w ((w.alloc (.cells #[.int .i64 age, .int .i64 rest, .int .i64 girth, .int .i64 f0, .int .i64 f1, .int .i64 f2, .int .i64 heal] 24)).alloc (.cells #[.string code, .int .i64 bmin, .int .i64 bmax, .int .i64 taped, .int .i64 gmin, .int .i64 gmax, .int .i64 wmin, .int .i64 wmax, .slice sa sn sc, .slice wa wn wc, .int .i64 dead] 53)) from ((Below.refl _ _).alloc (Nat.le_refl _) _).alloc (by simp) _)
  have KL := Lib.hid (show Blk ((w.alloc (.cells #[.int .i64 age, .int .i64 rest, .int .i64 girth, .int .i64 f0, .int .i64 f1, .int .i64 f2, .int .i64 heal] 24)).alloc (.cells #[.string code, .int .i64 bmin, .int .i64 bmax, .int .i64 taped, .int .i64 gmin, .int .i64 gmax, .int .i64 wmin, .int .i64 wmax, .slice sa sn sc, .slice wa wn wc, .int .i64 dead] 53)) w.heap.size 24 #[.int .i64 age, .int .i64 rest, .int .i64 girth, .int .i64 f0, .int .i64 f1, .int .i64 f2, .int .i64 heal] from (Blk.new w _ _).alloc _)
  have KT := Lib.hid (show Blk ((w.alloc (.cells #[.int .i64 age, .int .i64 rest, .int .i64 girth, .int .i64 f0, .int .i64 f1, .int .i64 f2, .int .i64 heal] 24)).alloc (.cells #[.string code, .int .i64 bmin, .int .i64 bmax, .int .i64 taped, .int .i64 gmin, .int .i64 gmax, .int .i64 wmin, .int .i64 wmax, .slice sa sn sc, .slice wa wn wc, .int .i64 dead] 53)) (w.heap.size + 1) 53 #[.string code, .int .i64 bmin, .int .i64 bmax, .int .i64 taped, .int .i64 gmin, .int .i64 gmax, .int .i64 wmin, .int .i64 wmax, .slice sa sn sc, .slice wa wn wc, .int .i64 dead] from two_new w _ _ _ _)
  go_enter Try.func69, Try.ntmps69
  go_wp2_with fail
  refine (HG.out _).mono ?_
  rintro e w1 ⟨rfl, hw1⟩
  have hB1 := HB0.out.trans (hw1.mono HB0.out.size)
  have kl1 := Lib.hid (KL.out.below hw1 KL.out.lt)
  have kt1 := Lib.hid (KT.out.below hw1 KT.out.lt)
  have t0 : w1.cell? ⟨w.heap.size + 1, 0, none⟩ = some (Value.string code) := kt1.out.cell 0
  have t1 : w1.cell? ⟨w.heap.size + 1, 1, none⟩ = some (Value.int .i64 bmin) := kt1.out.cell 1
  have t2 : w1.cell? ⟨w.heap.size + 1, 2, none⟩ = some (Value.int .i64 bmax) := kt1.out.cell 2
  have t3 : w1.cell? ⟨w.heap.size + 1, 3, none⟩ = some (Value.int .i64 taped) := kt1.out.cell 3
  have t4 : w1.cell? ⟨w.heap.size + 1, 4, none⟩ = some (Value.int .i64 gmin) := kt1.out.cell 4
  have t5 : w1.cell? ⟨w.heap.size + 1, 5, none⟩ = some (Value.int .i64 gmax) := kt1.out.cell 5
  have t6 : w1.cell? ⟨w.heap.size + 1, 6, none⟩ = some (Value.int .i64 wmin) := kt1.out.cell 6
  have t7 : w1.cell? ⟨w.heap.size + 1, 7, none⟩ = some (Value.int .i64 wmax) := kt1.out.cell 7
  have t8 : w1.cell? ⟨w.heap.size + 1, 8, none⟩ = some (Value.slice sa sn sc) := kt1.out.cell 8
  have t9 : w1.cell? ⟨w.heap.size + 1, 9, none⟩ = some (Value.slice wa wn wc) := kt1.out.cell 9
  have t10 : w1.cell? ⟨w.heap.size + 1, 10, none⟩ = some (Value.int .i64 dead) := kt1.out.cell 10
  have hz1 : w.heap.size + 1 < w1.heap.size := kt1.out.lt
  clear hw1 HB0 KL KT
  go_wp2_with fail
  clear t0 t1 t2 t3 t4 t5 t6 t7 t8 t9 t10
  have hB2 := hB1.alloc hB1.size (.cells #[.int .i64 lo, .int .i64 hi] 31)
  refine (HN.out _ hB2).mono ?_
  rintro e w2 ⟨rfl, hw2⟩
  have hB3 := hB2.trans (hw2.mono hB2.size)
  have kl2 := Lib.hid ((kl1.out.alloc (.cells #[.int .i64 lo, .int .i64 hi] 31)).below hw2 (by simp; omega))
  have kt2 := Lib.hid ((kt1.out.alloc (.cells #[.int .i64 lo, .int .i64 hi] 31)).below hw2 (by simp; omega))
  have kg2 := Lib.hid ((Blk.new w1 31 #[.int .i64 lo, .int .i64 hi]).below hw2 (by simp))
  have l5 : w2.cell? ⟨w.heap.size, 5, none⟩ = some (Value.int .i64 f2) := kl2.out.cell 5
  have q0 : w2.cell? ⟨w1.heap.size, 0, none⟩ = some (Value.int .i64 lo) := kg2.out.cell 0
  have q1 : w2.cell? ⟨w1.heap.size, 1, none⟩ = some (Value.int .i64 hi) := kg2.out.cell 1
  clear kl1 kt1 hw2 hB2 hB1
  go_wp2
  go_quiet (fail)
  go_wp2
  go_ret2
  exact ⟨rfl, below_drewN hB3 _⟩

set_option maxRecDepth 100000 in
set_option maxHeartbeats 2000000 in
theorem refRule_height_more (age rest girth f0 f1 f2 heal : Int) (code : ByteArray) (bmin bmax taped gmin gmax wmin wmax : Int) (sa : Option Addr) (sn sc : Nat) (wa : Option Addr) (wn wc : Nat) (dead : Int) (year height : Int) (lo hi : Int) (n : Nat) (w : World) (hn : 2 < n) (hh0 : 1 ≤ height) (hh1 : height ≤ 15000) (hp0 : 0 ≤ f2 * lo) (hp1 : f2 * lo ≤ 10000000) (hq0 : 0 ≤ f2 * hi) (hq1 : f2 * hi ≤ 10000000)
    (hG : ∀ W, Calls Try.prog 37 #[.agg #[.string code, .int .i64 bmin, .int .i64 bmax, .int .i64 taped, .int .i64 gmin, .int .i64 gmax, .int .i64 wmin, .int .i64 wmax, .slice sa sn sc, .slice wa wn wc, .int .i64 dead], .int .i64 year] W fun e w' => e = .returned (.agg #[.int .i64 lo, .int .i64 hi]) ∧ Below W.heap.size W w')
    (hN : ∀ W, Below w.heap.size w W → Calls Try.prog 48 #[.agg #[.string code, .int .i64 bmin, .int .i64 bmax, .int .i64 taped, .int .i64 gmin, .int .i64 gmax, .int .i64 wmin, .int .i64 wmax, .slice sa sn sc, .slice wa wn wc, .int .i64 dead], .int .i64 year] W fun e w' => e = .returned (.int .i64 (n : Nat)) ∧ Below W.heap.size W w') :
    Calls Try.prog 69 #[.agg #[.int .i64 age, .int .i64 rest, .int .i64 girth, .int .i64 f0, .int .i64 f1, .int .i64 f2, .int .i64 heal], .agg #[.string code, .int .i64 bmin, .int .i64 bmax, .int .i64 taped, .int .i64 gmin, .int .i64 gmax, .int .i64 wmin, .int .i64 wmax, .slice sa sn sc, .slice wa wn wc, .int .i64 dead], .int .i64 year, .int .i64 height, .int .i64 6] w fun e w' => e = .returned (.tuple #[.bool (decide (10 * height ≤ f2 * lo)), .bool (decide (f2 * hi < 10 * height))]) ∧ Below w.heap.size w w' := by
  have hn' : (2 : Int) < (n : Int) := by omega
  have HG := Lib.hid hG; clear hG
  have HN := Lib.hid hN; clear hN
  have HB0 := Lib.hid (show Below w.heap.size w ((w.alloc (.cells #[.int .i64 age, .int .i64 rest, .int .i64 girth, .int .i64 f0, .int .i64 f1, .int .i64 f2, .int .i64 heal] 24)).alloc (.cells #[.string code, .int .i64 bmin, .int .i64 bmax, .int .i64 taped, .int .i64 gmin, .int .i64 gmax, .int .i64 wmin, .int .i64 wmax, .slice sa sn sc, .slice wa wn wc, .int .i64 dead] 53)) from ((Below.refl _ _).alloc (Nat.le_refl _) _).alloc (by simp) _)
  have KL := Lib.hid (show Blk ((w.alloc (.cells #[.int .i64 age, .int .i64 rest, .int .i64 girth, .int .i64 f0, .int .i64 f1, .int .i64 f2, .int .i64 heal] 24)).alloc (.cells #[.string code, .int .i64 bmin, .int .i64 bmax, .int .i64 taped, .int .i64 gmin, .int .i64 gmax, .int .i64 wmin, .int .i64 wmax, .slice sa sn sc, .slice wa wn wc, .int .i64 dead] 53)) w.heap.size 24 #[.int .i64 age, .int .i64 rest, .int .i64 girth, .int .i64 f0, .int .i64 f1, .int .i64 f2, .int .i64 heal] from (Blk.new w _ _).alloc _)
  have KT := Lib.hid (show Blk ((w.alloc (.cells #[.int .i64 age, .int .i64 rest, .int .i64 girth, .int .i64 f0, .int .i64 f1, .int .i64 f2, .int .i64 heal] 24)).alloc (.cells #[.string code, .int .i64 bmin, .int .i64 bmax, .int .i64 taped, .int .i64 gmin, .int .i64 gmax, .int .i64 wmin, .int .i64 wmax, .slice sa sn sc, .slice wa wn wc, .int .i64 dead] 53)) (w.heap.size + 1) 53 #[.string code, .int .i64 bmin, .int .i64 bmax, .int .i64 taped, .int .i64 gmin, .int .i64 gmax, .int .i64 wmin, .int .i64 wmax, .slice sa sn sc, .slice wa wn wc, .int .i64 dead] from two_new w _ _ _ _)
  go_enter Try.func69, Try.ntmps69
  go_wp2_with fail
  refine (HG.out _).mono ?_
  rintro e w1 ⟨rfl, hw1⟩
  have hB1 := HB0.out.trans (hw1.mono HB0.out.size)
  have kl1 := Lib.hid (KL.out.below hw1 KL.out.lt)
  have kt1 := Lib.hid (KT.out.below hw1 KT.out.lt)
  have t0 : w1.cell? ⟨w.heap.size + 1, 0, none⟩ = some (Value.string code) := kt1.out.cell 0
  have t1 : w1.cell? ⟨w.heap.size + 1, 1, none⟩ = some (Value.int .i64 bmin) := kt1.out.cell 1
  have t2 : w1.cell? ⟨w.heap.size + 1, 2, none⟩ = some (Value.int .i64 bmax) := kt1.out.cell 2
  have t3 : w1.cell? ⟨w.heap.size + 1, 3, none⟩ = some (Value.int .i64 taped) := kt1.out.cell 3
  have t4 : w1.cell? ⟨w.heap.size + 1, 4, none⟩ = some (Value.int .i64 gmin) := kt1.out.cell 4
  have t5 : w1.cell? ⟨w.heap.size + 1, 5, none⟩ = some (Value.int .i64 gmax) := kt1.out.cell 5
  have t6 : w1.cell? ⟨w.heap.size + 1, 6, none⟩ = some (Value.int .i64 wmin) := kt1.out.cell 6
  have t7 : w1.cell? ⟨w.heap.size + 1, 7, none⟩ = some (Value.int .i64 wmax) := kt1.out.cell 7
  have t8 : w1.cell? ⟨w.heap.size + 1, 8, none⟩ = some (Value.slice sa sn sc) := kt1.out.cell 8
  have t9 : w1.cell? ⟨w.heap.size + 1, 9, none⟩ = some (Value.slice wa wn wc) := kt1.out.cell 9
  have t10 : w1.cell? ⟨w.heap.size + 1, 10, none⟩ = some (Value.int .i64 dead) := kt1.out.cell 10
  have hz1 : w.heap.size + 1 < w1.heap.size := kt1.out.lt
  clear hw1 HB0 KL KT
  go_wp2_with fail
  clear t0 t1 t2 t3 t4 t5 t6 t7 t8 t9 t10
  have hB2 := hB1.alloc hB1.size (.cells #[.int .i64 lo, .int .i64 hi] 31)
  refine (HN.out _ hB2).mono ?_
  rintro e w2 ⟨rfl, hw2⟩
  have hB3 := hB2.trans (hw2.mono hB2.size)
  have kl2 := Lib.hid ((kl1.out.alloc (.cells #[.int .i64 lo, .int .i64 hi] 31)).below hw2 (by simp; omega))
  have kt2 := Lib.hid ((kt1.out.alloc (.cells #[.int .i64 lo, .int .i64 hi] 31)).below hw2 (by simp; omega))
  have kg2 := Lib.hid ((Blk.new w1 31 #[.int .i64 lo, .int .i64 hi]).below hw2 (by simp))
  have l5 : w2.cell? ⟨w.heap.size, 5, none⟩ = some (Value.int .i64 f2) := kl2.out.cell 5
  have q0 : w2.cell? ⟨w1.heap.size, 0, none⟩ = some (Value.int .i64 lo) := kg2.out.cell 0
  have q1 : w2.cell? ⟨w1.heap.size, 1, none⟩ = some (Value.int .i64 hi) := kg2.out.cell 1
  clear kl1 kt1 hw2 hB2 hB1
  go_wp2
  go_quiet (fail)
  go_wp2
  go_ret2
  exact ⟨rfl, below_drewN hB3 _⟩
end Go.Proofs.Ytajbflepjpgnbaa

/-! The document's own answers: the rules of rest and of healing. -/
namespace Go.Proofs.Ytajbflepjpgnbaa
open Go.RowKit Go.Shelf

theorem acc_step {α : Type} [Inhabited α] (p : α → Bool) (xs : List α) (k : Nat) (h : k < xs.length) (r bro : Bool) (hr : r = (bro || (xs.drop k).any p)) : r = ((bro || p xs[k]!) || (xs.drop (k + 1)).any p) := by
  rw [hr, drop_get xs k h, List.any_cons, Bool.or_assoc]
theorem acc_end {α : Type} (p : α → Bool) (xs : List α) (k : Nat) (h : xs.length ≤ k) (r bro : Bool) (hr : r = (bro || (xs.drop k).any p)) : r = bro := by
  rw [hr, List.drop_eq_nil_of_le h]; simp
theorem near_split (y rest : Int) (s : Int × Int) : nearB y rest s = (decide (y - s.1 < rest) && decide (-(y - s.1) < rest)) := by
  unfold nearB
  rw [Bool.eq_iff_iff]; simp; omega
theorem fresh_split (y heal s : Int) : freshB y heal s = (decide (s ≤ y) && decide (y - s < heal)) := by
  unfold freshB
  rw [Bool.eq_iff_iff]; simp

set_option maxRecDepth 100000 in
set_option maxHeartbeats 4000000 in
theorem refRule_rest (age rest girth f0 f1 f2 heal : Int) (code : ByteArray) (bmin bmax taped gmin gmax wmin wmax : Int) (sa : Option Addr) (sc : Nat) (wa : Option Addr) (wn wc : Nat) (dead : Int) (year height : Int) (xs : List (Int × Int)) (lo hi : Int) (n : Nat) (w : World) (hy0 : 0 ≤ year) (hy1 : year ≤ 300) (hx : ∀ s ∈ xs, 0 ≤ s.1 ∧ s.1 ≤ 300) (hl : (xs.length : Int) ≤ 140737488355328) (hH : Held w.heap.size w 2 stripCells (.slice sa xs.length sc) xs)
    (hG : ∀ W, Calls Try.prog 37 #[.agg #[.string code, .int .i64 bmin, .int .i64 bmax, .int .i64 taped, .int .i64 gmin, .int .i64 gmax, .int .i64 wmin, .int .i64 wmax, .slice sa xs.length sc, .slice wa wn wc, .int .i64 dead], .int .i64 year] W fun e w' => e = .returned (.agg #[.int .i64 lo, .int .i64 hi]) ∧ Below W.heap.size W w')
    (hN : ∀ W, Below w.heap.size w W → Calls Try.prog 48 #[.agg #[.string code, .int .i64 bmin, .int .i64 bmax, .int .i64 taped, .int .i64 gmin, .int .i64 gmax, .int .i64 wmin, .int .i64 wmax, .slice sa xs.length sc, .slice wa wn wc, .int .i64 dead], .int .i64 year] W fun e w' => e = .returned (.int .i64 (n : Nat)) ∧ Below W.heap.size W w') :
    Calls Try.prog 69 #[.agg #[.int .i64 age, .int .i64 rest, .int .i64 girth, .int .i64 f0, .int .i64 f1, .int .i64 f2, .int .i64 heal], .agg #[.string code, .int .i64 bmin, .int .i64 bmax, .int .i64 taped, .int .i64 gmin, .int .i64 gmax, .int .i64 wmin, .int .i64 wmax, .slice sa xs.length sc, .slice wa wn wc, .int .i64 dead], .int .i64 year, .int .i64 height, .int .i64 3] w fun e w' => e = .returned (.tuple #[.bool (!(xs.any (nearB year rest))), .bool (xs.any (nearB year rest))]) ∧ Below w.heap.size w w' := by
  have hr : xs.any (nearB year rest) = (false || (xs.drop 0).any (nearB year rest)) := rfl
  generalize xs.any (nearB year rest) = r at hr ⊢
  have HR := Lib.hid hr; clear hr
  have HS := Lib.hid hH; clear hH
  have HX := Lib.hid hx; clear hx
  have HG := Lib.hid hG; clear hG
  have HN := Lib.hid hN; clear hN
  have HB0 := Lib.hid (show Below w.heap.size w ((w.alloc (.cells #[.int .i64 age, .int .i64 rest, .int .i64 girth, .int .i64 f0, .int .i64 f1, .int .i64 f2, .int .i64 heal] 24)).alloc (.cells #[.string code, .int .i64 bmin, .int .i64 bmax, .int .i64 taped, .int .i64 gmin, .int .i64 gmax, .int .i64 wmin, .int .i64 wmax, .slice sa xs.length sc, .slice wa wn wc, .int .i64 dead] 53)) from ((Below.refl _ _).alloc (Nat.le_refl _) _).alloc (by simp) _)
  have KL := Lib.hid (show Blk ((w.alloc (.cells #[.int .i64 age, .int .i64 rest, .int .i64 girth, .int .i64 f0, .int .i64 f1, .int .i64 f2, .int .i64 heal] 24)).alloc (.cells #[.string code, .int .i64 bmin, .int .i64 bmax, .int .i64 taped, .int .i64 gmin, .int .i64 gmax, .int .i64 wmin, .int .i64 wmax, .slice sa xs.length sc, .slice wa wn wc, .int .i64 dead] 53)) w.heap.size 24 #[.int .i64 age, .int .i64 rest, .int .i64 girth, .int .i64 f0, .int .i64 f1, .int .i64 f2, .int .i64 heal] from (Blk.new w _ _).alloc _)
  have KT := Lib.hid (show Blk ((w.alloc (.cells #[.int .i64 age, .int .i64 rest, .int .i64 girth, .int .i64 f0, .int .i64 f1, .int .i64 f2, .int .i64 heal] 24)).alloc (.cells #[.string code, .int .i64 bmin, .int .i64 bmax, .int .i64 taped, .int .i64 gmin, .int .i64 gmax, .int .i64 wmin, .int .i64 wmax, .slice sa xs.length sc, .slice wa wn wc, .int .i64 dead] 53)) (w.heap.size + 1) 53 #[.string code, .int .i64 bmin, .int .i64 bmax, .int .i64 taped, .int .i64 gmin, .int .i64 gmax, .int .i64 wmin, .int .i64 wmax, .slice sa xs.length sc, .slice wa wn wc, .int .i64 dead] from two_new w _ _ _ _)
  go_enter Try.func69, Try.ntmps69
  go_wp2_with fail
  refine (HG.out _).mono ?_
  rintro e w1 ⟨rfl, hw1⟩
  have hB1 := HB0.out.trans (hw1.mono HB0.out.size)
  have kl1 := Lib.hid (KL.out.below hw1 KL.out.lt)
  have kt1 := Lib.hid (KT.out.below hw1 KT.out.lt)
  have t0 : w1.cell? ⟨w.heap.size + 1, 0, none⟩ = some (Value.string code) := kt1.out.cell 0
  have t1 : w1.cell? ⟨w.heap.size + 1, 1, none⟩ = some (Value.int .i64 bmin) := kt1.out.cell 1
  have t2 : w1.cell? ⟨w.heap.size + 1, 2, none⟩ = some (Value.int .i64 bmax) := kt1.out.cell 2
  have t3 : w1.cell? ⟨w.heap.size + 1, 3, none⟩ = some (Value.int .i64 taped) := kt1.out.cell 3
  have t4 : w1.cell? ⟨w.heap.size + 1, 4, none⟩ = some (Value.int .i64 gmin) := kt1.out.cell 4
  have t5 : w1.cell? ⟨w.heap.size + 1, 5, none⟩ = some (Value.int .i64 gmax) := kt1.out.cell 5
  have t6 : w1.cell? ⟨w.heap.size + 1, 6, none⟩ = some (Value.int .i64 wmin) := kt1.out.cell 6
  have t7 : w1.cell? ⟨w.heap.size + 1, 7, none⟩ = some (Value.int .i64 wmax) := kt1.out.cell 7
  have t8 : w1.cell? ⟨w.heap.size + 1, 8, none⟩ = some (Value.slice sa xs.length sc) := kt1.out.cell 8
  have t9 : w1.cell? ⟨w.heap.size + 1, 9, none⟩ = some (Value.slice wa wn wc) := kt1.out.cell 9
  have t10 : w1.cell? ⟨w.heap.size + 1, 10, none⟩ = some (Value.int .i64 dead) := kt1.out.cell 10
  have hz1 : w.heap.size + 1 < w1.heap.size := kt1.out.lt
  clear hw1 HB0 KL KT
  go_wp2_with fail
  clear t0 t1 t2 t3 t4 t5 t6 t7 t8 t9 t10
  have hB2 := hB1.alloc hB1.size (.cells #[.int .i64 lo, .int .i64 hi] 31)
  refine (HN.out _ hB2).mono ?_
  rintro e w2 ⟨rfl, hw2⟩
  have hB3 := hB2.trans (hw2.mono hB2.size)
  have kl2 := Lib.hid ((kl1.out.alloc (.cells #[.int .i64 lo, .int .i64 hi] 31)).below hw2 (by simp; omega))
  have kt2 := Lib.hid ((kt1.out.alloc (.cells #[.int .i64 lo, .int .i64 hi] 31)).below hw2 (by simp; omega))
  have kg2 := Lib.hid ((Blk.new w1 31 #[.int .i64 lo, .int .i64 hi]).below hw2 (by simp))
  have l1 : w2.cell? ⟨w.heap.size, 1, none⟩ = some (Value.int .i64 rest) := kl2.out.cell 1
  have t8 : w2.cell? ⟨w.heap.size + 1, 8, none⟩ = some (Value.slice sa xs.length sc) := kt2.out.cell 8
  clear kl1 kt1 hw2 hB2 hB1
  have HB3 := Lib.hid hB3
  go_wp2
  go_loop [11, 14] (fun br i => ∃ (k : Nat) (bro : Bool), k ≤ xs.length ∧ i = .int .i64 k ∧ br = .bool bro ∧ Hid (r = (bro || (xs.drop k).any (nearB year rest)))) (fun _ i => xs.length - (intOf i).toNat)
  case atStart => exact ⟨0, false, by omega, rfl, rfl, HR⟩
  case round =>
    clear HR
    obtain ⟨k, bro, hk, rfl, rfl, HR⟩ := hrel
    by_cases hlt : k < xs.length
    · obtain ⟨b, off, rfl, hb, hc⟩ := HS.out.place hlt
      have c0 : w2.cell? ⟨b, off + k * 2, none⟩ = some (.int .i64 xs[k]!.1) := (hB3.cell (p := ⟨b, off + k * 2, none⟩) hb).trans (hc k hlt 0 _ rfl)
      clear hc
      obtain ⟨m0, m1⟩ := HX.out xs[k]! (by rw [getElem!_pos xs k hlt]; exact List.getElem_mem hlt)
      have hN := acc_step _ xs k hlt r bro HR.out
      rw [near_split] at hN
      generalize xs[k]!.1 = y at c0 m0 m1 hN
      have HN := Lib.hid hN; clear hN
      have w0 : -300 ≤ year - y := by omega
      have w1' : year - y ≤ 300 := by omega
      cases bro
      · cases e1 : decide (year - y < rest)
        · go_wp2
          exact ⟨⟨k + 1, false, by omega, by go_num, rfl, by rw [e1] at HN; exact HN⟩, by simp [intOf]; omega⟩
        · cases e2 : decide (-(year - y) < rest)
          · go_wp2
            exact ⟨⟨k + 1, false, by omega, by go_num, rfl, by rw [e1, e2] at HN; exact HN⟩, by simp [intOf]; omega⟩
          · go_wp2
            exact ⟨⟨k + 1, true, by omega, by go_num, rfl, by rw [e1, e2] at HN; exact HN⟩, by simp [intOf]; omega⟩
      · go_wp2
        exact ⟨⟨k + 1, true, by omega, by go_num, rfl, by rw [Bool.true_or] at HN; exact HN⟩, by simp [intOf]; omega⟩
    · have hT := acc_end _ xs k (by omega) r bro HR.out
      have hge : xs.length ≤ k := by omega
      subst hT
      go_wp2
      go_ret2
      exact ⟨rfl, hB3⟩

set_option maxRecDepth 100000 in
set_option maxHeartbeats 4000000 in
theorem refRule_heal (age rest girth f0 f1 f2 heal : Int) (code : ByteArray) (bmin bmax taped gmin gmax wmin wmax : Int) (sa : Option Addr) (sn sc : Nat) (wa : Option Addr) (wc : Nat) (dead : Int) (year height : Int) (xs : List Int) (lo hi : Int) (n : Nat) (w : World) (hy0 : 0 ≤ year) (hy1 : year ≤ 300) (hx : ∀ s ∈ xs, 0 ≤ s ∧ s ≤ 300) (hl : (xs.length : Int) ≤ 140737488355328) (hH : Held w.heap.size w 1 intCells (.slice wa xs.length wc) xs)
    (hG : ∀ W, Calls Try.prog 37 #[.agg #[.string code, .int .i64 bmin, .int .i64 bmax, .int .i64 taped, .int .i64 gmin, .int .i64 gmax, .int .i64 wmin, .int .i64 wmax, .slice sa sn sc, .slice wa xs.length wc, .int .i64 dead], .int .i64 year] W fun e w' => e = .returned (.agg #[.int .i64 lo, .int .i64 hi]) ∧ Below W.heap.size W w')
    (hN : ∀ W, Below w.heap.size w W → Calls Try.prog 48 #[.agg #[.string code, .int .i64 bmin, .int .i64 bmax, .int .i64 taped, .int .i64 gmin, .int .i64 gmax, .int .i64 wmin, .int .i64 wmax, .slice sa sn sc, .slice wa xs.length wc, .int .i64 dead], .int .i64 year] W fun e w' => e = .returned (.int .i64 (n : Nat)) ∧ Below W.heap.size W w') :
    Calls Try.prog 69 #[.agg #[.int .i64 age, .int .i64 rest, .int .i64 girth, .int .i64 f0, .int .i64 f1, .int .i64 f2, .int .i64 heal], .agg #[.string code, .int .i64 bmin, .int .i64 bmax, .int .i64 taped, .int .i64 gmin, .int .i64 gmax, .int .i64 wmin, .int .i64 wmax, .slice sa sn sc, .slice wa xs.length wc, .int .i64 dead], .int .i64 year, .int .i64 height, .int .i64 4] w fun e w' => e = .returned (.tuple #[.bool (!(xs.any (freshB year heal))), .bool (xs.any (freshB year heal))]) ∧ Below w.heap.size w w' := by
  have hr : xs.any (freshB year heal) = (false || (xs.drop 0).any (freshB year heal)) := rfl
  generalize xs.any (freshB year heal) = r at hr ⊢
  have HR := Lib.hid hr; clear hr
  have HS := Lib.hid hH; clear hH
  have HX := Lib.hid hx; clear hx
  have HG := Lib.hid hG; clear hG
  have HN := Lib.hid hN; clear hN
  have HB0 := Lib.hid (show Below w.heap.size w ((w.alloc (.cells #[.int .i64 age, .int .i64 rest, .int .i64 girth, .int .i64 f0, .int .i64 f1, .int .i64 f2, .int .i64 heal] 24)).alloc (.cells #[.string code, .int .i64 bmin, .int .i64 bmax, .int .i64 taped, .int .i64 gmin, .int .i64 gmax, .int .i64 wmin, .int .i64 wmax, .slice sa sn sc, .slice wa xs.length wc, .int .i64 dead] 53)) from ((Below.refl _ _).alloc (Nat.le_refl _) _).alloc (by simp) _)
  have KL := Lib.hid (show Blk ((w.alloc (.cells #[.int .i64 age, .int .i64 rest, .int .i64 girth, .int .i64 f0, .int .i64 f1, .int .i64 f2, .int .i64 heal] 24)).alloc (.cells #[.string code, .int .i64 bmin, .int .i64 bmax, .int .i64 taped, .int .i64 gmin, .int .i64 gmax, .int .i64 wmin, .int .i64 wmax, .slice sa sn sc, .slice wa xs.length wc, .int .i64 dead] 53)) w.heap.size 24 #[.int .i64 age, .int .i64 rest, .int .i64 girth, .int .i64 f0, .int .i64 f1, .int .i64 f2, .int .i64 heal] from (Blk.new w _ _).alloc _)
  have KT := Lib.hid (show Blk ((w.alloc (.cells #[.int .i64 age, .int .i64 rest, .int .i64 girth, .int .i64 f0, .int .i64 f1, .int .i64 f2, .int .i64 heal] 24)).alloc (.cells #[.string code, .int .i64 bmin, .int .i64 bmax, .int .i64 taped, .int .i64 gmin, .int .i64 gmax, .int .i64 wmin, .int .i64 wmax, .slice sa sn sc, .slice wa xs.length wc, .int .i64 dead] 53)) (w.heap.size + 1) 53 #[.string code, .int .i64 bmin, .int .i64 bmax, .int .i64 taped, .int .i64 gmin, .int .i64 gmax, .int .i64 wmin, .int .i64 wmax, .slice sa sn sc, .slice wa xs.length wc, .int .i64 dead] from two_new w _ _ _ _)
  go_enter Try.func69, Try.ntmps69
  go_wp2_with fail
  refine (HG.out _).mono ?_
  rintro e w1 ⟨rfl, hw1⟩
  have hB1 := HB0.out.trans (hw1.mono HB0.out.size)
  have kl1 := Lib.hid (KL.out.below hw1 KL.out.lt)
  have kt1 := Lib.hid (KT.out.below hw1 KT.out.lt)
  have t0 : w1.cell? ⟨w.heap.size + 1, 0, none⟩ = some (Value.string code) := kt1.out.cell 0
  have t1 : w1.cell? ⟨w.heap.size + 1, 1, none⟩ = some (Value.int .i64 bmin) := kt1.out.cell 1
  have t2 : w1.cell? ⟨w.heap.size + 1, 2, none⟩ = some (Value.int .i64 bmax) := kt1.out.cell 2
  have t3 : w1.cell? ⟨w.heap.size + 1, 3, none⟩ = some (Value.int .i64 taped) := kt1.out.cell 3
  have t4 : w1.cell? ⟨w.heap.size + 1, 4, none⟩ = some (Value.int .i64 gmin) := kt1.out.cell 4
  have t5 : w1.cell? ⟨w.heap.size + 1, 5, none⟩ = some (Value.int .i64 gmax) := kt1.out.cell 5
  have t6 : w1.cell? ⟨w.heap.size + 1, 6, none⟩ = some (Value.int .i64 wmin) := kt1.out.cell 6
  have t7 : w1.cell? ⟨w.heap.size + 1, 7, none⟩ = some (Value.int .i64 wmax) := kt1.out.cell 7
  have t8 : w1.cell? ⟨w.heap.size + 1, 8, none⟩ = some (Value.slice sa sn sc) := kt1.out.cell 8
  have t9 : w1.cell? ⟨w.heap.size + 1, 9, none⟩ = some (Value.slice wa xs.length wc) := kt1.out.cell 9
  have t10 : w1.cell? ⟨w.heap.size + 1, 10, none⟩ = some (Value.int .i64 dead) := kt1.out.cell 10
  have hz1 : w.heap.size + 1 < w1.heap.size := kt1.out.lt
  clear hw1 HB0 KL KT
  go_wp2_with fail
  clear t0 t1 t2 t3 t4 t5 t6 t7 t8 t9 t10
  have hB2 := hB1.alloc hB1.size (.cells #[.int .i64 lo, .int .i64 hi] 31)
  refine (HN.out _ hB2).mono ?_
  rintro e w2 ⟨rfl, hw2⟩
  have hB3 := hB2.trans (hw2.mono hB2.size)
  have kl2 := Lib.hid ((kl1.out.alloc (.cells #[.int .i64 lo, .int .i64 hi] 31)).below hw2 (by simp; omega))
  have kt2 := Lib.hid ((kt1.out.alloc (.cells #[.int .i64 lo, .int .i64 hi] 31)).below hw2 (by simp; omega))
  have kg2 := Lib.hid ((Blk.new w1 31 #[.int .i64 lo, .int .i64 hi]).below hw2 (by simp))
  have l6 : w2.cell? ⟨w.heap.size, 6, none⟩ = some (Value.int .i64 heal) := kl2.out.cell 6
  have t9 : w2.cell? ⟨w.heap.size + 1, 9, none⟩ = some (Value.slice wa xs.length wc) := kt2.out.cell 9
  clear kl1 kt1 hw2 hB2 hB1
  have HB3 := Lib.hid hB3
  go_wp2
  go_loop [11, 16] (fun br i => ∃ (k : Nat) (bro : Bool), k ≤ xs.length ∧ i = .int .i64 k ∧ br = .bool bro ∧ Hid (r = (bro || (xs.drop k).any (freshB year heal)))) (fun _ i => xs.length - (intOf i).toNat)
  case atStart => exact ⟨0, false, by omega, rfl, rfl, HR⟩
  case round =>
    clear HR
    obtain ⟨k, bro, hk, rfl, rfl, HR⟩ := hrel
    by_cases hlt : k < xs.length
    · obtain ⟨b, off, rfl, hb, hc⟩ := HS.out.place hlt
      have c0 : w2.cell? ⟨b, off + k, none⟩ = some (.int .i64 xs[k]!) := (hB3.cell (p := ⟨b, off + k, none⟩) hb).trans (by have := hc k hlt 0 _ rfl; rwa [Nat.mul_one, Nat.add_zero] at this)
      clear hc
      obtain ⟨m0, m1⟩ := HX.out xs[k]! (by rw [getElem!_pos xs k hlt]; exact List.getElem_mem hlt)
      have hN := acc_step _ xs k hlt r bro HR.out
      rw [fresh_split] at hN
      generalize xs[k]! = y at c0 m0 m1 hN
      have HN := Lib.hid hN; clear hN
      have w0 : -300 ≤ year - y := by omega
      have w1' : year - y ≤ 300 := by omega
      cases bro
      · cases e1 : decide (y ≤ year)
        · go_wp2
          exact ⟨⟨k + 1, false, by omega, by go_num, rfl, by rw [e1] at HN; exact HN⟩, by simp [intOf]; omega⟩
        · cases e2 : decide (year - y < heal)
          · go_wp2
            exact ⟨⟨k + 1, false, by omega, by go_num, rfl, by rw [e1, e2] at HN; exact HN⟩, by simp [intOf]; omega⟩
          · go_wp2
            exact ⟨⟨k + 1, true, by omega, by go_num, rfl, by rw [e1, e2] at HN; exact HN⟩, by simp [intOf]; omega⟩
      · go_wp2
        exact ⟨⟨k + 1, true, by omega, by go_num, rfl, by rw [Bool.true_or] at HN; exact HN⟩, by simp [intOf]; omega⟩
    · have hT := acc_end _ xs k (by omega) r bro HR.out
      have hge : xs.length ≤ k := by omega
      subst hT
      go_wp2
      go_ret2
      exact ⟨rfl, hB3⟩
end Go.Proofs.Ytajbflepjpgnbaa

/-! The document's own answers: a rule, the verdict on a tree. -/
namespace Go.Proofs.Ytajbflepjpgnbaa
open Go.RowKit Go.Shelf

theorem jv_range (l : Law) (t : Tree) (y h : Int) (k : Nat) : jv l t y h k = 0 ∨ jv l t y h k = 1 ∨ jv l t y h k = 2 := by
  have hj : ∀ a b : Bool, judged a b = 0 ∨ judged a b = 1 ∨ judged a b = 2 := by decide
  match k with
  | 0 => exact hj _ _
  | 1 => exact hj _ _
  | 2 => exact hj _ _
  | 3 => exact hj _ _
  | 4 =>
    show (if 0 < countBefore t.strips y then (1 : Int) else judged _ _) = 0 ∨ _
    by_cases hn : 0 < countBefore t.strips y
    · rw [show jv l t y h 4 = 1 from if_pos hn, if_pos hn]; decide
    · rw [show jv l t y h 4 = _ from if_neg hn, if_neg hn]; exact hj _ _
  | k + 5 => exact hj _ _

theorem judged_same (a : Bool) : decide (judged a a = 1) = a ∧ decide (judged a a = 2) = !a := by cases a <;> decide
theorem judged_kept (a b : Bool) : decide (judged a b = 1) = a := by cases a <;> cases b <;> decide
theorem judged_broken (a b : Bool) (h : a = true → b = true) : decide (judged a b = 2) = !b := by
  cases a <;> cases b <;> first | decide | (exact absurd (h rfl) (by decide))
theorem not_le_lt (a b : Int) : (!decide (a ≤ b)) = decide (b < a) := by
  rw [Bool.eq_iff_iff]; simp

/-- What a rule's two answers are. -/
def ruleAns (l : Law) (t : Tree) (y h : Int) (k : Nat) : Bool × Bool := (decide (jv l t y h k = 1), decide (jv l t y h k = 2))

theorem refRule_calls (l : Law) (t : Tree) (y h : Int) (w : World) (hl : LawFine l) (ht : TreeFine t) (hH : TreeHeld w.heap.size w t) (hy0 : 0 ≤ y) (hy1 : y ≤ 300) (hh0 : 1 ≤ h) (hh1 : h ≤ 15000) (k : Nat) (hk : k < 6) :
    Calls Try.prog 69 #[.agg l.cells.toArray, .agg t.cells.toArray, .int .i64 y, .int .i64 h, .int .i64 ((k : Int) + 1)] w fun e w' => e = .returned (.tuple #[.bool (ruleAns l t y h k).1, .bool (ruleAns l t y h k).2]) ∧ Below w.heap.size w w' := by
  have hG : ∀ W, Calls Try.prog 37 #[.agg t.cells.toArray, .int .i64 y] W fun e w' => e = .returned (.agg #[.int .i64 (girthMin t y), .int .i64 (girthMax t y)]) ∧ Below W.heap.size W w' := fun W => refGirth_says t y w.heap.size w ht hH hy0 hy1 W
  have hN : ∀ W, Below w.heap.size w W → Calls Try.prog 48 #[.agg t.cells.toArray, .int .i64 y] W fun e w' => e = .returned (.int .i64 (countBefore t.strips y : Nat)) ∧ Below W.heap.size W w' := fun W hW => refBefore_calls t y w.heap.size W hW.size (hH.below hW)
  obtain ⟨gb0, gb1, gb2⟩ := girth_bounds t y ht hy0 hy1
  obtain ⟨fb0, fb1⟩ := factor_bounds l hl (countBefore t.strips y)
  have p := mul_bounds (a := factor l (countBefore t.strips y)) (b := girthMin t y) (A := 50) (B := 21000) fb0 fb1 gb0 (by omega)
  have q := mul_bounds (a := factor l (countBefore t.strips y)) (b := girthMax t y) (A := 50) (B := 21000) fb0 fb1 (by omega) gb2
  have hfac : factor l (countBefore t.strips y) * girthMin t y ≤ factor l (countBefore t.strips y) * girthMax t y := Int.mul_le_mul_of_nonneg_left gb1 fb0
  obtain ⟨⟨b0, b1, b2⟩, ⟨t0, t1⟩, ⟨g0, g1, g2⟩, ⟨w0, w1, w2⟩, hs, hw⟩ := ht
  obtain ⟨sa, sn, sc, es⟩ := hH.1.slice
  obtain ⟨wa, wn, wc, ew⟩ := hH.2.1.slice
  have hS := hH.1
  have hWd := hH.2.1
  rw [es] at hS
  rw [ew] at hWd
  have ns := hS.count
  have nw := hWd.count
  unfold ruleAns
  simp only [Tree.cells, Law.cells] at hG hN ⊢
  rw [es, ew] at hG hN ⊢
  match k, hk with
  | 0, _ =>
    show Calls _ _ _ _ fun e w' => e = .returned (.tuple #[.bool (decide (judged (decide (t.dead = -1 ∨ y < t.dead)) (decide (t.dead = -1 ∨ y < t.dead)) = 1)), .bool (decide (judged (decide (t.dead = -1 ∨ y < t.dead)) (decide (t.dead = -1 ∨ y < t.dead)) = 2))]) ∧ _
    rw [(judged_same _).1, (judged_same _).2]
    by_cases hd : t.dead = -1
    · rw [decide_eq_true (p := t.dead = -1 ∨ y < t.dead) (.inl hd)]
      exact refRule_dead l.age l.rest l.girth l.f0 l.f1 l.f2 l.heal t.code t.bmin t.bmax t.taped t.gmin t.gmax t.wmin t.wmax sa sn sc wa wn wc t.dead y h _ _ _ w (beq_iff_eq.2 hd) hG hN
    · rw [show decide (t.dead = -1 ∨ y < t.dead) = decide (y < t.dead) from by simp [hd]]
      exact refRule_dead2 l.age l.rest l.girth l.f0 l.f1 l.f2 l.heal t.code t.bmin t.bmax t.taped t.gmin t.gmax t.wmin t.wmax sa sn sc wa wn wc t.dead y h _ _ _ w (beq_eq_false_iff_ne.2 hd) hG hN
  | 1, _ =>
    show Calls _ _ _ _ fun e w' => e = .returned (.tuple #[.bool (decide (judged (decide (l.age ≤ y - t.bmax)) (decide (l.age ≤ y - t.bmin)) = 1)), .bool (decide (judged (decide (l.age ≤ y - t.bmax)) (decide (l.age ≤ y - t.bmin)) = 2))]) ∧ _
    rw [judged_kept, judged_broken _ _ (by simp; omega), not_le_lt]
    exact refRule_age l.age l.rest l.girth l.f0 l.f1 l.f2 l.heal t.code t.bmin t.bmax t.taped t.gmin t.gmax t.wmin t.wmax sa sn sc wa wn wc t.dead y h _ _ _ w hy0 hy1 b0 (by omega) (by omega) b2 hG hN
  | 2, _ =>
    show Calls _ _ _ _ fun e w' => e = .returned (.tuple #[.bool (decide (judged (!t.strips.any (nearB y l.rest)) (!t.strips.any (nearB y l.rest)) = 1)), .bool (decide (judged (!t.strips.any (nearB y l.rest)) (!t.strips.any (nearB y l.rest)) = 2))]) ∧ _
    rw [(judged_same _).1, (judged_same _).2, Bool.not_not]
    have hsh := hS.short
    subst ns
    exact refRule_rest l.age l.rest l.girth l.f0 l.f1 l.f2 l.heal t.code t.bmin t.bmax t.taped t.gmin t.gmax t.wmin t.wmax sa sc wa wn wc t.dead y h t.strips _ _ _ w hy0 hy1 hs (by omega) hS hG hN
  | 3, _ =>
    show Calls _ _ _ _ fun e w' => e = .returned (.tuple #[.bool (decide (judged (!t.wounds.any (freshB y l.heal)) (!t.wounds.any (freshB y l.heal)) = 1)), .bool (decide (judged (!t.wounds.any (freshB y l.heal)) (!t.wounds.any (freshB y l.heal)) = 2))]) ∧ _
    rw [(judged_same _).1, (judged_same _).2, Bool.not_not]
    have hsh := hWd.short
    subst nw
    exact refRule_heal l.age l.rest l.girth l.f0 l.f1 l.f2 l.heal t.code t.bmin t.bmax t.taped t.gmin t.gmax t.wmin t.wmax sa sn sc wa wc t.dead y h t.wounds _ _ _ w hy0 hy1 hw (by omega) hWd hG hN
  | 4, _ =>
    by_cases hn : 0 < countBefore t.strips y
    · rw [show jv l t y h 4 = 1 from if_pos hn]
      exact refRule_girth_yes l.age l.rest l.girth l.f0 l.f1 l.f2 l.heal t.code t.bmin t.bmax t.taped t.gmin t.gmax t.wmin t.wmax sa sn sc wa wn wc t.dead y h _ _ _ w hn hG hN
    · rw [show jv l t y h 4 = judged (decide (l.girth ≤ girthMin t y)) (decide (l.girth ≤ girthMax t y)) from if_neg hn]
      rw [judged_kept, judged_broken _ _ (by simp; omega), not_le_lt]
      exact refRule_girth_no l.age l.rest l.girth l.f0 l.f1 l.f2 l.heal t.code t.bmin t.bmax t.taped t.gmin t.gmax t.wmin t.wmax sa sn sc wa wn wc t.dead y h _ _ _ w (by omega) hG hN
  | 5, _ =>
    show Calls _ _ _ _ fun e w' => e = .returned (.tuple #[.bool (decide (judged (decide (10 * h ≤ factor l (countBefore t.strips y) * girthMin t y)) (decide (10 * h ≤ factor l (countBefore t.strips y) * girthMax t y)) = 1)), .bool (decide (judged (decide (10 * h ≤ factor l (countBefore t.strips y) * girthMin t y)) (decide (10 * h ≤ factor l (countBefore t.strips y) * girthMax t y)) = 2))]) ∧ _
    rw [judged_kept, judged_broken _ _ (by simp; omega), not_le_lt]
    generalize countBefore t.strips y = n at p q hN
    match n with
    | 0 => exact refRule_height_none l.age l.rest l.girth l.f0 l.f1 l.f2 l.heal t.code t.bmin t.bmax t.taped t.gmin t.gmax t.wmin t.wmax sa sn sc wa wn wc t.dead y h _ _ _ w rfl hh0 hh1 p.1 (Int.le_trans p.2 (by omega)) q.1 (Int.le_trans q.2 (by omega)) hG hN
    | 1 => exact refRule_height_one l.age l.rest l.girth l.f0 l.f1 l.f2 l.heal t.code t.bmin t.bmax t.taped t.gmin t.gmax t.wmin t.wmax sa sn sc wa wn wc t.dead y h _ _ _ w rfl hh0 hh1 p.1 (Int.le_trans p.2 (by omega)) q.1 (Int.le_trans q.2 (by omega)) hG hN
    | 2 => exact refRule_height_two l.age l.rest l.girth l.f0 l.f1 l.f2 l.heal t.code t.bmin t.bmax t.taped t.gmin t.gmax t.wmin t.wmax sa sn sc wa wn wc t.dead y h _ _ _ w rfl hh0 hh1 p.1 (Int.le_trans p.2 (by omega)) q.1 (Int.le_trans q.2 (by omega)) hG hN
    | n + 3 => exact refRule_height_more l.age l.rest l.girth l.f0 l.f1 l.f2 l.heal t.code t.bmin t.bmax t.taped t.gmin t.gmax t.wmin t.wmax sa sn sc wa wn wc t.dead y h _ _ (n + 3) w (by omega) hh0 hh1 p.1 (Int.le_trans p.2 (by omega)) q.1 (Int.le_trans q.2 (by omega)) hG hN

/-! ### The verdict by its first places -/

theorem place_list (p : Fin 6 → Bool) : firstPlace p = [0, 1, 2, 3, 4, 5].find? p := by kernel_rfl

theorem place_first (p : Nat → Bool) (k : Nat) (hk : k < 6) (h : ∀ j, j < k → p j = false) (hp : p k = true) : firstPlace (fun x => p x.val) = some ⟨k, hk⟩ := by
  rw [place_list]
  match k, hk with
  | 0, _ =>
    have f0 : p (0 : Fin 6).val = true := hp
    simp only [List.find?_cons, f0] <;> rfl
  | 1, _ =>
    have f0 : p (0 : Fin 6).val = false := h 0 (by omega)
    have f1 : p (1 : Fin 6).val = true := hp
    simp only [List.find?_cons, f0, f1] <;> rfl
  | 2, _ =>
    have f0 : p (0 : Fin 6).val = false := h 0 (by omega)
    have f1 : p (1 : Fin 6).val = false := h 1 (by omega)
    have f2 : p (2 : Fin 6).val = true := hp
    simp only [List.find?_cons, f0, f1, f2] <;> rfl
  | 3, _ =>
    have f0 : p (0 : Fin 6).val = false := h 0 (by omega)
    have f1 : p (1 : Fin 6).val = false := h 1 (by omega)
    have f2 : p (2 : Fin 6).val = false := h 2 (by omega)
    have f3 : p (3 : Fin 6).val = true := hp
    simp only [List.find?_cons, f0, f1, f2, f3] <;> rfl
  | 4, _ =>
    have f0 : p (0 : Fin 6).val = false := h 0 (by omega)
    have f1 : p (1 : Fin 6).val = false := h 1 (by omega)
    have f2 : p (2 : Fin 6).val = false := h 2 (by omega)
    have f3 : p (3 : Fin 6).val = false := h 3 (by omega)
    have f4 : p (4 : Fin 6).val = true := hp
    simp only [List.find?_cons, f0, f1, f2, f3, f4] <;> rfl
  | 5, _ =>
    have f0 : p (0 : Fin 6).val = false := h 0 (by omega)
    have f1 : p (1 : Fin 6).val = false := h 1 (by omega)
    have f2 : p (2 : Fin 6).val = false := h 2 (by omega)
    have f3 : p (3 : Fin 6).val = false := h 3 (by omega)
    have f4 : p (4 : Fin 6).val = false := h 4 (by omega)
    have f5 : p (5 : Fin 6).val = true := hp
    simp only [List.find?_cons, f0, f1, f2, f3, f4, f5] <;> rfl
theorem place_none (p : Nat → Bool) (h : ∀ j, j < 6 → p j = false) : firstPlace (fun x => p x.val) = none := by
  rw [place_list]
  have f0 : p (0 : Fin 6).val = false := h 0 (by omega)
  have f1 : p (1 : Fin 6).val = false := h 1 (by omega)
  have f2 : p (2 : Fin 6).val = false := h 2 (by omega)
  have f3 : p (3 : Fin 6).val = false := h 3 (by omega)
  have f4 : p (4 : Fin 6).val = false := h 4 (by omega)
  have f5 : p (5 : Fin 6).val = false := h 5 (by omega)
  simp only [List.find?_cons, List.find?_nil, f0, f1, f2, f3, f4, f5]

theorem verdict_two (vs : Nat → Int) (k : Nat) (hk : k < 6) (h : ∀ j, j < k → ¬ vs j = 2) (hp : vs k = 2) : verdictV vs = (2, (k : Int) + 1) := by
  unfold verdictV
  rw [place_first (fun j => vs j == 2) k hk (fun j hj => beq_eq_false_iff_ne.2 (h j hj)) (beq_iff_eq.2 hp)]
theorem verdict_zero (vs : Nat → Int) (k : Nat) (hk : k < 6) (h2 : ∀ j, j < 6 → ¬ vs j = 2) (h : ∀ j, j < k → ¬ vs j = 0) (hp : vs k = 0) : verdictV vs = (0, (k : Int) + 1) := by
  unfold verdictV
  rw [place_none (fun j => vs j == 2) (fun j hj => beq_eq_false_iff_ne.2 (h2 j hj)), place_first (fun j => vs j == 0) k hk (fun j hj => beq_eq_false_iff_ne.2 (h j hj)) (beq_iff_eq.2 hp)]
theorem verdict_one (vs : Nat → Int) (h2 : ∀ j, j < 6 → ¬ vs j = 2) (h : ∀ j, j < 6 → ¬ vs j = 0) : verdictV vs = (1, 0) := by
  unfold verdictV
  rw [place_none (fun j => vs j == 2) (fun j hj => beq_eq_false_iff_ne.2 (h2 j hj)), place_none (fun j => vs j == 0) (fun j hj => beq_eq_false_iff_ne.2 (h j hj))]

set_option maxRecDepth 100000 in
set_option maxHeartbeats 4000000 in
theorem refMay_walk (age rest girth f0 f1 f2 heal : Int) (code : ByteArray) (bmin bmax taped gmin gmax wmin wmax : Int) (sa : Option Addr) (sn sc : Nat) (wa : Option Addr) (wn wc : Nat) (dead : Int) (year height : Int) (vs : Nat → Int) (w : World) (hv : ∀ k, vs k = 0 ∨ vs k = 1 ∨ vs k = 2)
    (hR : ∀ W, Below w.heap.size w W → ∀ k : Nat, k < 6 → Calls Try.prog 69 #[.agg #[.int .i64 age, .int .i64 rest, .int .i64 girth, .int .i64 f0, .int .i64 f1, .int .i64 f2, .int .i64 heal], .agg #[.string code, .int .i64 bmin, .int .i64 bmax, .int .i64 taped, .int .i64 gmin, .int .i64 gmax, .int .i64 wmin, .int .i64 wmax, .slice sa sn sc, .slice wa wn wc, .int .i64 dead], .int .i64 year, .int .i64 height, .int .i64 ((k : Int) + 1)] W fun e w' => e = .returned (.tuple #[.bool (decide (vs k = 1)), .bool (decide (vs k = 2))]) ∧ Below W.heap.size W w') :
    Calls Try.prog 44 #[.agg #[.int .i64 age, .int .i64 rest, .int .i64 girth, .int .i64 f0, .int .i64 f1, .int .i64 f2, .int .i64 heal], .agg #[.string code, .int .i64 bmin, .int .i64 bmax, .int .i64 taped, .int .i64 gmin, .int .i64 gmax, .int .i64 wmin, .int .i64 wmax, .slice sa sn sc, .slice wa wn wc, .int .i64 dead], .int .i64 year, .int .i64 height] w fun e w' => e = .returned (.tuple #[.int .i64 (verdictV vs).1, .int .i64 (verdictV vs).2]) ∧ Below w.heap.size w w' := by
  have HR := Lib.hid hR; clear hR
  have HV := Lib.hid hv; clear hv
  have HB0 := Lib.hid (show Below w.heap.size w ((w.alloc (.cells #[.int .i64 age, .int .i64 rest, .int .i64 girth, .int .i64 f0, .int .i64 f1, .int .i64 f2, .int .i64 heal] 24)).alloc (.cells #[.string code, .int .i64 bmin, .int .i64 bmax, .int .i64 taped, .int .i64 gmin, .int .i64 gmax, .int .i64 wmin, .int .i64 wmax, .slice sa sn sc, .slice wa wn wc, .int .i64 dead] 53)) from ((Below.refl _ _).alloc (Nat.le_refl _) _).alloc (by simp) _)
  have KL := Lib.hid (show Blk ((w.alloc (.cells #[.int .i64 age, .int .i64 rest, .int .i64 girth, .int .i64 f0, .int .i64 f1, .int .i64 f2, .int .i64 heal] 24)).alloc (.cells #[.string code, .int .i64 bmin, .int .i64 bmax, .int .i64 taped, .int .i64 gmin, .int .i64 gmax, .int .i64 wmin, .int .i64 wmax, .slice sa sn sc, .slice wa wn wc, .int .i64 dead] 53)) w.heap.size 24 #[.int .i64 age, .int .i64 rest, .int .i64 girth, .int .i64 f0, .int .i64 f1, .int .i64 f2, .int .i64 heal] from (Blk.new w _ _).alloc _)
  have KT := Lib.hid (show Blk ((w.alloc (.cells #[.int .i64 age, .int .i64 rest, .int .i64 girth, .int .i64 f0, .int .i64 f1, .int .i64 f2, .int .i64 heal] 24)).alloc (.cells #[.string code, .int .i64 bmin, .int .i64 bmax, .int .i64 taped, .int .i64 gmin, .int .i64 gmax, .int .i64 wmin, .int .i64 wmax, .slice sa sn sc, .slice wa wn wc, .int .i64 dead] 53)) (w.heap.size + 1) 53 #[.string code, .int .i64 bmin, .int .i64 bmax, .int .i64 taped, .int .i64 gmin, .int .i64 gmax, .int .i64 wmin, .int .i64 wmax, .slice sa sn sc, .slice wa wn wc, .int .i64 dead] from two_new w _ _ _ _)
  generalize hV : verdictV vs = v
  obtain ⟨v1, v2⟩ := v
  dsimp only
  have HVD := Lib.hid hV; clear hV
  go_enter Try.func44, Try.ntmps44
  go_wp2
  go_loopw [10] (fun r wr => ∃ k : Nat, k ≤ 6 ∧ r = .int .i64 ((k : Int) + 1) ∧ Hid (∀ j, j < k → ¬ vs j = 2) ∧ Below w.heap.size w wr ∧ Hid (Blk wr w.heap.size 24 #[.int .i64 age, .int .i64 rest, .int .i64 girth, .int .i64 f0, .int .i64 f1, .int .i64 f2, .int .i64 heal] ∧ Blk wr (w.heap.size + 1) 53 #[.string code, .int .i64 bmin, .int .i64 bmax, .int .i64 taped, .int .i64 gmin, .int .i64 gmax, .int .i64 wmin, .int .i64 wmax, .slice sa sn sc, .slice wa wn wc, .int .i64 dead])) (fun r _ => 7 - (intOf r).toNat)
  case atStart => exact ⟨0, by omega, rfl, Lib.hid (fun j hj => absurd hj (Nat.not_lt_zero _)), HB0.out, Lib.hid ⟨KL.out, KT.out⟩⟩
  case round =>
    clear HB0 KL KT
    obtain ⟨k, hk, rfl, HP, hB, HK⟩ := hrel
    by_cases hlt : k < 6
    · have hlt' : (k : Int) + 1 ≤ 6 := by omega
      have hcall := HR.out wr hB k hlt
      have l0 : wr.cell? ⟨w.heap.size, 0, none⟩ = some (Value.int .i64 age) := HK.out.1.cell 0
      have l1 : wr.cell? ⟨w.heap.size, 1, none⟩ = some (Value.int .i64 rest) := HK.out.1.cell 1
      have l2 : wr.cell? ⟨w.heap.size, 2, none⟩ = some (Value.int .i64 girth) := HK.out.1.cell 2
      have l3 : wr.cell? ⟨w.heap.size, 3, none⟩ = some (Value.int .i64 f0) := HK.out.1.cell 3
      have l4 : wr.cell? ⟨w.heap.size, 4, none⟩ = some (Value.int .i64 f1) := HK.out.1.cell 4
      have l5 : wr.cell? ⟨w.heap.size, 5, none⟩ = some (Value.int .i64 f2) := HK.out.1.cell 5
      have l6 : wr.cell? ⟨w.heap.size, 6, none⟩ = some (Value.int .i64 heal) := HK.out.1.cell 6
      have t0 : wr.cell? ⟨w.heap.size + 1, 0, none⟩ = some (Value.string code) := HK.out.2.cell 0
      have t1 : wr.cell? ⟨w.heap.size + 1, 1, none⟩ = some (Value.int .i64 bmin) := HK.out.2.cell 1
      have t2 : wr.cell? ⟨w.heap.size + 1, 2, none⟩ = some (Value.int .i64 bmax) := HK.out.2.cell 2
      have t3 : wr.cell? ⟨w.heap.size + 1, 3, none⟩ = some (Value.int .i64 taped) := HK.out.2.cell 3
      have t4 : wr.cell? ⟨w.heap.size + 1, 4, none⟩ = some (Value.int .i64 gmin) := HK.out.2.cell 4
      have t5 : wr.cell? ⟨w.heap.size + 1, 5, none⟩ = some (Value.int .i64 gmax) := HK.out.2.cell 5
      have t6 : wr.cell? ⟨w.heap.size + 1, 6, none⟩ = some (Value.int .i64 wmin) := HK.out.2.cell 6
      have t7 : wr.cell? ⟨w.heap.size + 1, 7, none⟩ = some (Value.int .i64 wmax) := HK.out.2.cell 7
      have t8 : wr.cell? ⟨w.heap.size + 1, 8, none⟩ = some (Value.slice sa sn sc) := HK.out.2.cell 8
      have t9 : wr.cell? ⟨w.heap.size + 1, 9, none⟩ = some (Value.slice wa wn wc) := HK.out.2.cell 9
      have t10 : wr.cell? ⟨w.heap.size + 1, 10, none⟩ = some (Value.int .i64 dead) := HK.out.2.cell 10
      by_cases h2 : vs k = 2
      · rw [decide_eq_true h2] at hcall
        have hvv := HVD.out
        rw [verdict_two vs k hlt HP.out h2] at hvv
        obtain ⟨rfl, rfl⟩ := Prod.mk.inj hvv
        have HCALL := Lib.hid hcall
        clear hcall h2 hvv HVD
        go_wp2_with (go_at_call 69; refine HCALL.out.mono ?_; rintro e w2 ⟨rfl, hw2⟩)
        go_ret2
        exact ⟨rfl, hB.trans (hw2.mono hB.size)⟩
      · rw [decide_eq_false h2] at hcall
        have HP2 := Lib.hid (show ∀ j, j < k + 1 → ¬ vs j = 2 from fun j hj => by
          by_cases hjk : j = k
          · rw [hjk]; exact h2
          · exact HP.out j (by omega))
        have HCALL := Lib.hid hcall
        clear hcall h2
        go_wp2_with (go_at_call 69; refine HCALL.out.mono ?_; rintro e w2 ⟨rfl, hw2⟩)
        exact ⟨⟨k + 1, by omega, by go_num, HP2, hB.trans (hw2.mono hB.size), Lib.hid ⟨HK.out.1.below hw2 HK.out.1.lt, HK.out.2.below hw2 HK.out.2.lt⟩⟩, by simp [intOf]; omega⟩
    · obtain rfl : k = 6 := by omega
      obtain ⟨wo, rfl⟩ : ∃ wo : World, wo = wr := ⟨_, rfl⟩
      go_wp2
      go_loopw [13] (fun r wr => ∃ k : Nat, k ≤ 6 ∧ r = .int .i64 ((k : Int) + 1) ∧ Hid (∀ j, j < k → ¬ vs j = 0) ∧ Below w.heap.size w wr ∧ Hid (Blk wr w.heap.size 24 #[.int .i64 age, .int .i64 rest, .int .i64 girth, .int .i64 f0, .int .i64 f1, .int .i64 f2, .int .i64 heal] ∧ Blk wr (w.heap.size + 1) 53 #[.string code, .int .i64 bmin, .int .i64 bmax, .int .i64 taped, .int .i64 gmin, .int .i64 gmax, .int .i64 wmin, .int .i64 wmax, .slice sa sn sc, .slice wa wn wc, .int .i64 dead])) (fun r _ => 7 - (intOf r).toNat)
      case atStart => exact ⟨0, by omega, rfl, Lib.hid (fun j hj => absurd hj (Nat.not_lt_zero _)), hB, HK⟩
      case round =>
        have HP2 := HP
        clear HK hB HP
        obtain ⟨k, hk, rfl, HP, hB, HK⟩ := hrel
        by_cases hlt : k < 6
        · have hlt' : (k : Int) + 1 ≤ 6 := by omega
          have hcall := HR.out wr hB k hlt
          have l0 : wr.cell? ⟨w.heap.size, 0, none⟩ = some (Value.int .i64 age) := HK.out.1.cell 0
          have l1 : wr.cell? ⟨w.heap.size, 1, none⟩ = some (Value.int .i64 rest) := HK.out.1.cell 1
          have l2 : wr.cell? ⟨w.heap.size, 2, none⟩ = some (Value.int .i64 girth) := HK.out.1.cell 2
          have l3 : wr.cell? ⟨w.heap.size, 3, none⟩ = some (Value.int .i64 f0) := HK.out.1.cell 3
          have l4 : wr.cell? ⟨w.heap.size, 4, none⟩ = some (Value.int .i64 f1) := HK.out.1.cell 4
          have l5 : wr.cell? ⟨w.heap.size, 5, none⟩ = some (Value.int .i64 f2) := HK.out.1.cell 5
          have l6 : wr.cell? ⟨w.heap.size, 6, none⟩ = some (Value.int .i64 heal) := HK.out.1.cell 6
          have t0 : wr.cell? ⟨w.heap.size + 1, 0, none⟩ = some (Value.string code) := HK.out.2.cell 0
          have t1 : wr.cell? ⟨w.heap.size + 1, 1, none⟩ = some (Value.int .i64 bmin) := HK.out.2.cell 1
          have t2 : wr.cell? ⟨w.heap.size + 1, 2, none⟩ = some (Value.int .i64 bmax) := HK.out.2.cell 2
          have t3 : wr.cell? ⟨w.heap.size + 1, 3, none⟩ = some (Value.int .i64 taped) := HK.out.2.cell 3
          have t4 : wr.cell? ⟨w.heap.size + 1, 4, none⟩ = some (Value.int .i64 gmin) := HK.out.2.cell 4
          have t5 : wr.cell? ⟨w.heap.size + 1, 5, none⟩ = some (Value.int .i64 gmax) := HK.out.2.cell 5
          have t6 : wr.cell? ⟨w.heap.size + 1, 6, none⟩ = some (Value.int .i64 wmin) := HK.out.2.cell 6
          have t7 : wr.cell? ⟨w.heap.size + 1, 7, none⟩ = some (Value.int .i64 wmax) := HK.out.2.cell 7
          have t8 : wr.cell? ⟨w.heap.size + 1, 8, none⟩ = some (Value.slice sa sn sc) := HK.out.2.cell 8
          have t9 : wr.cell? ⟨w.heap.size + 1, 9, none⟩ = some (Value.slice wa wn wc) := HK.out.2.cell 9
          have t10 : wr.cell? ⟨w.heap.size + 1, 10, none⟩ = some (Value.int .i64 dead) := HK.out.2.cell 10
          by_cases h1 : vs k = 1
          · rw [decide_eq_true h1] at hcall
            have HP3 := Lib.hid (show ∀ j, j < k + 1 → ¬ vs j = 0 from fun j hj => by
              by_cases hjk : j = k
              · rw [hjk, h1]; decide
              · exact HP.out j (by omega))
            generalize decide (vs k = 2) = bb at hcall
            have HCALL := Lib.hid hcall
            clear hcall h1
            go_wp2_with (go_at_call 69; refine HCALL.out.mono ?_; rintro e w2 ⟨rfl, hw2⟩)
            have hrel2 : ∃ k' : Nat, k' ≤ 6 ∧ Value.int .i64 ((k : Int) + 1 + 1) = .int .i64 ((k' : Int) + 1) ∧ Hid (∀ j, j < k' → ¬ vs j = 0) ∧ Below w.heap.size w w2 ∧ Hid (Blk w2 w.heap.size 24 #[.int .i64 age, .int .i64 rest, .int .i64 girth, .int .i64 f0, .int .i64 f1, .int .i64 f2, .int .i64 heal] ∧ Blk w2 (w.heap.size + 1) 53 #[.string code, .int .i64 bmin, .int .i64 bmax, .int .i64 taped, .int .i64 gmin, .int .i64 gmax, .int .i64 wmin, .int .i64 wmax, .slice sa sn sc, .slice wa wn wc, .int .i64 dead]) := ⟨k + 1, by omega, by go_num, HP3, hB.trans (hw2.mono hB.size), Lib.hid ⟨HK.out.1.below hw2 HK.out.1.lt, HK.out.2.below hw2 HK.out.2.lt⟩⟩
            have hmeas : 7 - (intOf (.int .i64 ((k : Int) + 1 + 1))).toNat < 7 - (intOf (.int .i64 ((k : Int) + 1))).toNat := by simp [intOf]; omega
            refine ⟨?_, hmeas⟩
            first | exact hrel2 | ((repeat apply Exists.intro); exact ⟨hrel2, rfl⟩)
          · have h0 : vs k = 0 := by
              rcases HV.out k with h | h | h
              · exact h
              · exact absurd h h1
              · exact absurd h (HP2.out k hlt)
            rw [decide_eq_false h1] at hcall
            have hvv := HVD.out
            rw [verdict_zero vs k hlt HP2.out HP.out h0] at hvv
            obtain ⟨rfl, rfl⟩ := Prod.mk.inj hvv
            generalize decide (vs k = 2) = bb at hcall
            have HCALL := Lib.hid hcall
            clear hcall h0 h1 hvv HVD
            go_wp2_with (go_at_call 69; refine HCALL.out.mono ?_; rintro e w2 ⟨rfl, hw2⟩)
            go_ret2
            exact ⟨rfl, hB.trans (hw2.mono hB.size)⟩
        · obtain rfl : k = 6 := by omega
          have hvv := HVD.out
          rw [verdict_one vs HP2.out HP.out] at hvv
          obtain ⟨rfl, rfl⟩ := Prod.mk.inj hvv
          clear hvv HVD
          go_wp2
          go_ret2
          exact ⟨rfl, hB⟩

theorem refMay_calls (l : Law) (t : Tree) (y h : Int) (w : World) (hl : LawFine l) (ht : TreeFine t) (hH : TreeHeld w.heap.size w t) (hy0 : 0 ≤ y) (hy1 : y ≤ 300) (hh0 : 1 ≤ h) (hh1 : h ≤ 15000) :
    Calls Try.prog 44 #[.agg l.cells.toArray, .agg t.cells.toArray, .int .i64 y, .int .i64 h] w fun e w' => e = .returned (.tuple #[.int .i64 (verdictOn l t y h).1, .int .i64 (verdictOn l t y h).2]) ∧ Below w.heap.size w w' := by
  have hR := fun W (hW : Below w.heap.size w W) k hk => refRule_calls l t y h W hl ht ((hH.below hW).mono hW.size) hy0 hy1 hh0 hh1 k hk
  obtain ⟨sa, sn, sc, es⟩ := hH.1.slice
  obtain ⟨wa, wn, wc, ew⟩ := hH.2.1.slice
  unfold ruleAns at hR
  simp only [Tree.cells, Law.cells] at hR ⊢
  rw [es, ew] at hR ⊢
  exact refMay_walk _ _ _ _ _ _ _ _ _ _ _ _ _ _ _ _ _ _ _ _ _ _ _ _ (jv l t y h) w (jv_range l t y h) hR
end Go.Proofs.Ytajbflepjpgnbaa
