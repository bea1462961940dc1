/- A tree's girth in a year. -/
import Derived.Test.YtajbflepjpgnbaaAskOk
namespace Go.Proofs.Ytajbflepjpgnbaa
open Go.RowKit

theorem mul_bounds {a b A B : Int} (ha : 0 ≤ a) (hA : a ≤ A) (hb : 0 ≤ b) (hB : b ≤ B) : 0 ≤ a * b ∧ a * b ≤ A * B :=
  ⟨Int.mul_nonneg ha hb, Int.le_trans (Int.mul_le_mul_of_nonneg_right hA hb) (Int.mul_le_mul_of_nonneg_left hB (Int.le_trans ha hA))⟩

theorem mul_bounds_neg {a b A B : Int} (ha : -A ≤ a) (hA : a ≤ 0) (hb : 0 ≤ b) (hB : b ≤ B) : -(A * B) ≤ a * b ∧ a * b ≤ 0 := by
  have h := mul_bounds (a := -a) (b := b) (A := A) (B := B) (by omega) (by omega) hb hB
  rw [Int.neg_mul] at h
  omega

theorem size_bounds : (Try.prog.info? 31).map (·.size) = some 2 := by kernel_rfl

set_option maxRecDepth 100000 in
set_option maxHeartbeats 1000000 in
theorem girth_after (age rest girth f0 f1 f2 heal : Int) (code : ByteArray) (bmin bmax taped gmin gmax wmin wmax : Int) (sa : Option Addr) (sn sc : Nat) (wa : Option Addr) (wn wc : Nat) (dead : Int) (year height : Int) (w : World) (hy0 : 0 ≤ year) (hy1 : year ≤ 300) (ht0 : 0 ≤ taped) (ht1 : taped ≤ 300) (h : taped ≤ year) (hg0 : 0 ≤ gmin) (hg1 : gmin ≤ gmax) (hg2 : gmax ≤ 6000) (hw0 : 0 ≤ wmin) (hw1 : wmin ≤ wmax) (hw2 : wmax ≤ 50) :
    Calls Try.prog 35 #[.agg #[.int .i64 age, .int .i64 rest, .int .i64 girth, .int .i64 f0, .int .i64 f1, .int .i64 f2, .int .i64 heal, .string code, .int .i64 bmin, .int .i64 bmax, .int .i64 taped, .int .i64 gmin, .int .i64 gmax, .int .i64 wmin, .int .i64 wmax, .slice sa sn sc, .slice wa wn wc, .int .i64 dead, .int .i64 year, .int .i64 height]] w fun e w' => e = .returned (.agg #[.int .i64 (gmin + (year - taped) * wmin), .int .i64 (gmax + (year - taped) * wmax)]) ∧ Below w.heap.size w w' := by
  obtain ⟨p0, p1⟩ := mul_bounds (a := year - taped) (b := wmin) (A := 300) (B := 50) (by omega) (by omega) (by omega) (by omega)
  obtain ⟨q0, q1⟩ := mul_bounds (a := year - taped) (b := wmax) (A := 300) (B := 50) (by omega) (by omega) (by omega) (by omega)
  have h' : 0 ≤ year - taped := by omega
  go_enter Try.func35, Try.ntmps35
  go_wp2
  exact bodyPost_ret (results_cell_row rfl _ _ (w.heap.size + 1) 31 #[.int .i64 (gmin + (year - taped) * wmin), .int .i64 (gmax + (year - taped) * wmax)] (0, 0) _ rfl ((Below.heap_alloc _ _ _ (by simp)).trans (heap_alloc2_new w _ _)) Try.underlying31 rfl size_bounds) rfl ⟨rfl, (by repeat (first | exact Below.refl _ _ | refine Below.alloc ?_ (by simp <;> omega) _))⟩

set_option maxRecDepth 100000 in
set_option maxHeartbeats 1000000 in
theorem girth_before (age rest girth f0 f1 f2 heal : Int) (code : ByteArray) (bmin bmax taped gmin gmax wmin wmax : Int) (sa : Option Addr) (sn sc : Nat) (wa : Option Addr) (wn wc : Nat) (dead : Int) (year height : Int) (w : World) (hy0 : 0 ≤ year) (hy1 : year ≤ 300) (ht0 : 0 ≤ taped) (ht1 : taped ≤ 300) (h : year < taped) (hg0 : 0 ≤ gmin) (hg1 : gmin ≤ gmax) (hg2 : gmax ≤ 6000) (hw0 : 0 ≤ wmin) (hw1 : wmin ≤ wmax) (hw2 : wmax ≤ 50) :
    Calls Try.prog 35 #[.agg #[.int .i64 age, .int .i64 rest, .int .i64 girth, .int .i64 f0, .int .i64 f1, .int .i64 f2, .int .i64 heal, .string code, .int .i64 bmin, .int .i64 bmax, .int .i64 taped, .int .i64 gmin, .int .i64 gmax, .int .i64 wmin, .int .i64 wmax, .slice sa sn sc, .slice wa wn wc, .int .i64 dead, .int .i64 year, .int .i64 height]] w fun e w' => e = .returned (.agg #[.int .i64 (max 0 (gmin + (year - taped) * wmax)), .int .i64 (max 0 (gmax + (year - taped) * wmin))]) ∧ Below w.heap.size w w' := by
  obtain ⟨p0, p1⟩ := mul_bounds_neg (a := year - taped) (b := wmin) (A := 300) (B := 50) (by omega) (by omega) (by omega) (by omega)
  obtain ⟨q0, q1⟩ := mul_bounds_neg (a := year - taped) (b := wmax) (A := 300) (B := 50) (by omega) (by omega) (by omega) (by omega)
  have h' : year - taped < 0 := by omega
  by_cases h1 : 0 < gmin + (year - taped) * wmax
  · rw [Int.max_eq_right (show (0 : Int) ≤ gmin + (year - taped) * wmax by omega)]
    by_cases h2 : 0 < gmax + (year - taped) * wmin
    · rw [Int.max_eq_right (show (0 : Int) ≤ gmax + (year - taped) * wmin by omega)]
      go_enter Try.func35, Try.ntmps35
      go_wp2
      exact bodyPost_ret (results_cell_row rfl _ _ (w.heap.size + 1) 31 #[.int .i64 (gmin + (year - taped) * wmax), .int .i64 (gmax + (year - taped) * wmin)] (0, 0) _ rfl ((Below.heap_alloc _ _ _ (by simp)).trans (heap_alloc2_new w _ _)) Try.underlying31 rfl size_bounds) rfl ⟨rfl, (by repeat (first | exact Below.refl _ _ | refine Below.alloc ?_ (by simp <;> omega) _))⟩
    · rw [Int.max_eq_left (show gmax + (year - taped) * wmin ≤ 0 by omega)]
      have h2' : gmax + (year - taped) * wmin ≤ 0 := by omega
      go_enter Try.func35, Try.ntmps35
      go_wp2
      exact bodyPost_ret (results_cell_row rfl _ _ (w.heap.size + 1) 31 #[.int .i64 (gmin + (year - taped) * wmax), .int .i64 (0)] (0, 0) _ rfl ((Below.heap_alloc _ _ _ (by simp)).trans (heap_alloc2_new w _ _)) Try.underlying31 rfl size_bounds) rfl ⟨rfl, (by repeat (first | exact Below.refl _ _ | refine Below.alloc ?_ (by simp <;> omega) _))⟩
  · rw [Int.max_eq_left (show gmin + (year - taped) * wmax ≤ 0 by omega)]
    have h1' : gmin + (year - taped) * wmax ≤ 0 := by omega
    by_cases h2 : 0 < gmax + (year - taped) * wmin
    · rw [Int.max_eq_right (show (0 : Int) ≤ gmax + (year - taped) * wmin by omega)]
      go_enter Try.func35, Try.ntmps35
      go_wp2
      exact bodyPost_ret (results_cell_row rfl _ _ (w.heap.size + 1) 31 #[.int .i64 (0), .int .i64 (gmax + (year - taped) * wmin)] (0, 0) _ rfl ((Below.heap_alloc _ _ _ (by simp)).trans (heap_alloc2_new w _ _)) Try.underlying31 rfl size_bounds) rfl ⟨rfl, (by repeat (first | exact Below.refl _ _ | refine Below.alloc ?_ (by simp <;> omega) _))⟩
    · rw [Int.max_eq_left (show gmax + (year - taped) * wmin ≤ 0 by omega)]
      have h2' : gmax + (year - taped) * wmin ≤ 0 := by omega
      go_enter Try.func35, Try.ntmps35
      go_wp2
      exact bodyPost_ret (results_cell_row rfl _ _ (w.heap.size + 1) 31 #[.int .i64 (0), .int .i64 (0)] (0, 0) _ rfl ((Below.heap_alloc _ _ _ (by simp)).trans (heap_alloc2_new w _ _)) Try.underlying31 rfl size_bounds) rfl ⟨rfl, (by repeat (first | exact Below.refl _ _ | refine Below.alloc ?_ (by simp <;> omega) _))⟩

end Go.Proofs.Ytajbflepjpgnbaa
