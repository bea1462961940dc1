/- A tree's measures; the first error of a tree. -/
import Derived.Test.YtajbflepjpgnbaaTree
namespace Go.Proofs.Ytajbflepjpgnbaa
open Go.RowKit

set_option maxHeartbeats 1000000 in
theorem isMeasured_0 (code : ByteArray) (bmin bmax taped gmin gmax wmin wmax : Int) (sv wv : Value) (dead : Int) (w : World) (h0 : boundsB bmin bmax 0 300 = false) :
    Calls Try.prog 60 #[.agg #[.string code, .int .i64 bmin, .int .i64 bmax, .int .i64 taped, .int .i64 gmin, .int .i64 gmax, .int .i64 wmin, .int .i64 wmax, sv, wv, .int .i64 dead]] w fun e w' => e = .returned (.bool false) ∧ Below w.heap.size w w' := by
  go_enter Try.func60, Try.ntmps60
  go_wp2_with (first | (go_at_call 75; refine (areBounds_calls _ _ _ _ _).mono ?_; rintro e w' ⟨rfl, rfl⟩) | (go_at_call 54; refine (isYear_calls _ _).mono ?_; rintro e w' ⟨rfl, rfl⟩))
  go_ret
  exact ⟨rfl, by repeat (first | exact Below.refl _ _ | refine Below.alloc ?_ (by simp <;> omega) _)⟩

set_option maxHeartbeats 1000000 in
theorem isMeasured_1 (code : ByteArray) (bmin bmax taped gmin gmax wmin wmax : Int) (sv wv : Value) (dead : Int) (w : World) (h0 : boundsB bmin bmax 0 300 = true) (h1 : inB taped 0 300 = false) :
    Calls Try.prog 60 #[.agg #[.string code, .int .i64 bmin, .int .i64 bmax, .int .i64 taped, .int .i64 gmin, .int .i64 gmax, .int .i64 wmin, .int .i64 wmax, sv, wv, .int .i64 dead]] w fun e w' => e = .returned (.bool false) ∧ Below w.heap.size w w' := by
  go_enter Try.func60, Try.ntmps60
  go_wp2_with (first | (go_at_call 75; refine (areBounds_calls _ _ _ _ _).mono ?_; rintro e w' ⟨rfl, rfl⟩) | (go_at_call 54; refine (isYear_calls _ _).mono ?_; rintro e w' ⟨rfl, rfl⟩))
  go_ret
  exact ⟨rfl, by repeat (first | exact Below.refl _ _ | refine Below.alloc ?_ (by simp <;> omega) _)⟩

set_option maxHeartbeats 1000000 in
theorem isMeasured_2 (code : ByteArray) (bmin bmax taped gmin gmax wmin wmax : Int) (sv wv : Value) (dead : Int) (w : World) (h0 : boundsB bmin bmax 0 300 = true) (h1 : inB taped 0 300 = true) (h2 : boundsB gmin gmax 0 6000 = false) :
    Calls Try.prog 60 #[.agg #[.string code, .int .i64 bmin, .int .i64 bmax, .int .i64 taped, .int .i64 gmin, .int .i64 gmax, .int .i64 wmin, .int .i64 wmax, sv, wv, .int .i64 dead]] w fun e w' => e = .returned (.bool false) ∧ Below w.heap.size w w' := by
  go_enter Try.func60, Try.ntmps60
  go_wp2_with (first | (go_at_call 75; refine (areBounds_calls _ _ _ _ _).mono ?_; rintro e w' ⟨rfl, rfl⟩) | (go_at_call 54; refine (isYear_calls _ _).mono ?_; rintro e w' ⟨rfl, rfl⟩))
  go_ret
  exact ⟨rfl, by repeat (first | exact Below.refl _ _ | refine Below.alloc ?_ (by simp <;> omega) _)⟩

set_option maxHeartbeats 1000000 in
theorem isMeasured_3 (code : ByteArray) (bmin bmax taped gmin gmax wmin wmax : Int) (sv wv : Value) (dead : Int) (w : World) (h0 : boundsB bmin bmax 0 300 = true) (h1 : inB taped 0 300 = true) (h2 : boundsB gmin gmax 0 6000 = true) (h3 : boundsB wmin wmax 0 50 = false) :
    Calls Try.prog 60 #[.agg #[.string code, .int .i64 bmin, .int .i64 bmax, .int .i64 taped, .int .i64 gmin, .int .i64 gmax, .int .i64 wmin, .int .i64 wmax, sv, wv, .int .i64 dead]] w fun e w' => e = .returned (.bool false) ∧ Below w.heap.size w w' := by
  go_enter Try.func60, Try.ntmps60
  go_wp2_with (first | (go_at_call 75; refine (areBounds_calls _ _ _ _ _).mono ?_; rintro e w' ⟨rfl, rfl⟩) | (go_at_call 54; refine (isYear_calls _ _).mono ?_; rintro e w' ⟨rfl, rfl⟩))
  go_ret
  exact ⟨rfl, by repeat (first | exact Below.refl _ _ | refine Below.alloc ?_ (by simp <;> omega) _)⟩

set_option maxHeartbeats 1000000 in
theorem isMeasured_4 (code : ByteArray) (bmin bmax taped gmin gmax wmin wmax : Int) (sv wv : Value) (dead : Int) (w : World) (h0 : boundsB bmin bmax 0 300 = true) (h1 : inB taped 0 300 = true) (h2 : boundsB gmin gmax 0 6000 = true) (h3 : boundsB wmin wmax 0 50 = true) (h4 : inB dead 0 300 = false) (hd : (dead == -1) = false) :
    Calls Try.prog 60 #[.agg #[.string code, .int .i64 bmin, .int .i64 bmax, .int .i64 taped, .int .i64 gmin, .int .i64 gmax, .int .i64 wmin, .int .i64 wmax, sv, wv, .int .i64 dead]] w fun e w' => e = .returned (.bool false) ∧ Below w.heap.size w w' := by
  go_enter Try.func60, Try.ntmps60
  go_wp2_with (first | (go_at_call 75; refine (areBounds_calls _ _ _ _ _).mono ?_; rintro e w' ⟨rfl, rfl⟩) | (go_at_call 54; refine (isYear_calls _ _).mono ?_; rintro e w' ⟨rfl, rfl⟩))
  go_ret
  exact ⟨rfl, by repeat (first | exact Below.refl _ _ | refine Below.alloc ?_ (by simp <;> omega) _)⟩

set_option maxHeartbeats 1000000 in
theorem isMeasured_5 (code : ByteArray) (bmin bmax taped gmin gmax wmin wmax : Int) (sv wv : Value) (dead : Int) (w : World) (h0 : boundsB bmin bmax 0 300 = true) (h1 : inB taped 0 300 = true) (h2 : boundsB gmin gmax 0 6000 = true) (h3 : boundsB wmin wmax 0 50 = true) (h4 : inB dead 0 300 = true) :
    Calls Try.prog 60 #[.agg #[.string code, .int .i64 bmin, .int .i64 bmax, .int .i64 taped, .int .i64 gmin, .int .i64 gmax, .int .i64 wmin, .int .i64 wmax, sv, wv, .int .i64 dead]] w fun e w' => e = .returned (.bool true) ∧ Below w.heap.size w w' := by
  go_enter Try.func60, Try.ntmps60
  go_wp2_with (first | (go_at_call 75; refine (areBounds_calls _ _ _ _ _).mono ?_; rintro e w' ⟨rfl, rfl⟩) | (go_at_call 54; refine (isYear_calls _ _).mono ?_; rintro e w' ⟨rfl, rfl⟩))
  go_ret
  exact ⟨rfl, by repeat (first | exact Below.refl _ _ | refine Below.alloc ?_ (by simp <;> omega) _)⟩

set_option maxHeartbeats 1000000 in
theorem isMeasured_6 (code : ByteArray) (bmin bmax taped gmin gmax wmin wmax : Int) (sv wv : Value) (dead : Int) (w : World) (h0 : boundsB bmin bmax 0 300 = true) (h1 : inB taped 0 300 = true) (h2 : boundsB gmin gmax 0 6000 = true) (h3 : boundsB wmin wmax 0 50 = true) (h4 : inB dead 0 300 = false) (hd : (dead == -1) = true) :
    Calls Try.prog 60 #[.agg #[.string code, .int .i64 bmin, .int .i64 bmax, .int .i64 taped, .int .i64 gmin, .int .i64 gmax, .int .i64 wmin, .int .i64 wmax, sv, wv, .int .i64 dead]] w fun e w' => e = .returned (.bool true) ∧ Below w.heap.size w w' := by
  go_enter Try.func60, Try.ntmps60
  go_wp2_with (first | (go_at_call 75; refine (areBounds_calls _ _ _ _ _).mono ?_; rintro e w' ⟨rfl, rfl⟩) | (go_at_call 54; refine (isYear_calls _ _).mono ?_; rintro e w' ⟨rfl, rfl⟩))
  go_ret
  exact ⟨rfl, by repeat (first | exact Below.refl _ _ | refine Below.alloc ?_ (by simp <;> omega) _)⟩

theorem isMeasured_calls (t : Tree) (w : World) :
    Calls Try.prog 60 #[.agg t.cells.toArray] w fun e w' => e = .returned (.bool (measuredB t)) ∧ Below w.heap.size w w' := by
  obtain ⟨code, bmin, bmax, taped, gmin, gmax, wmin, wmax, sv, wv, dead, strips, wounds⟩ := t
  show Calls Try.prog _ #[.agg #[.string code, .int .i64 bmin, .int .i64 bmax, .int .i64 taped, .int .i64 gmin, .int .i64 gmax, .int .i64 wmin, .int .i64 wmax, sv, wv, .int .i64 dead]] _ _
  simp only [measuredB]
  cases h0 : boundsB bmin bmax 0 300
  · exact isMeasured_0 code bmin bmax taped gmin gmax wmin wmax sv wv dead w h0
  cases h1 : inB taped 0 300
  · exact isMeasured_1 code bmin bmax taped gmin gmax wmin wmax sv wv dead w h0 h1
  cases h2 : boundsB gmin gmax 0 6000
  · exact isMeasured_2 code bmin bmax taped gmin gmax wmin wmax sv wv dead w h0 h1 h2
  cases h3 : boundsB wmin wmax 0 50
  · exact isMeasured_3 code bmin bmax taped gmin gmax wmin wmax sv wv dead w h0 h1 h2 h3
  cases h4 : inB dead 0 300
  · cases hd : (dead == -1)
    · have : inB dead (-1) 300 = false := by simp [inB] at h4 ⊢; simp at hd; omega
      rw [this]
      exact isMeasured_4 code bmin bmax taped gmin gmax wmin wmax sv wv dead w h0 h1 h2 h3 h4 hd
    · have : inB dead (-1) 300 = true := by simp [inB] at h4 ⊢; simp at hd; omega
      rw [this]
      exact isMeasured_6 code bmin bmax taped gmin gmax wmin wmax sv wv dead w h0 h1 h2 h3 h4 hd
  · have : inB dead (-1) 300 = true := by simp [inB] at h4 ⊢; omega
    rw [this]
    exact isMeasured_5 code bmin bmax taped gmin gmax wmin wmax sv wv dead w h0 h1 h2 h3 h4

end Go.Proofs.Ytajbflepjpgnbaa
