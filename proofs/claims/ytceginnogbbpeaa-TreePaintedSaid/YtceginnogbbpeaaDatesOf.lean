/- Dates in general: what its arguments' first error is; which years the strips can have. -/
import Derived.Test.YtceginnogbbpeaaYearMaps
namespace Go.Proofs.Ytceginnogbbpeaa
open Go.RowKit Go.Shelf Go.Maps

def digitsErr : List Int → Int
  | [] => 0
  | d :: r => if inB d (-1) 9 then digitsErr r else 1
/-- The first error of a call of Dates. -/
def datesErr (rest : Int) (ds : List Int) (lo hi : Int) : Int :=
  if inB rest 1 30 && boundsB lo hi 0 300 then (if ds.length > 10 then 2 else digitsErr ds) else 1

theorem digits_bad (xs : List Int) (k : Nat) (h : k < xs.length) (r : Int) (hr : r = digitsErr (xs.drop k)) (hb : inB xs[k]! (-1) 9 = false) : r = 1 := by
  rw [hr, List.drop_eq_getElem_cons h]
  rw [getElem!_pos xs k h] at hb
  simp [digitsErr, hb]
theorem digits_step (xs : List Int) (k : Nat) (h : k < xs.length) (r : Int) (hr : r = digitsErr (xs.drop k)) (hb : inB xs[k]! (-1) 9 = true) : r = digitsErr (xs.drop (k + 1)) := by
  rw [hr, List.drop_eq_getElem_cons h]
  rw [getElem!_pos xs k h] at hb
  simp [digitsErr, hb]
theorem digits_end (xs : List Int) (k : Nat) (h : xs.length ≤ k) (r : Int) (hr : r = digitsErr (xs.drop k)) : r = 0 := by
  rw [hr, List.drop_eq_nil_of_le h]; rfl
theorem digits_all : ∀ {xs : List Int}, digitsErr xs = 0 ↔ ∀ d ∈ xs, -1 ≤ d ∧ d ≤ 9
  | [] => by simp [digitsErr]
  | d :: r => by
    simp only [digitsErr, List.forall_mem_cons]
    by_cases h : -1 ≤ d ∧ d ≤ 9
    · rw [if_pos (by simp [inB, h.1, h.2]), digits_all]; simp [h]
    · rw [if_neg (by simp only [inB, decide_eq_true_eq]; exact h)]; simp [h]

theorem dates_good {rest : Int} {ds : List Int} {lo hi : Int} (h : datesErr rest ds lo hi = 0) : (1 ≤ rest ∧ rest ≤ 30) ∧ (0 ≤ lo ∧ lo ≤ hi ∧ hi ≤ 300) ∧ ds.length ≤ 10 ∧ ∀ d ∈ ds, -1 ≤ d ∧ d ≤ 9 := by
  unfold datesErr at h
  split at h
  · rename_i h1
    simp only [inB, boundsB, Bool.and_eq_true, decide_eq_true_eq] at h1
    split at h
    · cases h
    · exact ⟨h1.1, h1.2, by omega, digits_all.1 h⟩
  · cases h

set_option maxHeartbeats 1000000 in
theorem checkDates_v1 (rest : Int) (v : Value) (lo hi : Int) (w : World) (r1 : inB rest 1 30 = false) :
    Calls Try.prog 31 #[.int .i64 rest, v, .agg #[.int .i64 lo, .int .i64 hi]] w fun e w' => e = .returned (.int .i64 1) ∧ Below w.heap.size w w' := by
  go_enter Try.func31, Try.ntmps31
  go_wp2_with (first | (go_at_call 47; refine (within_calls _ _ _ _).mono ?_; rintro e w' ⟨rfl, rfl⟩) | (go_at_call 48; refine (areBounds_calls _ _ _ _ _).mono ?_; rintro e w' ⟨rfl, rfl⟩))
  go_ret
  exact ⟨rfl, (by repeat (first | exact Below.refl _ _ | refine Below.alloc ?_ (by simp <;> omega) _))⟩
set_option maxHeartbeats 1000000 in
theorem checkDates_v2 (rest : Int) (v : Value) (lo hi : Int) (w : World) (r1 : inB rest 1 30 = true) (r2 : boundsB lo hi 0 300 = false) :
    Calls Try.prog 31 #[.int .i64 rest, v, .agg #[.int .i64 lo, .int .i64 hi]] w fun e w' => e = .returned (.int .i64 1) ∧ Below w.heap.size w w' := by
  go_enter Try.func31, Try.ntmps31
  go_wp2_with (first | (go_at_call 47; refine (within_calls _ _ _ _).mono ?_; rintro e w' ⟨rfl, rfl⟩) | (go_at_call 48; refine (areBounds_calls _ _ _ _ _).mono ?_; rintro e w' ⟨rfl, rfl⟩))
  go_ret
  exact ⟨rfl, (by repeat (first | exact Below.refl _ _ | refine Below.alloc ?_ (by simp <;> omega) _))⟩
set_option maxHeartbeats 1000000 in
theorem checkDates_many (rest : Int) (a : Option Addr) (n c : Nat) (lo hi : Int) (w : World) (r1 : inB rest 1 30 = true) (r2 : boundsB lo hi 0 300 = true) (h : (10 : Int) < (n : Int)) :
    Calls Try.prog 31 #[.int .i64 rest, .slice a n c, .agg #[.int .i64 lo, .int .i64 hi]] w fun e w' => e = .returned (.int .i64 2) ∧ Below w.heap.size w w' := by
  go_enter Try.func31, Try.ntmps31
  go_wp2_with (first | (go_at_call 47; refine (within_calls _ _ _ _).mono ?_; rintro e w' ⟨rfl, rfl⟩) | (go_at_call 48; refine (areBounds_calls _ _ _ _ _).mono ?_; rintro e w' ⟨rfl, rfl⟩))
  go_ret
  exact ⟨rfl, (by repeat (first | exact Below.refl _ _ | refine Below.alloc ?_ (by simp <;> omega) _))⟩
set_option maxHeartbeats 1000000 in
theorem checkDates_nil (rest : Int) (a : Option Addr) (c : Nat) (lo hi : Int) (w : World) (r1 : inB rest 1 30 = true) (r2 : boundsB lo hi 0 300 = true) :
    Calls Try.prog 31 #[.int .i64 rest, .slice a 0 c, .agg #[.int .i64 lo, .int .i64 hi]] w fun e w' => e = .returned (.int .i64 0) ∧ Below w.heap.size w w' := by
  go_enter Try.func31, Try.ntmps31
  go_wp2_with (first | (go_at_call 47; refine (within_calls _ _ _ _).mono ?_; rintro e w' ⟨rfl, rfl⟩) | (go_at_call 48; refine (areBounds_calls _ _ _ _ _).mono ?_; rintro e w' ⟨rfl, rfl⟩))
  refine wp_loop_rounds 1 ?_
  rw [rounds_succ]
  go_wp2_with fail
  go_ret
  exact ⟨rfl, (by repeat (first | exact Below.refl _ _ | refine Below.alloc ?_ (by simp <;> omega) _))⟩
set_option maxHeartbeats 2000000 in
theorem checkDates_some (rest : Int) (b off c : Nat) (xs : List Int) (lo hi : Int) (w : World) (r1 : inB rest 1 30 = true) (r2 : boundsB lo hi 0 300 = true) (hl : xs.length ≤ 10) (hb : b < w.heap.size)
    (hc : ∀ j, j < xs.length → w.cell? ⟨b, off + j, none⟩ = some (.int .i64 xs[j]!)) :
    Calls Try.prog 31 #[.int .i64 rest, .slice (some ⟨b, off, none⟩) xs.length c, .agg #[.int .i64 lo, .int .i64 hi]] w fun e w' => e = .returned (.int .i64 (digitsErr xs)) ∧ Below w.heap.size w w' := by
  have n1 : b ≠ w.heap.size := by omega
  have n2 : b ≠ w.heap.size + 1 := by omega
  have hl' : (xs.length : Int) ≤ 10 := by omega
  have hr : digitsErr xs = digitsErr (xs.drop 0) := rfl
  generalize digitsErr xs = r at hr ⊢
  have HR := Lib.hid hr; clear hr
  have HC := Lib.hid hc; clear hc
  go_enter Try.func31, Try.ntmps31
  go_wp2_with (first | (go_at_call 47; refine (within_calls _ _ _ _).mono ?_; rintro e w' ⟨rfl, rfl⟩) | (go_at_call 48; refine (areBounds_calls _ _ _ _ _).mono ?_; rintro e w' ⟨rfl, rfl⟩))
  go_loop [22] (fun i => ∃ k : Nat, k ≤ xs.length ∧ i = .int .i64 k ∧ Hid (r = digitsErr (xs.drop k))) (fun i => xs.length - (intOf i).toNat)
  case atStart => exact ⟨0, by omega, rfl, HR⟩
  case round =>
    clear HR
    obtain ⟨k, hk, rfl, HR⟩ := hrel
    by_cases hlt : k < xs.length
    · have c0 : w.cell? ⟨b, off + k, none⟩ = some (.int .i64 xs[k]!) := HC.out k hlt
      generalize hx : xs[k]! = y at c0
      have HX := Lib.hid hx; clear hx
      cases h1 : inB y (-1) 9
      · have HS := Lib.hid (digits_bad xs k hlt r HR.out (by rw [HX.out, h1]))
        go_wp2_with (go_at_call 47; refine (within_calls _ _ _ _).mono ?_; rintro e w' ⟨rfl, rfl⟩)
        go_ret
        exact ⟨by rw [HS.out]; rfl, (by repeat (first | exact Below.refl _ _ | refine Below.alloc ?_ (by simp <;> omega) _))⟩
      · have HS := Lib.hid (digits_step xs k hlt r HR.out (by rw [HX.out, h1]))
        go_wp2_with (go_at_call 47; refine (within_calls _ _ _ _).mono ?_; rintro e w' ⟨rfl, rfl⟩)
        exact ⟨⟨k + 1, by omega, by go_num, HS⟩, by simp [intOf]; omega⟩
    · have HS := Lib.hid (digits_end xs k (by omega) r HR.out)
      have hge : xs.length ≤ k := by omega
      go_wp2
      go_ret
      exact ⟨by rw [HS.out]; rfl, (by repeat (first | exact Below.refl _ _ | refine Below.alloc ?_ (by simp <;> omega) _))⟩

theorem checkDates_calls {v : Value} {xs : List Int} {w : World} (h : Held w.heap.size w 1 intCells v xs) (rest lo hi : Int) :
    Calls Try.prog 31 #[.int .i64 rest, v, .agg #[.int .i64 lo, .int .i64 hi]] w fun e w' => e = .returned (.int .i64 (datesErr rest xs lo hi)) ∧ Below w.heap.size w w' := by
  unfold datesErr
  cases r1 : inB rest 1 30
  · rw [if_neg (by simp)]
    exact checkDates_v1 rest v lo hi w r1
  · cases r2 : boundsB lo hi 0 300
    · rw [if_neg (by simp)]
      exact checkDates_v2 rest v lo hi w r1 r2
    · rw [if_pos (by simp)]
      rcases h with ⟨⟨a, c, rfl⟩, rfl⟩ | ⟨b, off, c, rfl, hb, _, hc⟩
      · rw [if_neg (by simp)]
        exact checkDates_nil rest a c lo hi w r1 r2
      · by_cases hl : xs.length > 10
        · rw [if_pos hl]
          exact checkDates_many rest _ _ c lo hi w r1 r2 (by omega)
        · rw [if_neg hl]
          exact checkDates_some rest b off c xs lo hi w r1 r2 (by omega) hb fun j hj => by have := hc j hj 0 _ rfl; rwa [Nat.mul_one, Nat.add_zero] at this
end Go.Proofs.Ytceginnogbbpeaa
