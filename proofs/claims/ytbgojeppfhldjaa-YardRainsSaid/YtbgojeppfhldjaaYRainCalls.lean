/- The small functions that YardRains calls. -/
import Derived.Test.YtbgojeppfhldjaaYLocs
import Derived.Test.YtbgojeppfhldjaaYRains
namespace Go.Proofs.Ytbgojeppfhldjaa
open Go Go.RowKit Go.Shelf Yd

set_option maxHeartbeats 400000 in
theorem dryAfter_calls (d r : Int) (w : World) (hd : 0 ≤ d ∧ d ≤ 9) (hr : 0 ≤ r ∧ r ≤ 50) :
    Calls Try.prog 23 #[.int .i64 d, .int .i64 r] w fun e w' => e = .returned (.int .i64 (dryAfter d r)) ∧ Below w.heap.size w w' := by
  unfold dryAfter
  obtain ⟨h1, h2⟩ := hd
  obtain ⟨h3, h4⟩ := hr
  by_cases h0 : r = 0
  · subst h0
    rw [if_pos rfl]
    go_enter Try.func23, Try.ntmps23
    go_wp2
    all_goals exact bodyPost_ret (v := .int .i64 (min (d + 1) 9)) (by simp [results, Try.results23, go_sem]; try omega) rfl ⟨rfl, Below.refl _ _⟩
  · rw [if_neg h0]
    have d1 : (r == 0) = false := by simpa using h0
    go_enter Try.func23, Try.ntmps23
    go_wp2
    all_goals exact bodyPost_ret (v := .int .i64 (max (d - r) 0)) (by simp [results, Try.results23, go_sem]; try omega) rfl ⟨rfl, Below.refl _ _⟩

set_option maxHeartbeats 400000 in
theorem kept_calls (n most : Int) (w : World) :
    Calls Try.prog 29 #[.int .i64 n, .int .i64 most] w fun e w' => e = .returned (.int .i64 (max 0 (min most n))) ∧ Below w.heap.size w w' := by
  go_enter Try.func29, Try.ntmps29
  go_wp2
  all_goals exact bodyPost_ret (v := .int .i64 (max 0 (min most n))) (by simp [results, Try.results29, go_sem]; try omega) rfl ⟨rfl, Below.refl _ _⟩

set_option maxHeartbeats 400000 in
theorem afterRain_calls (d r : Int) (w : World) (hd : 0 ≤ d ∧ d ≤ 9) (hr : 0 ≤ r ∧ r ≤ 50) :
    Calls Try.prog 13 #[.int .i64 d, .int .i64 r] w fun e w' => e = .returned (.int .i64 (dryAfter d r)) ∧ Below w.heap.size w w' := by
  unfold dryAfter
  obtain ⟨h1, h2⟩ := hd
  obtain ⟨h3, h4⟩ := hr
  by_cases h0 : r = 0
  · subst h0
    rw [if_pos rfl, show min (d + 1) 9 = max 0 (min 9 (d + 1)) from by omega]
    go_enter Try.func13, Try.ntmps13
    go_wp2_with (go_at_call 29; refine (kept_calls _ _ _).mono ?_; rintro e w2 ⟨rfl, hb⟩; have HB := Lib.hid hb; clear hb)
    go_ret
    exact ⟨rfl, HB.out⟩
  · rw [if_neg h0, show max (d - r) 0 = max 0 (min 9 (d - r)) from by omega]
    have d1 : (r == 0) = false := by simpa using h0
    go_enter Try.func13, Try.ntmps13
    go_wp2_with (go_at_call 29; refine (kept_calls _ _ _).mono ?_; rintro e w2 ⟨rfl, hb⟩; have HB := Lib.hid hb; clear hb)
    go_ret
    exact ⟨rfl, HB.out⟩
end Go.Proofs.Ytbgojeppfhldjaa
