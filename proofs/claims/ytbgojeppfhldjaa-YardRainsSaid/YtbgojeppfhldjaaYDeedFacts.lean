/- What a deed's walk needs: the contracts on bounds, in the walk's own spelling. -/
import Derived.Test.YtbgojeppfhldjaaYDesk
import Derived.Deep.Cut
namespace Go.Proofs.Ytbgojeppfhldjaa
open Go Go.RowKit Yd

theorem size_bounds : (Try.prog.info? 23).map (·.size) = some 2 := by kernel_rfl
theorem fit_of_up {b : Bd} {n m : Int} (h : b.Up n) (hn : n ≤ m) : Bd.Fit m b := by
  obtain ⟨h1, h2, h3⟩ := h
  exact ⟨by omega, by omega, by omega, by omega⟩
theorem Bd.Fit.mono {b : Bd} {n m : Int} (h : Bd.Fit n b) (hn : n ≤ m) : Bd.Fit m b := by
  obtain ⟨h1, h2, h3, h4⟩ := h
  exact ⟨by omega, by omega, by omega, by omega⟩
theorem up_nn {b : Bd} {n : Int} (h : b.Up n) : 0 ≤ b.lo ∧ 0 ≤ b.hi := by
  obtain ⟨h1, h2, h3⟩ := h
  exact ⟨h1, by omega⟩

theorem part_up {a b p : Bd} {V : Int} (ha : a.Up V) (hV : V ≤ 2000000000000000) (hb : b.Up 3000) (hp : p = a.part b) (w : World) :
    Calls Try.prog 73 #[.agg #[.int .i64 a.lo, .int .i64 a.hi], .agg #[.int .i64 b.lo, .int .i64 b.hi]] w fun e w' => e = .returned (.agg #[.int .i64 p.lo, .int .i64 p.hi]) ∧ Below w.heap.size w w' := by
  subst hp
  exact part_calls a b w (fit_of_up ha hV) (fit_of_up hb (by decide)) (up_nn ha) (up_nn hb)
theorem left_up {a b p : Bd} {V : Int} (ha : a.Up V) (hV : V ≤ 2000000000000000) (hb : b.Up 3000) (hp : p = a.left b) (w : World) :
    Calls Try.prog 74 #[.agg #[.int .i64 a.lo, .int .i64 a.hi], .agg #[.int .i64 b.lo, .int .i64 b.hi]] w fun e w' => e = .returned (.agg #[.int .i64 p.lo, .int .i64 p.hi]) ∧ Below w.heap.size w w' := by
  subst hp
  exact left_calls a b w (fit_of_up ha hV) (fit_of_up hb (by decide)) (up_nn ha) (up_nn hb)
theorem sum_up {a b p : Bd} {V U : Int} (ha : a.Up V) (hV : V ≤ 8000000000000000) (hb : b.Up U) (hU : U ≤ 8000000000000000) (hp : p = a.add b) (w : World) :
    Calls Try.prog 72 #[.agg #[.int .i64 a.lo, .int .i64 a.hi], .agg #[.int .i64 b.lo, .int .i64 b.hi]] w fun e w' => e = .returned (.agg #[.int .i64 p.lo, .int .i64 p.hi]) ∧ Below w.heap.size w w' := by
  subst hp
  exact sum_calls a b w (fit_of_up ha (Int.le_trans hV (by decide))) (fit_of_up hb (Int.le_trans hU (by decide)))
theorem difference_up {a b p : Bd} {V U : Int} (ha : a.Up V) (hV : V ≤ 8000000000000000) (hb : b.Up U) (hU : U ≤ 8000000000000000) (hp : p = Bd.sub a b) (w : World) :
    Calls Try.prog 77 #[.agg #[.int .i64 a.lo, .int .i64 a.hi], .agg #[.int .i64 b.lo, .int .i64 b.hi]] w fun e w' => e = .returned (.agg #[.int .i64 p.lo, .int .i64 p.hi]) ∧ Below w.heap.size w w' := by
  subst hp
  exact difference_calls a b w (fit_of_up ha (Int.le_trans hV (by decide))) (fit_of_up hb (Int.le_trans hU (by decide)))
theorem sub_fit {a b : Bd} {V U : Int} (ha : a.Up V) (hV : V ≤ 8000000000000000) (hb : b.Up U) (hU : U ≤ 8000000000000000) : Bd.Fit 4000000000000000000 (Bd.sub a b) := by
  obtain ⟨h1, h2, h3⟩ := ha
  obtain ⟨h4, h5, h6⟩ := hb
  unfold Bd.Fit Bd.sub
  simp only
  omega
theorem common_fit {a b p : Bd} (ha : Bd.Fit 4000000000000000000 a) (hb : Bd.Fit 4000000000000000000 b) (hp : p = Bd.meet a b) (w : World) :
    Calls Try.prog 82 #[.agg #[.int .i64 a.lo, .int .i64 a.hi], .agg #[.int .i64 b.lo, .int .i64 b.hi]] w fun e w' => e = .returned (.agg #[.int .i64 p.lo, .int .i64 p.hi]) ∧ Below w.heap.size w w' := by
  subst hp
  exact common_calls a b w ha hb

theorem if_max (a : Int) : (if a < 0 then 0 else a) = max 0 a := by
  by_cases h : a < 0
  · rw [if_pos h]; omega
  · rw [if_neg h]; omega
theorem if_min (a d : Int) : (if d < a then d else a) = min a d := by
  by_cases h : d < a
  · rw [if_pos h]; omega
  · rw [if_neg h]; omega
theorem if_max2 (a b : Int) : (if a < b then b else a) = max a b := by
  by_cases h : a < b
  · rw [if_pos h]; omega
  · rw [if_neg h]; omega

set_option maxHeartbeats 400000 in
/-- The later one of two days of boiling. -/
theorem laterBoiled_calls (a b p : Int) (w : World) (ha : -1 ≤ a ∧ a ≤ 2000) (hb : -1 ≤ b ∧ b ≤ 2000) (hp : p = lastBoil a b) :
    Calls Try.prog 79 #[.int .i64 a, .int .i64 b] w fun e w' => e = .returned (.int .i64 p) ∧ Below w.heap.size w w' := by
  have HP := Lib.hid hp
  clear hp
  obtain ⟨a0, a1⟩ := ha
  obtain ⟨b0, b1⟩ := hb
  by_cases h1 : a = -1
  · subst h1
    go_enter Try.func79, Try.ntmps79
    go_wp2
    go_ret
    exact ⟨by rw [HP.out]; simp [lastBoil], Below.refl _ _⟩
  · have d1 : (a == -1) = false := by simpa using h1
    by_cases h2 : b = -1
    · subst h2
      clear h1
      go_enter Try.func79, Try.ntmps79
      go_wp2
      go_ret
      exact ⟨by rw [HP.out]; simp [lastBoil], Below.refl _ _⟩
    · have d2 : (b == -1) = false := by simpa using h2
      have HM := Lib.hid (show lastBoil a b = max a b by unfold lastBoil; rw [if_neg (by omega)])
      clear h1 h2
      go_enter Try.func79, Try.ntmps79
      go_wp2
      all_goals
        go_ret
        first
          | exact ⟨show Ending.returned (.int .i64 b) = _ by rw [HP.out, HM.out, Int.max_eq_right (by omega)], Below.refl _ _⟩
          | exact ⟨show Ending.returned (.int .i64 a) = _ by rw [HP.out, HM.out, Int.max_eq_left (by omega)], Below.refl _ _⟩

/-- A deed's begin: the deed lies in a block of its own. -/
theorem boxed_deed {w : World} {C : Nat → Prop} {B : Nat} {bef aft : Int} {l : List SRow} {c : Yd.Acc} {made : Int} {N : Nat} {kv tv : Value} {m : Nat} (h : Book w C B bef aft l c made N kv tv m) (hC : ∀ k, C k → k < w.heap.size) (cs : List Value) :
    Desk w (w.alloc (.cells cs.toArray 57)) (fun _ => False) C B bef aft l c made N kv tv m [(w.heap.size, 57, cs)] := (Desk.start h hC).alloc _ _ rfl
end Go.Proofs.Ytbgojeppfhldjaa
