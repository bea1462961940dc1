/- A law's range checks, and the code of a tree. -/
import Derived.Test.YtnoofdjlocadbaaGreatDoorLeaf
namespace Go.Proofs.YtnoofdjlocadbaaGreatDoor
open Go.RowKit

set_option maxHeartbeats 1000000 in
theorem isLaw_0 (age rest girth f0 f1 f2 heal : Int) (w : World) (h0 : inB f0 0 50 = false) :
    Calls Tryz.prog 41 #[.agg #[.int .i64 age, .int .i64 rest, .int .i64 girth, .int .i64 f0, .int .i64 f1, .int .i64 f2, .int .i64 heal]] w fun e w' => e = .returned (.bool false) ∧ Below w.heap.size w w' := by
  have i0 : ∀ w, (Instr.index 22 (.agg #[.int .i64 f0, .int .i64 f1, .int .i64 f2]) (.int .i64 0)).run Tryz.prog w = .ok (.int .i64 f0) w := fun _ => by kernel_rfl
  have i1 : ∀ w, (Instr.index 22 (.agg #[.int .i64 f0, .int .i64 f1, .int .i64 f2]) (.int .i64 1)).run Tryz.prog w = .ok (.int .i64 f1) w := fun _ => by kernel_rfl
  have i2 : ∀ w, (Instr.index 22 (.agg #[.int .i64 f0, .int .i64 f1, .int .i64 f2]) (.int .i64 2)).run Tryz.prog w = .ok (.int .i64 f2) w := fun _ => by kernel_rfl
  go_enter Tryz.func41, Tryz.ntmps41
  go_wp2
  refine wp_loop_rounds 4 ?_
  rw [rounds_succ]
  go_wp2_with (first | (go_at_call 67; refine (within_calls _ _ _ _).mono ?_; rintro e w' ⟨rfl, rfl⟩) | (go_at_call 58; refine (isYear_calls _ _).mono ?_; rintro e w' ⟨rfl, rfl⟩))
  go_ret
  exact ⟨rfl, (Below.refl _ w).alloc (Nat.le_refl _) _⟩

set_option maxHeartbeats 1000000 in
theorem isLaw_1 (age rest girth f0 f1 f2 heal : Int) (w : World) (h0 : inB f0 0 50 = true) (h1 : inB f1 0 50 = false) :
    Calls Tryz.prog 41 #[.agg #[.int .i64 age, .int .i64 rest, .int .i64 girth, .int .i64 f0, .int .i64 f1, .int .i64 f2, .int .i64 heal]] w fun e w' => e = .returned (.bool false) ∧ Below w.heap.size w w' := by
  have i0 : ∀ w, (Instr.index 22 (.agg #[.int .i64 f0, .int .i64 f1, .int .i64 f2]) (.int .i64 0)).run Tryz.prog w = .ok (.int .i64 f0) w := fun _ => by kernel_rfl
  have i1 : ∀ w, (Instr.index 22 (.agg #[.int .i64 f0, .int .i64 f1, .int .i64 f2]) (.int .i64 1)).run Tryz.prog w = .ok (.int .i64 f1) w := fun _ => by kernel_rfl
  have i2 : ∀ w, (Instr.index 22 (.agg #[.int .i64 f0, .int .i64 f1, .int .i64 f2]) (.int .i64 2)).run Tryz.prog w = .ok (.int .i64 f2) w := fun _ => by kernel_rfl
  go_enter Tryz.func41, Tryz.ntmps41
  go_wp2
  refine wp_loop_rounds 4 ?_
  rw [rounds_succ]
  go_wp2_with (first | (go_at_call 67; refine (within_calls _ _ _ _).mono ?_; rintro e w' ⟨rfl, rfl⟩) | (go_at_call 58; refine (isYear_calls _ _).mono ?_; rintro e w' ⟨rfl, rfl⟩))
  rw [rounds_succ]
  go_wp2_with (first | (go_at_call 67; refine (within_calls _ _ _ _).mono ?_; rintro e w' ⟨rfl, rfl⟩) | (go_at_call 58; refine (isYear_calls _ _).mono ?_; rintro e w' ⟨rfl, rfl⟩))
  go_ret
  exact ⟨rfl, (Below.refl _ w).alloc (Nat.le_refl _) _⟩

set_option maxHeartbeats 1000000 in
theorem isLaw_2 (age rest girth f0 f1 f2 heal : Int) (w : World) (h0 : inB f0 0 50 = true) (h1 : inB f1 0 50 = true) (h2 : inB f2 0 50 = false) :
    Calls Tryz.prog 41 #[.agg #[.int .i64 age, .int .i64 rest, .int .i64 girth, .int .i64 f0, .int .i64 f1, .int .i64 f2, .int .i64 heal]] w fun e w' => e = .returned (.bool false) ∧ Below w.heap.size w w' := by
  have i0 : ∀ w, (Instr.index 22 (.agg #[.int .i64 f0, .int .i64 f1, .int .i64 f2]) (.int .i64 0)).run Tryz.prog w = .ok (.int .i64 f0) w := fun _ => by kernel_rfl
  have i1 : ∀ w, (Instr.index 22 (.agg #[.int .i64 f0, .int .i64 f1, .int .i64 f2]) (.int .i64 1)).run Tryz.prog w = .ok (.int .i64 f1) w := fun _ => by kernel_rfl
  have i2 : ∀ w, (Instr.index 22 (.agg #[.int .i64 f0, .int .i64 f1, .int .i64 f2]) (.int .i64 2)).run Tryz.prog w = .ok (.int .i64 f2) w := fun _ => by kernel_rfl
  go_enter Tryz.func41, Tryz.ntmps41
  go_wp2
  refine wp_loop_rounds 4 ?_
  rw [rounds_succ]
  go_wp2_with (first | (go_at_call 67; refine (within_calls _ _ _ _).mono ?_; rintro e w' ⟨rfl, rfl⟩) | (go_at_call 58; refine (isYear_calls _ _).mono ?_; rintro e w' ⟨rfl, rfl⟩))
  rw [rounds_succ]
  go_wp2_with (first | (go_at_call 67; refine (within_calls _ _ _ _).mono ?_; rintro e w' ⟨rfl, rfl⟩) | (go_at_call 58; refine (isYear_calls _ _).mono ?_; rintro e w' ⟨rfl, rfl⟩))
  rw [rounds_succ]
  go_wp2_with (first | (go_at_call 67; refine (within_calls _ _ _ _).mono ?_; rintro e w' ⟨rfl, rfl⟩) | (go_at_call 58; refine (isYear_calls _ _).mono ?_; rintro e w' ⟨rfl, rfl⟩))
  go_ret
  exact ⟨rfl, (Below.refl _ w).alloc (Nat.le_refl _) _⟩

set_option maxHeartbeats 1000000 in
theorem isLaw_3 (age rest girth f0 f1 f2 heal : Int) (w : World) (h0 : inB f0 0 50 = true) (h1 : inB f1 0 50 = true) (h2 : inB f2 0 50 = true) (h3 : inB age 0 300 = false) :
    Calls Tryz.prog 41 #[.agg #[.int .i64 age, .int .i64 rest, .int .i64 girth, .int .i64 f0, .int .i64 f1, .int .i64 f2, .int .i64 heal]] w fun e w' => e = .returned (.bool false) ∧ Below w.heap.size w w' := by
  have i0 : ∀ w, (Instr.index 22 (.agg #[.int .i64 f0, .int .i64 f1, .int .i64 f2]) (.int .i64 0)).run Tryz.prog w = .ok (.int .i64 f0) w := fun _ => by kernel_rfl
  have i1 : ∀ w, (Instr.index 22 (.agg #[.int .i64 f0, .int .i64 f1, .int .i64 f2]) (.int .i64 1)).run Tryz.prog w = .ok (.int .i64 f1) w := fun _ => by kernel_rfl
  have i2 : ∀ w, (Instr.index 22 (.agg #[.int .i64 f0, .int .i64 f1, .int .i64 f2]) (.int .i64 2)).run Tryz.prog w = .ok (.int .i64 f2) w := fun _ => by kernel_rfl
  go_enter Tryz.func41, Tryz.ntmps41
  go_wp2
  refine wp_loop_rounds 4 ?_
  rw [rounds_succ]
  go_wp2_with (first | (go_at_call 67; refine (within_calls _ _ _ _).mono ?_; rintro e w' ⟨rfl, rfl⟩) | (go_at_call 58; refine (isYear_calls _ _).mono ?_; rintro e w' ⟨rfl, rfl⟩))
  rw [rounds_succ]
  go_wp2_with (first | (go_at_call 67; refine (within_calls _ _ _ _).mono ?_; rintro e w' ⟨rfl, rfl⟩) | (go_at_call 58; refine (isYear_calls _ _).mono ?_; rintro e w' ⟨rfl, rfl⟩))
  rw [rounds_succ]
  go_wp2_with (first | (go_at_call 67; refine (within_calls _ _ _ _).mono ?_; rintro e w' ⟨rfl, rfl⟩) | (go_at_call 58; refine (isYear_calls _ _).mono ?_; rintro e w' ⟨rfl, rfl⟩))
  rw [rounds_succ]
  go_wp2_with (first | (go_at_call 67; refine (within_calls _ _ _ _).mono ?_; rintro e w' ⟨rfl, rfl⟩) | (go_at_call 58; refine (isYear_calls _ _).mono ?_; rintro e w' ⟨rfl, rfl⟩))
  go_ret
  exact ⟨rfl, (Below.refl _ w).alloc (Nat.le_refl _) _⟩

set_option maxHeartbeats 1000000 in
theorem isLaw_4 (age rest girth f0 f1 f2 heal : Int) (w : World) (h0 : inB f0 0 50 = true) (h1 : inB f1 0 50 = true) (h2 : inB f2 0 50 = true) (h3 : inB age 0 300 = true) (h4 : inB rest 1 30 = false) :
    Calls Tryz.prog 41 #[.agg #[.int .i64 age, .int .i64 rest, .int .i64 girth, .int .i64 f0, .int .i64 f1, .int .i64 f2, .int .i64 heal]] w fun e w' => e = .returned (.bool false) ∧ Below w.heap.size w w' := by
  have i0 : ∀ w, (Instr.index 22 (.agg #[.int .i64 f0, .int .i64 f1, .int .i64 f2]) (.int .i64 0)).run Tryz.prog w = .ok (.int .i64 f0) w := fun _ => by kernel_rfl
  have i1 : ∀ w, (Instr.index 22 (.agg #[.int .i64 f0, .int .i64 f1, .int .i64 f2]) (.int .i64 1)).run Tryz.prog w = .ok (.int .i64 f1) w := fun _ => by kernel_rfl
  have i2 : ∀ w, (Instr.index 22 (.agg #[.int .i64 f0, .int .i64 f1, .int .i64 f2]) (.int .i64 2)).run Tryz.prog w = .ok (.int .i64 f2) w := fun _ => by kernel_rfl
  go_enter Tryz.func41, Tryz.ntmps41
  go_wp2
  refine wp_loop_rounds 4 ?_
  rw [rounds_succ]
  go_wp2_with (first | (go_at_call 67; refine (within_calls _ _ _ _).mono ?_; rintro e w' ⟨rfl, rfl⟩) | (go_at_call 58; refine (isYear_calls _ _).mono ?_; rintro e w' ⟨rfl, rfl⟩))
  rw [rounds_succ]
  go_wp2_with (first | (go_at_call 67; refine (within_calls _ _ _ _).mono ?_; rintro e w' ⟨rfl, rfl⟩) | (go_at_call 58; refine (isYear_calls _ _).mono ?_; rintro e w' ⟨rfl, rfl⟩))
  rw [rounds_succ]
  go_wp2_with (first | (go_at_call 67; refine (within_calls _ _ _ _).mono ?_; rintro e w' ⟨rfl, rfl⟩) | (go_at_call 58; refine (isYear_calls _ _).mono ?_; rintro e w' ⟨rfl, rfl⟩))
  rw [rounds_succ]
  go_wp2_with (first | (go_at_call 67; refine (within_calls _ _ _ _).mono ?_; rintro e w' ⟨rfl, rfl⟩) | (go_at_call 58; refine (isYear_calls _ _).mono ?_; rintro e w' ⟨rfl, rfl⟩))
  go_ret
  exact ⟨rfl, (Below.refl _ w).alloc (Nat.le_refl _) _⟩

set_option maxHeartbeats 1000000 in
theorem isLaw_5 (age rest girth f0 f1 f2 heal : Int) (w : World) (h0 : inB f0 0 50 = true) (h1 : inB f1 0 50 = true) (h2 : inB f2 0 50 = true) (h3 : inB age 0 300 = true) (h4 : inB rest 1 30 = true) (h5 : inB girth 0 6000 = false) :
    Calls Tryz.prog 41 #[.agg #[.int .i64 age, .int .i64 rest, .int .i64 girth, .int .i64 f0, .int .i64 f1, .int .i64 f2, .int .i64 heal]] w fun e w' => e = .returned (.bool false) ∧ Below w.heap.size w w' := by
  have i0 : ∀ w, (Instr.index 22 (.agg #[.int .i64 f0, .int .i64 f1, .int .i64 f2]) (.int .i64 0)).run Tryz.prog w = .ok (.int .i64 f0) w := fun _ => by kernel_rfl
  have i1 : ∀ w, (Instr.index 22 (.agg #[.int .i64 f0, .int .i64 f1, .int .i64 f2]) (.int .i64 1)).run Tryz.prog w = .ok (.int .i64 f1) w := fun _ => by kernel_rfl
  have i2 : ∀ w, (Instr.index 22 (.agg #[.int .i64 f0, .int .i64 f1, .int .i64 f2]) (.int .i64 2)).run Tryz.prog w = .ok (.int .i64 f2) w := fun _ => by kernel_rfl
  go_enter Tryz.func41, Tryz.ntmps41
  go_wp2
  refine wp_loop_rounds 4 ?_
  rw [rounds_succ]
  go_wp2_with (first | (go_at_call 67; refine (within_calls _ _ _ _).mono ?_; rintro e w' ⟨rfl, rfl⟩) | (go_at_call 58; refine (isYear_calls _ _).mono ?_; rintro e w' ⟨rfl, rfl⟩))
  rw [rounds_succ]
  go_wp2_with (first | (go_at_call 67; refine (within_calls _ _ _ _).mono ?_; rintro e w' ⟨rfl, rfl⟩) | (go_at_call 58; refine (isYear_calls _ _).mono ?_; rintro e w' ⟨rfl, rfl⟩))
  rw [rounds_succ]
  go_wp2_with (first | (go_at_call 67; refine (within_calls _ _ _ _).mono ?_; rintro e w' ⟨rfl, rfl⟩) | (go_at_call 58; refine (isYear_calls _ _).mono ?_; rintro e w' ⟨rfl, rfl⟩))
  rw [rounds_succ]
  go_wp2_with (first | (go_at_call 67; refine (within_calls _ _ _ _).mono ?_; rintro e w' ⟨rfl, rfl⟩) | (go_at_call 58; refine (isYear_calls _ _).mono ?_; rintro e w' ⟨rfl, rfl⟩))
  go_ret
  exact ⟨rfl, (Below.refl _ w).alloc (Nat.le_refl _) _⟩

set_option maxHeartbeats 1000000 in
theorem isLaw_6 (age rest girth f0 f1 f2 heal : Int) (w : World) (h0 : inB f0 0 50 = true) (h1 : inB f1 0 50 = true) (h2 : inB f2 0 50 = true) (h3 : inB age 0 300 = true) (h4 : inB rest 1 30 = true) (h5 : inB girth 0 6000 = true) (h6 : inB heal 0 30 = false) :
    Calls Tryz.prog 41 #[.agg #[.int .i64 age, .int .i64 rest, .int .i64 girth, .int .i64 f0, .int .i64 f1, .int .i64 f2, .int .i64 heal]] w fun e w' => e = .returned (.bool false) ∧ Below w.heap.size w w' := by
  have i0 : ∀ w, (Instr.index 22 (.agg #[.int .i64 f0, .int .i64 f1, .int .i64 f2]) (.int .i64 0)).run Tryz.prog w = .ok (.int .i64 f0) w := fun _ => by kernel_rfl
  have i1 : ∀ w, (Instr.index 22 (.agg #[.int .i64 f0, .int .i64 f1, .int .i64 f2]) (.int .i64 1)).run Tryz.prog w = .ok (.int .i64 f1) w := fun _ => by kernel_rfl
  have i2 : ∀ w, (Instr.index 22 (.agg #[.int .i64 f0, .int .i64 f1, .int .i64 f2]) (.int .i64 2)).run Tryz.prog w = .ok (.int .i64 f2) w := fun _ => by kernel_rfl
  go_enter Tryz.func41, Tryz.ntmps41
  go_wp2
  refine wp_loop_rounds 4 ?_
  rw [rounds_succ]
  go_wp2_with (first | (go_at_call 67; refine (within_calls _ _ _ _).mono ?_; rintro e w' ⟨rfl, rfl⟩) | (go_at_call 58; refine (isYear_calls _ _).mono ?_; rintro e w' ⟨rfl, rfl⟩))
  rw [rounds_succ]
  go_wp2_with (first | (go_at_call 67; refine (within_calls _ _ _ _).mono ?_; rintro e w' ⟨rfl, rfl⟩) | (go_at_call 58; refine (isYear_calls _ _).mono ?_; rintro e w' ⟨rfl, rfl⟩))
  rw [rounds_succ]
  go_wp2_with (first | (go_at_call 67; refine (within_calls _ _ _ _).mono ?_; rintro e w' ⟨rfl, rfl⟩) | (go_at_call 58; refine (isYear_calls _ _).mono ?_; rintro e w' ⟨rfl, rfl⟩))
  rw [rounds_succ]
  go_wp2_with (first | (go_at_call 67; refine (within_calls _ _ _ _).mono ?_; rintro e w' ⟨rfl, rfl⟩) | (go_at_call 58; refine (isYear_calls _ _).mono ?_; rintro e w' ⟨rfl, rfl⟩))
  go_ret
  exact ⟨rfl, (Below.refl _ w).alloc (Nat.le_refl _) _⟩

set_option maxHeartbeats 1000000 in
theorem isLaw_7 (age rest girth f0 f1 f2 heal : Int) (w : World) (h0 : inB f0 0 50 = true) (h1 : inB f1 0 50 = true) (h2 : inB f2 0 50 = true) (h3 : inB age 0 300 = true) (h4 : inB rest 1 30 = true) (h5 : inB girth 0 6000 = true) (h6 : inB heal 0 30 = true) :
    Calls Tryz.prog 41 #[.agg #[.int .i64 age, .int .i64 rest, .int .i64 girth, .int .i64 f0, .int .i64 f1, .int .i64 f2, .int .i64 heal]] w fun e w' => e = .returned (.bool true) ∧ Below w.heap.size w w' := by
  have i0 : ∀ w, (Instr.index 22 (.agg #[.int .i64 f0, .int .i64 f1, .int .i64 f2]) (.int .i64 0)).run Tryz.prog w = .ok (.int .i64 f0) w := fun _ => by kernel_rfl
  have i1 : ∀ w, (Instr.index 22 (.agg #[.int .i64 f0, .int .i64 f1, .int .i64 f2]) (.int .i64 1)).run Tryz.prog w = .ok (.int .i64 f1) w := fun _ => by kernel_rfl
  have i2 : ∀ w, (Instr.index 22 (.agg #[.int .i64 f0, .int .i64 f1, .int .i64 f2]) (.int .i64 2)).run Tryz.prog w = .ok (.int .i64 f2) w := fun _ => by kernel_rfl
  go_enter Tryz.func41, Tryz.ntmps41
  go_wp2
  refine wp_loop_rounds 4 ?_
  rw [rounds_succ]
  go_wp2_with (first | (go_at_call 67; refine (within_calls _ _ _ _).mono ?_; rintro e w' ⟨rfl, rfl⟩) | (go_at_call 58; refine (isYear_calls _ _).mono ?_; rintro e w' ⟨rfl, rfl⟩))
  rw [rounds_succ]
  go_wp2_with (first | (go_at_call 67; refine (within_calls _ _ _ _).mono ?_; rintro e w' ⟨rfl, rfl⟩) | (go_at_call 58; refine (isYear_calls _ _).mono ?_; rintro e w' ⟨rfl, rfl⟩))
  rw [rounds_succ]
  go_wp2_with (first | (go_at_call 67; refine (within_calls _ _ _ _).mono ?_; rintro e w' ⟨rfl, rfl⟩) | (go_at_call 58; refine (isYear_calls _ _).mono ?_; rintro e w' ⟨rfl, rfl⟩))
  rw [rounds_succ]
  go_wp2_with (first | (go_at_call 67; refine (within_calls _ _ _ _).mono ?_; rintro e w' ⟨rfl, rfl⟩) | (go_at_call 58; refine (isYear_calls _ _).mono ?_; rintro e w' ⟨rfl, rfl⟩))
  go_ret
  exact ⟨rfl, (Below.refl _ w).alloc (Nat.le_refl _) _⟩

theorem isLaw_calls (l : Law) (w : World) :
    Calls Tryz.prog 41 #[.agg l.cells.toArray] w fun e w' => e = .returned (.bool (lawB l)) ∧ Below w.heap.size w w' := by
  obtain ⟨age, rest, girth, f0, f1, f2, heal⟩ := l
  show Calls Tryz.prog _ #[.agg #[.int .i64 age, .int .i64 rest, .int .i64 girth, .int .i64 f0, .int .i64 f1, .int .i64 f2, .int .i64 heal]] _ _
  unfold lawB
  cases h0 : inB f0 0 50
  · exact isLaw_0 age rest girth f0 f1 f2 heal w h0
  cases h1 : inB f1 0 50
  · exact isLaw_1 age rest girth f0 f1 f2 heal w h0 h1
  cases h2 : inB f2 0 50
  · exact isLaw_2 age rest girth f0 f1 f2 heal w h0 h1 h2
  cases h3 : inB age 0 300
  · exact isLaw_3 age rest girth f0 f1 f2 heal w h0 h1 h2 h3
  cases h4 : inB rest 1 30
  · exact isLaw_4 age rest girth f0 f1 f2 heal w h0 h1 h2 h3 h4
  cases h5 : inB girth 0 6000
  · exact isLaw_5 age rest girth f0 f1 f2 heal w h0 h1 h2 h3 h4 h5
  cases h6 : inB heal 0 30
  · exact isLaw_6 age rest girth f0 f1 f2 heal w h0 h1 h2 h3 h4 h5 h6
  exact isLaw_7 age rest girth f0 f1 f2 heal w h0 h1 h2 h3 h4 h5 h6

set_option maxHeartbeats 1000000 in
theorem checkLaw_0 (age rest girth f0 f1 f2 heal : Int) (w : World) (h0 : inB age 0 300 = false) :
    Calls Tryz.prog 30 #[.agg #[.int .i64 age, .int .i64 rest, .int .i64 girth, .int .i64 f0, .int .i64 f1, .int .i64 f2, .int .i64 heal]] w fun e w' => e = .returned (.int .i64 1) ∧ Below w.heap.size w w' := by
  go_enter Tryz.func30, Tryz.ntmps30
  go_wp2_with (go_at_call 56; refine (in_calls _ _ _ _).mono ?_; rintro e w' ⟨rfl, rfl⟩)
  refine wp_loop_rounds 4 ?_
  rw [rounds_succ]
  go_wp2_with (go_at_call 56; refine (in_calls _ _ _ _).mono ?_; rintro e w' ⟨rfl, rfl⟩)
  rw [rounds_succ]
  go_wp2_with (go_at_call 56; refine (in_calls _ _ _ _).mono ?_; rintro e w' ⟨rfl, rfl⟩)
  rw [rounds_succ]
  go_wp2_with (go_at_call 56; refine (in_calls _ _ _ _).mono ?_; rintro e w' ⟨rfl, rfl⟩)
  rw [rounds_succ]
  go_wp2_with (go_at_call 56; refine (in_calls _ _ _ _).mono ?_; rintro e w' ⟨rfl, rfl⟩)
  go_ret
  exact ⟨rfl, (Below.refl _ w).alloc (Nat.le_refl _) _⟩

set_option maxHeartbeats 1000000 in
theorem checkLaw_1 (age rest girth f0 f1 f2 heal : Int) (w : World) (h0 : inB age 0 300 = true) (h1 : inB rest 1 30 = false) :
    Calls Tryz.prog 30 #[.agg #[.int .i64 age, .int .i64 rest, .int .i64 girth, .int .i64 f0, .int .i64 f1, .int .i64 f2, .int .i64 heal]] w fun e w' => e = .returned (.int .i64 1) ∧ Below w.heap.size w w' := by
  go_enter Tryz.func30, Tryz.ntmps30
  go_wp2_with (go_at_call 56; refine (in_calls _ _ _ _).mono ?_; rintro e w' ⟨rfl, rfl⟩)
  refine wp_loop_rounds 4 ?_
  rw [rounds_succ]
  go_wp2_with (go_at_call 56; refine (in_calls _ _ _ _).mono ?_; rintro e w' ⟨rfl, rfl⟩)
  rw [rounds_succ]
  go_wp2_with (go_at_call 56; refine (in_calls _ _ _ _).mono ?_; rintro e w' ⟨rfl, rfl⟩)
  rw [rounds_succ]
  go_wp2_with (go_at_call 56; refine (in_calls _ _ _ _).mono ?_; rintro e w' ⟨rfl, rfl⟩)
  rw [rounds_succ]
  go_wp2_with (go_at_call 56; refine (in_calls _ _ _ _).mono ?_; rintro e w' ⟨rfl, rfl⟩)
  go_ret
  exact ⟨rfl, (Below.refl _ w).alloc (Nat.le_refl _) _⟩

set_option maxHeartbeats 1000000 in
theorem checkLaw_2 (age rest girth f0 f1 f2 heal : Int) (w : World) (h0 : inB age 0 300 = true) (h1 : inB rest 1 30 = true) (h2 : inB girth 0 6000 = false) :
    Calls Tryz.prog 30 #[.agg #[.int .i64 age, .int .i64 rest, .int .i64 girth, .int .i64 f0, .int .i64 f1, .int .i64 f2, .int .i64 heal]] w fun e w' => e = .returned (.int .i64 1) ∧ Below w.heap.size w w' := by
  go_enter Tryz.func30, Tryz.ntmps30
  go_wp2_with (go_at_call 56; refine (in_calls _ _ _ _).mono ?_; rintro e w' ⟨rfl, rfl⟩)
  refine wp_loop_rounds 4 ?_
  rw [rounds_succ]
  go_wp2_with (go_at_call 56; refine (in_calls _ _ _ _).mono ?_; rintro e w' ⟨rfl, rfl⟩)
  rw [rounds_succ]
  go_wp2_with (go_at_call 56; refine (in_calls _ _ _ _).mono ?_; rintro e w' ⟨rfl, rfl⟩)
  rw [rounds_succ]
  go_wp2_with (go_at_call 56; refine (in_calls _ _ _ _).mono ?_; rintro e w' ⟨rfl, rfl⟩)
  rw [rounds_succ]
  go_wp2_with (go_at_call 56; refine (in_calls _ _ _ _).mono ?_; rintro e w' ⟨rfl, rfl⟩)
  go_ret
  exact ⟨rfl, (Below.refl _ w).alloc (Nat.le_refl _) _⟩

set_option maxHeartbeats 1000000 in
theorem checkLaw_3 (age rest girth f0 f1 f2 heal : Int) (w : World) (h0 : inB age 0 300 = true) (h1 : inB rest 1 30 = true) (h2 : inB girth 0 6000 = true) (h3 : inB heal 0 30 = false) :
    Calls Tryz.prog 30 #[.agg #[.int .i64 age, .int .i64 rest, .int .i64 girth, .int .i64 f0, .int .i64 f1, .int .i64 f2, .int .i64 heal]] w fun e w' => e = .returned (.int .i64 1) ∧ Below w.heap.size w w' := by
  go_enter Tryz.func30, Tryz.ntmps30
  go_wp2_with (go_at_call 56; refine (in_calls _ _ _ _).mono ?_; rintro e w' ⟨rfl, rfl⟩)
  refine wp_loop_rounds 4 ?_
  rw [rounds_succ]
  go_wp2_with (go_at_call 56; refine (in_calls _ _ _ _).mono ?_; rintro e w' ⟨rfl, rfl⟩)
  rw [rounds_succ]
  go_wp2_with (go_at_call 56; refine (in_calls _ _ _ _).mono ?_; rintro e w' ⟨rfl, rfl⟩)
  rw [rounds_succ]
  go_wp2_with (go_at_call 56; refine (in_calls _ _ _ _).mono ?_; rintro e w' ⟨rfl, rfl⟩)
  rw [rounds_succ]
  go_wp2_with (go_at_call 56; refine (in_calls _ _ _ _).mono ?_; rintro e w' ⟨rfl, rfl⟩)
  go_ret
  exact ⟨rfl, (Below.refl _ w).alloc (Nat.le_refl _) _⟩

set_option maxHeartbeats 1000000 in
theorem checkLaw_4 (age rest girth f0 f1 f2 heal : Int) (w : World) (h0 : inB age 0 300 = true) (h1 : inB rest 1 30 = true) (h2 : inB girth 0 6000 = true) (h3 : inB heal 0 30 = true) (h4 : inB f0 0 50 = false) :
    Calls Tryz.prog 30 #[.agg #[.int .i64 age, .int .i64 rest, .int .i64 girth, .int .i64 f0, .int .i64 f1, .int .i64 f2, .int .i64 heal]] w fun e w' => e = .returned (.int .i64 1) ∧ Below w.heap.size w w' := by
  go_enter Tryz.func30, Tryz.ntmps30
  go_wp2_with (go_at_call 56; refine (in_calls _ _ _ _).mono ?_; rintro e w' ⟨rfl, rfl⟩)
  refine wp_loop_rounds 4 ?_
  rw [rounds_succ]
  go_wp2_with (go_at_call 56; refine (in_calls _ _ _ _).mono ?_; rintro e w' ⟨rfl, rfl⟩)
  rw [rounds_succ]
  go_wp2_with (go_at_call 56; refine (in_calls _ _ _ _).mono ?_; rintro e w' ⟨rfl, rfl⟩)
  rw [rounds_succ]
  go_wp2_with (go_at_call 56; refine (in_calls _ _ _ _).mono ?_; rintro e w' ⟨rfl, rfl⟩)
  rw [rounds_succ]
  go_wp2_with (go_at_call 56; refine (in_calls _ _ _ _).mono ?_; rintro e w' ⟨rfl, rfl⟩)
  go_ret
  exact ⟨rfl, (Below.refl _ w).alloc (Nat.le_refl _) _⟩

set_option maxHeartbeats 1000000 in
theorem checkLaw_5 (age rest girth f0 f1 f2 heal : Int) (w : World) (h0 : inB age 0 300 = true) (h1 : inB rest 1 30 = true) (h2 : inB girth 0 6000 = true) (h3 : inB heal 0 30 = true) (h4 : inB f0 0 50 = true) (h5 : inB f1 0 50 = false) :
    Calls Tryz.prog 30 #[.agg #[.int .i64 age, .int .i64 rest, .int .i64 girth, .int .i64 f0, .int .i64 f1, .int .i64 f2, .int .i64 heal]] w fun e w' => e = .returned (.int .i64 1) ∧ Below w.heap.size w w' := by
  go_enter Tryz.func30, Tryz.ntmps30
  go_wp2_with (go_at_call 56; refine (in_calls _ _ _ _).mono ?_; rintro e w' ⟨rfl, rfl⟩)
  refine wp_loop_rounds 4 ?_
  rw [rounds_succ]
  go_wp2_with (go_at_call 56; refine (in_calls _ _ _ _).mono ?_; rintro e w' ⟨rfl, rfl⟩)
  rw [rounds_succ]
  go_wp2_with (go_at_call 56; refine (in_calls _ _ _ _).mono ?_; rintro e w' ⟨rfl, rfl⟩)
  rw [rounds_succ]
  go_wp2_with (go_at_call 56; refine (in_calls _ _ _ _).mono ?_; rintro e w' ⟨rfl, rfl⟩)
  rw [rounds_succ]
  go_wp2_with (go_at_call 56; refine (in_calls _ _ _ _).mono ?_; rintro e w' ⟨rfl, rfl⟩)
  go_ret
  exact ⟨rfl, (Below.refl _ w).alloc (Nat.le_refl _) _⟩

set_option maxHeartbeats 1000000 in
theorem checkLaw_6 (age rest girth f0 f1 f2 heal : Int) (w : World) (h0 : inB age 0 300 = true) (h1 : inB rest 1 30 = true) (h2 : inB girth 0 6000 = true) (h3 : inB heal 0 30 = true) (h4 : inB f0 0 50 = true) (h5 : inB f1 0 50 = true) (h6 : inB f2 0 50 = false) :
    Calls Tryz.prog 30 #[.agg #[.int .i64 age, .int .i64 rest, .int .i64 girth, .int .i64 f0, .int .i64 f1, .int .i64 f2, .int .i64 heal]] w fun e w' => e = .returned (.int .i64 1) ∧ Below w.heap.size w w' := by
  go_enter Tryz.func30, Tryz.ntmps30
  go_wp2_with (go_at_call 56; refine (in_calls _ _ _ _).mono ?_; rintro e w' ⟨rfl, rfl⟩)
  refine wp_loop_rounds 4 ?_
  rw [rounds_succ]
  go_wp2_with (go_at_call 56; refine (in_calls _ _ _ _).mono ?_; rintro e w' ⟨rfl, rfl⟩)
  rw [rounds_succ]
  go_wp2_with (go_at_call 56; refine (in_calls _ _ _ _).mono ?_; rintro e w' ⟨rfl, rfl⟩)
  rw [rounds_succ]
  go_wp2_with (go_at_call 56; refine (in_calls _ _ _ _).mono ?_; rintro e w' ⟨rfl, rfl⟩)
  rw [rounds_succ]
  go_wp2_with (go_at_call 56; refine (in_calls _ _ _ _).mono ?_; rintro e w' ⟨rfl, rfl⟩)
  go_ret
  exact ⟨rfl, (Below.refl _ w).alloc (Nat.le_refl _) _⟩

set_option maxHeartbeats 1000000 in
theorem checkLaw_7 (age rest girth f0 f1 f2 heal : Int) (w : World) (h0 : inB age 0 300 = true) (h1 : inB rest 1 30 = true) (h2 : inB girth 0 6000 = true) (h3 : inB heal 0 30 = true) (h4 : inB f0 0 50 = true) (h5 : inB f1 0 50 = true) (h6 : inB f2 0 50 = true) :
    Calls Tryz.prog 30 #[.agg #[.int .i64 age, .int .i64 rest, .int .i64 girth, .int .i64 f0, .int .i64 f1, .int .i64 f2, .int .i64 heal]] w fun e w' => e = .returned (.int .i64 0) ∧ Below w.heap.size w w' := by
  go_enter Tryz.func30, Tryz.ntmps30
  go_wp2_with (go_at_call 56; refine (in_calls _ _ _ _).mono ?_; rintro e w' ⟨rfl, rfl⟩)
  refine wp_loop_rounds 4 ?_
  rw [rounds_succ]
  go_wp2_with (go_at_call 56; refine (in_calls _ _ _ _).mono ?_; rintro e w' ⟨rfl, rfl⟩)
  rw [rounds_succ]
  go_wp2_with (go_at_call 56; refine (in_calls _ _ _ _).mono ?_; rintro e w' ⟨rfl, rfl⟩)
  rw [rounds_succ]
  go_wp2_with (go_at_call 56; refine (in_calls _ _ _ _).mono ?_; rintro e w' ⟨rfl, rfl⟩)
  rw [rounds_succ]
  go_wp2_with (go_at_call 56; refine (in_calls _ _ _ _).mono ?_; rintro e w' ⟨rfl, rfl⟩)
  go_ret
  exact ⟨rfl, (Below.refl _ w).alloc (Nat.le_refl _) _⟩

theorem checkLaw_calls (l : Law) (w : World) :
    Calls Tryz.prog 30 #[.agg l.cells.toArray] w fun e w' => e = .returned (.int .i64 (if lawB l then 0 else 1)) ∧ Below w.heap.size w w' := by
  obtain ⟨age, rest, girth, f0, f1, f2, heal⟩ := l
  show Calls Tryz.prog _ #[.agg #[.int .i64 age, .int .i64 rest, .int .i64 girth, .int .i64 f0, .int .i64 f1, .int .i64 f2, .int .i64 heal]] _ _
  unfold lawB
  cases h0 : inB age 0 300
  · simpa [h0] using checkLaw_0 age rest girth f0 f1 f2 heal w h0
  cases h1 : inB rest 1 30
  · simpa [h0, h1] using checkLaw_1 age rest girth f0 f1 f2 heal w h0 h1
  cases h2 : inB girth 0 6000
  · simpa [h0, h1, h2] using checkLaw_2 age rest girth f0 f1 f2 heal w h0 h1 h2
  cases h3 : inB heal 0 30
  · simpa [h0, h1, h2, h3] using checkLaw_3 age rest girth f0 f1 f2 heal w h0 h1 h2 h3
  cases h4 : inB f0 0 50
  · simpa [h0, h1, h2, h3, h4] using checkLaw_4 age rest girth f0 f1 f2 heal w h0 h1 h2 h3 h4
  cases h5 : inB f1 0 50
  · simpa [h0, h1, h2, h3, h4, h5] using checkLaw_5 age rest girth f0 f1 f2 heal w h0 h1 h2 h3 h4 h5
  cases h6 : inB f2 0 50
  · simpa [h0, h1, h2, h3, h4, h5, h6] using checkLaw_6 age rest girth f0 f1 f2 heal w h0 h1 h2 h3 h4 h5 h6
  simpa [h0, h1, h2, h3, h4, h5, h6] using checkLaw_7 age rest girth f0 f1 f2 heal w h0 h1 h2 h3 h4 h5 h6

end Go.Proofs.YtnoofdjlocadbaaGreatDoor
