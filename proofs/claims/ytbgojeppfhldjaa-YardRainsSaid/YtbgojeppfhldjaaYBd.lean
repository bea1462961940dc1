/- The yard's bounds: what the functions on bounds return. -/
import Derived.Test.YtbgojeppfhldjaaRows
import Derived.Test.YtbgojeppfhldjaaYard
import Derived.WalkKit
import Derived.WalkSpells
import Derived.WalkLawsBesides
import Derived.RegionTactic
import Derived.ChangeAlike
import Derived.Deep.QuietTactic
import Derived.BigQuiet
import Derived.Below
import Derived.Outline
namespace Go.Proofs.Ytbgojeppfhldjaa
open Go Go.RowKit Yd

/-- Bounds as a value. -/
def bdv (b : Bd) : Value := .agg #[.int .i64 b.lo, .int .i64 b.hi]
/-- Both ends lie so far from the ends of int. -/
def Bd.Fit (n : Int) (b : Bd) : Prop := -n ≤ b.lo ∧ b.lo ≤ n ∧ -n ≤ b.hi ∧ b.hi ≤ n

set_option maxHeartbeats 400000 in
theorem sum_calls (a b : Bd) (w : World) (ha : Bd.Fit 4000000000000000000 a) (hb : Bd.Fit 4000000000000000000 b) :
    Calls Try.prog 72 #[bdv a, bdv b] w fun e w' => e = .returned (bdv (a.add b)) ∧ Below w.heap.size w w' := by
  obtain ⟨a1, a2⟩ := a
  obtain ⟨b1, b2⟩ := b
  simp only [bdv, Bd.add, Bd.Fit] at *
  obtain ⟨h1, h2, h3, h4⟩ := ha
  obtain ⟨h5, h6, h7, h8⟩ := hb
  go_enter Try.func72, Try.ntmps72
  go_wp2
  exact bodyPost_ret (v := .agg #[.int .i64 (a1 + b1), .int .i64 (a2 + b2)]) (by simp [results, Try.results72, go_sem]) rfl ⟨rfl, by (repeat (first | (refine Below.setCell ?_ (by first | (simp; done) | (simp; omega)) _) | (refine Below.alloc ?_ (by first | (simp; done) | (simp; omega)) _) | (refine Below.drew ?_))); exact Below.refl _ _⟩

/-- By how much a number is more than another one. -/
def Bd.sub (a b : Bd) : Bd := ⟨a.lo - b.hi, a.hi - b.lo⟩
/-- What is in both. -/
def Bd.meet (a b : Bd) : Bd := ⟨max a.lo b.lo, min a.hi b.hi⟩

set_option maxHeartbeats 400000 in
theorem difference_calls (a b : Bd) (w : World) (ha : Bd.Fit 4000000000000000000 a) (hb : Bd.Fit 4000000000000000000 b) :
    Calls Try.prog 77 #[bdv a, bdv b] w fun e w' => e = .returned (bdv (Bd.sub a b)) ∧ Below w.heap.size w w' := by
  obtain ⟨a1, a2⟩ := a
  obtain ⟨b1, b2⟩ := b
  simp only [bdv, Bd.sub, Bd.Fit] at *
  obtain ⟨h1, h2, h3, h4⟩ := ha
  obtain ⟨h5, h6, h7, h8⟩ := hb
  go_enter Try.func77, Try.ntmps77
  go_wp2
  exact bodyPost_ret (v := .agg #[.int .i64 (a1 - b2), .int .i64 (a2 - b1)]) (by simp [results, Try.results77, go_sem]) rfl ⟨rfl, by (repeat (first | (refine Below.setCell ?_ (by first | (simp; done) | (simp; omega)) _) | (refine Below.alloc ?_ (by first | (simp; done) | (simp; omega)) _) | (refine Below.drew ?_))); exact Below.refl _ _⟩

set_option maxHeartbeats 400000 in
theorem common_calls (a b : Bd) (w : World) (ha : Bd.Fit 4000000000000000000 a) (hb : Bd.Fit 4000000000000000000 b) :
    Calls Try.prog 82 #[bdv a, bdv b] w fun e w' => e = .returned (bdv (Bd.meet a b)) ∧ Below w.heap.size w w' := by
  obtain ⟨a1, a2⟩ := a
  obtain ⟨b1, b2⟩ := b
  simp only [bdv, Bd.meet, Bd.Fit] at *
  obtain ⟨h1, h2, h3, h4⟩ := ha
  obtain ⟨h5, h6, h7, h8⟩ := hb
  go_enter Try.func82, Try.ntmps82
  go_wp2
  all_goals exact bodyPost_ret (v := .agg #[.int .i64 (max a1 b1), .int .i64 (min a2 b2)]) (by simp [results, Try.results82, go_sem]; try omega) rfl ⟨rfl, by (repeat (first | (refine Below.setCell ?_ (by first | (simp; done) | (simp; omega)) _) | (refine Below.alloc ?_ (by first | (simp; done) | (simp; omega)) _) | (refine Below.drew ?_))); exact Below.refl _ _⟩

theorem mul_fit {x y n m : Int} (hx : 0 ≤ x ∧ x ≤ n) (hy : 0 ≤ y ∧ y ≤ m) : 0 ≤ x * y ∧ x * y ≤ n * m :=
  ⟨Int.mul_nonneg hx.1 hy.1, Int.mul_le_mul hx.2 hy.2 hy.1 (Int.le_trans hx.1 hx.2)⟩

set_option maxHeartbeats 400000 in
theorem part_calls (a b : Bd) (w : World) (ha : Bd.Fit 2000000000000000 a) (hb : Bd.Fit 4000 b) (hn : 0 ≤ a.lo ∧ 0 ≤ a.hi) (hm : 0 ≤ b.lo ∧ 0 ≤ b.hi) :
    Calls Try.prog 73 #[bdv a, bdv b] w fun e w' => e = .returned (bdv (a.part b)) ∧ Below w.heap.size w w' := by
  obtain ⟨a1, a2⟩ := a
  obtain ⟨b1, b2⟩ := b
  simp only [bdv, Bd.part, Bd.Fit] at *
  obtain ⟨h1, h2, h3, h4⟩ := ha
  obtain ⟨h5, h6, h7, h8⟩ := hb
  have m0 := mul_fit (x := a1) (y := b1) (n := 2000000000000000) (m := 4000) (by omega) (by omega)
  have m1 := mul_fit (x := a2) (y := b2) (n := 2000000000000000) (m := 4000) (by omega) (by omega)
  have q0 : 0 ≤ a1 * b1 / 1000 ∧ a1 * b1 / 1000 ≤ 8000000000000000 := by omega
  have q1 : 0 ≤ a2 * b2 / 1000 ∧ a2 * b2 / 1000 ≤ 8000000000000000 := by omega
  obtain ⟨m01, m02⟩ := m0
  obtain ⟨m11, m12⟩ := m1
  obtain ⟨q01, q02⟩ := q0
  obtain ⟨q11, q12⟩ := q1
  go_enter Try.func73, Try.ntmps73
  go_wp2
  exact bodyPost_ret (v := .agg #[.int .i64 (a1 * b1 / 1000), .int .i64 (a2 * b2 / 1000)]) (by simp [results, Try.results73, go_sem]) rfl ⟨rfl, by (repeat (first | (refine Below.setCell ?_ (by first | (simp; done) | (simp; omega)) _) | (refine Below.alloc ?_ (by first | (simp; done) | (simp; omega)) _) | (refine Below.drew ?_))); exact Below.refl _ _⟩

set_option maxHeartbeats 400000 in
theorem left_calls (a b : Bd) (w : World) (ha : Bd.Fit 2000000000000000 a) (hb : Bd.Fit 4000 b) (hn : 0 ≤ a.lo ∧ 0 ≤ a.hi) (hm : 0 ≤ b.lo ∧ 0 ≤ b.hi) :
    Calls Try.prog 74 #[bdv a, bdv b] w fun e w' => e = .returned (bdv (a.left b)) ∧ Below w.heap.size w w' := by
  obtain ⟨a1, a2⟩ := a
  obtain ⟨b1, b2⟩ := b
  simp only [bdv, Bd.left, Bd.Fit] at *
  obtain ⟨h1, h2, h3, h4⟩ := ha
  obtain ⟨h5, h6, h7, h8⟩ := hb
  have m0 := mul_fit (x := a1) (y := b2) (n := 2000000000000000) (m := 4000) (by omega) (by omega)
  have m1 := mul_fit (x := a2) (y := b1) (n := 2000000000000000) (m := 4000) (by omega) (by omega)
  have q0 : 0 ≤ a1 * b2 / 1000 ∧ a1 * b2 / 1000 ≤ 8000000000000000 := by omega
  have q1 : 0 ≤ a2 * b1 / 1000 ∧ a2 * b1 / 1000 ≤ 8000000000000000 := by omega
  obtain ⟨m01, m02⟩ := m0
  obtain ⟨m11, m12⟩ := m1
  obtain ⟨q01, q02⟩ := q0
  obtain ⟨q11, q12⟩ := q1
  go_enter Try.func74, Try.ntmps74
  go_wp2
  exact bodyPost_ret (v := .agg #[.int .i64 (a1 - a1 * b2 / 1000), .int .i64 (a2 - a2 * b1 / 1000)]) (by simp [results, Try.results74, go_sem]) rfl ⟨rfl, by (repeat (first | (refine Below.setCell ?_ (by first | (simp; done) | (simp; omega)) _) | (refine Below.alloc ?_ (by first | (simp; done) | (simp; omega)) _) | (refine Below.drew ?_))); exact Below.refl _ _⟩

end Go.Proofs.Ytbgojeppfhldjaa
