/- May a real tree really be stripped: the loops over its strips and its wounds. -/
import Derived.Test.YtceginnogbbpeaaRealGirth
namespace Go.Proofs.Ytceginnogbbpeaa
open Go.RowKit Go.Shelf

/-- A strip is far enough away; a wound is healed, or yet to come. -/
def farB (y rest : Int) (s : Int × Int) : Bool := decide (rest ≤ max (y - s.1) (-(y - s.1)))
def healedB (y heal x : Int) : Bool := decide (y - x < 0) || decide (heal ≤ y - x)

theorem kept_all_step {α : Type} [Inhabited α] (p : α → Bool) (xs : List α) (k : Nat) (h : k < xs.length) : (xs.drop k).all p = (p xs[k]! && (xs.drop (k + 1)).all p) := by
  rw [List.drop_eq_getElem_cons h, List.all_cons, getElem!_pos xs k h]
theorem kept_all_end {α : Type} (p : α → Bool) (xs : List α) (k : Nat) (h : xs.length ≤ k) : (xs.drop k).all p = true := by
  rw [List.drop_eq_nil_of_le h]; rfl
theorem kept_count_step (xs : List (Int × Int)) (y : Int) (k : Nat) (h : k < xs.length) : countBefore (xs.drop k) y = (if xs[k]!.1 < y then 1 else 0) + countBefore (xs.drop (k + 1)) y := by
  unfold countBefore
  rw [List.drop_eq_getElem_cons h, List.filter_cons, getElem!_pos xs k h]
  by_cases hs : xs[k].1 < y
  · simp [hs]; omega
  · simp [hs]
theorem kept_count_end (xs : List (Int × Int)) (y : Int) (k : Nat) (h : xs.length ≤ k) : countBefore (xs.drop k) y = 0 := by
  unfold countBefore; rw [List.drop_eq_nil_of_le h]; rfl

/-- Some answer, that of a girth between two. -/
def SomeKept (c : Int → Bool) (lo hi : Int) (w : World) (e : Ending) (w' : World) : Prop := ∃ g : Int, e = .returned (.bool (c g)) ∧ lo ≤ g ∧ g ≤ hi ∧ Below w.heap.size w w'

theorem fac_at (age rest girth f0 f1 f2 heal : Int) (m : Nat) : (#[.int .i64 age, .int .i64 rest, .int .i64 girth, .int .i64 f0, .int .i64 f1, .int .i64 f2, .int .i64 heal] : Array Value)[3 + (min (m : Int) 2).toNat]? = some (.int .i64 (factor ⟨age, rest, girth, f0, f1, f2, heal⟩ m)) := by
  match m with
  | 0 => rfl
  | 1 => rfl
  | m + 2 =>
    have e : (min ((m + 2 : Nat) : Int) 2).toNat = 2 := by omega
    rw [e]
    rfl

theorem size_real : (Try.prog.info? 31).map (·.size) = some 66 := by kernel_rfl

end Go.Proofs.Ytceginnogbbpeaa
