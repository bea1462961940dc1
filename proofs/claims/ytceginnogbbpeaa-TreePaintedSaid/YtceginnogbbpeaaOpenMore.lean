/- More kinds of arguments: a slice of numbers, bounds. -/
import Derived.Test.YtceginnogbbpeaaOpen
namespace Go.Proofs.Ytceginnogbbpeaa
open Go.RowKit Go.ChangeShapes Go.WideShapes

section
variable {H : Type} {enc : TypeId × Value → H} {w : World} {held : Bool}
set_option maxRecDepth 100000 in
theorem open_digits {v : Value} {d : DataW H} {p : List MemPlace} {r : Reach} {b0 : Nat} (hv : Value.okWide Try.prog w r b0 46 v) (h : DataW.Trod enc Try.prog w 0 (fun _ => true) held 46 v d p)
    (hw : (d.weights Try.prog 46).all (· ≤ reachBytes) = true) :
    ∃ xs : List Int, Held w.heap.size w 1 intCells v xs := by
  obtain ⟨a, len, cap, rfl⟩ := okWide_slice Try.underlying46 hv
  obtain ⟨fuel, hf⟩ := h
  have hr : Read enc w held 46 [.slice a len cap] := ⟨fuel, (d, p), hf, hw⟩
  obtain ⟨v, xs, e, hh⟩ := read_wounds hr
  cases e
  exact ⟨xs, hh⟩
set_option maxRecDepth 100000 in
theorem open_years {v : Value} {d : DataW H} {p : List MemPlace} {r : Reach} {b0 : Nat} (hv : Value.okWide Try.prog w r b0 41 v) (h : DataW.Trod enc Try.prog w 0 (fun _ => true) held 41 v d p)
    (hw : (d.weights Try.prog 41).all (· ≤ reachBytes) = true) :
    ∃ a b : Int, v = .agg #[.int .i64 a, .int .i64 b] := by
  obtain ⟨cs, hcs, _⟩ := okWide_struct Try.underlying41 hv
  subst hcs
  obtain ⟨a, b, hc⟩ := read_bounds (read_arg h hw)
  exact ⟨a, b, by rw [← Array.toArray_toList (xs := cs), hc]⟩
end
end Go.Proofs.Ytceginnogbbpeaa
