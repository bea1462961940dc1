/- A slice of bounds, and bounds, as arguments. -/
import Derived.Test.YtbgojeppfhldjaaYOpen
import Derived.Test.YtbgojeppfhldjaaYDryness
namespace Go.Proofs.Ytbgojeppfhldjaa
open Go.RowKit Go.ChangeShapes Go.WideShapes
section
variable {H : Type} {enc : TypeId × Value → H} {w : World} {held : Bool}
theorem bytes_pos_bds : 0 < Try.prog.bytesOf 23 := of_decide_eq_true (by kernel_rfl)
theorem read_bds {cs : List Value} (h : Read enc w held 24 cs) : ∃ (v : Value) (xs : List Yd.Bd), cs = [v] ∧ Held w.heap.size w 2 bdCells v xs := by
  obtain ⟨v, xs, h1, h2, _⟩ := read_held 2 (cell := bdCells) (OK := fun _ => True) Try.underlying24 cells_bounds (by decide) bytes_pos_bds (fun cs h => by
    obtain ⟨a, b, hc⟩ := read_bounds h
    exact ⟨⟨a, b⟩, hc, trivial⟩) h
  exact ⟨v, xs, h1, h2⟩
set_option maxRecDepth 100000 in
theorem open_bds {v : Value} {d : DataW H} {p : List MemPlace} {r : Reach} {b0 : Nat} (hv : Value.okWide Try.prog w r b0 24 v) (h : DataW.Trod enc Try.prog w 0 (fun _ => true) held 24 v d p)
    (hw : (d.weights Try.prog 24).all (· ≤ reachBytes) = true) :
    ∃ xs : List Yd.Bd, Held w.heap.size w 2 bdCells v xs := by
  obtain ⟨a, len, cap, rfl⟩ := okWide_slice Try.underlying24 hv
  obtain ⟨fuel, hf⟩ := h
  have hr : Read enc w held 24 [.slice a len cap] := ⟨fuel, (d, p), hf, hw⟩
  obtain ⟨v, xs, e, hh⟩ := read_bds hr
  cases e
  exact ⟨xs, hh⟩
set_option maxRecDepth 100000 in
theorem open_bd {v : Value} {d : DataW H} {p : List MemPlace} {r : Reach} {b0 : Nat} (hv : Value.okWide Try.prog w r b0 23 v) (h : DataW.Trod enc Try.prog w 0 (fun _ => true) held 23 v d p)
    (hw : (d.weights Try.prog 23).all (· ≤ reachBytes) = true) :
    ∃ a b : Int, v = .agg #[.int .i64 a, .int .i64 b] := by
  obtain ⟨cs, hcs, _⟩ := okWide_struct Try.underlying23 hv
  subst hcs
  obtain ⟨a, b, hc⟩ := read_bounds (read_arg h hw)
  exact ⟨a, b, by rw [← Array.toArray_toList (xs := cs), hc]⟩
end
end Go.Proofs.Ytbgojeppfhldjaa
