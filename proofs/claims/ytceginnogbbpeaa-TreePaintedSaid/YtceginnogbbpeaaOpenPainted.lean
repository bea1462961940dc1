/- More kinds of arguments: a slice of small numbers, two small numbers. -/
import Derived.Test.YtceginnogbbpeaaOpenMore
namespace Go.Proofs.Ytceginnogbbpeaa
open Go.RowKit Go.ChangeShapes Go.WideShapes

/-- A small number as cells. -/
def byteCells (n : Int) : List Value := [.int .u8 n]

section
variable {H : Type} {enc : TypeId × Value → H} {w : World} {held : Bool}
theorem read_byte {t : TypeId} {cs : List Value} (ht : Try.prog.underlying t = some (.int .u8)) (h : Read enc w held t cs) : ∃ n : Int, cs = byteCells n ∧ 0 ≤ n ∧ n ≤ 255 := by
  obtain ⟨n, x, h, _⟩ := h
  obtain ⟨k, hk, _, hw⟩ := DataW.trod_int ht h
  exact ⟨k, hk, bounds_u8 hw⟩
theorem cells_byte : Try.prog.cellsOf 5 = 1 := by kernel_rfl
theorem cells_twobytes : Try.prog.cellsOf 62 = 2 := by kernel_rfl
theorem bytes_pos_byte : 0 < Try.prog.bytesOf 5 := of_decide_eq_true (by kernel_rfl)

theorem read_bytes {cs : List Value} (h : Read enc w held 61 cs) : ∃ (v : Value) (xs : List Int), cs = [v] ∧ Held w.heap.size w 1 byteCells v xs ∧ ∀ x ∈ xs, 0 ≤ x ∧ x ≤ 255 := by
  obtain ⟨v, xs, h1, h2, h3⟩ := read_held 1 (cell := byteCells) (OK := fun n => 0 ≤ n ∧ n ≤ 255) Try.underlying61 cells_byte (by decide) bytes_pos_byte (fun cs h => read_byte Try.underlying5 h) h
  exact ⟨v, xs, h1, h2, h3⟩

set_option maxRecDepth 100000 in
theorem open_gaps {v : Value} {d : DataW H} {p : List MemPlace} {r : Reach} {b0 : Nat} (hv : Value.okWide Try.prog w r b0 61 v) (h : DataW.Trod enc Try.prog w 0 (fun _ => true) held 61 v d p)
    (hw : (d.weights Try.prog 61).all (· ≤ reachBytes) = true) :
    ∃ xs : List Int, Held w.heap.size w 1 byteCells v xs ∧ ∀ x ∈ xs, 0 ≤ x ∧ x ≤ 255 := by
  obtain ⟨a, len, cap, rfl⟩ := okWide_slice Try.underlying61 hv
  obtain ⟨fuel, hf⟩ := h
  have hr : Read enc w held 61 [.slice a len cap] := ⟨fuel, (d, p), hf, hw⟩
  obtain ⟨v, xs, e, hh⟩ := read_bytes hr
  cases e
  exact ⟨xs, hh⟩

theorem okWide_arr2_of {P : Program} {k e : TypeId} {n : Nat} {w : World} {r : Reach} {b0 : Nat} {v : Value} (ht : P.underlying k = some (.array n e)) (h : Value.okWide P w r b0 k v) : ∃ cs : Array Value, v = .agg cs := by
  simp only [Value.okWide, ht] at h
  obtain ⟨cs, h1, _⟩ := h
  exact ⟨cs, h1⟩

set_option maxRecDepth 100000 in
theorem open_two {v : Value} {d : DataW H} {p : List MemPlace} {r : Reach} {b0 : Nat} (hv : Value.okWide Try.prog w r b0 62 v) (h : DataW.Trod enc Try.prog w 0 (fun _ => true) held 62 v d p)
    (hw : (d.weights Try.prog 62).all (· ≤ reachBytes) = true) :
    ∃ y0 y1 : Int, v = .agg #[.int .u8 y0, .int .u8 y1] ∧ (0 ≤ y0 ∧ y0 ≤ 255) ∧ (0 ≤ y1 ∧ y1 ≤ 255) := by
  obtain ⟨cs, hcs⟩ := okWide_arr2_of Try.underlying62 hv
  subst hcs
  obtain ⟨hl, hf⟩ := read_array Try.underlying62 (read_arg h hw)
  rw [cells_twobytes] at hl
  rw [cells_byte] at hf
  obtain ⟨c0, c1, hc⟩ := len_2 hl
  rw [hc] at hf
  obtain ⟨y0, e0, b0⟩ := read_byte Try.underlying5 (hf 0 (by decide))
  obtain ⟨y1, e1, b1⟩ := read_byte Try.underlying5 (hf 1 (by decide))
  simp [byteCells] at e0 e1
  exact ⟨y0, y1, by rw [← Array.toArray_toList (xs := cs), hc, e0, e1], b0, b1⟩
end
end Go.Proofs.Ytceginnogbbpeaa
