/- Six numbers of 16 bits, as an argument. -/
import Derived.Test.YtdpockkfmdkbhaaOpenMore
namespace Go.Proofs.Ytdpockkfmdkbhaa
open Go.RowKit Go.ChangeShapes Go.WideShapes

section
variable {H : Type} {enc : TypeId × Value → H} {w : World} {held : Bool}
theorem read_six {t : TypeId} {cs : List Value} (ht : Try.prog.underlying t = some (.int .u16)) (h : Read enc w held t cs) : ∃ n : Int, cs = [.int .u16 n] ∧ 0 ≤ n ∧ n ≤ 65535 := by
  obtain ⟨n, x, h, _⟩ := h
  obtain ⟨k, hk, _, hw⟩ := DataW.trod_int ht h
  exact ⟨k, hk, bounds_u16 hw⟩
theorem cells_u16six : Try.prog.cellsOf 28 = 1 := by kernel_rfl
theorem cells_six : Try.prog.cellsOf 53 = 6 := by kernel_rfl
theorem len_6 {l : List Value} (h : l.length = 6) : ∃ c0 c1 c2 c3 c4 c5 : Value, l = [c0, c1, c2, c3, c4, c5] :=
  match l, h with
  | [c0, c1, c2, c3, c4, c5], _ => ⟨c0, c1, c2, c3, c4, c5, rfl⟩

theorem okWide_arr_of {P : Program} {k e : TypeId} {n : Nat} {w : World} {r : Reach} {b0 : Nat} {v : Value} (ht : P.underlying k = some (.array n e)) (h : Value.okWide P w r b0 k v) : ∃ cs : Array Value, v = .agg cs := by
  simp only [Value.okWide, ht] at h
  obtain ⟨cs, h1, _⟩ := h
  exact ⟨cs, h1⟩

set_option maxRecDepth 100000 in
theorem open_six {v : Value} {d : DataW H} {p : List MemPlace} {r : Reach} {b0 : Nat} (hv : Value.okWide Try.prog w r b0 53 v) (h : DataW.Trod enc Try.prog w 0 (fun _ => true) held 53 v d p)
    (hw : (d.weights Try.prog 53).all (· ≤ reachBytes) = true) :
    ∃ y0 y1 y2 y3 y4 y5 : Int, v = .agg #[.int .u16 y0, .int .u16 y1, .int .u16 y2, .int .u16 y3, .int .u16 y4, .int .u16 y5] ∧ (0 ≤ y0 ∧ y0 ≤ 65535) ∧ (0 ≤ y1 ∧ y1 ≤ 65535) ∧ (0 ≤ y2 ∧ y2 ≤ 65535) ∧ (0 ≤ y3 ∧ y3 ≤ 65535) ∧ (0 ≤ y4 ∧ y4 ≤ 65535) ∧ (0 ≤ y5 ∧ y5 ≤ 65535) := by
  obtain ⟨cs, hcs⟩ := okWide_arr_of Try.underlying53 hv
  subst hcs
  obtain ⟨hl, hf⟩ := read_array Try.underlying53 (read_arg h hw)
  rw [cells_six] at hl
  rw [cells_u16six] at hf
  obtain ⟨c0, c1, c2, c3, c4, c5, hc⟩ := len_6 hl
  rw [hc] at hf
  obtain ⟨y0, e0, b0⟩ := read_six Try.underlying28 (hf 0 (by decide))
  obtain ⟨y1, e1, b1⟩ := read_six Try.underlying28 (hf 1 (by decide))
  obtain ⟨y2, e2, b2⟩ := read_six Try.underlying28 (hf 2 (by decide))
  obtain ⟨y3, e3, b3⟩ := read_six Try.underlying28 (hf 3 (by decide))
  obtain ⟨y4, e4, b4⟩ := read_six Try.underlying28 (hf 4 (by decide))
  obtain ⟨y5, e5, b5⟩ := read_six Try.underlying28 (hf 5 (by decide))
  simp at e0 e1 e2 e3 e4 e5
  exact ⟨y0, y1, y2, y3, y4, y5, by rw [← Array.toArray_toList (xs := cs), hc, e0, e1, e2, e3, e4, e5], b0, b1, b2, b3, b4, b5⟩
end
end Go.Proofs.Ytdpockkfmdkbhaa
