/- What a tree really is, as an argument: 66 numbers of 16 bits. -/
import Derived.Test.YtdpockkfmdkbhaaOpenMore
import Derived.Test.YtdpockkfmdkbhaaRealGirth
namespace Go.Proofs.Ytdpockkfmdkbhaa
open Go.RowKit Go.ChangeShapes Go.WideShapes

section
variable {H : Type} {enc : TypeId × Value → H} {w : World} {held : Bool}
theorem read_u16 {t : TypeId} {cs : List Value} (ht : Try.prog.underlying t = some (.int .u16)) (h : Read enc w held t cs) : ∃ n : Int, cs = [.int .u16 n] ∧ 0 ≤ n ∧ n ≤ 65535 := by
  obtain ⟨n, x, h, _⟩ := h
  obtain ⟨k, hk, _, hw⟩ := DataW.trod_int ht h
  exact ⟨k, hk, bounds_u16 hw⟩
theorem cells_u16 : Try.prog.cellsOf 28 = 1 := by kernel_rfl
theorem cells_grows : Try.prog.cellsOf 29 = 64 := by kernel_rfl
theorem cells_real : Try.prog.cellsOf 31 = 66 := by kernel_rfl

/-- Of a list one element behind so many. -/
theorem one_at {l : List Value} {o : Nat} {v : Value} (h : (l.drop o).take 1 = [v]) : l[o]? = some v := by
  have := congrArg (fun x : List Value => x[0]?) h
  simpa [List.getElem?_take, List.getElem?_drop] using this

set_option maxRecDepth 100000 in
theorem read_real {cs : List Value} (h : Read enc w held 31 cs) : cs.length = 66 ∧ ∀ i, i < 66 → ∃ z : Int, cs[i]? = some (.int .u16 z) ∧ 0 ≤ z ∧ z ≤ 65535 := by
  obtain ⟨hl, hf⟩ := read_field Try.underlying31 h
  rw [cells_real] at hl
  have g0 : Read enc w held 28 ((cs.drop 0).take 1) := field_of hf 0 rfl rfl rfl cells_u16
  have g1 : Read enc w held 28 ((cs.drop 1).take 1) := field_of hf 1 rfl rfl rfl cells_u16
  have g2 : Read enc w held 29 ((cs.drop 2).take 64) := field_of hf 2 rfl rfl rfl cells_grows
  refine ⟨hl, fun i hi => ?_⟩
  by_cases h0 : i = 0
  · subst h0
    obtain ⟨z, hz, hb⟩ := read_u16 Try.underlying28 g0
    exact ⟨z, one_at hz, hb⟩
  · by_cases h1 : i = 1
    · subst h1
      obtain ⟨z, hz, hb⟩ := read_u16 Try.underlying28 g1
      exact ⟨z, one_at hz, hb⟩
    · obtain ⟨_, ha⟩ := read_array Try.underlying29 g2
      rw [cells_u16] at ha
      obtain ⟨z, hz, hb⟩ := read_u16 Try.underlying28 (ha (i - 2) (by omega))
      have := one_at hz
      rw [Nat.mul_one, List.getElem?_take, if_pos (by omega), List.getElem?_drop, show 2 + (i - 2) = i by omega] at this
      exact ⟨z, this, hb⟩

set_option maxRecDepth 100000 in
theorem open_real {v : Value} {d : DataW H} {p : List MemPlace} {r : Reach} {b0 : Nat} (hv : Value.okWide Try.prog w r b0 31 v) (h : DataW.Trod enc Try.prog w 0 (fun _ => true) held 31 v d p)
    (hw : (d.weights Try.prog 31).all (· ≤ reachBytes) = true) :
    ∃ rc : Array Value, v = .agg rc ∧ rc.size = 66 ∧ RealFine rc := by
  obtain ⟨cs, hcs, _⟩ := okWide_struct Try.underlying31 hv
  subst hcs
  obtain ⟨hl, hr⟩ := read_real (read_arg h hw)
  exact ⟨cs, rfl, by rw [← hl, Array.length_toList], fun i hi => by
    obtain ⟨z, hz, hb⟩ := hr i hi
    exact ⟨z, by rw [← hz, Array.getElem?_toList], hb⟩⟩
end
end Go.Proofs.Ytdpockkfmdkbhaa
