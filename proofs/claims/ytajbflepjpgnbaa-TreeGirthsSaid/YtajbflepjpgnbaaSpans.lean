/- The least and the greatest year of each strip: the loop's state. -/
import Derived.Test.YtajbflepjpgnbaaBackN
namespace Go.Proofs.Ytajbflepjpgnbaa
open Go.RowKit Go.Shelf Go.Maps

attribute [local go_sem] Oper.semAt_some

theorem bounds_parts : (Try.prog.info? 31).map (fun i => (i.zero, i.size, i.bytes)) = some (some (.agg #[.int .i64 0, .int .i64 0]), 2, 16) := by kernel_rfl
def boundsCells (len : Nat) : Array Value := madeCells (Value.cells (.agg #[.int .i64 0, .int .i64 0])) (len * 2)
theorem boundsCells_size (len : Nat) : (boundsCells len).size = len * 2 := size_madeCells _ _
theorem make_bounds (len : Nat) (hlen : len ≤ 1000) (w : World) : (Instr.makeSlice 70 (.int .i64 (len : Int)) (.int .i64 (len : Int))).run Try.prog w = .ok (.slice (some ⟨w.heap.size, 0, none⟩) len len) (w.alloc (.cells (boundsCells len) 31)) := by
  obtain ⟨i, hi, hz, h1, h2⟩ := info_parts bounds_parts
  have := run_make (P := Try.prog) w 70 31 i _ Try.underlying70 hi hz .i64 .i64 len len (by omega) (Int.le_refl _) (by rw [h2]; omega) (by omega)
  rw [h1] at this
  simpa [boundsCells] using this

/-- What lies while the maps are gone through from the last: k have been read, k' have been struck. -/
structure Sp (w : World) (s len ga N n0 : Nat) (bs : List Nat) (Ds : List (DataW Unit)) (v : Value) (rest : Int) (lat lo hi : Nat → Int) (k k' : Nat) (W : World) : Prop where
  c0 : Blk W s 3 #[.int .i64 rest]
  c1 : Blk W (s + 1) 3 #[.int .i64 (lat k)]
  arr : ∃ cs, Blk W (s + 1 + 1) 31 cs ∧ cs.size = len * 2 ∧ ∀ j, len ≤ j + k → j < len → cs[j * 2]? = some (.int .i64 (lo j)) ∧ cs[j * 2 + 1]? = some (.int .i64 (hi j))
  c3 : Blk W (s + 1 + 1 + 1) 70 #[.slice (some ⟨s + 1 + 1, 0, none⟩) len len]
  c4 : Blk W (s + 1 + 1 + 1 + 1) 92 #[v]
  maps : ∀ j, j + k' < len → W.ownsMap Try.prog 3 (plainElem Try.prog 3) (bs.getD j 0) N (Ds.getD j (.map []))
  kept : KeptAt ga w W
  bel : Below n0 w W

section
variable {w W W' : World} {s len ga N n0 : Nat} {bs : List Nat} {Ds : List (DataW Unit)} {v : Value} {rest : Int} {lat lo hi : Nat → Int} {k k' : Nat}

theorem grown_of_below (h : Below W.heap.size W W') : W.grownBy W' none := ⟨h.os, h.tape, h.output, h.size, fun k hk _ => h.block k hk⟩

/-- A turn of a block that is none of these. -/
theorem Sp.grown {row : Option Nat} (h : Sp w s len ga N n0 bs Ds v rest lat lo hi k k' W) (hg : W.grownBy W' row) (hr : ∀ r, row = some r → s + 5 ≤ r) (hga : ga < s) (hbs : ∀ j, j < len → bs.getD j 0 < s) (hn0 : n0 ≤ s) : Sp w s len ga N n0 bs Ds v rest lat lo hi k k' W' := by
  obtain ⟨c0, c1, ⟨cs, ca, hcs⟩, c3, c4, maps, kept, bel⟩ := h
  refine ⟨blk_grown c0 hg (fun e => by have := hr _ e.symm; omega), blk_grown c1 hg (fun e => by have := hr _ e.symm; omega), ⟨cs, blk_grown ca hg (fun e => by have := hr _ e.symm; omega), hcs⟩, blk_grown c3 hg (fun e => by have := hr _ e.symm; omega), blk_grown c4 hg (fun e => by have := hr _ e.symm; omega),
    fun j hj => (maps j hj).kept hg (fun e => by have := hr _ e.symm; have := hbs j (by omega); omega), ?_, bel.grown hg (by have := c0.lt; omega) (fun r e => by have := hr r e; omega)⟩
  exact (hg.block ga (by have := c0.lt; omega) (fun e => by have := hr _ e.symm; omega)).trans kept

/-- The last map that has not been gone through is struck. -/
theorem Sp.struck {m : Nat} (h : Sp w s len ga N n0 bs Ds v rest lat lo hi k k W) (hg : W.grownBy W' (some (bs.getD m 0))) (hm : m + k + 1 = len) (hga : ga < s) (hgb : ga ≠ bs.getD m 0) (hbs : ∀ j, j < len → n0 ≤ bs.getD j 0 ∧ bs.getD j 0 < s)
    (hinj : ∀ i j, i < len → j < len → bs.getD i 0 = bs.getD j 0 → i = j) : Sp w s len ga N n0 bs Ds v rest lat lo hi k (k + 1) W' := by
  obtain ⟨c0, c1, ⟨cs, ca, hcs⟩, c3, c4, maps, kept, bel⟩ := h
  have hb := hbs m (by omega)
  have ne : ∀ d, some (s + d) ≠ some (bs.getD m 0) := fun d e => by have := Option.some.inj e; omega
  refine ⟨blk_grown c0 hg (ne 0), blk_grown c1 hg (ne 1), ⟨cs, blk_grown ca hg (ne 2), hcs⟩, blk_grown c3 hg (ne 3), blk_grown c4 hg (ne 4), fun j hj => (maps j (by omega)).kept hg (fun e => ?_), ?_, bel.grown hg (by have := c0.lt; omega) (fun r e => by cases e; exact hb.1)⟩
  · have := hinj j m (by omega) (by omega) (Option.some.inj e)
    omega
  · exact (hg.block ga (by have := c0.lt; omega) (fun e => hgb (Option.some.inj e))).trans kept

/-- The answer for the strip, and the year by which the strip before it must lie, are stored. -/
theorem Sp.stored {m : Nat} (h : Sp w s len ga N n0 bs Ds v rest lat lo hi k (k + 1) W) (hm : m + k + 1 = len) (hga : ga < s) (hbs : ∀ j, j < len → n0 ≤ bs.getD j 0 ∧ bs.getD j 0 < s) (hn0 : n0 ≤ s) :
    Sp w s len ga N n0 bs Ds v rest lat lo hi (k + 1) (k + 1) (((W.setCell ⟨s + 1 + 1, m * 2, none⟩ (.int .i64 (lo m))).setCell ⟨s + 1 + 1, m * 2 + 1, none⟩ (.int .i64 (hi m))).setCell ⟨s + 1, 0, none⟩ (.int .i64 (lat (k + 1)))) := by
  obtain ⟨c0, c1, ⟨cs, ca, hcs, hv⟩, c3, c4, maps, kept, bel⟩ := h
  have hmb : ∀ j, j + (k + 1) < len → bs.getD j 0 < s := fun j hj => (hbs j (by omega)).2
  refine ⟨((c0.far (by dsimp only; omega) _).far (by dsimp only; omega) _).far (by dsimp only; omega) _, ((c1.far (by dsimp only; omega) _).far (by dsimp only; omega) _).set_ 0 _, ⟨_, ((ca.set_ _ _).set_ _ _).far (by dsimp only; omega) _, by simpa using hcs, ?_⟩, ((c3.far (by dsimp only; omega) _).far (by dsimp only; omega) _).far (by dsimp only; omega) _, ((c4.far (by dsimp only; omega) _).far (by dsimp only; omega) _).far (by dsimp only; omega) _,
    fun j hj => (((maps j hj).setCell (by have := hmb j hj; dsimp only; omega) _).setCell (by have := hmb j hj; dsimp only; omega) _).setCell (by have := hmb j hj; dsimp only; omega) _, ?_, ((bel.setCell (by dsimp only; omega) _).setCell (by dsimp only; omega) _).setCell (by dsimp only; omega) _⟩
  · intro j h1 h2
    by_cases hj : j = m
    · subst hj
      constructor
      · rw [Array.getElem?_setIfInBounds_ne (by omega), Array.getElem?_setIfInBounds_self_of_lt (by omega)]
      · rw [Array.getElem?_setIfInBounds_self_of_lt (by simp; omega)]
    · have := hv j (by omega) h2
      constructor
      · rw [Array.getElem?_setIfInBounds_ne (by omega), Array.getElem?_setIfInBounds_ne (by omega)]; exact this.1
      · rw [Array.getElem?_setIfInBounds_ne (by omega), Array.getElem?_setIfInBounds_ne (by omega)]; exact this.2
  · unfold KeptAt
    rw [Below.heap_setCell _ _ _ _ (by dsimp only; omega), Below.heap_setCell _ _ _ _ (by dsimp only; omega), Below.heap_setCell _ _ _ _ (by dsimp only; omega)]
    exact kept
end
end Go.Proofs.Ytajbflepjpgnbaa
