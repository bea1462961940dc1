/- A whole question loaded at once: a rule for the walk. -/
import Derived.Test.YtajbflepjpgnbaaHighest
import Derived.Deep.RegionWith
namespace Go.Proofs.Ytajbflepjpgnbaa
open Go.RowKit Go.Shelf

/-- Block g is just a question's cells. -/
def QRow (w : World) (g : Nat) : Prop := ∃ cs : Array Value, w.heap[g]? = some (.cells cs 74 (0, 0)) ∧ cs.size = 20
/-- A block's cells. -/
def rowOf (w : World) (g : Nat) : Array Value :=
  match w.heap[g]? with
  | some (.cells cs _ _) => cs
  | _ => #[]

/-- The load of a question's cells, kept folded until its world is known. -/
def loadQ (g : Nat) : Sem (Array Value) := loadCellsFrom ⟨g, 0, none⟩ 0 20 #[]
theorem fold_loadQ (g : Nat) : loadCellsFrom ⟨g, 0, none⟩ 0 20 #[] = loadQ g := rfl
theorem load_question (w : World) (g : Nat) (h : QRow w g) : (loadQ g).run Try.prog w = .ok (rowOf w g) w := by
  obtain ⟨cs, hg, hs⟩ := h
  rw [show rowOf w g = cs from by simp only [rowOf, hg]]
  have hl := run_loadCells_list (P := Try.prog) w ⟨g, 0, none⟩ cs.toList (fun j v hv => by
    rw [Addr.add_lit, Nat.zero_add, cell_of_row w g j cs _ (0, 0) hg]
    simpa using hv)
  simp only [loadCells, Array.length_toList, Array.toArray_toList, hs] at hl
  exact hl
theorem load_question_drew (w : World) (g : Nat) (h : QRow w g) : (loadQ g).run Try.prog w.drew = .ok (rowOf w g) w.drew := load_question w.drew g h
theorem load_question_drewN (w : World) (g n : Nat) (h : QRow w g) : (loadQ g).run Try.prog (w.drewN n) = .ok (rowOf w g) (w.drewN n) := load_question (w.drewN n) g h
theorem QRow.of {w : World} {g : Nat} {cs : Array Value} (h : Blk w g 74 cs) (hs : cs.size = 20) : QRow w g := ⟨cs, h, hs⟩
theorem rowOf_of {w : World} {g : Nat} {t : TypeId} {cs : Array Value} (h : Blk w g t cs) : rowOf w g = cs := by unfold Blk at h; simp only [rowOf, h]
end Go.Proofs.Ytajbflepjpgnbaa
