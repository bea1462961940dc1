/- Rows of trees: their type, a copy of which one is set. -/
import Derived.Test.YtceginnogbbpeaaBoxed
import Derived.Test.YtceginnogbbpeaaKept
import Derived.Laws.AppendOwnNone
namespace Go.Proofs.Ytceginnogbbpeaa
open Go.RowKit Go.Shelf

theorem size_tree : (Try.prog.info? 48).map (·.size) = some 11 := by kernel_rfl
theorem info_tree : (Try.prog.info? 48).map (fun i => (i.zero, i.size, i.bytes)) = some (some (.agg #[.string ⟨#[]⟩, .int .i64 0, .int .i64 0, .int .i64 0, .int .i64 0, .int .i64 0, .int .i64 0, .int .i64 0, .slice none 0 0, .slice none 0 0, .int .i64 0]), 11, 128) := by kernel_rfl
theorem info_strip : (Try.prog.info? 81).map (fun i => (i.zero, i.size, i.bytes)) = some (some (.agg #[.int .i64 0, .int .i64 0]), 2, 16) := by kernel_rfl

theorem owns_at (w : World) (e : TypeId) (size : Nat) {B : Nat} (h : w.heap.size = B) : (w.alloc (.cells #[] e)).ownsRow B e size (.slice (some ⟨B, 0, none⟩) 0 0) 0 [] := h ▸ owns_empty w e size
theorem new_cell (w : World) (t : TypeId) (l : List Value) (j : Nat) (u : Value) (h : l[j]? = some u) : (w.alloc (.cells l.toArray t)).cell? ((⟨w.heap.size, 0, none⟩ : Addr).add j) = some u := by
  rw [Addr.add_mid, Nat.zero_add]
  have := (Blk.new w t l.toArray).cell j
  rw [this]
  simpa using h
theorem trees_set {B : Nat} {w : World} {v : Value} {ts : List Tree} {K : Nat} {x : Tree} (h : Held B w 11 Tree.cells v (ts.set K x)) (ho : ∀ t ∈ ts, TreeHeld B w t) (hx : TreeHeld B w x) : TreesHeld B w v (ts.set K x) := ⟨h, fun t ht => by
  rcases List.mem_or_eq_of_mem_set ht with ht | rfl
  · exact ho t ht
  · exact hx⟩
theorem hold_at {B : Nat} {w : World} {ts : List Tree} (h : ∀ t ∈ ts, TreeHeld B w t) {K : Nat} (hK : K < ts.length) : TreeHeld B w ts[K]! := by
  rw [getElem!_pos ts K hK]; exact h _ (List.getElem_mem hK)
theorem flat_ones_of {α : Type} {enc : α → List Value} {xs : List α} (h : ∀ a ∈ xs, ∀ u ∈ enc a, u.oneCell' = true) : ∀ u ∈ flat enc xs, u.oneCell' = true := by
  intro u hu
  unfold flat at hu
  rw [List.mem_flatten] at hu
  obtain ⟨l, hl, hu⟩ := hu
  obtain ⟨a, ha, rfl⟩ := List.mem_map.1 hl
  exact h a ha u hu

end Go.Proofs.Ytceginnogbbpeaa
