/- What stands in a block that is as it was. -/
import Derived.Test.YtceginnogbbpeaaCopy
import Derived.Test.YtceginnogbbpeaaBoxed
namespace Go.Proofs.Ytceginnogbbpeaa
open Go.RowKit

theorem cell_same {w w' : World} {g : Nat} (h : w'.heap[g]? = w.heap[g]?) (o : Nat) : w'.cell? ⟨g, o, none⟩ = w.cell? ⟨g, o, none⟩ := by
  have e : ∀ W : World, W.cell? ⟨g, o, none⟩ = (match W.heap[g]? with | some (.cells cs _ _) => cs[o]? | _ => none) := by
    intro W
    by_cases hg : g < W.heap.size
    · simp [World.cell?, hg]
      split <;> simp_all
    · simp [World.cell?, hg]
  rw [e, e, h]

theorem frozen_same {w w' : World} {g : Nat} (h : w'.heap[g]? = w.heap[g]?) (o : Nat) : w'.frozen? ⟨g, o, none⟩ = w.frozen? ⟨g, o, none⟩ := by
  simp [World.frozen?, h]

theorem there_same {w w' : World} {g o n : Nat} (h : w'.heap[g]? = w.heap[g]?) (ht : w.there g o n) : w'.there g o n := fun j hj => by
  rw [cell_same h, frozen_same h]; exact ht j hj

theorem Held.same {α : Type} [Inhabited α] {k : Nat} {enc : α → List Value} {w w' : World} {g n c : Nat} {xs : List α} (h : Held w.heap.size w k enc (.slice (some ⟨g, 0, none⟩) n c) xs) (hs : w.heap.size ≤ w'.heap.size) (he : w'.heap[g]? = w.heap[g]?) : Held w'.heap.size w' k enc (.slice (some ⟨g, 0, none⟩) n c) xs := by
  rcases h with h | ⟨b', off', c', h1, hb, hl, hc⟩
  · exact .inl h
  · cases h1
    exact .inr ⟨g, 0, c, rfl, by omega, hl, fun j hj i u hu => by rw [cell_same he]; exact hc j hj i u hu⟩

theorem heap_setCells (w : World) (g : Nat) {k : Nat} (hk : k ≠ g) : ∀ (vs : List Value) (o : Nat), (w.setCells g o vs).heap[k]? = w.heap[k]? := by
  intro vs
  induction vs generalizing w with
  | nil => intro o; rfl
  | cons v r ih => intro o; exact (ih (w.setCell ⟨g, o, none⟩ v) (o + 1)).trans (Below.heap_setCell w ⟨g, o, none⟩ v k hk)

theorem size_setCell (w : World) (a : Addr) (v : Value) : (w.setCell a v).heap.size = w.heap.size := by simp [World.setCell]

/-- An empty slice that was just built owns nothing. -/
theorem owns_empty (w : World) (e : TypeId) (size : Nat) : (w.alloc (.cells #[] e)).ownsRow w.heap.size e size (.slice (some ⟨w.heap.size, 0, none⟩) 0 0) 0 [] :=
  World.ownsRow_lit w #[] 0 (Nat.le_refl _) (by unfold maxLen; omega) (by simp)
end Go.Proofs.Ytceginnogbbpeaa
