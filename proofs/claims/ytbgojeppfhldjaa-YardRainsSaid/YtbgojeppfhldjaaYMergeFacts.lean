/- What the merging of two stacks needs. -/
import Derived.Test.YtbgojeppfhldjaaYJoined
import Derived.Laws.Strings
namespace Go.Proofs.Ytbgojeppfhldjaa
open Go Go.RowKit Yd

theorem row_base {w : World} {base : Nat} {e : TypeId} {size n : Nat} {v : Value} {xs : List Value} (h : w.ownsRow base e size v n xs) : w.ownsRow 0 e size v n xs := by
  refine ⟨h.1, ?_⟩
  rcases h.2 with h0 | ⟨g, cap, cur, h1, _, h3⟩
  · exact .inl h0
  · exact .inr ⟨g, cap, cur, h1, Nat.zero_le _, h3⟩

/-- The blocks of its own may be told in another order. -/
theorem Desk.swap {w0 W : World} {Cx C : Nat → Prop} {B : Nat} {bef aft : Int} {l : List SRow} {c : Yd.Acc} {made : Int} {N : Nat} {kv tv : Value} {m : Nat} {x y z : Nat × TypeId × List Value}
    (h : Desk w0 W Cx C B bef aft l c made N kv tv m [x, y, z]) : Desk w0 W Cx C B bef aft l c made N kv tv m [x, z, y] := by
  refine ⟨h.book, h.old, fun i g t cs hi => ?_, ?_, h.beside⟩
  · match i, hi with
    | 0, hi => exact h.loc 0 g t cs hi
    | 1, hi => exact h.loc 2 g t cs hi
    | 2, hi => exact h.loc 1 g t cs hi
  · have := h.nodup
    simp only [List.map_cons, List.map_nil, List.nodup_cons, List.mem_cons, List.not_mem_nil, or_false, not_or, List.nodup_nil, not_false_eq_true, and_true] at this ⊢
    obtain ⟨⟨h1, h2⟩, h3⟩ := this
    exact ⟨⟨h2, h1⟩, fun e => h3 e.symm⟩

/-- The place of an element when another one is taken out. -/
def lessIx (k o : Nat) : Nat := if k < o then k else k - 1
theorem get_less {α : Type} {l : List α} {k o : Nat} {p : α} (hp : l[k]? = some p) (hne : o ≠ k) : (l.eraseIdx o)[lessIx k o]? = some p := by
  unfold lessIx
  rw [List.getElem?_eraseIdx]
  by_cases h : k < o
  · rw [if_pos h, if_pos h]; exact hp
  · rw [if_neg h, if_neg (by omega), show k - 1 + 1 = k by omega]; exact hp
theorem set_less {α : Type} {l : List α} {k o : Nat} (x : α) (hk : k < l.length) (hne : o ≠ k) : (l.set k x).eraseIdx o = (l.eraseIdx o).set (lessIx k o) x := by
  refine List.ext_getElem? fun i => ?_
  unfold lessIx
  rw [List.getElem?_eraseIdx, List.getElem?_set, List.getElem?_set, List.getElem?_set, List.getElem?_eraseIdx]
  have hlen : (l.eraseIdx o).length = if o < l.length then l.length - 1 else l.length := by
    rw [List.length_eraseIdx]
  grind
theorem erase_codes {l : List SRow} (hn : (l.map fun p => p.1.code).Nodup) (o : Nat) : ((l.eraseIdx o).map fun p => p.1.code).Nodup := hn.sublist ((List.eraseIdx_sublist l o).map _)
theorem map_erase {α β : Type} (f : α → β) : ∀ (l : List α) (k : Nat), (l.eraseIdx k).map f = (l.map f).eraseIdx k
  | [], _ => rfl
  | _ :: _, 0 => rfl
  | a :: l, k + 1 => by simp [map_erase f l k]
theorem codes_beq (a b : Code) : (ByteArray.toList a == ByteArray.toList b) = decide (a = b) := by
  by_cases h : a = b
  · subst h; simp
  · have hne : ByteArray.toList a ≠ ByteArray.toList b := fun e => h (by
      rw [Go.ByteArray.toList_eq, Go.ByteArray.toList_eq] at e
      cases a; cases b; simp_all)
    simp [h, hne]
end Go.Proofs.Ytbgojeppfhldjaa
