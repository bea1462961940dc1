/- The shelf: what get returns. -/
import Derived.Test.YtcnacegjdmgakaaYBook
import Derived.Laws.ResultCell
import Derived.Deep.DeepMust
import Derived.Outline
namespace Go.Proofs.Ytcnacegjdmgakaa
open Go Go.RowKit Yd

theorem rows_get {l : List SRow} {k : Nat} {p : SRow} (hk : l[k]? = some p) : ∀ i, i < 8 → (rowsCells l)[8 * k + i]? = (rowCells p)[i]? := by
  induction l generalizing k with
  | nil => simp at hk
  | cons q r ih =>
    intro i hi
    have hl : (rowCells q).length = 8 := rfl
    cases k with
    | zero =>
      simp at hk; subst hk
      show (rowCells q ++ rowsCells r)[_]? = _
      rw [List.getElem?_append_left (by omega)]
      simp
    | succ k =>
      simp at hk
      show (rowCells q ++ rowsCells r)[_]? = _
      rw [List.getElem?_append_right (by omega), hl, show 8 * (k + 1) + i - 8 = 8 * k + i by omega]
      exact ih hk i hi
theorem rows_length (l : List SRow) : (rowsCells l).length = l.length * 8 := by
  induction l with
  | nil => rfl
  | cons q r ih =>
    show (rowCells q ++ rowsCells r).length = _
    rw [List.length_append, ih]
    show 8 + _ = _
    simp; omega

/-- The row of stacks in memory: where it lies. -/
theorem Book.row {w : World} {C : Nat → Prop} {B : Nat} {bef aft : Int} {l : List SRow} {c : Acc} {made : Int} {N : Nat} {kv tv : Value} {m : Nat} (h : Book w C B bef aft l c made N kv tv m) {k : Nat} {p : SRow} (hk : l[k]? = some p) :
    ∃ g cap, tv = .slice (some ⟨g, 0, none⟩) l.length cap ∧ l.length ≤ cap ∧ C g ∧ g < w.heap.size ∧ ∀ i, i < 8 → w.cell? ⟨g, k * 8 + i, none⟩ = (rowCells p)[i]? := by
  have hlt : k < l.length := (List.getElem?_eq_some_iff.1 hk).1
  obtain ⟨g, cap, cur, hv, hb, hc, _, hs, ht⟩ := row_block h.things (by omega)
  refine ⟨g, cap, hv, hc, h.inT g (by rw [hv]; rfl), hb.lt, fun i hi => ?_⟩
  rw [hb.cell, ← rows_get hk i hi, ← ht, Nat.mul_comm k 8, List.getElem?_take, if_pos (by omega)]
  simp

theorem row_slice {w : World} {base : Nat} {e : TypeId} {size n : Nat} {v : Value} {xs : List Value} (h : w.ownsRow base e size v n xs) : ∃ a n c, v = .slice a n c := by
  rcases h.2 with ⟨h0, _⟩ | ⟨g, cap, cur, h1, _⟩
  · exact ⟨_, _, _, h0⟩
  · exact ⟨_, _, _, h1⟩
def zeroStack : Array Value := #[.string ⟨#[]⟩, .int .i64 0, .int .i64 0, .int .i64 0, .int .i64 0, .int .i64 0, .int .i64 0, .slice none 0 0]

set_option maxRecDepth 100000 in
set_option maxHeartbeats 1000000 in
theorem get_no {w : World} {C : Nat → Prop} {B : Nat} {bef aft : Int} {l : List SRow} {c : Acc} {made : Int} {N : Nat} {kv tv : Value} {m : Nat} (h : Book w C B bef aft l c made N kv tv m)
    (code : Code) (hs : code.size ≤ maxLen) (hn : ixOf l code = none) :
    Calls Try.prog 106 #[.pointer (some ⟨B, 2, none⟩), .string code] w fun e w' => e = .returned (.tuple #[.agg zeroStack, .bool false]) ∧ Below w.heap.size w w' := by
  have c4 := h.blk.at 4 (.map (some m)) rfl
  have hB := h.blk.lt
  obtain ⟨i, hlk, _⟩ := (h.places.same (w' := w.alloc (.cells zeroStack 49)) (Below.heap_alloc w _ _ h.places.lt)).look hs (T := 87) Try.underlying87
  rw [hn] at hlk
  simp only [zeroStack, Option.isSome_none] at hlk ⊢
  clear h
  go_enter Try.func106, Try.ntmps106
  go_wp2
  exact bodyPost_ret (v := .tuple #[.agg #[.string ⟨#[]⟩, .int .i64 0, .int .i64 0, .int .i64 0, .int .i64 0, .int .i64 0, .int .i64 0, .slice none 0 0], .bool false]) (by simp [results, Try.results106, go_sem]) rfl ⟨rfl, by (repeat (first | (refine Below.setCell ?_ (by first | (simp; done) | (simp; omega)) _) | (refine Below.alloc ?_ (by first | (simp; done) | (simp; omega)) _) | (refine Below.drew ?_))); exact Below.refl _ _⟩

set_option maxRecDepth 100000 in
set_option maxHeartbeats 1000000 in
theorem get_yes {w : World} {C : Nat → Prop} {B : Nat} {bef aft : Int} {l : List SRow} {c : Acc} {made : Int} {N : Nat} {kv tv : Value} {m : Nat} (h : Book w C B bef aft l c made N kv tv m)
    (code : Code) (hs : code.size ≤ maxLen) {k : Nat} {p : SRow} (hk : ixOf l code = some k) (hp : l[k]? = some p) :
    Calls Try.prog 106 #[.pointer (some ⟨B, 2, none⟩), .string code] w fun e w' => e = .returned (.tuple #[.agg (rowCells p).toArray, .bool true]) ∧ Below w.heap.size w w' := by
  have c4 := h.blk.at 4 (.map (some m)) rfl
  have c3 := h.blk.at 3 tv rfl
  have hB := h.blk.lt
  obtain ⟨i, hlk, hi⟩ := (h.places.same (w' := w.alloc (.cells zeroStack 49)) (Below.heap_alloc w _ _ h.places.lt)).look hs (T := 87) Try.underlying87
  have hi' := hi k hk
  subst hi'
  rw [hk] at hlk
  obtain ⟨g, cap, rfl, hcap, _, hg, hcs⟩ := h.row hp
  have hkl : k < l.length := (List.getElem?_eq_some_iff.1 hp).1
  have hfew := h.few
  have hkI : (k : Int) < (l.length : Int) := by omega
  have hk0 : (0 : Int) ≤ (k : Int) := by omega
  generalize hn : l.length = n at *
  obtain ⟨x, fv⟩ := p
  obtain ⟨fa, fn, fc, rfl⟩ := row_slice (h.froms _ (List.mem_of_getElem? hp))
  have r0 := hcs 0 (by omega)
  have r1 := hcs 1 (by omega)
  have r2 := hcs 2 (by omega)
  have r3 := hcs 3 (by omega)
  have r4 := hcs 4 (by omega)
  have r5 := hcs 5 (by omega)
  have r6 := hcs 6 (by omega)
  have r7 := hcs 7 (by omega)
  simp only [rowCells, stkCells, List.getElem?_cons_zero, List.getElem?_cons_succ, Nat.add_zero] at r0 r1 r2 r3 r4 r5 r6 r7 ⊢
  simp only [zeroStack, Option.isSome_some] at hlk
  clear h hi hcs hn hk hp
  go_enter Try.func106, Try.ntmps106
  go_wp2
  exact bodyPost_ret (v := .tuple #[.agg #[.string x.code, .int .i64 x.dry.lo, .int .i64 x.dry.hi, .int .i64 x.water.lo, .int .i64 x.water.hi, .int .i64 x.piled, .int .i64 x.boiled, .slice fa fn fc], .bool true]) (by simp [results, Try.results106, go_sem]) rfl ⟨rfl, by (repeat (first | (refine Below.setCell ?_ (by first | (simp; done) | (simp; omega)) _) | (refine Below.alloc ?_ (by first | (simp; done) | (simp; omega)) _) | (refine Below.drew ?_))); exact Below.refl _ _⟩
end Go.Proofs.Ytcnacegjdmgakaa
