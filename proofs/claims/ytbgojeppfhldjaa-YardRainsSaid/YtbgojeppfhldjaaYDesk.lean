/- A deed's own memory beside the book: the deed, the stack, what else the call makes. -/
import Derived.Test.YtbgojeppfhldjaaYKeep
import Derived.Test.YtbgojeppfhldjaaYSmall
namespace Go.Proofs.Ytbgojeppfhldjaa
open Go Go.RowKit Yd

def deedCells (d : Deed Code) : List Value := [.int .i64 d.kind, .int .i64 d.day, .string d.stack, .string d.other, .int .i64 d.a.lo, .int .i64 d.a.hi, .int .i64 d.b.lo, .int .i64 d.b.hi]

/-- The book with other numbers of its own. -/
theorem Book.setOwn {w : World} {C : Nat → Prop} {B : Nat} {bef aft : Int} {l : List SRow} {c c' : Yd.Acc} {made made' : Int} {N : Nat} {kv tv : Value} {m : Nat} (h : Book w C B bef aft l c made N kv tv m)
    (pre old post vs : List Value) (e : bookCells bef aft kv tv m c made = pre ++ old ++ post) (e' : bookCells bef aft kv tv m c' made' = pre ++ vs ++ post) (hl : old.length = vs.length) :
    Book (w.setCells B pre.length vs) C B bef aft l c' made' N kv tv m := by
  have hb : Blk w B 76 (pre ++ old ++ post).toArray := e ▸ h.blk
  have hk : ∀ {base : Nat} {e : TypeId} {size n : Nat} {v : Value} {xs : List Value}, w.ownsRow base e size v n xs → 76 ≠ e → (w.setCells B pre.length vs).ownsRow base e size v n xs := fun hr hne =>
    row_same hr (fun g hg => heap_setCells w B (fun e2 => h.blk.notRow hr hne (by rw [hg, e2])) vs _)
  refine ⟨by rw [e']; exact hb.storedMid pre old post vs hl, hk h.keys (by decide), hk h.things (by decide), h.places.same (heap_setCells w B (fun e2 => by have hbb := h.blk; rw [← e2] at hbb; exact h.places.noBlk hbb) vs _), h.inB, h.inK, h.inT, h.inM,
    fun p hp => hk (h.froms p hp) (by decide), h.fromsLen, h.codes, h.sizes, h.few, h.room⟩

/-- The world behind w0: the book, and the blocks of L, which are new. -/
structure Desk (w0 W : World) (Cx C : Nat → Prop) (B : Nat) (bef aft : Int) (l : List SRow) (c : Yd.Acc) (made : Int) (N : Nat) (kv tv : Value) (m : Nat) (L : List (Nat × TypeId × List Value)) : Prop where
  book : Book W C B bef aft l c made N kv tv m
  old : ∀ k, C k → k < w0.heap.size
  loc : ∀ (i g : Nat) (t : TypeId) (cs : List Value), L[i]? = some (g, t, cs) → Blk W g t cs.toArray ∧ w0.heap.size ≤ g
  nodup : (L.map (·.1)).Nodup
  beside : Beside Cx w0 W

section
variable {w0 W W' : World} {Cx C : Nat → Prop} {B : Nat} {bef aft : Int} {l : List SRow} {c : Yd.Acc} {made : Int} {N : Nat} {kv tv : Value} {m : Nat} {L : List (Nat × TypeId × List Value)}

theorem Desk.start (h : Book w0 C B bef aft l c made N kv tv m) (hC : ∀ k, C k → k < w0.heap.size) : Desk w0 w0 (fun _ => False) C B bef aft l c made N kv tv m [] :=
  ⟨h, hC, fun i g t cs hi => by simp at hi, .nil, Beside.refl _ _⟩
theorem Desk.below (h : Desk w0 W Cx C B bef aft l c made N kv tv m L) (hb : Below W.heap.size W W') : Desk w0 W' Cx C B bef aft l c made N kv tv m L :=
  ⟨h.book.below hb, h.old, fun i g t cs hi => ⟨(h.loc i g t cs hi).1.below hb, (h.loc i g t cs hi).2⟩, h.nodup, h.beside.thenBelow hb⟩
theorem Desk.alloc (h : Desk w0 W Cx C B bef aft l c made N kv tv m L) (t : TypeId) (cs : List Value) {g : Nat} (hg : W.heap.size = g) : Desk w0 (W.alloc (.cells cs.toArray t)) Cx C B bef aft l c made N kv tv m (L ++ [(g, t, cs)]) := by
  subst hg
  refine ⟨h.book.alloc _, h.old, fun i g u ds hi => ?_, ?_, h.beside.alloc _⟩
  · rcases Nat.lt_or_ge i L.length with h1 | h1
    · rw [List.getElem?_append_left h1] at hi
      exact ⟨(h.loc i g u ds hi).1.alloc _, (h.loc i g u ds hi).2⟩
    · rw [List.getElem?_append_right h1] at hi
      have : i - L.length = 0 := by
        rcases Nat.eq_zero_or_pos (i - L.length) with h2 | h2
        · exact h2
        · rw [List.getElem?_eq_none (by simp; omega)] at hi; cases hi
      rw [this] at hi
      cases hi
      exact ⟨Blk.new W t _, h.beside.size⟩
  · rw [List.map_append, List.nodup_append]
    refine ⟨h.nodup, by simp, fun a ha b hb => ?_⟩
    obtain ⟨x, hx, rfl⟩ := List.mem_map.1 ha
    obtain ⟨i, hi⟩ := List.mem_iff_getElem?.1 hx
    have := (h.loc i x.1 x.2.1 x.2.2 hi).1.lt
    simp at hb
    omega
theorem Desk.at (h : Desk w0 W Cx C B bef aft l c made N kv tv m L) (i o : Nat) {g : Nat} {t : TypeId} {cs : List Value} {v : Value} (hi : L[i]? = some (g, t, cs)) (ho : cs[o]? = some v) : W.cell? ⟨g, o, none⟩ = some v :=
  (h.loc i g t cs hi).1.at o v (by simpa using ho)
theorem Desk.own (h : Desk w0 W Cx C B bef aft l c made N kv tv m L) (o : Nat) {v : Value} (ho : (bookCells bef aft kv tv m c made)[o]? = some v) : W.cell? ⟨B, o, none⟩ = some v :=
  h.book.blk.at o v (by simpa using ho)
theorem Desk.far (h : Desk w0 W Cx C B bef aft l c made N kv tv m L) (i : Nat) {g : Nat} {t : TypeId} {cs : List Value} (hi : L[i]? = some (g, t, cs)) : w0.heap.size ≤ g ∧ g < W.heap.size ∧ ¬ C g ∧ g ≠ B :=
  have h2 := (h.loc i g t cs hi).2
  ⟨h2, (h.loc i g t cs hi).1.lt, fun e => by have := h.old g e; omega, fun e => by have := h.old B h.book.inB; omega⟩

/-- A store into a block of the call's own. -/
theorem Desk.setLoc (h : Desk w0 W Cx C B bef aft l c made N kv tv m L) (i : Nat) {g : Nat} {t : TypeId} (pre old post vs : List Value) (hi : L[i]? = some (g, t, pre ++ old ++ post)) (hl : old.length = vs.length) (ht : t ≠ 3) :
    Desk w0 (W.setCells g pre.length vs) Cx C B bef aft l c made N kv tv m (L.set i (g, t, pre ++ vs ++ post)) := by
  obtain ⟨hb, hg⟩ := h.loc i g t _ hi
  have hil : i < L.length := (List.getElem?_eq_some_iff.1 hi).1
  have hs : ∀ k, k ≠ g → (W.setCells g pre.length vs).heap[k]? = W.heap[k]? := fun k hk => heap_setCells W g hk vs _
  have hnC : ∀ k, C k → k ≠ g := fun k hk e => by have := h.old k hk; omega
  refine ⟨?_, h.old, fun j g' u ds hj => ?_, ?_, h.beside.setCells (.inr hg) _ _⟩
  · refine ⟨(hs B (hnC B h.book.inB)).trans h.book.blk, row_same h.book.keys (fun k hk => hs k (hnC k (h.book.inK k hk))), row_same h.book.things (fun k hk => hs k (hnC k (h.book.inT k hk))), h.book.places.same (hs m (hnC m h.book.inM)),
      h.book.inB, h.book.inK, h.book.inT, h.book.inM, fun p hp => row_same (h.book.froms p hp) (fun k hk => ?_), h.book.fromsLen, h.book.codes, h.book.sizes, h.book.few, h.book.room⟩
    exact hs k (fun e => hb.notRow (h.book.froms p hp) ht (by rw [hk, e]))
  · by_cases e : j = i
    · subst e
      rw [List.getElem?_set_self hil] at hj
      cases hj
      exact ⟨hb.storedMid pre old post vs hl, hg⟩
    · rw [List.getElem?_set_ne (Ne.symm e)] at hj
      obtain ⟨h1, h2⟩ := h.loc j g' u ds hj
      refine ⟨h1.apart (fun e2 => e ?_) _ _, h2⟩
      subst e2
      have hn := List.pairwise_iff_getElem.1 h.nodup
      have hjl : j < L.length := (List.getElem?_eq_some_iff.1 hj).1
      have e1 : (L.map (·.1))[j]'(by simpa using hjl) = g' := by rw [List.getElem_map, (List.getElem?_eq_some_iff.1 hj).2]
      have e2 : (L.map (·.1))[i]'(by simpa using hil) = g' := by rw [List.getElem_map, (List.getElem?_eq_some_iff.1 hi).2]
      rcases Nat.lt_trichotomy j i with h3 | h3 | h3
      · exact absurd (e1.trans e2.symm) (hn j i (by simpa using hjl) (by simpa using hil) h3)
      · exact h3
      · exact absurd (e2.trans e1.symm) (hn i j (by simpa using hil) (by simpa using hjl) h3)
  · have : (L.set i (g, t, pre ++ vs ++ post)).map (·.1) = L.map (·.1) := by
      rw [List.map_set]
      refine List.ext_getElem? fun j => ?_
      by_cases e : i = j
      · subst e
        rw [List.getElem?_set_self (by simpa using hil), List.getElem?_map, hi]
        rfl
      · rw [List.getElem?_set_ne e]
    rw [this]
    exact h.nodup
theorem Desk.put (h : Desk w0 W Cx C B bef aft l c made N kv tv m L) (i o : Nat) (vs : List Value) (hi : decide (i < L.length ∧ o + vs.length ≤ (L.getD i (0, 0, [])).2.2.length ∧ (L.getD i (0, 0, [])).2.1 ≠ 3) = true) : Desk w0 (W.setCells (L.getD i (0, 0, [])).1 o vs) Cx C B bef aft l c made N kv tv m (L.set i ((L.getD i (0, 0, [])).1, (L.getD i (0, 0, [])).2.1, (L.getD i (0, 0, [])).2.2.take o ++ vs ++ (L.getD i (0, 0, [])).2.2.drop (o + vs.length))) := by
  obtain ⟨hi, hl, ht⟩ := of_decide_eq_true hi
  have e0 : L[i]? = some (L.getD i (0, 0, [])) := by rw [List.getD_eq_getElem?_getD, List.getElem?_eq_getElem hi]; rfl
  generalize L.getD i (0, 0, []) = x at e0 hl ht ⊢
  obtain ⟨g, t, cs⟩ := x
  have e : L[i]? = some (g, t, cs.take o ++ (cs.drop o).take vs.length ++ cs.drop (o + vs.length)) := by
    rw [e0, List.append_assoc, ← List.drop_drop, List.take_append_drop, List.take_append_drop]
  have := h.setLoc i _ _ _ vs e (by rw [List.length_take, List.length_drop]; simp only at hl; omega) ht
  rwa [List.length_take, Nat.min_eq_left (by simp only at hl; omega)] at this
theorem Desk.setLoc1 (h : Desk w0 W Cx C B bef aft l c made N kv tv m L) (i : Nat) {g : Nat} {t : TypeId} (pre post : List Value) (old v : Value) (o : Nat) (ho : pre.length = o) (hi : L[i]? = some (g, t, pre ++ [old] ++ post)) (ht : t ≠ 3) :
    Desk w0 (W.setCell ⟨g, o, none⟩ v) Cx C B bef aft l c made N kv tv m (L.set i (g, t, pre ++ [v] ++ post)) := by
  subst ho
  exact h.setLoc i pre [old] post [v] hi rfl ht
/-- A store into the book's own numbers. -/
theorem Desk.setOwn (h : Desk w0 W Cx C B bef aft l c made N kv tv m L) (pre old post vs : List Value) {c' : Yd.Acc} {made' : Int} (e : bookCells bef aft kv tv m c made = pre ++ old ++ post) (e' : bookCells bef aft kv tv m c' made' = pre ++ vs ++ post)
    (hl : old.length = vs.length) (hx : ∀ k, Cx k → C k) : Desk w0 (W.setCells B pre.length vs) C C B bef aft l c' made' N kv tv m L :=
  ⟨h.book.setOwn pre old post vs e e' hl, h.old, fun i g t cs hi => ⟨(h.loc i g t cs hi).1.apart (h.far i hi).2.2.2 _ _, (h.loc i g t cs hi).2⟩, h.nodup, (h.beside.mono hx).setCells (.inl h.book.inB) _ _⟩
theorem Desk.quiet (h : Desk w0 W (fun _ => False) C B bef aft l c made N kv tv m L) : Below w0.heap.size w0 W := h.beside.below (fun _ f => f.elim) (Nat.le_refl _)
theorem Desk.lt (h : Desk w0 W Cx C B bef aft l c made N kv tv m L) : B < w0.heap.size := h.old B h.book.inB
end
/-- A contract's world in a region that only reads. -/
theorem regrown_calls {P : Program} {f : FuncId} {args : Array Value} {W : World} {v : Value} (h : ∀ w, Calls P f args w fun e w' => e = .returned v ∧ Below w.heap.size w w') :
    ∀ d os, Calls P f args (Go.Sort.grow (redrawn W d) os) fun e w'' => e = .returned v ∧ ∃ p : Regrown, w'' = Go.Sort.grow (redrawn W p.d) p.os := fun _ _ => Calls.regrown_of (h _)
end Go.Proofs.Ytbgojeppfhldjaa
