/- What stays as it was beside two blocks; cells stored one after the other; an empty list of the call's own. -/
import Derived.Test.YtceginnogbbpeaaRowOf
import Derived.OrdersHeld
import Derived.Deep.AppendLies
namespace Go.Proofs.Ytceginnogbbpeaa
open Go.RowKit Go.Shelf

/-- But for two blocks, what there was is as it was. -/
structure Aside (p q : Nat) (w w' : World) : Prop where
  os : w'.os = w.os
  tape : w'.tape = w.tape
  output : w'.output = w.output
  size : w.heap.size ≤ w'.heap.size
  block : ∀ k, k < w.heap.size → k ≠ p → k ≠ q → w'.heap[k]? = w.heap[k]?

theorem Aside.refl (p q : Nat) (w : World) : Aside p q w w := ⟨rfl, rfl, rfl, Nat.le_refl _, fun _ _ _ _ => rfl⟩
theorem Aside.trans {p q : Nat} {a b c : World} (h : Aside p q a b) (k : Aside p q b c) : Aside p q a c :=
  ⟨k.os.trans h.os, k.tape.trans h.tape, k.output.trans h.output, Nat.le_trans h.size k.size, fun i hi h1 h2 => (k.block i (Nat.lt_of_lt_of_le hi h.size) h1 h2).trans (h.block i hi h1 h2)⟩
theorem Aside.drew (p q : Nat) (w : World) : Aside p q w w.drew := ⟨rfl, rfl, rfl, Nat.le_refl _, fun _ _ _ _ => rfl⟩
theorem Aside.alloc (p q : Nat) (w : World) (o : Obj) : Aside p q w (w.alloc o) := ⟨rfl, rfl, rfl, by rw [World.size_alloc]; omega, fun k hk _ _ => heap_alloc_old w o hk⟩

theorem setCells_same (g : Nat) : ∀ (vs : List Value) (o : Nat) (w : World), (w.setCells g o vs).os = w.os ∧ (w.setCells g o vs).tape = w.tape ∧ (w.setCells g o vs).output = w.output
  | [], _, _ => ⟨rfl, rfl, rfl⟩
  | v :: r, o, w => setCells_same g r (o + 1) (w.setCell ⟨g, o, none⟩ v)
theorem Aside.setCells {p q g : Nat} {a w : World} (h : Aside p q a w) (hg : g = p ∨ g = q ∨ a.heap.size ≤ g) (o : Nat) (vs : List Value) : Aside p q a (w.setCells g o vs) := by
  obtain ⟨e1, e2, e3⟩ := setCells_same g vs o w
  refine ⟨e1.trans h.os, e2.trans h.tape, e3.trans h.output, by rw [size_setCells]; exact h.size, fun k hk h1 h2 => ?_⟩
  rw [heap_setCells w g (by omega) vs o]
  exact h.block k hk h1 h2
theorem Aside.grown {p q : Nat} {a w w' : World} (h : Aside p q a w) {row : Option Nat} (hg : w.grownBy w' row) (hr : ∀ r, row = some r → a.heap.size ≤ r) : Aside p q a w' :=
  ⟨hg.os.trans h.os, hg.tape.trans h.tape, hg.output.trans h.output, Nat.le_trans h.size hg.size, fun k hk h1 h2 => (hg.block k (Nat.lt_of_lt_of_le hk h.size) (fun e => by have := hr k e.symm; omega)).trans (h.block k hk h1 h2)⟩
theorem Aside.below {B p q : Nat} {w0 a w : World} (h : Below B w0 a) (k : Aside p q a w) (hB : B ≤ a.heap.size) (hp : B ≤ p) (hq : B ≤ q) : Below B w0 w :=
  h.trans ⟨k.os, k.tape, k.output, k.size, fun i hi => k.block i (by omega) (by omega) (by omega)⟩
theorem Aside.blk {p q g : Nat} {a w : World} {t : TypeId} {cs : Array Value} (k : Aside p q a w) (h : Blk a g t cs) (hp : g ≠ p) (hq : g ≠ q) : Blk w g t cs := (k.block g h.lt hp hq).trans h
theorem Aside.same {p q g : Nat} {a w : World} (k : Aside p q a w) (hg : g < a.heap.size) (hp : g ≠ p) (hq : g ≠ q) : w.heap[g]? = a.heap[g]? := k.block g hg hp hq
theorem Aside.boxed {p q g : Nat} {a w : World} {l : Law} {ad : Option Addr} {n c : Nat} (k : Aside p q a w) (h : Boxed a g l ad n c) (hp : g ≠ p) (hq : g ≠ q) : Boxed w g l ad n c := by
  have e : w.heap[g]? = a.heap[g]? := k.block g (lt_of_boxed h) hp hq
  obtain ⟨h0, h1, h2, h3, h4, h5, h6, h7⟩ := h
  exact ⟨(cell_same e 0).trans h0, (cell_same e 1).trans h1, (cell_same e 2).trans h2, (cell_same e 3).trans h3, (cell_same e 4).trans h4, (cell_same e 5).trans h5, (cell_same e 6).trans h6, (cell_same e 7).trans h7⟩

/-- Cells set one after the other, from a place on. -/
def cellsSet (cs : Array Value) : Nat → List Value → Array Value
  | _, [] => cs
  | o, v :: r => cellsSet (cs.setIfInBounds o v) (o + 1) r
theorem Blk.sets {g : Nat} {t : TypeId} : ∀ (vs : List Value) (o : Nat) {w : World} {cs : Array Value}, Blk w g t cs → Blk (w.setCells g o vs) g t (cellsSet cs o vs)
  | [], _, _, _, h => h
  | v :: r, o, _, _, h => Blk.sets r (o + 1) (h.set_ o v)
theorem cellsSet_list : ∀ (vs old pre : List Value), old.length = vs.length → cellsSet (pre ++ old).toArray pre.length vs = (pre ++ vs).toArray
  | [], [], pre, _ => rfl
  | [], _ :: _, _, h => by cases h
  | _ :: _, [], _, h => by cases h
  | v :: r, o :: old, pre, h => by
    have e : (pre ++ o :: old).toArray.setIfInBounds pre.length v = ((pre ++ [v]) ++ old).toArray := by simp
    have e2 : pre.length + 1 = (pre ++ [v]).length := by simp
    show cellsSet ((pre ++ o :: old).toArray.setIfInBounds pre.length v) (pre.length + 1) r = _
    rw [e, e2, cellsSet_list r old (pre ++ [v]) (by simpa using h)]
    simp
theorem Blk.stored {w : World} {g : Nat} {t : TypeId} {old : List Value} (h : Blk w g t old.toArray) (vs : List Value) (hl : old.length = vs.length) : Blk (w.setCells g 0 vs) g t vs.toArray := by
  have := Blk.sets vs 0 h
  rwa [show cellsSet old.toArray 0 vs = vs.toArray from cellsSet_list vs old [] hl] at this
theorem Blk.apart {g g' : Nat} {t : TypeId} {w : World} {cs : Array Value} (h : Blk w g t cs) (hg : g ≠ g') (o : Nat) (vs : List Value) : Blk (w.setCells g' o vs) g t cs := (heap_setCells w g' hg vs o).trans h
theorem Blk.thereOf {w : World} {g : Nat} {t : TypeId} {cs : Array Value} (h : Blk w g t cs) {o n : Nat} (hn : o + n ≤ cs.size) : w.there g o n := fun j hj => ⟨by rw [h.cell (o + j), Array.getElem?_eq_getElem (by omega)]; rfl, h.frozen _⟩
theorem Blk.range {w : World} {g : Nat} {t : TypeId} {l : List Value} (h : Blk w g t l.toArray) : w.rangeAt g 0 l := fun j v hv => by rw [h.cell, Nat.zero_add]; simpa using hv
theorem Blk.drawn {w : World} {g : Nat} {t : TypeId} {cs : Array Value} (h : Blk w g t cs) : Blk w.drew g t cs := h
theorem Blk.grown {w w' : World} {g : Nat} {t : TypeId} {cs : Array Value} (h : Blk w g t cs) {row : Option Nat} (hg : w.grownBy w' row) (hr : some g ≠ row) : Blk w' g t cs := (hg.block g h.lt hr).trans h

/-- An empty block of the call's own owns nothing. -/
theorem Blk.owns {w : World} {g : Nat} {e : TypeId} (h : Blk w g e #[]) {base : Nat} (hb : base ≤ g) (size : Nat) : w.ownsRow base e size (.slice (some ⟨g, 0, none⟩) 0 0) 0 [] :=
  ⟨by simp, .inr ⟨g, 0, #[], rfl, hb, h, Nat.le_refl _, Nat.zero_le _, by simp, by simp⟩⟩

/-- An operation that may be taken first, its slot written out. -/
theorem take_at {P : Program} {md : Region.Mode} {ops : Array Oper} {Q : Exit → Act → World → Prop} {S : World → Prop} {i : Nat} {oi : Oper} {v : Value} {d : Tmp} {fuel : Nat} {listed : Array Bool} {a : Act} {w : World} (hi : ops[i]? = some oi) (hd : oi.dst = some d)
    (hs : Region.noSelect ops = true) (hf : Region.free md ops listed i = true) (hr : (Region.ready md ops listed).contains i = true)
    (hQ : ∀ c a w, Q (.panic c) (a.put oi.dst v) w → Q (.panic c) a w) (hy : YieldsIf P ops S oi v a) (hS : S w)
    (h : wpAnyH P md ops Q S fuel (listed.setIfInBounds i true) ⟨a.tmps.setIfInBounds d v, a.defers⟩ w) : wpAnyH P md ops Q S (fuel + 1) listed a w :=
  wpAnyH_take hi hs hf hr hQ hy hS (by rw [hd]; exact h)

/-- Two new blocks that hold the same. -/
structure Twins (w w' : World) (t : TypeId) (cs : Array Value) (x y : Nat) : Prop where
  ne : x ≠ y
  hx : w.heap.size ≤ x
  hy : w.heap.size ≤ y
  aside : Aside x y w w'
  bx : Blk w' x t cs
  by_ : Blk w' y t cs
theorem Twins.below {B : Nat} {w0 w w' : World} {t : TypeId} {cs : Array Value} {x y : Nat} (h : Twins w w' t cs x y) (hB : Below B w0 w) (hs : B ≤ w.heap.size) : Below B w0 w' :=
  h.aside.below hB hs (Nat.le_trans hs h.hx) (Nat.le_trans hs h.hy)
end Go.Proofs.Ytceginnogbbpeaa
