/- Memory: blocks known whole; what stays as it was beside some blocks. Nothing of the program. -/
import Derived.Below
import Derived.RowKit
import Derived.Laws.Rows
import Derived.Laws.Tables
import Derived.Laws.AppendOwn
import Derived.Laws.OwnMore
import Derived.Laws.IdiomCopy
import Derived.Deep.MidRow
import Derived.Maps.Own
import Derived.Maps.OwnSet
import Derived.Maps.Views
import Derived.Lib.Hide
namespace Go.Proofs.YtnoofdjlocadbaaGreatDoor
open Go Go.RowKit

theorem cell_same {w w' : World} {g : Nat} (h : w'.heap[g]? = w.heap[g]?) (o : Nat) : w'.cell? ⟨g, o, none⟩ = w.cell? ⟨g, o, none⟩ := by
  simp [World.cell?, h]
theorem frozen_same {w w' : World} {g : Nat} (h : w'.heap[g]? = w.heap[g]?) (o : Nat) : w'.frozen? ⟨g, o, none⟩ = w.frozen? ⟨g, o, none⟩ := by
  simp [World.frozen?, h]
theorem heap_setCells (w : World) (g : Nat) {k : Nat} (hk : k ≠ g) : ∀ (vs : List Value) (o : Nat), (w.setCells g o vs).heap[k]? = w.heap[k]? := by
  intro vs
  induction vs generalizing w with
  | nil => intro o; rfl
  | cons v r ih => intro o; exact (ih (w.setCell ⟨g, o, none⟩ v) (o + 1)).trans (Below.heap_setCell w ⟨g, o, none⟩ v k hk)
theorem size_setCell (w : World) (a : Addr) (v : Value) : (w.setCell a v).heap.size = w.heap.size := by simp [World.setCell]
theorem size_setCells (w : World) (b : Nat) : ∀ (vs : List Value) (o : Nat), (w.setCells b o vs).heap.size = w.heap.size := by
  intro vs
  induction vs generalizing w with
  | nil => intro o; rfl
  | cons v r ih => intro o; simp only [World.setCells]; rw [ih]; simp [World.setCell]
theorem setCells_same (g : Nat) : ∀ (vs : List Value) (o : Nat) (w : World), (w.setCells g o vs).os = w.os ∧ (w.setCells g o vs).tape = w.tape ∧ (w.setCells g o vs).output = w.output
  | [], _, _ => ⟨rfl, rfl, rfl⟩
  | v :: r, o, w => setCells_same g r (o + 1) (w.setCell ⟨g, o, none⟩ v)
theorem addr_addT (g j : Nat) : (⟨g, 0, none⟩ : Addr).add j = ⟨g, j, none⟩ := by cases j <;> simp [Addr.add]

/-- A block that is known whole. -/
def Bkt (w : World) (g : Nat) (t : TypeId) (cs : Array Value) : Prop := w.heap[g]? = some (.cells cs t (0, 0))
section
variable {w w' : World} {g : Nat} {t : TypeId} {cs : Array Value}
theorem Bkt.lt (h : Bkt w g t cs) : g < w.heap.size := by
  rcases Nat.lt_or_ge g w.heap.size with hlt | hge
  · exact hlt
  · unfold Bkt at h; rw [Array.getElem?_eq_none hge] at h; cases h
theorem Bkt.cell (h : Bkt w g t cs) (i : Nat) : w.cell? ⟨g, i, none⟩ = cs[i]? := cell_of_row w g i cs t (0, 0) h
theorem Bkt.frozen (h : Bkt w g t cs) (i : Nat) : w.frozen? ⟨g, i, none⟩ = false := by
  unfold Bkt at h
  simp [World.frozen?, h]
theorem Bkt.new (w : World) (t : TypeId) (cs : Array Value) : Bkt (w.alloc (.cells cs t)) w.heap.size t cs := heap_alloc_new w _
theorem Bkt.new' {w : World} {g : Nat} (h : w.heap.size = g) (t : TypeId) (cs : Array Value) : Bkt (w.alloc (.cells cs t)) g t cs := h ▸ Bkt.new w t cs
theorem Bkt.alloc (h : Bkt w g t cs) (o : Obj) : Bkt (w.alloc o) g t cs := (Below.heap_alloc w o g h.lt).trans h
theorem Bkt.set_ (h : Bkt w g t cs) (i : Nat) (u : Value) : Bkt (w.setCell ⟨g, i, none⟩ u) g t (cs.setIfInBounds i u) := by
  unfold Bkt at h ⊢
  simp [World.setCell, Array.getElem?_modify, h]
theorem Bkt.far (h : Bkt w g t cs) {p : Addr} (hp : g ≠ p.block) (u : Value) : Bkt (w.setCell p u) g t cs := (Below.heap_setCell w p u g hp).trans h
theorem Bkt.drew (h : Bkt w g t cs) : Bkt w.drew g t cs := h
theorem Bkt.apart {g' : Nat} (h : Bkt w g t cs) (hg : g ≠ g') (o : Nat) (vs : List Value) : Bkt (w.setCells g' o vs) g t cs := (heap_setCells w g' hg vs o).trans h
theorem Bkt.there (h : Bkt w g t cs) {o n : Nat} (hn : o + n ≤ cs.size) : w.there g o n := fun j hj => ⟨by rw [h.cell (o + j), Array.getElem?_eq_getElem (by omega)]; rfl, h.frozen _⟩
theorem Bkt.grown {row : Option Nat} (h : Bkt w g t cs) (hg : w.grownBy w' row) (hr : some g ≠ row) : Bkt w' g t cs := (hg.block g h.lt hr).trans h
theorem Bkt.at (h : Bkt w g t cs) (i : Nat) (v : Value) (e : cs[i]? = some v) : w.cell? ⟨g, i, none⟩ = some v := (h.cell i).trans e
end

/-- Cells set one after the other, from a place on. -/
def cellsSet (cs : Array Value) : Nat → List Value → Array Value
  | _, [] => cs
  | o, v :: r => cellsSet (cs.setIfInBounds o v) (o + 1) r
theorem Bkt.sets {g : Nat} {t : TypeId} : ∀ (vs : List Value) (o : Nat) {w : World} {cs : Array Value}, Bkt w g t cs → Bkt (w.setCells g o vs) g t (cellsSet cs o vs)
  | [], _, _, _, h => h
  | v :: r, o, _, _, h => Bkt.sets r (o + 1) (h.set_ o v)
theorem size_cellsSet : ∀ (vs : List Value) (o : Nat) (cs : Array Value), (cellsSet cs o vs).size = cs.size
  | [], _, _ => rfl
  | v :: r, o, cs => by rw [cellsSet, size_cellsSet r (o + 1)]; simp
theorem cellsSet_mid : ∀ (vs pre old post : List Value), old.length = vs.length → cellsSet (pre ++ old ++ post).toArray pre.length vs = (pre ++ vs ++ post).toArray
  | [], _, [], _, _ => by simp [cellsSet]
  | [], _, _ :: _, _, h => by cases h
  | _ :: _, _, [], _, h => by cases h
  | v :: r, pre, o :: old, post, h => by
    have e : (pre ++ (o :: old) ++ post).toArray.setIfInBounds pre.length v = ((pre ++ [v]) ++ old ++ post).toArray := by simp
    have e2 : pre.length + 1 = (pre ++ [v]).length := by simp
    show cellsSet ((pre ++ (o :: old) ++ post).toArray.setIfInBounds pre.length v) (pre.length + 1) r = _
    rw [e, e2, cellsSet_mid r (pre ++ [v]) old post (by simpa using h)]
    simp
theorem cellsSet_list (vs old : List Value) (h : old.length = vs.length) : cellsSet old.toArray 0 vs = vs.toArray := by
  have := cellsSet_mid vs [] old [] h
  simpa using this

theorem Bkt.stored {w : World} {g : Nat} {t : TypeId} {old : List Value} (h : Bkt w g t old.toArray) (vs : List Value) (hl : old.length = vs.length) : Bkt (w.setCells g 0 vs) g t vs.toArray := by
  have := Bkt.sets vs 0 h
  rwa [cellsSet_list vs old hl] at this
theorem Bkt.storedMid {w : World} {g : Nat} {t : TypeId} (pre old post vs : List Value) (h : Bkt w g t (pre ++ old ++ post).toArray) (hl : old.length = vs.length) : Bkt (w.setCells g pre.length vs) g t (pre ++ vs ++ post).toArray := by
  have := Bkt.sets vs pre.length h
  rwa [cellsSet_mid vs pre old post hl] at this

/-! ### What stays beside some blocks -/

/-- But for the blocks of C, what there was is as it was. -/
structure Beside (C : Nat → Prop) (w w' : World) : Prop where
  os : w'.os = w.os
  tape : w'.tape = w.tape
  output : w'.output = w.output
  size : w.heap.size ≤ w'.heap.size
  block : ∀ k, k < w.heap.size → ¬ C k → w'.heap[k]? = w.heap[k]?

/-- The blocks of C, and what is new behind w. -/
def Wide (C : Nat → Prop) (w : World) : Nat → Prop := fun k => C k ∨ w.heap.size ≤ k

namespace Beside
variable {C C1 : Nat → Prop} {w w1 w2 : World}
theorem refl (C : Nat → Prop) (w : World) : Beside C w w := ⟨rfl, rfl, rfl, Nat.le_refl _, fun _ _ _ => rfl⟩
theorem trans (h : Beside C w w1) (h' : Beside C1 w1 w2) (hC : ∀ k, C1 k → Wide C w k) : Beside C w w2 :=
  ⟨h'.os.trans h.os, h'.tape.trans h.tape, h'.output.trans h.output, Nat.le_trans h.size h'.size, fun k hk hn =>
    (h'.block k (Nat.lt_of_lt_of_le hk h.size) (fun hc => (hC k hc).elim hn (fun hge => absurd hk (Nat.not_lt.2 hge)))).trans (h.block k hk hn)⟩
theorem mono (h : Beside C w w1) (hC : ∀ k, C k → C1 k) : Beside C1 w w1 := ⟨h.os, h.tape, h.output, h.size, fun k hk hn => h.block k hk (fun hc => hn (hC k hc))⟩
theorem drew (h : Beside C w w1) : Beside C w w1.drew := ⟨h.os, h.tape, h.output, h.size, h.block⟩
theorem alloc (h : Beside C w w1) (o : Obj) : Beside C w (w1.alloc o) :=
  ⟨h.os, h.tape, h.output, by rw [World.size_alloc]; have := h.size; omega, fun k hk hn => (Below.heap_alloc w1 o k (Nat.lt_of_lt_of_le hk h.size)).trans (h.block k hk hn)⟩
theorem setCell (h : Beside C w w1) {p : Addr} (hp : Wide C w p.block) (u : Value) : Beside C w (w1.setCell p u) :=
  ⟨h.os, h.tape, h.output, by rw [size_setCell]; exact h.size, fun k hk hn => (Below.heap_setCell w1 p u k (fun e => by subst e; exact hp.elim hn (fun hge => absurd hk (Nat.not_lt.2 hge)))).trans (h.block k hk hn)⟩
theorem setCells (h : Beside C w w1) {g : Nat} (hg : Wide C w g) (o : Nat) (vs : List Value) : Beside C w (w1.setCells g o vs) := by
  obtain ⟨e1, e2, e3⟩ := setCells_same g vs o w1
  refine ⟨e1.trans h.os, e2.trans h.tape, e3.trans h.output, by rw [size_setCells]; exact h.size, fun k hk hn => ?_⟩
  rw [heap_setCells w1 g (fun e => by subst e; exact hg.elim hn (fun hge => absurd hk (Nat.not_lt.2 hge))) vs o]
  exact h.block k hk hn
theorem grown (h : Beside C w w1) {row : Option Nat} (hg : w1.grownBy w2 row) (hr : ∀ r, row = some r → Wide C w r) : Beside C w w2 :=
  ⟨hg.os.trans h.os, hg.tape.trans h.tape, hg.output.trans h.output, Nat.le_trans h.size hg.size, fun k hk hn =>
    (hg.block k (Nat.lt_of_lt_of_le hk h.size) (fun e => (hr k e.symm).elim hn (fun hge => absurd hk (Nat.not_lt.2 hge)))).trans (h.block k hk hn)⟩
theorem of_below (h : Below w.heap.size w w1) : Beside C w w1 := ⟨h.os, h.tape, h.output, h.size, fun k hk _ => h.block k hk⟩
theorem thenBelow (h : Beside C w w1) (h' : Below w1.heap.size w1 w2) : Beside C w w2 := h.trans (of_below (C := fun _ => False) h') (fun _ f => f.elim)
theorem below {B : Nat} (h : Beside C w w1) (hC : ∀ k, C k → B ≤ k) (hB : B ≤ w.heap.size) : Below B w w1 :=
  ⟨h.os, h.tape, h.output, h.size, fun k hk => h.block k (by omega) (fun hc => by have := hC k hc; omega)⟩
theorem blk {g : Nat} {t : TypeId} {cs : Array Value} (h : Beside C w w1) (hb : Bkt w g t cs) (hg : ¬ C g) : Bkt w1 g t cs := (h.block g hb.lt hg).trans hb
theorem cell (h : Beside C w w1) {g : Nat} (hk : g < w.heap.size) (hg : ¬ C g) (o : Nat) : w1.cell? ⟨g, o, none⟩ = w.cell? ⟨g, o, none⟩ := cell_same (h.block g hk hg) o
end Beside

theorem Wide.of {C : Nat → Prop} {w : World} {k : Nat} (h : C k) : Wide C w k := .inl h
theorem Wide.new {C : Nat → Prop} {w : World} {k : Nat} (h : w.heap.size ≤ k) : Wide C w k := .inr h

/-! ### A row that the call owns, in a block known whole -/

/-- A row as a block. -/
theorem row_block {w : World} {base : Nat} {e : TypeId} {size n : Nat} {v : Value} {xs : List Value} (h : w.ownsRow base e size v n xs) (hn : 0 < n) :
    ∃ g cap cur, v = .slice (some ⟨g, 0, none⟩) n cap ∧ Bkt w g e cur ∧ n ≤ cap ∧ cap ≤ maxLen ∧ cur.size = cap * size ∧ cur.toList.take (n * size) = xs := by
  rcases h.2 with ⟨_, h0⟩ | ⟨g, cap, cur, h1, _, h3, h4, h5, h6, h7⟩
  · omega
  · exact ⟨g, cap, cur, h1, h3, h4, h5, h6, h7⟩
theorem row_of_block {w : World} {e : TypeId} {size n cap g : Nat} {cur : Array Value} (hb : Bkt w g e cur) (hn : n ≤ cap) (hc : cap ≤ maxLen) (hs : cur.size = cap * size) :
    w.ownsRow 0 e size (.slice (some ⟨g, 0, none⟩) n cap) n (cur.toList.take (n * size)) := by
  refine ⟨?_, .inr ⟨g, cap, cur, rfl, Nat.zero_le _, hb, hn, hc, hs, rfl⟩⟩
  rw [List.length_take, Array.length_toList, hs]
  exact Nat.min_eq_left (Nat.mul_le_mul_right _ hn)

/-- A row stays where its block does. -/
theorem row_same {w w' : World} {base : Nat} {e : TypeId} {size n : Nat} {v : Value} {xs : List Value} (h : w.ownsRow base e size v n xs) (hs : ∀ g, v.ownBlock = some g → w'.heap[g]? = w.heap[g]?) : w'.ownsRow base e size v n xs := by
  refine ⟨h.1, ?_⟩
  rcases h.2 with h0 | ⟨g, cap, cur, h1, h2, h3, h4⟩
  · exact .inl h0
  · exact .inr ⟨g, cap, cur, h1, h2, (hs g (by rw [h1]; rfl)).trans h3, h4⟩
theorem row_lt {w : World} {base : Nat} {e : TypeId} {size n : Nat} {v : Value} {xs : List Value} (h : w.ownsRow base e size v n xs) {g : Nat} (hg : v.ownBlock = some g) : g < w.heap.size := (h.lt g hg).2
/-- Rows of different element types lie in different blocks. -/
theorem row_type {w : World} {base : Nat} {e : TypeId} {size n : Nat} {v : Value} {xs : List Value} (h : w.ownsRow base e size v n xs) {g : Nat} (hg : v.ownBlock = some g) : ∃ cs, Bkt w g e cs := by
  rcases h.2 with ⟨h0, _⟩ | ⟨g', cap, cur, h1, h2, h3, h4⟩
  · rw [h0] at hg; cases hg
  · rw [h1] at hg
    cases hg
    exact ⟨cur, h3⟩
theorem blk_type {w : World} {g : Nat} {t t' : TypeId} {cs cs' : Array Value} (h : Bkt w g t cs) (h' : Bkt w g t' cs') : t = t' := by
  unfold Bkt at h h'; rw [h] at h'; cases h'; rfl
theorem row_apart {w : World} {base base' : Nat} {e e' : TypeId} {size size' n n' : Nat} {v v' : Value} {xs xs' : List Value} (h : w.ownsRow base e size v n xs) (h' : w.ownsRow base' e' size' v' n' xs') (hne : e ≠ e') : v.ownBlock = none ∨ v.ownBlock ≠ v'.ownBlock := by
  cases hv : v.ownBlock with
  | none => exact .inl rfl
  | some g =>
    refine .inr fun e2 => ?_
    obtain ⟨cs, hb⟩ := row_type h hv
    obtain ⟨cs', hb'⟩ := row_type h' e2.symm
    exact hne (blk_type hb hb')
theorem map_block {H : Type} {P : Program} {k : TypeId} {R : Value → Option (DataW H × List MemPlace)} {w : World} {b n : Nat} {D : DataW H} (h : w.ownsMap P k R b n D) {t : TypeId} {cs : Array Value} (h' : Bkt w b t cs) : False := by
  obtain ⟨es, clock, hb, _⟩ := h
  unfold Bkt at h'; rw [hb] at h'; cases h'
theorem map_same {H : Type} {P : Program} {k : TypeId} {R : Value → Option (DataW H × List MemPlace)} {w w' : World} {b n : Nat} {D : DataW H} (h : w.ownsMap P k R b n D) (hs : w'.heap[b]? = w.heap[b]?) : w'.ownsMap P k R b n D := by
  obtain ⟨es, clock, hb, h2⟩ := h
  exact ⟨es, clock, hs.trans hb, h2⟩
/-- The walk stands at a store. -/
theorem at_storeT {P : Program} {ops : Array Oper} {rest : List Oper} {d : Option Tmp} (ty : TypeId) (x y : Operand) {ty2 : TypeId} {ps : String} {af : Array Edge} {gd : Option (Nat × Bool)} {a : Act} {w : World} {Q : Exit → Act → World → Prop} (h : wpList P ops Q (⟨d, .store ty x y, ty2, ps, af, gd⟩ :: rest) a w) : wpList P ops Q (⟨d, .store ty x y, ty2, ps, af, gd⟩ :: rest) a w := h
theorem below_setCells {B : Nat} {a w : World} (h : Below B a w) {g : Nat} (hg : B ≤ g) : ∀ (vs : List Value) (o : Nat), Below B a (w.setCells g o vs) := by
  intro vs
  induction vs generalizing w with
  | nil => intro o; exact h
  | cons v r ih => intro o; exact ih (h.setCell (p := ⟨g, o, none⟩) hg v) (o + 1)
theorem Below.blk {B : Nat} {w w' : World} (hb : Below B w w') {g : Nat} {t : TypeId} {cs : Array Value} (h : Bkt w g t cs) (hg : g < B) : Bkt w' g t cs := (hb.block g hg).trans h
theorem Bkt.below {w w' : World} {g : Nat} {t : TypeId} {cs : Array Value} (h : Bkt w g t cs) (hb : Below w.heap.size w w') : Bkt w' g t cs := (hb.block g h.lt).trans h

/-- Behind a call that makes memory of its own: all old cells, all old marks. -/
theorem bcellT {W w1 : World} (hb : Below W.heap.size W w1) : (∀ b o, b < W.heap.size → w1.cell? ⟨b, o, none⟩ = W.cell? ⟨b, o, none⟩) ∧ (∀ b o, b < W.heap.size → w1.frozen? ⟨b, o, none⟩ = W.frozen? ⟨b, o, none⟩) :=
  ⟨fun b o h => hb.cell (p := ⟨b, o, none⟩) h, fun b o h => hb.frozen (p := ⟨b, o, none⟩) h⟩
end Go.Proofs.YtnoofdjlocadbaaGreatDoor
