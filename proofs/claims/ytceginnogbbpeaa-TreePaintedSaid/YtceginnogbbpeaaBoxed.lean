/- What the laws on forests have in common: the block of a forest. -/
import Derived.Test.YtceginnogbbpeaaVerdictFacts
import Derived.Test.YtceginnogbbpeaaGrows
namespace Go.Proofs.Ytceginnogbbpeaa
open Go.RowKit Go.Shelf

/-- A forest's cells behind a list of so many trees. -/
def boxOf (l : Law) (a : Option Addr) (n c : Nat) : Array Value := #[.int .i64 l.age, .int .i64 l.rest, .int .i64 l.girth, .int .i64 l.f0, .int .i64 l.f1, .int .i64 l.f2, .int .i64 l.heal, .slice a n c]

/-- The cells of a forest's block. -/
def Boxed (W : World) (g : Nat) (l : Law) (a : Option Addr) (n c : Nat) : Prop :=
  W.cell? ⟨g, 0, none⟩ = some (.int .i64 l.age) ∧ W.cell? ⟨g, 1, none⟩ = some (.int .i64 l.rest) ∧ W.cell? ⟨g, 2, none⟩ = some (.int .i64 l.girth) ∧ W.cell? ⟨g, 3, none⟩ = some (.int .i64 l.f0) ∧
  W.cell? ⟨g, 4, none⟩ = some (.int .i64 l.f1) ∧ W.cell? ⟨g, 5, none⟩ = some (.int .i64 l.f2) ∧ W.cell? ⟨g, 6, none⟩ = some (.int .i64 l.heal) ∧ W.cell? ⟨g, 7, none⟩ = some (.slice a n c)

theorem Boxed.of {W : World} {g : Nat} {l : Law} {a : Option Addr} {n c : Nat} (h : Blk W g 27 (boxOf l a n c)) : Boxed W g l a n c :=
  ⟨h.cell 0, h.cell 1, h.cell 2, h.cell 3, h.cell 4, h.cell 5, h.cell 6, h.cell 7⟩

theorem Boxed.below {B : Nat} {W W' : World} {g : Nat} {l : Law} {a : Option Addr} {n c : Nat} (h : Boxed W g l a n c) (hb : Below B W W') (hg : g < B) : Boxed W' g l a n c := by
  obtain ⟨h0, h1, h2, h3, h4, h5, h6, h7⟩ := h
  exact ⟨(hb.cell (p := ⟨g, 0, none⟩) hg).trans h0, (hb.cell (p := ⟨g, 1, none⟩) hg).trans h1, (hb.cell (p := ⟨g, 2, none⟩) hg).trans h2, (hb.cell (p := ⟨g, 3, none⟩) hg).trans h3, (hb.cell (p := ⟨g, 4, none⟩) hg).trans h4, (hb.cell (p := ⟨g, 5, none⟩) hg).trans h5, (hb.cell (p := ⟨g, 6, none⟩) hg).trans h6, (hb.cell (p := ⟨g, 7, none⟩) hg).trans h7⟩

theorem boxed_new (w : World) (l : Law) (a : Option Addr) (n c : Nat) : Boxed (w.alloc (.cells (boxOf l a n c) 27)) w.heap.size l a n c := Boxed.of (Blk.new w _ _)

theorem lt_of_boxed {W : World} {g : Nat} {l : Law} {a : Option Addr} {n c : Nat} (h : Boxed W g l a n c) : g < W.heap.size := by
  have := h.1
  unfold World.cell? at this
  split at this
  · rename_i hb
    exact (Array.getElem?_eq_some_iff.1 hb).1
  · cases this

theorem TreesHeld.at {w W : World} {v : Value} {ts : List Tree} (h : TreesHeld w.heap.size w v ts) (hW : Below w.heap.size w W) : TreesHeld W.heap.size W v ts := (h.below hW).mono hW.size
end Go.Proofs.Ytceginnogbbpeaa
