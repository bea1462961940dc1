/- The forest that is being read: the reader's block, its trees, their strips and wounds, each in a row of the call's own. -/
import Derived.Test.YtnoofdjlocadbaaGreatDoorRows
import Derived.Test.YtnoofdjlocadbaaGreatDoorMRows
import Derived.Test.YtnoofdjlocadbaaGreatDoorFlat
import Derived.Test.YtnoofdjlocadbaaGreatDoorReadLaw
import Derived.Test.YtnoofdjlocadbaaGreatDoorTextTree
namespace Go.Proofs.YtnoofdjlocadbaaGreatDoor
open Go Go.RowKit Go.Lib Go.Deep

/-- The rows of a tree's strips and wounds. -/
def stripsOf (v : Value) (l : List (Int × Int)) : MRow := ⟨69, 2, v, l.length, flat stripCells l⟩
def woundsOf (v : Value) (l : List Int) : MRow := ⟨3, 1, v, l.length, flat intCells l⟩
def Tree.mrows (t : Tree) : List MRow := [stripsOf t.sv t.strips, woundsOf t.wv t.wounds]
def treesOf (tv : Value) (ts : List Tree) : MRow := ⟨45, 11, tv, ts.length, flat Tree.cells ts⟩
def readerOf (B : Nat) (law : Law) (tv : Value) (ln : Int) (last : List UInt8) : MRow := ⟨105, 10, .slice (some ⟨B, 0, none⟩) 1 1, 1, law.cells ++ [tv, .int .i64 ln, .string (str last)]⟩
/-- What has been read, and where it lies. -/
def Reading (w0 W : World) (B : Nat) (law : Law) (tv : Value) (ts : List Tree) (ln : Int) (last : List UInt8) : Prop :=
  Rows w0 W (readerOf B law tv ln last :: treesOf tv ts :: ts.flatMap Tree.mrows)

/-- Nothing has turned but cells of the reader's own kinds. -/
def Ours (o : Obj) : Prop := ∃ (cs : Array Value) (t : TypeId) (g : Nat × Nat), o = .cells cs t g ∧ (t = 105 ∨ t = 45 ∨ t = 69 ∨ t = 3)
def Calm (w w' : World) : Prop := w.heap.size ≤ w'.heap.size ∧ ∀ (b : Nat) (o : Obj), w.heap[b]? = some o → ¬ Ours o → w'.heap[b]? = some o
section
variable {w w1 w2 w' : World}
theorem Calm.of_below (h : Below w.heap.size w w') : Calm w w' := ⟨h.size, fun b _ hb _ => (h.block b (Array.getElem?_eq_some_iff.1 hb).1).trans hb⟩
theorem Calm.trans (h : Calm w w1) (h' : Calm w1 w2) : Calm w w2 := ⟨Nat.le_trans h.1 h'.1, fun b o hb hn => h'.2 b o (h.2 b o hb hn) hn⟩
theorem Calm.strings (h : Calm w w') {b : Nat} {cs : Array Value} (hb : Bkt w b 9 cs) : Bkt w' b 9 cs := h.2 b _ hb (fun ⟨_, t, _, e, ht⟩ => by
  injection e with _ e2 _
  subst e2
  exact absurd ht (by decide))
theorem ours {b : Nat} {t : TypeId} {cs : Array Value} {o : Obj} (hb : Bkt w b t cs) (ho : w.heap[b]? = some o) (ht : t = 105 ∨ t = 45 ∨ t = 69 ∨ t = 3) : Ours o := by
  unfold Bkt at hb
  rw [hb] at ho
  cases ho
  exact ⟨_, _, _, rfl, ht⟩
theorem Calm.setCells {g : Nat} {t : TypeId} {cs : Array Value} (h : Calm w w1) (hb : Bkt w1 g t cs) (ht : t = 105 ∨ t = 45 ∨ t = 69 ∨ t = 3) (o : Nat) (vs : List Value) : Calm w (w1.setCells g o vs) := ⟨by rw [size_setCells]; exact h.1, fun b ob hb0 hn =>
  (heap_setCells w1 g (fun e => by subst e; exact hn (ours hb (h.2 _ _ hb0 hn) ht)) vs o).trans (h.2 b ob hb0 hn)⟩
theorem Calm.setCell {g : Nat} {t : TypeId} {cs : Array Value} (h : Calm w w1) (hb : Bkt w1 g t cs) (ht : t = 105 ∨ t = 45 ∨ t = 69 ∨ t = 3) (o : Nat) (v : Value) : Calm w (w1.setCell ⟨g, o, none⟩ v) := h.setCells hb ht o [v]
theorem Calm.grown {base k n : Nat} {e : TypeId} {v : Value} {xs : List Value} (h : Calm w w1) (ho : w1.ownsRow base e k v n xs) (hg : w1.grownBy w2 v.ownBlock) (ht : e = 105 ∨ e = 45 ∨ e = 69 ∨ e = 3) : Calm w w2 := ⟨Nat.le_trans h.1 hg.size, fun b ob hb0 hn => by
  have h1 := h.2 b ob hb0 hn
  refine (hg.block b (Array.getElem?_eq_some_iff.1 h1).1 (fun e2 => ?_)).trans h1
  obtain ⟨cs, hb⟩ := row_type ho e2.symm
  exact hn (ours hb h1 ht)⟩
end

theorem tree_eleven (t : Tree) : t.cells.length = 11 := rfl
theorem strip_two (s : Int × Int) : (stripCells s).length = 2 := rfl
theorem int_one (n : Int) : (intCells n).length = 1 := rfl

section
variable {w0 W W' : World} {B : Nat} {law : Law} {tv : Value} {ts : List Tree} {ln : Int} {last : List UInt8}
theorem Reading.below (h : Reading w0 W B law tv ts ln last) (hb : Below W.heap.size W W') : Reading w0 W' B law tv ts ln last := Rows.below h hb
theorem Reading.blk (h : Reading w0 W B law tv ts ln last) : Bkt W B 105 (law.cells ++ [tv, .int .i64 ln, .string (str last)]).toArray := row_one_blk (h.row _ (by simp) : W.ownsRow _ _ _ (readerOf B law tv ln last).v _ _)
theorem Reading.line (h : Reading w0 W B law tv ts ln last) : W.cell? ⟨B, 8, none⟩ = some (.int .i64 ln) := h.blk.at 8 _ rfl
theorem Reading.word (h : Reading w0 W B law tv ts ln last) : W.cell? ⟨B, 9, none⟩ = some (.string (str last)) := h.blk.at 9 _ rfl
theorem Reading.slice (h : Reading w0 W B law tv ts ln last) : W.cell? ⟨B, 7, none⟩ = some tv := h.blk.at 7 _ rfl
theorem Reading.trees (h : Reading w0 W B law tv ts ln last) : W.ownsRow w0.heap.size 45 11 tv ts.length (flat Tree.cells ts) := h.row (treesOf tv ts) (by simp)
theorem Reading.old (h : Reading w0 W B law tv ts ln last) : w0.heap.size ≤ B := h.ge (r := readerOf B law tv ln last) (by simp) rfl
/-- The line's number is stored. -/
theorem Reading.setLine (h : Reading w0 W B law tv ts ln last) (n : Int) : Reading w0 (W.setCell ⟨B, 8, none⟩ (.int .i64 n)) B law tv ts n last :=
  Rows.set1 (A := []) h (law.cells ++ [tv]) [.string (str last)] (.int .i64 ln) (.int .i64 n) 8 rfl rfl rfl rfl
/-- The line's word is stored. -/
theorem Reading.setLast (h : Reading w0 W B law tv ts ln last) (l : List UInt8) : Reading w0 (W.setCell ⟨B, 9, none⟩ (.string (str l))) B law tv ts ln l :=
  Rows.set1 (A := []) h (law.cells ++ [tv, .int .i64 ln]) [] (.string (str last)) (.string (str l)) 9 rfl rfl rfl rfl
/-- The law is stored. -/
theorem Reading.setLaw (h : Reading w0 W B law tv ts ln last) (l : Law) : Reading w0 (W.setCells B 0 l.cells) B l tv ts ln last :=
  Rows.set (A := []) h (r := readerOf B law tv ln last) (n := 1) (cap := 1) [] law.cells [tv, .int .i64 ln, .string (str last)] l.cells rfl rfl rfl rfl
/-- The trees' slice is stored, behind an append to their row. -/
theorem Reading.setTrees {tv' : Value} (h : Rows w0 W (readerOf B law tv ln last :: treesOf tv' ts :: ts.flatMap Tree.mrows)) : Reading w0 (W.setCell ⟨B, 7, none⟩ tv') B law tv' ts ln last :=
  Rows.set1 (A := []) h law.cells [.int .i64 ln, .string (str last)] tv tv' 7 rfl rfl rfl rfl
/-- What has been read is held. -/
theorem Reading.held (h : Reading w0 W B law tv ts ln last) (hl : ts.length ≤ 140737488355328) (hs : ∀ t ∈ ts, t.strips.length ≤ 140737488355328 ∧ t.wounds.length ≤ 140737488355328 ∧ t.code.size ≤ 9223372036854775807) : TreesHeld W.heap.size W tv ts := by
  have key : ∀ {α : Type} [Inhabited α] {enc : α → List Value} {k : Nat} {e : TypeId} {v : Value} {xs : List α} (hk : ∀ a, (enc a).length = k) (ho : W.ownsRow w0.heap.size e k v xs.length (flat enc xs)) (h47 : xs.length ≤ 140737488355328), Held W.heap.size W k enc v xs := by
    intro α _ enc k e v xs hk ho h47
    by_cases hne : v = .slice none 0 0
    · rcases ho.2 with ⟨_, h0⟩ | ⟨g, cap, cur, h1, _⟩
      · rw [hne]
        exact .inl ⟨⟨none, 0, rfl⟩, List.length_eq_zero_iff.1 h0⟩
      · rw [hne] at h1; cases h1
    · obtain ⟨_, _, _, _, _, _, hh, _⟩ := owned_held hk ho rfl h47 hne
      exact hh
  refine ⟨key tree_eleven h.trees hl, fun t ht => ⟨key strip_two (h.row (stripsOf t.sv t.strips) ?_) (hs t ht).1, key int_one (h.row (woundsOf t.wv t.wounds) ?_) (hs t ht).2.1, (hs t ht).2.2⟩⟩
  · simp only [List.mem_cons, List.mem_flatMap]; exact .inr (.inr ⟨t, ht, by simp [Tree.mrows]⟩)
  · simp only [List.mem_cons, List.mem_flatMap]; exact .inr (.inr ⟨t, ht, by simp [Tree.mrows]⟩)
end
end Go.Proofs.YtnoofdjlocadbaaGreatDoor
