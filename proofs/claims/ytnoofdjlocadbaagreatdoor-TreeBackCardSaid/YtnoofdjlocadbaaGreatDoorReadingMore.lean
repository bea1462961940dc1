/- A tree, a strip or a wound more has been read; the tree to which a line belongs. -/
import Derived.Test.YtnoofdjlocadbaaGreatDoorReading
import Derived.Lib.QuietBelow
import Derived.BigQuiet
import Derived.Deep.AppendLies
namespace Go.Proofs.YtnoofdjlocadbaaGreatDoor
open Go Go.RowKit Go.Lib Go.Deep

theorem last_mrows (ts : List Tree) (t : Tree) : (ts ++ [t]).flatMap Tree.mrows = ts.flatMap Tree.mrows ++ [stripsOf t.sv t.strips, woundsOf t.wv t.wounds] := by
  simp [List.flatMap_append, Tree.mrows]
section
variable {w0 W W1 : World} {B : Nat} {law : Law} {tv : Value} {ts : List Tree} {t : Tree} {ln : Int} {last : List UInt8}
theorem Reading.lastRows (h : Reading w0 W B law tv (ts ++ [t]) ln last) :
    Rows w0 W ((readerOf B law tv ln last :: treesOf tv (ts ++ [t]) :: ts.flatMap Tree.mrows) ++ stripsOf t.sv t.strips :: [woundsOf t.wv t.wounds]) := by
  have h' : Rows w0 W (readerOf B law tv ln last :: treesOf tv (ts ++ [t]) :: (ts ++ [t]).flatMap Tree.mrows) := h
  rw [last_mrows] at h'
  exact h'
theorem Reading.lastRows2 (h : Reading w0 W B law tv (ts ++ [t]) ln last) :
    Rows w0 W ((readerOf B law tv ln last :: treesOf tv (ts ++ [t]) :: (ts.flatMap Tree.mrows ++ [stripsOf t.sv t.strips])) ++ woundsOf t.wv t.wounds :: []) := by
  have h' := h.lastRows
  rwa [List.append_cons, List.cons_append, List.cons_append] at h'
/-- The last tree is another one: its row is stored into. -/
theorem Reading.turnLast {t' : Tree} {gT nT cT : Nat} (htv : tv = .slice (some ⟨gT, 0, none⟩) nT cT) (hn : nT = ts.length + 1) (pre post : List Value) (old v : Value) (o : Nat) (ho : pre.length = o) (hc : t.cells = pre ++ [old] ++ post) (hc' : t'.cells = pre ++ [v] ++ post)
    (h : Rows w0 W (readerOf B law tv ln last :: treesOf tv (ts ++ [t]) :: (ts ++ [t']).flatMap Tree.mrows)) : Reading w0 (W.setCell ⟨gT, ts.length * 11 + o, none⟩ v) B law tv (ts ++ [t']) ln last := by
  have hl : (flat Tree.cells ts ++ pre).length = ts.length * 11 + o := by rw [List.length_append, flat_length tree_eleven, ho]
  have h1 : ∀ x : Tree, flat Tree.cells (ts ++ [x]) = flat Tree.cells ts ++ x.cells := fun x => by rw [flat_append, flat_cons, flat_nil, List.append_nil]
  have h2 := Rows.set1 (A := [readerOf B law tv ln last]) (r := treesOf tv (ts ++ [t])) h (flat Tree.cells ts ++ pre) post old v (ts.length * 11 + o) htv (by simp [treesOf, hn]) hl (by show flat Tree.cells (ts ++ [t]) = _; rw [h1, hc]; simp)
  have h3 : (⟨(treesOf tv (ts ++ [t])).e, (treesOf tv (ts ++ [t])).k, (treesOf tv (ts ++ [t])).v, (treesOf tv (ts ++ [t])).n, flat Tree.cells ts ++ pre ++ [v] ++ post⟩ : MRow) = treesOf tv (ts ++ [t']) := by
    show (⟨45, 11, tv, (ts ++ [t]).length, _⟩ : MRow) = ⟨45, 11, tv, (ts ++ [t']).length, flat Tree.cells (ts ++ [t'])⟩
    rw [h1, hc']
    simp
  rw [h3] at h2
  exact h2
/-- A strip more. -/
theorem Reading.addStrip (h : Reading w0 W B law tv (ts ++ [t]) ln last) {gT nT cT g cap : Nat} (htv : tv = .slice (some ⟨gT, 0, none⟩) nT cT) (hn : nT = ts.length + 1) (s : Int × Int)
    (hg : W.grownBy W1 t.sv.ownBlock) (ho : W1.ownsRow w0.heap.size 69 2 (.slice (some ⟨g, 0, none⟩) (t.strips.length + 1) cap) (t.strips.length + 1) (flat stripCells t.strips ++ stripCells s)) (hat : t.sv.ownBlock = some g ∨ g = W.heap.size) :
    Reading w0 (W1.setCell ⟨gT, ts.length * 11 + 8, none⟩ (.slice (some ⟨g, 0, none⟩) (t.strips.length + 1) cap)) B law tv (ts ++ [{ t with sv := .slice (some ⟨g, 0, none⟩) (t.strips.length + 1) cap, strips := t.strips ++ [s] }]) ln last := by
  have h1 := Rows.append h.lastRows hg ho hat
  refine Reading.turnLast (t := t) htv hn [.string t.code, .int .i64 t.bmin, .int .i64 t.bmax, .int .i64 t.taped, .int .i64 t.gmin, .int .i64 t.gmax, .int .i64 t.wmin, .int .i64 t.wmax] [t.wv, .int .i64 t.dead] t.sv _ 8 rfl rfl rfl ?_
  rw [last_mrows]
  have h2 : (⟨(stripsOf t.sv t.strips).e, (stripsOf t.sv t.strips).k, .slice (some ⟨g, 0, none⟩) (t.strips.length + 1) cap, t.strips.length + 1, flat stripCells t.strips ++ stripCells s⟩ : MRow) = stripsOf (.slice (some ⟨g, 0, none⟩) (t.strips.length + 1) cap) (t.strips ++ [s]) := by
    unfold stripsOf
    rw [flat_append, flat_cons, flat_nil, List.append_nil, List.length_append]
    rfl
  rw [h2] at h1
  exact h1
/-- A wound more. -/
theorem Reading.addWound (h : Reading w0 W B law tv (ts ++ [t]) ln last) {gT nT cT g cap : Nat} (htv : tv = .slice (some ⟨gT, 0, none⟩) nT cT) (hn : nT = ts.length + 1) (s : Int)
    (hg : W.grownBy W1 t.wv.ownBlock) (ho : W1.ownsRow w0.heap.size 3 1 (.slice (some ⟨g, 0, none⟩) (t.wounds.length + 1) cap) (t.wounds.length + 1) (flat intCells t.wounds ++ intCells s)) (hat : t.wv.ownBlock = some g ∨ g = W.heap.size) :
    Reading w0 (W1.setCell ⟨gT, ts.length * 11 + 9, none⟩ (.slice (some ⟨g, 0, none⟩) (t.wounds.length + 1) cap)) B law tv (ts ++ [{ t with wv := .slice (some ⟨g, 0, none⟩) (t.wounds.length + 1) cap, wounds := t.wounds ++ [s] }]) ln last := by
  have h1 := Rows.append h.lastRows2 hg ho hat
  refine Reading.turnLast (t := t) htv hn [.string t.code, .int .i64 t.bmin, .int .i64 t.bmax, .int .i64 t.taped, .int .i64 t.gmin, .int .i64 t.gmax, .int .i64 t.wmin, .int .i64 t.wmax, t.sv] [.int .i64 t.dead] t.wv _ 9 rfl rfl rfl ?_
  rw [last_mrows]
  have h2 : (⟨(woundsOf t.wv t.wounds).e, (woundsOf t.wv t.wounds).k, .slice (some ⟨g, 0, none⟩) (t.wounds.length + 1) cap, t.wounds.length + 1, flat intCells t.wounds ++ intCells s⟩ : MRow) = woundsOf (.slice (some ⟨g, 0, none⟩) (t.wounds.length + 1) cap) (t.wounds ++ [s]) := by
    unfold woundsOf
    rw [flat_append, flat_cons, flat_nil, List.append_nil, List.length_append]
    rfl
  rw [h2, List.cons_append, List.cons_append, List.append_assoc] at h1
  exact h1
/-- A tree more. -/
theorem Reading.addTree (h : Reading w0 W B law tv ts ln last) {g cap : Nat} (ht : t.sv = .slice none 0 0 ∧ t.wv = .slice none 0 0 ∧ t.strips = [] ∧ t.wounds = [])
    (hg : W.grownBy W1 tv.ownBlock) (ho : W1.ownsRow w0.heap.size 45 11 (.slice (some ⟨g, 0, none⟩) (ts.length + 1) cap) (ts.length + 1) (flat Tree.cells ts ++ t.cells)) (hat : tv.ownBlock = some g ∨ g = W.heap.size) :
    Reading w0 (W1.setCell ⟨B, 7, none⟩ (.slice (some ⟨g, 0, none⟩) (ts.length + 1) cap)) B law (.slice (some ⟨g, 0, none⟩) (ts.length + 1) cap) (ts ++ [t]) ln last := by
  have h1 := Rows.append (A := [readerOf B law tv ln last]) (r := treesOf tv ts) h hg ho hat
  have h2 : (⟨(treesOf tv ts).e, (treesOf tv ts).k, .slice (some ⟨g, 0, none⟩) (ts.length + 1) cap, ts.length + 1, flat Tree.cells ts ++ t.cells⟩ : MRow) = treesOf (.slice (some ⟨g, 0, none⟩) (ts.length + 1) cap) (ts ++ [t]) := by
    unfold treesOf
    rw [flat_append, flat_cons, flat_nil, List.append_nil, List.length_append]
    rfl
  rw [h2] at h1
  refine Reading.setTrees (tv := tv) ?_
  rw [last_mrows]
  obtain ⟨e1, e2, e3, e4⟩ := ht
  have h3 := Rows.nil (A := readerOf B law tv ln last :: treesOf (.slice (some ⟨g, 0, none⟩) (ts.length + 1) cap) (ts ++ [t]) :: ts.flatMap Tree.mrows) (C := []) (by rw [List.append_nil]; exact h1) 69 2
  have h4 := Rows.nil (C := []) (by rw [List.append_nil]; exact h3) 3 1
  rw [e1, e2, e3, e4]
  have h5 : stripsOf (.slice none 0 0) [] = ⟨69, 2, .slice none 0 0, 0, []⟩ := rfl
  have h6 : woundsOf (.slice none 0 0) [] = ⟨3, 1, .slice none 0 0, 0, []⟩ := rfl
  rw [h5, h6]
  rw [List.append_assoc] at h4
  exact h4
/-- The trees' slice, if there is a tree. -/
theorem Reading.sliced (h : Reading w0 W B law tv (ts ++ [t]) ln last) : ∃ gT cT cur, tv = .slice (some ⟨gT, 0, none⟩) (ts.length + 1) cT ∧ ts.length + 1 ≤ cT ∧ cT ≤ maxLen ∧ Bkt W gT 45 cur ∧ w0.heap.size ≤ gT ∧ cur.toList.take ((ts.length + 1) * 11) = flat Tree.cells ts ++ t.cells := by
  have h1 := h.trees
  rw [List.length_append, List.length_singleton] at h1
  rcases h1.2 with ⟨_, h2⟩ | ⟨g, cap, cur, h2, h3, h4, h5, h6, _, h7⟩
  · omega
  · rw [flat_append, flat_cons, flat_nil, List.append_nil] at h7
    exact ⟨g, cap, cur, h2, h5, h6, h4, h3, h7⟩
/-- A cell of the last tree. -/
theorem Reading.lastCell (h : Reading w0 W B law tv (ts ++ [t]) ln last) {gT nT cT : Nat} (htv : tv = .slice (some ⟨gT, 0, none⟩) nT cT) (o : Nat) (ho : o < 11) : W.cell? ⟨gT, ts.length * 11 + o, none⟩ = t.cells[o]? := by
  obtain ⟨g, c, cur, h2, _, _, h4, _, h7⟩ := h.sliced
  rw [htv] at h2
  cases h2
  have h8 : (cur.toList.take ((ts.length + 1) * 11))[ts.length * 11 + o]? = (flat Tree.cells ts ++ t.cells)[ts.length * 11 + o]? := by rw [h7]
  rw [List.getElem?_take, if_pos (by omega), List.getElem?_append_right (by rw [flat_length tree_eleven]; omega), flat_length tree_eleven, show ts.length * 11 + o - ts.length * 11 = o from by omega] at h8
  rw [h4.cell, ← h8]
  simp
end

set_option maxRecDepth 100000 in
set_option maxHeartbeats 1000000 in
/-- The tree to which a line belongs. -/
theorem tree_calls {w0 w : World} {B : Nat} {law : Law} {ts : List Tree} {t : Tree} {ln : Int} {last : List UInt8} {gT cT : Nat} (h : Reading w0 w B law (.slice (some ⟨gT, 0, none⟩) (ts.length + 1) cT) (ts ++ [t]) ln last) (hn : ts.length < 1000000000) :
    Calls Tryz.prog 86 #[.pointer (some ⟨B, 0, none⟩)] w fun e w' => e = .returned (.pointer (some ⟨gT, ts.length * 11, none⟩)) ∧ Below w.heap.size w w' := by
  have q0 := cell_regrown (show w.cell? ⟨B, 7, none⟩ = some (.slice (some ⟨gT, 0, none⟩) (ts.length + 1) cT) from h.slice)
  clear h
  generalize ts.length = m at hn q0 ⊢
  have hm1 : ((m + 1 : Nat) : Int) - 1 = (m : Int) := by omega
  have hm2 : (m : Int) < ((m + 1 : Nat) : Int) := by omega
  have hm0 : (0 : Int) ≤ (m : Int) := by omega
  go_enter Tryz.func86, Tryz.ntmps86
  go_upto_region 1 with fail
  refine wp_region_quiet_below (by kernel_rfl) (by kernel_rfl) ?_
  repeat (go_big_quiet_step (fail))
  refine wpQuiet_nil ?_
  intro wq hw'
  have hb8 : Below w.heap.size w wq := by obtain ⟨⟨dq, osq⟩, hw''⟩ := hw'; rw [hw'']; exact below_regrown _ dq osq
  clear hw' q0
  go_wp2
  go_ret
  exact ⟨by simp, hb8⟩
end Go.Proofs.YtnoofdjlocadbaaGreatDoor
