/- The shelf: a thing is put in the place of another one. -/
import Derived.Test.YtcnacegjdmgakaaYRested
import Derived.Deep.RegionHeld3
import Derived.Deep.AppendLies
namespace Go.Proofs.Ytcnacegjdmgakaa
open Go Go.RowKit Yd

/-! ### Plain facts on rows -/

theorem rows_set {l : List SRow} {k : Nat} (hk : k < l.length) (p : SRow) : rowsCells (l.set k p) = (rowsCells l).take (8 * k) ++ rowCells p ++ (rowsCells l).drop (8 * (k + 1)) := by
  induction l generalizing k with
  | nil => simp at hk
  | cons q r ih =>
    have hl : (rowCells q).length = 8 := rfl
    cases k with
    | zero =>
      show rowCells p ++ rowsCells r = (rowCells q ++ rowsCells r).take 0 ++ rowCells p ++ (rowCells q ++ rowsCells r).drop 8
      rw [List.drop_append_of_le_length (by omega), List.drop_of_length_le (by omega)]
      simp
    | succ k =>
      have h := ih (k := k) (by simpa using hk)
      show rowCells q ++ rowsCells (r.set k p) = (rowCells q ++ rowsCells r).take (8 * (k + 1)) ++ rowCells p ++ (rowCells q ++ rowsCells r).drop (8 * (k + 1 + 1))
      rw [h, List.take_append, List.drop_append, hl, List.take_of_length_le (l := rowCells q) (by omega), List.drop_of_length_le (l := rowCells q) (by omega), show 8 * (k + 1) - 8 = 8 * k by omega, show 8 * (k + 1 + 1) - 8 = 8 * (k + 1) by omega]
      simp
theorem codes_set {l : List SRow} {k : Nat} {p q : SRow} (hp : l[k]? = some p) (hc : q.1.code = p.1.code) : (l.set k q).map (fun r => r.1.code) = l.map (fun r => r.1.code) := by
  have hk : k < l.length := (List.getElem?_eq_some_iff.1 hp).1
  refine List.ext_getElem (by simp) (fun i h1 h2 => ?_)
  simp only [List.getElem_map, List.getElem_set]
  split
  · rename_i e
    subst e
    rw [hc]
    have : l[k] = p := (List.getElem?_eq_some_iff.1 hp).2
    rw [this]
  · rfl
theorem codeCells_of {l l' : List SRow} (h : l'.map (fun r => r.1.code) = l.map (fun r => r.1.code)) : codeCells l' = codeCells l := by
  have e : ∀ l : List SRow, codeCells l = (l.map fun r => r.1.code).map Value.string := fun l => by rw [List.map_map]; rfl
  rw [e, e, h]
theorem ixOf_codes {l l' : List SRow} (h : l'.map (fun r => r.1.code) = l.map (fun r => r.1.code)) (c : Code) : ixOf l' c = ixOf l c := by
  have e : ∀ l : List SRow, ixOf l c = (l.map fun r => r.1.code).findIdx? (fun d => decide (d = c)) := fun l => by
    unfold ixOf
    rw [List.findIdx?_map]
    rfl
  rw [e, e, h]
theorem ixOf_some {l : List SRow} {c : Code} {k : Nat} (h : ixOf l c = some k) : ∃ p, l[k]? = some p ∧ p.1.code = c := by
  unfold ixOf at h
  rw [List.findIdx?_eq_some_iff_getElem] at h
  obtain ⟨hk, h1, _⟩ := h
  exact ⟨l[k], List.getElem?_eq_getElem hk, by simpa using h1⟩
theorem ixOf_none {l : List SRow} {c : Code} (h : ixOf l c = none) : ∀ p ∈ l, p.1.code ≠ c := by
  unfold ixOf at h
  rw [List.findIdx?_eq_none_iff] at h
  intro p hp
  simpa using h p hp

/-- Where a store leaves the row's block. -/
theorem row_stored {w : World} {e : TypeId} {g n cap k : Nat} {l : List SRow} (h : w.ownsRow 0 e 8 (.slice (some ⟨g, 0, none⟩) n cap) n (rowsCells l)) (hn : n = l.length) (hk : k < l.length) (p : SRow) :
    w.there g (k * 8) 8 ∧ (w.setCells g (k * 8) (rowCells p)).ownsRow 0 e 8 (.slice (some ⟨g, 0, none⟩) n cap) n (rowsCells (l.set k p)) := by
  obtain ⟨g', cap', cur, hv, hb, hc, hm, hs, ht⟩ := row_block h (by omega)
  cases hv
  refine ⟨hb.there (by rw [hs]; omega), ?_⟩
  have e1 : cur = (cur.toList.take (k * 8) ++ (cur.toList.drop (k * 8)).take 8 ++ cur.toList.drop ((k + 1) * 8)).toArray := by
    refine Array.toList_inj.1 ?_
    rw [show (k + 1) * 8 = k * 8 + 8 by omega, ← List.drop_drop, List.append_assoc, List.take_append_drop, List.take_append_drop]
  have hlen : (cur.toList.take (k * 8)).length = k * 8 := by rw [List.length_take, Array.length_toList, hs]; omega
  have hlen2 : ((cur.toList.drop (k * 8)).take 8).length = (rowCells p).length := by
    rw [List.length_take, List.length_drop, Array.length_toList, hs, show (rowCells p).length = 8 from rfl]; omega
  rw [e1] at hb
  have hb2 := Blk.storedMid _ _ _ (rowCells p) hb hlen2
  rw [hlen] at hb2
  have hsz : (cur.toList.take (k * 8) ++ rowCells p ++ cur.toList.drop ((k + 1) * 8)).toArray.size = cap * 8 := by
    simp only [List.size_toArray, List.length_append, hlen, List.length_drop, Array.length_toList, hs, show (rowCells p).length = 8 from rfl]; omega
  have := row_of_block (n := n) hb2 hc hm hsz
  have e2 : (cur.toList.take (k * 8) ++ rowCells p ++ cur.toList.drop ((k + 1) * 8)).take (n * 8) = rowsCells (l.set k p) := by
    have hP : (rowCells p).length = 8 := rfl
    have t1 : ((cur.toList.take (k * 8)).take (n * 8)) = cur.toList.take (k * 8) := by rw [List.take_take, show min (n * 8) (k * 8) = k * 8 by omega]
    have t2 : (cur.toList.take (n * 8)).take (8 * k) = cur.toList.take (k * 8) := by rw [List.take_take, show min (8 * k) (n * 8) = k * 8 by omega]
    have t3 : (rowCells p).take (n * 8 - k * 8) = rowCells p := List.take_of_length_le (by omega)
    have t4 : (cur.toList.take (n * 8)).drop (8 * (k + 1)) = (cur.toList.drop ((k + 1) * 8)).take (n * 8 - (k + 1) * 8) := by rw [List.drop_take, show 8 * (k + 1) = (k + 1) * 8 by omega]
    rw [rows_set hk, ← ht, t2, t4, List.append_assoc, List.take_append, t1, hlen, List.take_append, t3, hP, List.append_assoc, show n * 8 - k * 8 - 8 = n * 8 - (k + 1) * 8 by omega]
  rw [← e2]
  exact this
/-- The book behind a store of a thing in the place of another one with its code. -/
theorem Book.putAt {w : World} {C : Nat → Prop} {B : Nat} {bef aft : Int} {l : List SRow} {c : Yd.Acc} {made : Int} {N : Nat} {kv tv : Value} {m : Nat} (h : Book w C B bef aft l c made N kv tv m) {k : Nat} {p q : SRow} (hk : l[k]? = some p) (hc : q.1.code = p.1.code) (hq : w.ownsRow 0 3 1 q.2 q.1.src.length (intCells q.1.src)) (hl : q.1.src.length ≤ 1000) :
    ∃ g cap, tv = .slice (some ⟨g, 0, none⟩) l.length cap ∧ C g ∧ w.there g (k * 8) 8 ∧ g < w.heap.size ∧ Book (w.setCells g (k * 8) (rowCells q)) C B bef aft (l.set k q) c made N kv tv m := by
  have hkl : k < l.length := (List.getElem?_eq_some_iff.1 hk).1
  obtain ⟨g, cap, cur, rfl, hb, hcap, hmax, hsz, htk⟩ := row_block h.things (by omega)
  obtain ⟨ht, hrow⟩ := row_stored h.things rfl hkl q
  have hgB : g ≠ B := fun e => by subst e; have := blk_type hb h.blk; revert this; decide
  have hgm : g ≠ m := fun e => by subst e; exact h.places.noBlk hb
  have hsame : ∀ j, j ≠ g → (w.setCells g (k * 8) (rowCells q)).heap[j]? = w.heap[j]? := fun j hj => heap_setCells w g hj _ _
  have hne : ∀ {e : TypeId} {size n : Nat} {v : Value} {xs : List Value}, w.ownsRow 0 e size v n xs → e ≠ 49 → (w.setCells g (k * 8) (rowCells q)).ownsRow 0 e size v n xs := fun {e size n v xs} hr hT =>
    row_same hr (fun j hj => hsame j (fun e' => by
      subst e'
      obtain ⟨cs, hb'⟩ := row_type hr hj
      exact hT (blk_type hb' hb)))
  refine ⟨g, cap, rfl, h.inT g rfl, ht, hb.lt, ?_⟩
  have hcodes := codes_set (q := q) hk hc
  refine ⟨(hsame B (Ne.symm hgB)).trans h.blk, ?_, ?_, ?_, h.inB, h.inK, h.inT, h.inM, ?_, ?_, ?_, ?_, ?_, h.room⟩
  · have := hne h.keys (by decide)
    rw [codeCells_of hcodes, List.length_set]
    exact this
  · rw [List.length_set]; exact hrow
  · exact (h.places.same (hsame m (Ne.symm hgm))).ext (fun cd => (ixOf_codes hcodes cd).symm)
  · intro r hr
    rcases List.mem_or_eq_of_mem_set hr with hr | rfl
    · exact hne (h.froms r hr) (by decide)
    · exact hne hq (by decide)
  · intro r hr
    rcases List.mem_or_eq_of_mem_set hr with hr | rfl
    · exact h.fromsLen r hr
    · exact hl
  · rw [hcodes]; exact h.codes
  · intro r hr
    rcases List.mem_or_eq_of_mem_set hr with hr | rfl
    · exact h.sizes r hr
    · rw [hc]; exact h.sizes p (List.mem_of_getElem? hk)
  · rw [List.length_set]; exact h.few
/-- The map's store at the operation. -/
theorem wpList_places_put {ops : Array Oper} {rest : List Oper} {o : Oper} {a : Act} {w : World} {Q : Exit → Act → World → Prop} (hg : o.guard = none) (mx x v : Operand) (t : TypeId) (hop : o.op = Op.mapUpdate t mx x v)
    (hT : Try.prog.underlying t = some (.map 9 3)) {m n : Nat} {ix : Code → Option Nat} (hm : a.eval mx = .map (some m)) (h : Places w m n ix) {c : Code} (hx : a.eval x = .string c) (hc : c.size ≤ maxLen) (hn : n < maxLen) {k : Nat} (hv : a.eval v = .int .i64 (k : Int)) (hk : k ≤ 1000000)
    (hK : ∀ w', Places w' m (n + 1) (fun c' => if c' = c then some k else ix c') → w.grownBy w' (some m) → wpList Try.prog ops Q rest (a.put o.dst undef) w') : wpList Try.prog ops Q (o :: rest) a w := by
  refine wpList_plain hg fun K' hK' => ?_
  obtain ⟨w', hrun, r1, r2⟩ := h.put hc hT hn hk
  unfold Oper.wp
  simp [execOp, hop, hm, hx, hv, hrun, Result.andThen]
  exact hK' _ _ (hK w' r1 r2)

theorem ixOf_append {l : List SRow} {q : SRow} (hn : ixOf l q.1.code = none) (c : Code) : ixOf (l ++ [q]) c = if c = q.1.code then some l.length else ixOf l c := by
  unfold ixOf
  rw [List.findIdx?_append]
  by_cases e : c = q.1.code
  · subst e
    unfold ixOf at hn
    rw [hn, if_pos rfl]
    simp [List.findIdx?_cons]
  · rw [if_neg e]
    cases hx : List.findIdx? (fun p => decide (p.1.code = c)) l with
    | some k => simp
    | none => simp [List.findIdx?_cons, Ne.symm e]

theorem rowsCells_append (l : List SRow) (q : SRow) : rowsCells (l ++ [q]) = rowsCells l ++ rowCells q := by simp [rowsCells]
theorem codeCells_append (l : List SRow) (q : SRow) : codeCells (l ++ [q]) = codeCells l ++ [.string q.1.code] := by simp [codeCells]

/-- The book behind a new thing. -/
theorem Book.putNew {w : World} {C : Nat → Prop} {B : Nat} {bef aft : Int} {l : List SRow} {c : Yd.Acc} {made : Int} {N : Nat} {kv tv : Value} {m : Nat} (h : Book w C B bef aft l c made N kv tv m) {q : SRow} (hn : ixOf l q.1.code = none) (hs : q.1.code.size ≤ maxLen) (hl : q.1.src.length ≤ 1000) (h8 : l.length < 8) {w' : World} {C' : Nat → Prop} {kv' tv' : Value} {N' : Nat} (hN : N' ≤ 1000000)
    (hb : Blk w' B 91 (bookCells bef aft kv' tv' m c made).toArray) (hk : w'.ownsRow 0 9 1 kv' (l.length + 1) (codeCells l ++ [.string q.1.code])) (ht : w'.ownsRow 0 49 8 tv' (l.length + 1) (rowsCells l ++ rowCells q))
    (hp : Places w' m N' (fun c' => if c' = q.1.code then some l.length else ixOf l c')) (cB : C' B) (cK : ∀ g, kv'.ownBlock = some g → C' g) (cT : ∀ g, tv'.ownBlock = some g → C' g) (cM : C' m)
    (hf : ∀ p ∈ l, w'.ownsRow 0 3 1 p.2 p.1.src.length (intCells p.1.src)) (hq : w'.ownsRow 0 3 1 q.2 q.1.src.length (intCells q.1.src)) : Book w' C' B bef aft (l ++ [q]) c made N' kv' tv' m := by
  refine ⟨hb, ?_, ?_, hp.ext (fun cd => (ixOf_append hn cd).symm), cB, cK, cT, cM, ?_, ?_, ?_, ?_, ?_, hN⟩
  · rw [codeCells_append, List.length_append]; exact hk
  · rw [rowsCells_append, List.length_append]; exact ht
  · intro r hr
    rcases List.mem_append.1 hr with hr | hr
    · exact hf r hr
    · rw [List.mem_singleton.1 hr]; exact hq
  · intro r hr
    rcases List.mem_append.1 hr with hr | hr
    · exact h.fromsLen r hr
    · rw [List.mem_singleton.1 hr]; exact hl
  · rw [List.map_append, List.map_cons, List.map_nil, List.nodup_append]
    refine ⟨h.codes, by simp, ?_⟩
    intro a ha b hb
    obtain ⟨p, hp, rfl⟩ := List.mem_map.1 ha
    rw [List.mem_singleton.1 hb]
    exact ixOf_none hn p hp
  · intro r hr
    rcases List.mem_append.1 hr with hr | hr
    · exact h.sizes r hr
    · rw [List.mem_singleton.1 hr]; exact hs
  · rw [List.length_append]; simp; omega

/-- Rows of numbers beside a change of one row or block of another type. -/
theorem row_grown {w w' : World} {base : Nat} {e : TypeId} {size n : Nat} {v : Value} {xs : List Value} (h : w.ownsRow base e size v n xs) {row : Option Nat} (hg : w.grownBy w' row) (hr : ∀ g, v.ownBlock = some g → some g ≠ row) : w'.ownsRow base e size v n xs :=
  row_same h (fun g hgv => hg.block g (row_lt h hgv) (hr g hgv))
theorem row_notMap {w : World} {base : Nat} {e : TypeId} {size n : Nat} {v : Value} {xs : List Value} (h : w.ownsRow base e size v n xs) {m N : Nat} {ix : Code → Option Nat} (hp : Places w m N ix) : ∀ g, v.ownBlock = some g → some g ≠ some m := fun g hg e => by
  cases e
  obtain ⟨cs, hb⟩ := row_type h hg
  exact hp.noBlk hb
theorem row_notRow {w : World} {base base' : Nat} {e e' : TypeId} {size size' n n' : Nat} {v v' : Value} {xs xs' : List Value} (h : w.ownsRow base e size v n xs) (h' : w.ownsRow base' e' size' v' n' xs') (hne : e ≠ e') : ∀ g, v.ownBlock = some g → some g ≠ v'.ownBlock := fun g hg e2 => by
  obtain ⟨cs, hb⟩ := row_type h hg
  obtain ⟨cs', hb'⟩ := row_type h' e2.symm
  exact hne (blk_type hb hb')
theorem row_setCell {w : World} {base : Nat} {e : TypeId} {size n : Nat} {v : Value} {xs : List Value} (h : w.ownsRow base e size v n xs) {B : Nat} {t : TypeId} {cs : Array Value} (hb : Blk w B t cs) (hne : e ≠ t) (o : Nat) (u : Value) : (w.setCell ⟨B, o, none⟩ u).ownsRow base e size v n xs :=
  row_same h (fun g hg => Below.heap_setCell w ⟨B, o, none⟩ u g (fun e' => by
    obtain ⟨cs', hb'⟩ := row_type h hg
    subst e'
    exact hne (blk_type hb' hb)))
theorem Places.setCell {w : World} {m n : Nat} {ix : Code → Option Nat} (h : Places w m n ix) {B : Nat} {t : TypeId} {cs : Array Value} (hb : Blk w B t cs) (o : Nat) (u : Value) : Places (w.setCell ⟨B, o, none⟩ u) m n ix :=
  h.same (Below.heap_setCell w ⟨B, o, none⟩ u m (fun e => by subst e; exact h.noBlk hb))
theorem Places.grown {w w' : World} {m n : Nat} {ix : Code → Option Nat} (h : Places w m n ix) {row : Option Nat} (hg : w.grownBy w' row) (hr : some m ≠ row) : Places w' m n ix := h.same (hg.block m h.lt hr)
theorem Blk.notRow {w : World} {g : Nat} {t : TypeId} {cs : Array Value} (hb : Blk w g t cs) {base : Nat} {e : TypeId} {size n : Nat} {v : Value} {xs : List Value} (h : w.ownsRow base e size v n xs) (hne : t ≠ e) : some g ≠ v.ownBlock := fun e2 => by
  obtain ⟨cs', hb'⟩ := row_type h e2.symm
  exact hne (blk_type hb hb')
theorem Places.notRow {w : World} {m N : Nat} {ix : Code → Option Nat} (hp : Places w m N ix) {base : Nat} {e : TypeId} {size n : Nat} {v : Value} {xs : List Value} (h : w.ownsRow base e size v n xs) : some m ≠ v.ownBlock := fun e2 => by
  obtain ⟨cs', hb'⟩ := row_type h e2.symm
  exact hp.noBlk hb'
end Go.Proofs.Ytcnacegjdmgakaa
