/- The shelf: a thing is put in the place of another one. The shelf: a thing is put in the place of another one. The shelf: a new thing is put behind all others. -/
import Derived.Test.YtbgojeppfhldjaaYRested
import Derived.Deep.RegionHeld3
import Derived.Deep.AppendLies
import Derived.Test.YtbgojeppfhldjaaYHold
namespace Go.Proofs.Ytbgojeppfhldjaa
open Go Go.RowKit Yd

/-! ### Plain facts on rows -/

theorem rows_set {l : List SRow} {k : Nat} (hk : k < l.length) (p : SRow) : rowsCells (l.set k p) = (rowsCells l).take (8 * k) ++ rowCells p ++ (rowsCells l).drop (8 * (k + 1)) := by
  induction l generalizing k with
  | nil => simp at hk
  | cons q r ih =>
    have hl : (rowCells q).length = 8 := rfl
    cases k with
    | zero =>
      show rowCells p ++ rowsCells r = (rowCells q ++ rowsCells r).take 0 ++ rowCells p ++ (rowCells q ++ rowsCells r).drop 8
      rw [List.drop_append_of_le_length (by omega), List.drop_of_length_le (by omega)]
      simp
    | succ k =>
      have h := ih (k := k) (by simpa using hk)
      show rowCells q ++ rowsCells (r.set k p) = (rowCells q ++ rowsCells r).take (8 * (k + 1)) ++ rowCells p ++ (rowCells q ++ rowsCells r).drop (8 * (k + 1 + 1))
      rw [h, List.take_append, List.drop_append, hl, List.take_of_length_le (l := rowCells q) (by omega), List.drop_of_length_le (l := rowCells q) (by omega), show 8 * (k + 1) - 8 = 8 * k by omega, show 8 * (k + 1 + 1) - 8 = 8 * (k + 1) by omega]
      simp
theorem codes_set {l : List SRow} {k : Nat} {p q : SRow} (hp : l[k]? = some p) (hc : q.1.code = p.1.code) : (l.set k q).map (fun r => r.1.code) = l.map (fun r => r.1.code) := by
  have hk : k < l.length := (List.getElem?_eq_some_iff.1 hp).1
  refine List.ext_getElem (by simp) (fun i h1 h2 => ?_)
  simp only [List.getElem_map, List.getElem_set]
  split
  · rename_i e
    subst e
    rw [hc]
    have : l[k] = p := (List.getElem?_eq_some_iff.1 hp).2
    rw [this]
  · rfl
theorem codeCells_of {l l' : List SRow} (h : l'.map (fun r => r.1.code) = l.map (fun r => r.1.code)) : codeCells l' = codeCells l := by
  have e : ∀ l : List SRow, codeCells l = (l.map fun r => r.1.code).map Value.string := fun l => by rw [List.map_map]; rfl
  rw [e, e, h]
theorem ixOf_codes {l l' : List SRow} (h : l'.map (fun r => r.1.code) = l.map (fun r => r.1.code)) (c : Code) : ixOf l' c = ixOf l c := by
  have e : ∀ l : List SRow, ixOf l c = (l.map fun r => r.1.code).findIdx? (fun d => decide (d = c)) := fun l => by
    unfold ixOf
    rw [List.findIdx?_map]
    rfl
  rw [e, e, h]
theorem ixOf_some {l : List SRow} {c : Code} {k : Nat} (h : ixOf l c = some k) : ∃ p, l[k]? = some p ∧ p.1.code = c := by
  unfold ixOf at h
  rw [List.findIdx?_eq_some_iff_getElem] at h
  obtain ⟨hk, h1, _⟩ := h
  exact ⟨l[k], List.getElem?_eq_getElem hk, by simpa using h1⟩
theorem ixOf_none {l : List SRow} {c : Code} (h : ixOf l c = none) : ∀ p ∈ l, p.1.code ≠ c := by
  unfold ixOf at h
  rw [List.findIdx?_eq_none_iff] at h
  intro p hp
  simpa using h p hp

/-- Where a store leaves the row's block. -/
theorem row_stored {w : World} {e : TypeId} {g n cap k : Nat} {l : List SRow} (h : w.ownsRow 0 e 8 (.slice (some ⟨g, 0, none⟩) n cap) n (rowsCells l)) (hn : n = l.length) (hk : k < l.length) (p : SRow) :
    w.there g (k * 8) 8 ∧ (w.setCells g (k * 8) (rowCells p)).ownsRow 0 e 8 (.slice (some ⟨g, 0, none⟩) n cap) n (rowsCells (l.set k p)) := by
  obtain ⟨g', cap', cur, hv, hb, hc, hm, hs, ht⟩ := row_block h (by omega)
  cases hv
  refine ⟨hb.there (by rw [hs]; omega), ?_⟩
  have e1 : cur = (cur.toList.take (k * 8) ++ (cur.toList.drop (k * 8)).take 8 ++ cur.toList.drop ((k + 1) * 8)).toArray := by
    refine Array.toList_inj.1 ?_
    rw [show (k + 1) * 8 = k * 8 + 8 by omega, ← List.drop_drop, List.append_assoc, List.take_append_drop, List.take_append_drop]
  have hlen : (cur.toList.take (k * 8)).length = k * 8 := by rw [List.length_take, Array.length_toList, hs]; omega
  have hlen2 : ((cur.toList.drop (k * 8)).take 8).length = (rowCells p).length := by
    rw [List.length_take, List.length_drop, Array.length_toList, hs, show (rowCells p).length = 8 from rfl]; omega
  rw [e1] at hb
  have hb2 := Blk.storedMid _ _ _ (rowCells p) hb hlen2
  rw [hlen] at hb2
  have hsz : (cur.toList.take (k * 8) ++ rowCells p ++ cur.toList.drop ((k + 1) * 8)).toArray.size = cap * 8 := by
    simp only [List.size_toArray, List.length_append, hlen, List.length_drop, Array.length_toList, hs, show (rowCells p).length = 8 from rfl]; omega
  have := row_of_block (n := n) hb2 hc hm hsz
  have e2 : (cur.toList.take (k * 8) ++ rowCells p ++ cur.toList.drop ((k + 1) * 8)).take (n * 8) = rowsCells (l.set k p) := by
    have hP : (rowCells p).length = 8 := rfl
    have t1 : ((cur.toList.take (k * 8)).take (n * 8)) = cur.toList.take (k * 8) := by rw [List.take_take, show min (n * 8) (k * 8) = k * 8 by omega]
    have t2 : (cur.toList.take (n * 8)).take (8 * k) = cur.toList.take (k * 8) := by rw [List.take_take, show min (8 * k) (n * 8) = k * 8 by omega]
    have t3 : (rowCells p).take (n * 8 - k * 8) = rowCells p := List.take_of_length_le (by omega)
    have t4 : (cur.toList.take (n * 8)).drop (8 * (k + 1)) = (cur.toList.drop ((k + 1) * 8)).take (n * 8 - (k + 1) * 8) := by rw [List.drop_take, show 8 * (k + 1) = (k + 1) * 8 by omega]
    rw [rows_set hk, ← ht, t2, t4, List.append_assoc, List.take_append, t1, hlen, List.take_append, t3, hP, List.append_assoc, show n * 8 - k * 8 - 8 = n * 8 - (k + 1) * 8 by omega]
  rw [← e2]
  exact this
/-- The book behind a store of a thing in the place of another one with its code. -/
theorem Book.putAt {w : World} {C : Nat → Prop} {B : Nat} {bef aft : Int} {l : List SRow} {c : Yd.Acc} {made : Int} {N : Nat} {kv tv : Value} {m : Nat} (h : Book w C B bef aft l c made N kv tv m) {k : Nat} {p q : SRow} (hk : l[k]? = some p) (hc : q.1.code = p.1.code) (hq : w.ownsRow 0 3 1 q.2 q.1.src.length (intCells q.1.src)) (hl : q.1.src.length ≤ 1000) :
    ∃ g cap, tv = .slice (some ⟨g, 0, none⟩) l.length cap ∧ C g ∧ w.there g (k * 8) 8 ∧ g < w.heap.size ∧ Book (w.setCells g (k * 8) (rowCells q)) C B bef aft (l.set k q) c made N kv tv m := by
  have hkl : k < l.length := (List.getElem?_eq_some_iff.1 hk).1
  obtain ⟨g, cap, cur, rfl, hb, hcap, hmax, hsz, htk⟩ := row_block h.things (by omega)
  obtain ⟨ht, hrow⟩ := row_stored h.things rfl hkl q
  have hgB : g ≠ B := fun e => by subst e; have := blk_type hb h.blk; revert this; decide
  have hgm : g ≠ m := fun e => by subst e; exact h.places.noBlk hb
  have hsame : ∀ j, j ≠ g → (w.setCells g (k * 8) (rowCells q)).heap[j]? = w.heap[j]? := fun j hj => heap_setCells w g hj _ _
  have hne : ∀ {e : TypeId} {size n : Nat} {v : Value} {xs : List Value}, w.ownsRow 0 e size v n xs → e ≠ 48 → (w.setCells g (k * 8) (rowCells q)).ownsRow 0 e size v n xs := fun {e size n v xs} hr hT =>
    row_same hr (fun j hj => hsame j (fun e' => by
      subst e'
      obtain ⟨cs, hb'⟩ := row_type hr hj
      exact hT (blk_type hb' hb)))
  refine ⟨g, cap, rfl, h.inT g rfl, ht, hb.lt, ?_⟩
  have hcodes := codes_set (q := q) hk hc
  refine ⟨(hsame B (Ne.symm hgB)).trans h.blk, ?_, ?_, ?_, h.inB, h.inK, h.inT, h.inM, ?_, ?_, ?_, ?_, ?_, h.room⟩
  · have := hne h.keys (by decide)
    rw [codeCells_of hcodes, List.length_set]
    exact this
  · rw [List.length_set]; exact hrow
  · exact (h.places.same (hsame m (Ne.symm hgm))).ext (fun cd => (ixOf_codes hcodes cd).symm)
  · intro r hr
    rcases List.mem_or_eq_of_mem_set hr with hr | rfl
    · exact hne (h.froms r hr) (by decide)
    · exact hne hq (by decide)
  · intro r hr
    rcases List.mem_or_eq_of_mem_set hr with hr | rfl
    · exact h.fromsLen r hr
    · exact hl
  · rw [hcodes]; exact h.codes
  · intro r hr
    rcases List.mem_or_eq_of_mem_set hr with hr | rfl
    · exact h.sizes r hr
    · rw [hc]; exact h.sizes p (List.mem_of_getElem? hk)
  · rw [List.length_set]; exact h.few
/-- The map's store at the operation. -/
theorem wpList_places_put {ops : Array Oper} {rest : List Oper} {o : Oper} {a : Act} {w : World} {Q : Exit → Act → World → Prop} (hg : o.guard = none) (mx x v : Operand) (t : TypeId) (hop : o.op = Op.mapUpdate t mx x v)
    (hT : Try.prog.underlying t = some (.map 9 3)) {m n : Nat} {ix : Code → Option Nat} (hm : a.eval mx = .map (some m)) (h : Places w m n ix) {c : Code} (hx : a.eval x = .string c) (hc : c.size ≤ maxLen) (hn : n < maxLen) {k : Nat} (hv : a.eval v = .int .i64 (k : Int)) (hk : k ≤ 1000000)
    (hK : ∀ w', Places w' m (n + 1) (fun c' => if c' = c then some k else ix c') → w.grownBy w' (some m) → wpList Try.prog ops Q rest (a.put o.dst undef) w') : wpList Try.prog ops Q (o :: rest) a w := by
  refine wpList_plain hg fun K' hK' => ?_
  obtain ⟨w', hrun, r1, r2⟩ := h.put hc hT hn hk
  unfold Oper.wp
  simp [execOp, hop, hm, hx, hv, hrun, Result.andThen]
  exact hK' _ _ (hK w' r1 r2)

theorem ixOf_append {l : List SRow} {q : SRow} (hn : ixOf l q.1.code = none) (c : Code) : ixOf (l ++ [q]) c = if c = q.1.code then some l.length else ixOf l c := by
  unfold ixOf
  rw [List.findIdx?_append]
  by_cases e : c = q.1.code
  · subst e
    unfold ixOf at hn
    rw [hn, if_pos rfl]
    simp [List.findIdx?_cons]
  · rw [if_neg e]
    cases hx : List.findIdx? (fun p => decide (p.1.code = c)) l with
    | some k => simp
    | none => simp [List.findIdx?_cons, Ne.symm e]

theorem rowsCells_append (l : List SRow) (q : SRow) : rowsCells (l ++ [q]) = rowsCells l ++ rowCells q := by simp [rowsCells]
theorem codeCells_append (l : List SRow) (q : SRow) : codeCells (l ++ [q]) = codeCells l ++ [.string q.1.code] := by simp [codeCells]

/-- The book behind a new thing. -/
theorem Book.putNew {w : World} {C : Nat → Prop} {B : Nat} {bef aft : Int} {l : List SRow} {c : Yd.Acc} {made : Int} {N : Nat} {kv tv : Value} {m : Nat} (h : Book w C B bef aft l c made N kv tv m) {q : SRow} (hn : ixOf l q.1.code = none) (hs : q.1.code.size ≤ maxLen) (hl : q.1.src.length ≤ 1000) (h8 : l.length < 8) {w' : World} {C' : Nat → Prop} {kv' tv' : Value} {N' : Nat} (hN : N' ≤ 1000000)
    (hb : Blk w' B 76 (bookCells bef aft kv' tv' m c made).toArray) (hk : w'.ownsRow 0 9 1 kv' (l.length + 1) (codeCells l ++ [.string q.1.code])) (ht : w'.ownsRow 0 48 8 tv' (l.length + 1) (rowsCells l ++ rowCells q))
    (hp : Places w' m N' (fun c' => if c' = q.1.code then some l.length else ixOf l c')) (cB : C' B) (cK : ∀ g, kv'.ownBlock = some g → C' g) (cT : ∀ g, tv'.ownBlock = some g → C' g) (cM : C' m)
    (hf : ∀ p ∈ l, w'.ownsRow 0 3 1 p.2 p.1.src.length (intCells p.1.src)) (hq : w'.ownsRow 0 3 1 q.2 q.1.src.length (intCells q.1.src)) : Book w' C' B bef aft (l ++ [q]) c made N' kv' tv' m := by
  refine ⟨hb, ?_, ?_, hp.ext (fun cd => (ixOf_append hn cd).symm), cB, cK, cT, cM, ?_, ?_, ?_, ?_, ?_, hN⟩
  · rw [codeCells_append, List.length_append]; exact hk
  · rw [rowsCells_append, List.length_append]; exact ht
  · intro r hr
    rcases List.mem_append.1 hr with hr | hr
    · exact hf r hr
    · rw [List.mem_singleton.1 hr]; exact hq
  · intro r hr
    rcases List.mem_append.1 hr with hr | hr
    · exact h.fromsLen r hr
    · rw [List.mem_singleton.1 hr]; exact hl
  · rw [List.map_append, List.map_cons, List.map_nil, List.nodup_append]
    refine ⟨h.codes, by simp, ?_⟩
    intro a ha b hb
    obtain ⟨p, hp, rfl⟩ := List.mem_map.1 ha
    rw [List.mem_singleton.1 hb]
    exact ixOf_none hn p hp
  · intro r hr
    rcases List.mem_append.1 hr with hr | hr
    · exact h.sizes r hr
    · rw [List.mem_singleton.1 hr]; exact hs
  · rw [List.length_append]; simp; omega

/-- Rows of numbers beside a change of one row or block of another type. -/
theorem row_grown {w w' : World} {base : Nat} {e : TypeId} {size n : Nat} {v : Value} {xs : List Value} (h : w.ownsRow base e size v n xs) {row : Option Nat} (hg : w.grownBy w' row) (hr : ∀ g, v.ownBlock = some g → some g ≠ row) : w'.ownsRow base e size v n xs :=
  row_same h (fun g hgv => hg.block g (row_lt h hgv) (hr g hgv))
theorem row_notMap {w : World} {base : Nat} {e : TypeId} {size n : Nat} {v : Value} {xs : List Value} (h : w.ownsRow base e size v n xs) {m N : Nat} {ix : Code → Option Nat} (hp : Places w m N ix) : ∀ g, v.ownBlock = some g → some g ≠ some m := fun g hg e => by
  cases e
  obtain ⟨cs, hb⟩ := row_type h hg
  exact hp.noBlk hb
theorem row_notRow {w : World} {base base' : Nat} {e e' : TypeId} {size size' n n' : Nat} {v v' : Value} {xs xs' : List Value} (h : w.ownsRow base e size v n xs) (h' : w.ownsRow base' e' size' v' n' xs') (hne : e ≠ e') : ∀ g, v.ownBlock = some g → some g ≠ v'.ownBlock := fun g hg e2 => by
  obtain ⟨cs, hb⟩ := row_type h hg
  obtain ⟨cs', hb'⟩ := row_type h' e2.symm
  exact hne (blk_type hb hb')
theorem row_setCell {w : World} {base : Nat} {e : TypeId} {size n : Nat} {v : Value} {xs : List Value} (h : w.ownsRow base e size v n xs) {B : Nat} {t : TypeId} {cs : Array Value} (hb : Blk w B t cs) (hne : e ≠ t) (o : Nat) (u : Value) : (w.setCell ⟨B, o, none⟩ u).ownsRow base e size v n xs :=
  row_same h (fun g hg => Below.heap_setCell w ⟨B, o, none⟩ u g (fun e' => by
    obtain ⟨cs', hb'⟩ := row_type h hg
    subst e'
    exact hne (blk_type hb' hb)))
theorem Places.setCell {w : World} {m n : Nat} {ix : Code → Option Nat} (h : Places w m n ix) {B : Nat} {t : TypeId} {cs : Array Value} (hb : Blk w B t cs) (o : Nat) (u : Value) : Places (w.setCell ⟨B, o, none⟩ u) m n ix :=
  h.same (Below.heap_setCell w ⟨B, o, none⟩ u m (fun e => by subst e; exact h.noBlk hb))
theorem Places.grown {w w' : World} {m n : Nat} {ix : Code → Option Nat} (h : Places w m n ix) {row : Option Nat} (hg : w.grownBy w' row) (hr : some m ≠ row) : Places w' m n ix := h.same (hg.block m h.lt hr)
theorem Blk.notRow {w : World} {g : Nat} {t : TypeId} {cs : Array Value} (hb : Blk w g t cs) {base : Nat} {e : TypeId} {size n : Nat} {v : Value} {xs : List Value} (h : w.ownsRow base e size v n xs) (hne : t ≠ e) : some g ≠ v.ownBlock := fun e2 => by
  obtain ⟨cs', hb'⟩ := row_type h e2.symm
  exact hne (blk_type hb hb')
theorem Places.notRow {w : World} {m N : Nat} {ix : Code → Option Nat} (hp : Places w m N ix) {base : Nat} {e : TypeId} {size n : Nat} {v : Value} {xs : List Value} (h : w.ownsRow base e size v n xs) : some m ≠ v.ownBlock := fun e2 => by
  obtain ⟨cs', hb'⟩ := row_type h e2.symm
  exact hp.noBlk hb'
end Go.Proofs.Ytbgojeppfhldjaa
namespace Go.Proofs.Ytbgojeppfhldjaa
open Go Go.RowKit Yd

set_option maxRecDepth 100000 in
set_option maxHeartbeats 1000000 in
theorem put_old {w : World} {C : Nat → Prop} {B : Nat} {bef aft : Int} {l : List SRow} {c : Yd.Acc} {made : Int} {N : Nat} {kv tv : Value} {m : Nat} (h : Book w C B bef aft l c made N kv tv m)
    (x : Stk Code) (fa : Option Addr) (fn fc : Nat) {k : Nat} {p : SRow} (hp : l[k]? = some p) (hk : ixOf l x.code = some k) (hc : x.code = p.1.code) (hq : w.ownsRow 0 3 1 (.slice fa fn fc) x.src.length (intCells x.src)) (hl : x.src.length ≤ 1000) :
    Calls Try.prog 84 #[.pointer (some ⟨B, 2, none⟩), .string x.code, .agg #[.string x.code, .int .i64 x.dry.lo, .int .i64 x.dry.hi, .int .i64 x.water.lo, .int .i64 x.water.hi, .int .i64 x.piled, .int .i64 x.boiled, .slice fa fn fc]] w fun e w' => e = .returned (.tuple #[]) ∧ Beside C w w' ∧ Book w' C B bef aft (l.set k (x, .slice fa fn fc)) c made N kv tv m := by
  have hs : x.code.size ≤ maxLen := by rw [hc]; exact h.sizes p (List.mem_of_getElem? hp)
  have h0 := h.alloc (.cells #[.string x.code, .int .i64 x.dry.lo, .int .i64 x.dry.hi, .int .i64 x.water.lo, .int .i64 x.water.hi, .int .i64 x.piled, .int .i64 x.boiled, .slice fa fn fc] 48)
  have hkl : k < l.length := (List.getElem?_eq_some_iff.1 hp).1
  have hfew := h.few
  have k4 := h.blk.at 4 (.map (some m)) rfl
  have hB := h.blk.lt
  have h3 := h0.blk.at 3 tv rfl
  have HS := Lib.hid (Blk.new w 48 #[.string x.code, .int .i64 x.dry.lo, .int .i64 x.dry.hi, .int .i64 x.water.lo, .int .i64 x.water.hi, .int .i64 x.piled, .int .i64 x.boiled, .slice fa fn fc])
  obtain ⟨i, hlk, hi⟩ := h0.places.look hs (T := 72) Try.underlying72
  have hi' := hi k hk
  subst hi'
  rw [hk] at hlk
  simp only [Option.isSome_some] at hlk
  obtain ⟨g, cap, hv, hcap, hCg, hg, _⟩ := h.row hp
  have hk0 : (0 : Int) ≤ (k : Int) := by omega
  have hk1 : (k : Int) < (l.length : Int) := by omega
  have HQ := Lib.hid (hq.alloc (.cells #[.string x.code, .int .i64 x.dry.lo, .int .i64 x.dry.hi, .int .i64 x.water.lo, .int .i64 x.water.hi, .int .i64 x.piled, .int .i64 x.boiled, .slice fa fn fc] 48))
  have H0 := Lib.hid h0
  have HB0 := Lib.hid (show Beside C w (w.alloc (.cells #[.string x.code, .int .i64 x.dry.lo, .int .i64 x.dry.hi, .int .i64 x.water.lo, .int .i64 x.water.hi, .int .i64 x.piled, .int .i64 x.boiled, .slice fa fn fc] 48)) from (Beside.refl C w).alloc _)
  have HP := Lib.hid hp
  have HC := Lib.hid hc
  have HL := Lib.hid hl
  have HO := Lib.hid (show (#[.string x.code, .int .i64 x.dry.lo, .int .i64 x.dry.hi, .int .i64 x.water.lo, .int .i64 x.water.hi, .int .i64 x.piled, .int .i64 x.boiled, .slice fa fn fc] : Array Value).all (·.oneCell') = true from by simp [Value.oneCell'])
  have HV := Lib.hid hv
  rw [hv] at h3
  have HN := Lib.hid (show ∃ n, n = l.length from ⟨_, rfl⟩)
  obtain ⟨n, hn⟩ := HN.out
  rw [← hn] at h3 hk1
  have HNN := Lib.hid hn
  clear hp hc hl hv h0 h hq hi hk hkl hfew hn HN
  go_enter Try.func84, Try.ntmps84
  go_wp2
  generalize w.alloc (.cells #[.string x.code, .int .i64 x.dry.lo, .int .i64 x.dry.hi, .int .i64 x.water.lo, .int .i64 x.water.hi, .int .i64 x.piled, .int .i64 x.boiled, .slice fa fn fc] 48) = W at *
  have c3 := cell_regrown h3
  have s0 := cell_regrown (HS.out.at 0 _ rfl)
  have s1 := cell_regrown (HS.out.at 1 _ rfl)
  have s2 := cell_regrown (HS.out.at 2 _ rfl)
  have s3 := cell_regrown (HS.out.at 3 _ rfl)
  have s4 := cell_regrown (HS.out.at 4 _ rfl)
  have s5 := cell_regrown (HS.out.at 5 _ rfl)
  have s6 := cell_regrown (HS.out.at 6 _ rfl)
  have s7 := cell_regrown (HS.out.at 7 _ rfl)
  clear h3 hlk k4
  refine region_split_below 7 (by kernel_rfl) (by kernel_rfl) (by kernel_rfl) ?_
  simp only [List.take_succ_cons, List.take_zero, List.drop_succ_cons, List.drop_zero]
  repeat (go_big_quiet_step (fail))
  refine wpQuiet_nil ?_
  intro w8 hw'
  have hb8 : Below W.heap.size W w8 := by obtain ⟨⟨dq, osq⟩, hw''⟩ := hw'; rw [hw'']; exact below_regrown W dq osq
  clear hw' c3 s0 s1 s2 s3 s4 s5 s6 s7
  obtain ⟨g', cap', hv', _, hth, hg', hbk⟩ := (H0.out.below hb8).putAt (q := (x, .slice fa fn fc)) HP.out HC.out (row_same HQ.out (fun j hj => hb8.block j (row_lt HQ.out hj))) HL.out
  rw [HV.out] at hv'
  cases hv'
  have hbs := (HB0.out.thenBelow hb8).setCells (.inl hCg) (k * 8) (rowCells (x, .slice fa fn fc))
  clear hb8
  refine wpList_store_mid rfl 48 (.tmp 24) (.tmp 23) rfl g (k * 8) #[.string x.code, .int .i64 x.dry.lo, .int .i64 x.dry.hi, .int .i64 x.water.lo, .int .i64 x.water.hi, .int .i64 x.piled, .int .i64 x.boiled, .slice fa fn fc] rfl rfl hth size_stack HO.out ?_
  change wpList _ _ _ _ _ (w8.setCells g (k * 8) (rowCells (x, .slice fa fn fc)))
  generalize w8.setCells g (k * 8) (rowCells (x, .slice fa fn fc)) = w9 at hbk hbs ⊢
  have HBK := Lib.hid hbk
  have HBS := Lib.hid hbs
  clear hbk hbs
  go_wp2
  refine bodyPost_ret (results_none rfl _ _ _) rfl ?_
  exact ⟨rfl, HBS.out, HBK.out⟩
end Go.Proofs.Ytbgojeppfhldjaa
namespace Go.Proofs.Ytbgojeppfhldjaa
open Go Go.RowKit Yd

theorem info_string : (Try.prog.info? 9).map (fun i => (i.zero, i.size, i.bytes)) = some (some (.string ⟨#[]⟩), 1, 16) := by kernel_rfl
theorem info_stack : (Try.prog.info? 48).map (fun i => (i.zero, i.size, i.bytes)) = some (some (.agg #[.string ⟨#[]⟩, .int .i64 0, .int .i64 0, .int .i64 0, .int .i64 0, .int .i64 0, .int .i64 0, .slice none 0 0]), 8, 88) := by kernel_rfl

/-- A new place is put in. -/
def PutDone (w : World) (C : Nat → Prop) (B : Nat) (bef aft : Int) (l : List SRow) (c : Yd.Acc) (made : Int) (N m : Nat) (e : Ending) (w' : World) : Prop :=
  e = .returned (.tuple #[]) ∧ Beside C w w' ∧ ∃ kv' tv', Book w' (Wide C w) B bef aft l c made N kv' tv' m

set_option maxRecDepth 100000 in
set_option maxHeartbeats 1000000 in
theorem put_new {w : World} {C : Nat → Prop} {B : Nat} {bef aft : Int} {l : List SRow} {c : Yd.Acc} {made : Int} {N : Nat} {kv tv : Value} {m : Nat} (h : Book w C B bef aft l c made N kv tv m)
    (x : Stk Code) (fa : Option Addr) (fn fc : Nat) (hs : x.code.size ≤ maxLen) (hn : ixOf l x.code = none) (h8 : l.length < 8) (hq : w.ownsRow 0 3 1 (.slice fa fn fc) x.src.length (intCells x.src)) (hl : x.src.length ≤ 1000) (hN : N < 1000000) :
    Calls Try.prog 84 #[.pointer (some ⟨B, 2, none⟩), .string x.code, .agg #[.string x.code, .int .i64 x.dry.lo, .int .i64 x.dry.hi, .int .i64 x.water.lo, .int .i64 x.water.hi, .int .i64 x.piled, .int .i64 x.boiled, .slice fa fn fc]] w (PutDone w C B bef aft (l ++ [(x, .slice fa fn fc)]) c made (N + 1) m) := by
  have h0 := h.alloc (.cells #[.string x.code, .int .i64 x.dry.lo, .int .i64 x.dry.hi, .int .i64 x.water.lo, .int .i64 x.water.hi, .int .i64 x.piled, .int .i64 x.boiled, .slice fa fn fc] 48)
  have k4 := h.blk.at 4 (.map (some m)) rfl
  have hB := h.blk.lt
  have HS := Lib.hid (Blk.new w 48 #[.string x.code, .int .i64 x.dry.lo, .int .i64 x.dry.hi, .int .i64 x.water.lo, .int .i64 x.water.hi, .int .i64 x.piled, .int .i64 x.boiled, .slice fa fn fc])
  obtain ⟨i, hlk, _⟩ := h0.places.look hs (T := 72) Try.underlying72
  rw [hn] at hlk
  simp only [Option.isSome_none] at hlk
  have HB0 := Lib.hid (show Beside C w (w.alloc (.cells #[.string x.code, .int .i64 x.dry.lo, .int .i64 x.dry.hi, .int .i64 x.water.lo, .int .i64 x.water.hi, .int .i64 x.piled, .int .i64 x.boiled, .slice fa fn fc] 48)) from (Beside.refl C w).alloc _)
  have HQ := Lib.hid (hq.alloc (.cells #[.string x.code, .int .i64 x.dry.lo, .int .i64 x.dry.hi, .int .i64 x.water.lo, .int .i64 x.water.hi, .int .i64 x.piled, .int .i64 x.boiled, .slice fa fn fc] 48))
  have H := Lib.hid h
  have H0 := Lib.hid h0
  have HN := Lib.hid hn
  have H8 := Lib.hid h8
  have HSS := Lib.hid hs
  have HL := Lib.hid hl
  have HNN := Lib.hid hN
  have HO := Lib.hid (show ∀ u ∈ ([.string x.code, .int .i64 x.dry.lo, .int .i64 x.dry.hi, .int .i64 x.water.lo, .int .i64 x.water.hi, .int .i64 x.piled, .int .i64 x.boiled, .slice fa fn fc] : List Value), u.oneCell' = true from by simp [Value.oneCell'])
  obtain ⟨ka, kn, kc, hkv⟩ := row_slice h.keys
  obtain ⟨ta, tn, tc, htv⟩ := row_slice h.things
  have hkn : kn = l.length := by
    rcases h.keys.2 with ⟨h1, h0⟩ | ⟨g, cap, cur, h1, _⟩
    · rw [hkv] at h1; cases h1; omega
    · rw [hkv] at h1; cases h1; rfl
  subst hkv htv
  have HKN := Lib.hid hkn
  clear h h0 hn h8 hq hl hN hs hkn
  go_enter Try.func84, Try.ntmps84
  go_wp2
  have hW : (w.alloc (.cells #[.string x.code, .int .i64 x.dry.lo, .int .i64 x.dry.hi, .int .i64 x.water.lo, .int .i64 x.water.hi, .int .i64 x.piled, .int .i64 x.boiled, .slice fa fn fc] 48)).heap.size = w.heap.size + 1 := World.size_alloc _ _
  generalize w.alloc (.cells #[.string x.code, .int .i64 x.dry.lo, .int .i64 x.dry.hi, .int .i64 x.water.lo, .int .i64 x.water.hi, .int .i64 x.piled, .int .i64 x.boiled, .slice fa fn fc] 48) = W at *
  have c2 := cell_regrown (H0.out.blk.at 2 (.slice ka kn kc) rfl)
  have c4 := cell_regrown (H0.out.blk.at 4 (.map (some m)) rfl)
  clear hlk k4
  refine region_split_below 10 (by kernel_rfl) (by kernel_rfl) (by kernel_rfl) ?_
  simp only [List.take_succ_cons, List.take_zero, List.drop_succ_cons, List.drop_zero]
  repeat (go_big_quiet_step (fail))
  refine wpQuiet_nil ?_
  intro w8 hw'
  have hb8 : Below W.heap.size W w8 := by obtain ⟨⟨dq, osq⟩, hw''⟩ := hw'; rw [hw'']; exact below_regrown W dq osq
  clear hw' c2 c4
  have H1 := Lib.hid (H0.out.below hb8)
  have HB1 := Lib.hid (HB0.out.thenBelow hb8)
  have HS1 := Lib.hid (HS.out.below hb8)
  have HQ1 := Lib.hid (row_same HQ.out (fun j hj => hb8.block j (row_lt HQ.out hj)))
  have hz8 := hb8.size
  clear hb8 H0 HB0 HS HQ
  refine wpList_places_put rfl (.tmp 28) (.tmp 29) (.tmp 34) 72 rfl Try.underlying72 rfl H1.out.places rfl HSS.out (by have := H1.out.room; unfold maxLen; omega) (k := kn) rfl (by have := H1.out.few; have := HKN.out; omega) ?_
  intro w9 hp9 hg9
  have HP9 := Lib.hid hp9
  have hB9 : B ≠ m := fun e => by subst e; exact H1.out.places.noBlk H1.out.blk
  have HK9 := Lib.hid (H1.out.blk.grown hg9 (fun e => hB9 (by cases e; rfl)))
  have HR9 := Lib.hid (row_grown H1.out.keys hg9 (row_notMap H1.out.keys H1.out.places))
  have HT9 := Lib.hid (row_grown H1.out.things hg9 (row_notMap H1.out.things H1.out.places))
  have HF9 := Lib.hid (fun p hp => row_grown (H1.out.froms p hp) hg9 (row_notMap (H1.out.froms p hp) H1.out.places))
  have HQ9 := Lib.hid (row_grown HQ1.out hg9 (row_notMap HQ1.out H1.out.places))
  have HB9 := Lib.hid (HB1.out.grown hg9 (fun r e => by cases e; exact .inl H1.out.inM))
  have HS9 := Lib.hid (HS1.out.grown hg9 (fun e => H1.out.places.noBlk (by cases e; exact HS1.out)))
  have hz9 := hg9.size
  clear hp9 hg9 hB9 HS1 HQ1 HB1 H1
  have k2 := HK9.out.at 2 (.slice ka kn kc) rfl
  have hB9 := HK9.out.lt
  have HRA := Lib.hid (HR9.out.alloc (.cells #[.string x.code] 9))
  have HKA := Lib.hid (HK9.out.alloc (.cells #[.string x.code] 9))
  have HA1 := Lib.hid (show l.length + 1 ≤ maxLen ∧ (l.length + 1) * 16 ≤ 140737488355328 by have := H8.out; unfold maxLen; omega)
  obtain ⟨i1, hi1, hi1a, hi1b, hi1c⟩ := info_parts info_string
  have HI1 := Lib.hid hi1
  have HI1a := Lib.hid hi1a
  have HI1b := Lib.hid hi1b
  have HI1c := Lib.hid hi1c
  clear hi1 hi1a hi1b hi1c
  go_wp2_with (at_builtin; refine wpList_append_lies _ rfl (.tmp 39) (.tmp 41) 71 rfl 0 9 i1 (.string ⟨#[]⟩) 1 16 Try.underlying71 HI1.out HI1a.out HI1b.out HI1c.out rfl (by decide) (.slice ka kn kc) l.length (codeCells l) rfl HRA.out ⟨w9.heap.size, 0, none⟩ 1 1 [.string x.code] rfl rfl (World.news_of_block (heap_alloc_new w9 _)) (by simp [Value.oneCell']) (by decide) HA1.out.1 HA1.out.2 (Nat.zero_le _) (w9.heap.size + 1) (World.size_alloc _ _) ?_; intro g cap w10 hown10 hg10 hat10 hlt10; have HR10 := Lib.hid hown10; have HG10 := Lib.hid hg10; have HAT := Lib.hid hat10; have HK10 := Lib.hid (HKA.out.grown hg10 (HKA.out.notRow HRA.out (by decide))); have k2 := HK10.out.at 2 (.slice ka kn kc) rfl; have f2 := HK10.out.frozen 2; have hB10 := HK10.out.lt; clear hown10 hg10 hat10)
  clear k2 f2
  have HT10 := Lib.hid (row_grown (HT9.out.alloc (.cells #[.string x.code] 9)) HG10.out (row_notRow (HT9.out.alloc (.cells #[.string x.code] 9)) HRA.out (by decide)))
  have HF10 := Lib.hid (fun p hp => row_grown ((HF9.out p hp).alloc (.cells #[.string x.code] 9)) HG10.out (row_notRow ((HF9.out p hp).alloc (.cells #[.string x.code] 9)) HRA.out (by decide)))
  have HQ10 := Lib.hid (row_grown (HQ9.out.alloc (.cells #[.string x.code] 9)) HG10.out (row_notRow (HQ9.out.alloc (.cells #[.string x.code] 9)) HRA.out (by decide)))
  have HP10 := Lib.hid ((HP9.out.same (w' := w9.alloc (.cells #[.string x.code] 9)) (Below.heap_alloc w9 _ _ HP9.out.lt)).grown HG10.out ((HP9.out.same (w' := w9.alloc (.cells #[.string x.code] 9)) (Below.heap_alloc w9 _ _ HP9.out.lt)).notRow HRA.out))
  have HS10 := Lib.hid ((HS9.out.alloc (.cells #[.string x.code] 9)).grown HG10.out ((HS9.out.alloc (.cells #[.string x.code] 9)).notRow HRA.out (by decide)))
  have HCK := Lib.hid (show ∀ r, Value.ownBlock (.slice ka kn kc) = some r → Wide C w r from fun r hr => .inl (H.out.inK r hr))
  have HB10 := Lib.hid ((HB9.out.alloc (.cells #[.string x.code] 9)).grown HG10.out HCK.out)
  have HCG := Lib.hid (show Wide C w g from by
    rcases HAT.out with h1 | h1
    · exact HCK.out g h1
    · refine .inr ?_
      have := HB9.out.size
      omega)
  clear HR9 HRA HKA HT9 HF9 HQ9 HP9 HS9 HB9 HK9 HG10 HAT hz9 hz8
  have HK11 := Lib.hid (show Blk (w10.setCell ⟨B, 2, none⟩ (.slice (some ⟨g, 0, none⟩) (l.length + 1) cap)) B 76 (bookCells bef aft (.slice (some ⟨g, 0, none⟩) (l.length + 1) cap) (.slice ta tn tc) m c made).toArray from HK10.out.set_ 2 _)
  have HR11 := Lib.hid (row_setCell HR10.out HK10.out (by decide) 2 (.slice (some ⟨g, 0, none⟩) (l.length + 1) cap))
  have HT11 := Lib.hid (row_setCell HT10.out HK10.out (by decide) 2 (.slice (some ⟨g, 0, none⟩) (l.length + 1) cap))
  have HF11 := Lib.hid (fun p hp => row_setCell (HF10.out p hp) HK10.out (by decide) 2 (.slice (some ⟨g, 0, none⟩) (l.length + 1) cap))
  have HQ11 := Lib.hid (row_setCell HQ10.out HK10.out (by decide) 2 (.slice (some ⟨g, 0, none⟩) (l.length + 1) cap))
  have HP11 := Lib.hid (HP10.out.setCell HK10.out 2 (.slice (some ⟨g, 0, none⟩) (l.length + 1) cap))
  have hBS : w.heap.size ≠ B := by omega
  have HS11 := Lib.hid (HS10.out.far (p := ⟨B, 2, none⟩) hBS (.slice (some ⟨g, 0, none⟩) (l.length + 1) cap))
  have HB11 := Lib.hid (HB10.out.setCell (p := ⟨B, 2, none⟩) (.inl H.out.inB) (.slice (some ⟨g, 0, none⟩) (l.length + 1) cap))
  clear HK10 HR10 HT10 HF10 HQ10 HP10 HS10 HB10 HCK
  generalize w10.setCell ⟨B, 2, none⟩ (.slice (some ⟨g, 0, none⟩) (l.length + 1) cap) = w11 at *
  have HTL := Lib.hid (show ∀ r, Value.ownBlock (.slice ta tn tc) = some r → r < w.heap.size from fun r hr => row_lt H.out.things hr)
  have HZ := Lib.hid HB11.out.size
  obtain ⟨i2, hi2, hi2a, hi2b, hi2c⟩ := info_parts info_stack
  have HI2 := Lib.hid hi2
  have HI2a := Lib.hid hi2a
  have HI2b := Lib.hid hi2b
  have HI2c := Lib.hid hi2c
  have HA2 := Lib.hid (show l.length + 1 ≤ maxLen ∧ (l.length + 1) * 88 ≤ 140737488355328 by have := H8.out; unfold maxLen; omega)
  clear hi2 hi2a hi2b hi2c k2 hB9 hB10 hlt10 hB
  have HGS := Lib.hid (show ∃ gS, gS = w.heap.size from ⟨_, rfl⟩)
  obtain ⟨gS, hgS⟩ := HGS.out
  rw [← hgS] at HS11 hBS ⊢
  have HGE := Lib.hid hgS
  have s0 := HS11.out.at 0 (.string x.code) rfl
  have s1 := HS11.out.at 1 (.int .i64 x.dry.lo) rfl
  have s2 := HS11.out.at 2 (.int .i64 x.dry.hi) rfl
  have s3 := HS11.out.at 3 (.int .i64 x.water.lo) rfl
  have s4 := HS11.out.at 4 (.int .i64 x.water.hi) rfl
  have s5 := HS11.out.at 5 (.int .i64 x.piled) rfl
  have s6 := HS11.out.at 6 (.int .i64 x.boiled) rfl
  have s7 := HS11.out.at 7 (.slice fa fn fc) rfl
  have k3 := HK11.out.at 3 (.slice ta tn tc) rfl
  have hBl := HK11.out.lt
  clear HGS hgS
  have HT := Lib.hid (StillAt.drew [B, gS] w11)
  refine region_till [10] (StillAt [B, gS] w11) 11 [false, false, false, false, false, false, false, false, false, false, false] (by kernel_rfl) rfl rfl ?_
  refine till_pure (i := 0) (v := .pointer (some ⟨B, 2, none⟩)) rfl rfl (by kernel_rfl) (fun _ _ _ h => h) (yields_of rfl (fun w' _ => by simp [go_sem])) (fun _ => HT.out) ?_
  simp only [List.setIfInBounds_toArray, List.set_cons_succ, List.set_cons_zero]
  refine till_pure (i := 1) (v := .pointer (some ⟨B, 2, none⟩)) rfl rfl (by kernel_rfl) (fun _ _ _ h => h) (yields_of rfl (fun w' _ => by simp [go_sem])) (fun _ => HT.out) ?_
  simp only [List.setIfInBounds_toArray, List.set_cons_succ, List.set_cons_zero]
  refine till_pure (i := 2) (v := .pointer (some ⟨B, 2, none⟩)) rfl rfl (by kernel_rfl) (fun _ _ _ h => h) (yields_of rfl (fun w' _ => by simp [go_sem])) (fun _ => HT.out) ?_
  simp only [List.setIfInBounds_toArray, List.set_cons_succ, List.set_cons_zero]
  refine till_pure (i := 3) (v := .pointer (some ⟨B, 3, none⟩)) rfl rfl (by kernel_rfl) (fun _ _ _ h => h) (yields_of rfl (fun w' _ => by simp [go_sem])) (fun _ => HT.out) ?_
  simp only [List.setIfInBounds_toArray, List.set_cons_succ, List.set_cons_zero]
  refine till_load (i := 4) (v := .slice ta tn tc) rfl rfl (by kernel_rfl) (fun _ _ _ h => h) (yields_of rfl (fun w' hw' => by have hcx := cell_in (HK11.out) (by simp) hw' 3 (.slice ta tn tc) rfl; simp [go_sem, hcx])) (fun _ => HT.out) ?_
  simp only [List.setIfInBounds_toArray, List.set_cons_succ, List.set_cons_zero]
  refine till_load (i := 5) (v := .agg #[.string x.code, .int .i64 x.dry.lo, .int .i64 x.dry.hi, .int .i64 x.water.lo, .int .i64 x.water.hi, .int .i64 x.piled, .int .i64 x.boiled, .slice fa fn fc]) rfl rfl (by kernel_rfl) (fun _ _ _ h => h) (yields_mid rfl 48 (.tmp 5) rfl (gS) 0 rfl [.string x.code, .int .i64 x.dry.lo, .int .i64 x.dry.hi, .int .i64 x.water.lo, .int .i64 x.water.hi, .int .i64 x.piled, .int .i64 x.boiled, .slice fa fn fc] _ (fun w' hw' => range_in (HS11.out) (by simp) hw' 0 _ rfl) Try.underlying48 rfl (by kernel_rfl)) (fun _ => HT.out) ?_
  simp only [List.setIfInBounds_toArray, List.set_cons_succ, List.set_cons_zero]
  refine till_only (j := 6) (by kernel_rfl) rfl ?_
  go_wp2_with fail
  have HT1 := Lib.hid (show StillAt [B, gS] w11 (w11.alloc (.cells #[.string x.code, .int .i64 x.dry.lo, .int .i64 x.dry.hi, .int .i64 x.water.lo, .int .i64 x.water.hi, .int .i64 x.piled, .int .i64 x.boiled, .slice fa fn fc] 48)).drew from (StillAt.refl _ _).alloc (Nat.le_refl _) _)
  clear HT
  refine ⟨fun _ => HT1.out, ?_⟩
  simp only [List.setIfInBounds_toArray, List.set_cons_succ, List.set_cons_zero]
  refine till_only (j := 7) (by kernel_rfl) rfl ?_
  have HRD := Lib.hid ((HT11.out.alloc (.cells #[.string x.code, .int .i64 x.dry.lo, .int .i64 x.dry.hi, .int .i64 x.water.lo, .int .i64 x.water.hi, .int .i64 x.piled, .int .i64 x.boiled, .slice fa fn fc] 48)).drew)
  have HKD := Lib.hid ((HK11.out.alloc (.cells #[.string x.code, .int .i64 x.dry.lo, .int .i64 x.dry.hi, .int .i64 x.water.lo, .int .i64 x.water.hi, .int .i64 x.piled, .int .i64 x.boiled, .slice fa fn fc] 48)).drew)
  have HNB := Lib.hid (HKD.out.notRow HRD.out (by decide))
  refine wpList_append_lies _ rfl (.tmp 49) (.tmp 51) 33 rfl 0 48 i2 (.agg #[.string ⟨#[]⟩, .int .i64 0, .int .i64 0, .int .i64 0, .int .i64 0, .int .i64 0, .int .i64 0, .slice none 0 0]) 8 88 Try.underlying33 HI2.out HI2a.out HI2b.out HI2c.out rfl (by decide) (.slice ta tn tc) l.length (rowsCells l) rfl HRD.out ⟨w11.heap.size, 0, none⟩ 1 1 [.string x.code, .int .i64 x.dry.lo, .int .i64 x.dry.hi, .int .i64 x.water.lo, .int .i64 x.water.hi, .int .i64 x.piled, .int .i64 x.boiled, .slice fa fn fc] rfl rfl (World.news_of_block (cs := #[.string x.code, .int .i64 x.dry.lo, .int .i64 x.dry.hi, .int .i64 x.water.lo, .int .i64 x.water.hi, .int .i64 x.piled, .int .i64 x.boiled, .slice fa fn fc]) (t := 48) (fr := (0, 0)) (heap_alloc_new w11 _)) HO.out (by decide) HA2.out.1 HA2.out.2 (Nat.zero_le _) (w11.heap.size + 1) (World.size_alloc _ _) ?_
  intro gg cap2 w12 hown12 hg12 hat12 hlt12
  have HT := Lib.hid (HT1.out.grown (by show _ ≤ (w11.alloc _).heap.size; rw [World.size_alloc]; exact Nat.le_succ _) hg12 (fun k hk => by
    rcases List.mem_cons.1 hk with rfl | hk
    · exact HNB.out
    · rw [List.mem_singleton.1 hk]
      intro e
      have := HTL.out gS e.symm
      rw [HGE.out] at this
      exact absurd this (Nat.lt_irrefl _)))
  clear HT1
  change Till _ _ _ _ ∧ wpAnyT _ _ _ _ _ _ _ _ _ _
  refine ⟨fun _ => HT.out, ?_⟩
  simp only [Act.put, List.setIfInBounds_toArray, List.set_cons_succ, List.set_cons_zero]
  have HK12 := Lib.hid (HKD.out.grown hg12 HNB.out)
  have HG12 := Lib.hid hg12
  have HOW := Lib.hid hown12
  have HAT := Lib.hid hat12
  have kb3 := HK12.out.at 3 (.slice ta tn tc) rfl
  have fb3 := HK12.out.frozen 3
  have hB12 := HK12.out.lt
  clear hg12 hown12 hat12
  refine till_pure (i := 8) (v := .pointer (some ⟨B, 2, none⟩)) rfl rfl (by kernel_rfl) (fun _ _ _ h => h) (yields_of rfl (fun w' _ => by simp [go_sem])) (fun _ => HT.out) ?_
  simp only [List.setIfInBounds_toArray, List.set_cons_succ, List.set_cons_zero]
  refine till_pure (i := 9) (v := .pointer (some ⟨B, 3, none⟩)) rfl rfl (by kernel_rfl) (fun _ _ _ h => h) (yields_of rfl (fun w' _ => by simp [go_sem])) (fun _ => HT.out) ?_
  simp only [List.setIfInBounds_toArray, List.set_cons_succ, List.set_cons_zero]
  refine till_only (j := 10) (by kernel_rfl) rfl ?_
  go_wp2_with fail
  refine ⟨fun h => by simp at h, ?_⟩
  simp only [List.setIfInBounds_toArray, List.set_cons_succ, List.set_cons_zero]
  refine till_done (by kernel_rfl) ?_
  go_end0
  have HR12 := Lib.hid (row_grown ((HR11.out.alloc (.cells #[.string x.code, .int .i64 x.dry.lo, .int .i64 x.dry.hi, .int .i64 x.water.lo, .int .i64 x.water.hi, .int .i64 x.piled, .int .i64 x.boiled, .slice fa fn fc] 48)).drew) HG12.out (row_notRow ((HR11.out.alloc (.cells #[.string x.code, .int .i64 x.dry.lo, .int .i64 x.dry.hi, .int .i64 x.water.lo, .int .i64 x.water.hi, .int .i64 x.piled, .int .i64 x.boiled, .slice fa fn fc] 48)).drew) HRD.out (by decide)))
  have HF12 := Lib.hid (fun p hp => row_grown (((HF11.out p hp).alloc (.cells #[.string x.code, .int .i64 x.dry.lo, .int .i64 x.dry.hi, .int .i64 x.water.lo, .int .i64 x.water.hi, .int .i64 x.piled, .int .i64 x.boiled, .slice fa fn fc] 48)).drew) HG12.out (row_notRow (((HF11.out p hp).alloc (.cells #[.string x.code, .int .i64 x.dry.lo, .int .i64 x.dry.hi, .int .i64 x.water.lo, .int .i64 x.water.hi, .int .i64 x.piled, .int .i64 x.boiled, .slice fa fn fc] 48)).drew) HRD.out (by decide)))
  have HQ12 := Lib.hid (row_grown ((HQ11.out.alloc (.cells #[.string x.code, .int .i64 x.dry.lo, .int .i64 x.dry.hi, .int .i64 x.water.lo, .int .i64 x.water.hi, .int .i64 x.piled, .int .i64 x.boiled, .slice fa fn fc] 48)).drew) HG12.out (row_notRow ((HQ11.out.alloc (.cells #[.string x.code, .int .i64 x.dry.lo, .int .i64 x.dry.hi, .int .i64 x.water.lo, .int .i64 x.water.hi, .int .i64 x.piled, .int .i64 x.boiled, .slice fa fn fc] 48)).drew) HRD.out (by decide)))
  have HPD := Lib.hid (HP11.out.same (w' := (w11.alloc (.cells #[.string x.code, .int .i64 x.dry.lo, .int .i64 x.dry.hi, .int .i64 x.water.lo, .int .i64 x.water.hi, .int .i64 x.piled, .int .i64 x.boiled, .slice fa fn fc] 48)).drew) (Below.heap_alloc w11 _ _ HP11.out.lt))
  have HP12 := Lib.hid (HPD.out.grown HG12.out (HPD.out.notRow HRD.out))
  have HB12 := Lib.hid (((HB11.out.alloc (.cells #[.string x.code, .int .i64 x.dry.lo, .int .i64 x.dry.hi, .int .i64 x.water.lo, .int .i64 x.water.hi, .int .i64 x.piled, .int .i64 x.boiled, .slice fa fn fc] 48)).drew).grown HG12.out (fun r hr => .inl (H.out.inT r hr)))
  have HK13 := Lib.hid (show Blk (w12.setCell ⟨B, 3, none⟩ (.slice (some ⟨gg, 0, none⟩) (l.length + 1) cap2)) B 76 (bookCells bef aft (.slice (some ⟨g, 0, none⟩) (l.length + 1) cap) (.slice (some ⟨gg, 0, none⟩) (l.length + 1) cap2) m c made).toArray from HK12.out.set_ 3 _)
  refine ⟨rfl, HB12.out.setCell (p := ⟨B, 3, none⟩) (.inl H.out.inB) _, .slice (some ⟨g, 0, none⟩) (l.length + 1) cap, .slice (some ⟨gg, 0, none⟩) (l.length + 1) cap2, ?_⟩
  refine H.out.putNew (q := (x, .slice fa fn fc)) HN.out HSS.out HL.out H8.out (by have := HNN.out; omega) HK13.out (row_setCell HR12.out HK12.out (by decide) 3 _) (row_setCell HOW.out HK12.out (by decide) 3 _) (((HP12.out.setCell HK12.out 3 _)).ext (fun cd => by rw [HKN.out])) (.inl H.out.inB) (fun r hr => by cases hr; exact HCG.out) (fun r hr => by
    cases hr
    rcases HAT.out with h1 | h1
    · exact .inl (H.out.inT _ h1)
    · refine .inr ?_
      have := HZ.out
      show w.heap.size ≤ gg
      omega) (.inl H.out.inM) (fun p hp => row_setCell (HF12.out p hp) HK12.out (by decide) 3 _) (row_setCell HQ12.out HK12.out (by decide) 3 _)
end Go.Proofs.Ytbgojeppfhldjaa
