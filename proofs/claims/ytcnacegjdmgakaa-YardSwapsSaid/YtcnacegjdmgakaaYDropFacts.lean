/- The shelf: a thing is dropped. -/
import Derived.Test.YtcnacegjdmgakaaYDel
import Derived.Deep.LoopGhost
namespace Go.Proofs.Ytcnacegjdmgakaa
open Go Go.RowKit Yd

/-- The deletion at the operation. -/
theorem wpList_places_drop {ops : Array Oper} {rest : List Oper} {o : Oper} {a : Act} {w : World} {Q : Exit → Act → World → Prop} (hg : o.guard = none) (mx x : Operand) (t : TypeId) (hop : o.op = Op.call { callee := Callee.builtin Builtin.delete, args := #[mx, x], argTypes := #[t, 9] })
    (hT : Try.prog.underlying t = some (.map 9 3)) {m n : Nat} {ix : Code → Option Nat} (hm : a.eval mx = .map (some m)) (h : Places w m n ix) {c : Code} (hx : a.eval x = .string c) (hc : c.size ≤ maxLen)
    (hK : ∀ w', Places w' m n (fun c' => if c' = c then none else ix c') → w.grownBy w' (some m) → wpList Try.prog ops Q rest (a.put o.dst (.tuple #[])) w') : wpList Try.prog ops Q (o :: rest) a w := by
  refine wpList_plain hg fun K' hK' => ?_
  obtain ⟨w', hrun, r1, r2⟩ := h.drop hc hT o.type
  unfold Oper.wp
  simp [execOp, hop, resolve, invoke, builtin, hm, hx, hrun, Result.andThen]
  exact hK' _ _ (hK w' r1 r2)

theorem rows_take_drop (l : List SRow) (k : Nat) : (rowsCells l).take (k * 8) = rowsCells (l.take k) ∧ (rowsCells l).drop (k * 8) = rowsCells (l.drop k) := by
  induction l generalizing k with
  | nil => simp [rowsCells]
  | cons q r ih =>
    cases k with
    | zero => simp [rowsCells]
    | succ k =>
      have hl : (rowCells q).length = 8 := rfl
      obtain ⟨h1, h2⟩ := ih k
      constructor
      · show (rowCells q ++ rowsCells r).take ((k + 1) * 8) = rowCells q ++ rowsCells (r.take k)
        rw [List.take_append, hl, List.take_of_length_le (l := rowCells q) (by omega), show (k + 1) * 8 - 8 = k * 8 by omega, h1]
      · show (rowCells q ++ rowsCells r).drop ((k + 1) * 8) = rowsCells (r.drop k)
        rw [List.drop_append, hl, List.drop_of_length_le (l := rowCells q) (by omega), show (k + 1) * 8 - 8 = k * 8 by omega, h2, List.nil_append]
theorem rows_erase (l : List SRow) (k : Nat) : (rowsCells l).take (k * 8) ++ (rowsCells l).drop ((k + 1) * 8) = rowsCells (l.eraseIdx k) := by
  rw [(rows_take_drop l k).1, (rows_take_drop l (k + 1)).2, List.eraseIdx_eq_take_drop_succ]
  simp [rowsCells]
theorem codes_erase (l : List SRow) (k : Nat) : (codeCells l).take (k * 1) ++ (codeCells l).drop ((k + 1) * 1) = codeCells (l.eraseIdx k) := by
  rw [Nat.mul_one, Nat.mul_one, List.eraseIdx_eq_take_drop_succ]
  simp [codeCells, List.map_take, List.map_drop]
theorem ones_codes (l : List SRow) : ∀ u ∈ codeCells l, u.oneCell' = true := fun u hu => by
  obtain ⟨p, _, rfl⟩ := List.mem_map.1 hu
  rfl
theorem ones_rows {l : List SRow} (h : ∀ p ∈ l, ∃ a n c, p.2 = .slice a n c) : ∀ u ∈ rowsCells l, u.oneCell' = true := fun u hu => by
  obtain ⟨p, hp, hu⟩ := List.mem_flatMap.1 hu
  obtain ⟨a, n, c, e⟩ := h p hp
  unfold rowCells stkCells at hu
  rw [e] at hu
  simp only [List.mem_cons, List.not_mem_nil, or_false] at hu
  rcases hu with rfl | rfl | rfl | rfl | rfl | rfl | rfl | rfl <;> rfl

/-- The place of a code while the places behind k are laid anew: r of them are. -/
def ixAt (l' : List SRow) (k r : Nat) (c : Code) : Option Nat := (ixOf l' c).map fun j => if j < k + r then j else j + 1
theorem ixOf_lt {l : List SRow} {c : Code} {j : Nat} (h : ixOf l c = some j) : j < l.length := by
  obtain ⟨p, hp, _⟩ := ixOf_some h
  exact (List.getElem?_eq_some_iff.1 hp).1
theorem ixAt_end (l' : List SRow) (k r : Nat) (h : l'.length ≤ k + r) (c : Code) : ixAt l' k r c = ixOf l' c := by
  unfold ixAt
  cases hx : ixOf l' c with
  | none => rfl
  | some j =>
    have := ixOf_lt hx
    simp; omega
theorem ixOf_at {l : List SRow} (hn : (l.map fun p => p.1.code).Nodup) {j : Nat} {p : SRow} (hp : l[j]? = some p) : ixOf l p.1.code = some j := by
  unfold ixOf
  rw [List.findIdx?_eq_some_iff_getElem]
  obtain ⟨hj, e⟩ := List.getElem?_eq_some_iff.1 hp
  refine ⟨hj, by rw [e]; simp, fun i hi => ?_⟩
  simp only [decide_eq_true_eq]
  intro e2
  have := (List.pairwise_iff_getElem.1 hn) i j (by simp; omega) (by simp; omega) hi
  simp only [List.getElem_map] at this
  rw [e] at this
  exact this e2
theorem ixAt_start {l : List SRow} (hn : (l.map fun p => p.1.code).Nodup) {k : Nat} {p : SRow} (hp : l[k]? = some p) (c : Code) : (if c = p.1.code then none else ixOf l c) = ixAt (l.eraseIdx k) k 0 c := by
  obtain ⟨hk, hpe⟩ := List.getElem?_eq_some_iff.1 hp
  have hn' : ((l.eraseIdx k).map fun p => p.1.code).Nodup := by
    exact hn.sublist ((List.eraseIdx_sublist l k).map _)
  by_cases hc : c = p.1.code
  · rw [if_pos hc]
    subst hc
    unfold ixAt
    cases hx : ixOf (l.eraseIdx k) p.1.code with
    | none => rfl
    | some j =>
      exfalso
      obtain ⟨q, hq, hqc⟩ := ixOf_some hx
      rw [List.getElem?_eraseIdx] at hq
      split at hq
      · have := ixOf_at hn hq
        rw [hqc, ixOf_at hn hp] at this
        cases this; omega
      · have := ixOf_at hn hq
        rw [hqc, ixOf_at hn hp] at this
        cases this; omega
  · rw [if_neg hc]
    unfold ixAt
    cases hx : ixOf l c with
    | none =>
      have : ixOf (l.eraseIdx k) c = none := by
        unfold ixOf
        rw [List.findIdx?_eq_none_iff]
        intro q hq
        have := ixOf_none hx q ((List.eraseIdx_sublist l k).subset hq)
        simpa using this
      rw [this]; rfl
    | some j =>
      obtain ⟨q, hq, rfl⟩ := ixOf_some hx
      have hjk : j ≠ k := fun e => by subst e; rw [hp] at hq; cases hq; exact hc rfl
      by_cases hlt : j < k
      · have : ixOf (l.eraseIdx k) q.1.code = some j := ixOf_at hn' (by rw [List.getElem?_eraseIdx, if_pos hlt]; exact hq)
        rw [this]
        simp [hlt]
      · have : ixOf (l.eraseIdx k) q.1.code = some (j - 1) := ixOf_at hn' (by rw [List.getElem?_eraseIdx, if_neg (by omega), show j - 1 + 1 = j by omega]; exact hq)
        rw [this]
        simp only [Option.map_some, Option.some.injEq]
        split <;> omega
theorem ixAt_step {l' : List SRow} (hn : (l'.map fun p => p.1.code).Nodup) {k r : Nat} {p : SRow} (hp : l'[k + r]? = some p) (c : Code) : (if c = p.1.code then some (k + r) else ixAt l' k r c) = ixAt l' k (r + 1) c := by
  by_cases hc : c = p.1.code
  · rw [if_pos hc]
    subst hc
    unfold ixAt
    rw [ixOf_at hn hp]
    simp
  · rw [if_neg hc]
    unfold ixAt
    cases hx : ixOf l' c with
    | none => rfl
    | some j =>
      have hj : j ≠ k + r := fun e => by
        obtain ⟨q, hq, hqc⟩ := ixOf_some hx
        subst e
        rw [hp] at hq
        cases hq
        exact hc hqc.symm
      simp only [Option.map_some, Option.some.injEq]
      split <;> split <;> omega
end Go.Proofs.Ytcnacegjdmgakaa
