/- The shelf: a thing is dropped. The shelf: a thing is dropped. -/
import Derived.Test.YtbgojeppfhldjaaYDel
import Derived.Deep.LoopGhost
namespace Go.Proofs.Ytbgojeppfhldjaa
open Go Go.RowKit Yd

/-- The deletion at the operation. -/
theorem wpList_places_drop {ops : Array Oper} {rest : List Oper} {o : Oper} {a : Act} {w : World} {Q : Exit → Act → World → Prop} (hg : o.guard = none) (mx x : Operand) (t : TypeId) (hop : o.op = Op.call { callee := Callee.builtin Builtin.delete, args := #[mx, x], argTypes := #[t, 9] })
    (hT : Try.prog.underlying t = some (.map 9 3)) {m n : Nat} {ix : Code → Option Nat} (hm : a.eval mx = .map (some m)) (h : Places w m n ix) {c : Code} (hx : a.eval x = .string c) (hc : c.size ≤ maxLen)
    (hK : ∀ w', Places w' m n (fun c' => if c' = c then none else ix c') → w.grownBy w' (some m) → wpList Try.prog ops Q rest (a.put o.dst (.tuple #[])) w') : wpList Try.prog ops Q (o :: rest) a w := by
  refine wpList_plain hg fun K' hK' => ?_
  obtain ⟨w', hrun, r1, r2⟩ := h.drop hc hT o.type
  unfold Oper.wp
  simp [execOp, hop, resolve, invoke, builtin, hm, hx, hrun, Result.andThen]
  exact hK' _ _ (hK w' r1 r2)

theorem rows_take_drop (l : List SRow) (k : Nat) : (rowsCells l).take (k * 8) = rowsCells (l.take k) ∧ (rowsCells l).drop (k * 8) = rowsCells (l.drop k) := by
  induction l generalizing k with
  | nil => simp [rowsCells]
  | cons q r ih =>
    cases k with
    | zero => simp [rowsCells]
    | succ k =>
      have hl : (rowCells q).length = 8 := rfl
      obtain ⟨h1, h2⟩ := ih k
      constructor
      · show (rowCells q ++ rowsCells r).take ((k + 1) * 8) = rowCells q ++ rowsCells (r.take k)
        rw [List.take_append, hl, List.take_of_length_le (l := rowCells q) (by omega), show (k + 1) * 8 - 8 = k * 8 by omega, h1]
      · show (rowCells q ++ rowsCells r).drop ((k + 1) * 8) = rowsCells (r.drop k)
        rw [List.drop_append, hl, List.drop_of_length_le (l := rowCells q) (by omega), show (k + 1) * 8 - 8 = k * 8 by omega, h2, List.nil_append]
theorem rows_erase (l : List SRow) (k : Nat) : (rowsCells l).take (k * 8) ++ (rowsCells l).drop ((k + 1) * 8) = rowsCells (l.eraseIdx k) := by
  rw [(rows_take_drop l k).1, (rows_take_drop l (k + 1)).2, List.eraseIdx_eq_take_drop_succ]
  simp [rowsCells]
theorem codes_erase (l : List SRow) (k : Nat) : (codeCells l).take (k * 1) ++ (codeCells l).drop ((k + 1) * 1) = codeCells (l.eraseIdx k) := by
  rw [Nat.mul_one, Nat.mul_one, List.eraseIdx_eq_take_drop_succ]
  simp [codeCells, List.map_take, List.map_drop]
theorem ones_codes (l : List SRow) : ∀ u ∈ codeCells l, u.oneCell' = true := fun u hu => by
  obtain ⟨p, _, rfl⟩ := List.mem_map.1 hu
  rfl
theorem ones_rows {l : List SRow} (h : ∀ p ∈ l, ∃ a n c, p.2 = .slice a n c) : ∀ u ∈ rowsCells l, u.oneCell' = true := fun u hu => by
  obtain ⟨p, hp, hu⟩ := List.mem_flatMap.1 hu
  obtain ⟨a, n, c, e⟩ := h p hp
  unfold rowCells stkCells at hu
  rw [e] at hu
  simp only [List.mem_cons, List.not_mem_nil, or_false] at hu
  rcases hu with rfl | rfl | rfl | rfl | rfl | rfl | rfl | rfl <;> rfl

/-- The place of a code while the places behind k are laid anew: r of them are. -/
def ixAt (l' : List SRow) (k r : Nat) (c : Code) : Option Nat := (ixOf l' c).map fun j => if j < k + r then j else j + 1
theorem ixOf_lt {l : List SRow} {c : Code} {j : Nat} (h : ixOf l c = some j) : j < l.length := by
  obtain ⟨p, hp, _⟩ := ixOf_some h
  exact (List.getElem?_eq_some_iff.1 hp).1
theorem ixAt_end (l' : List SRow) (k r : Nat) (h : l'.length ≤ k + r) (c : Code) : ixAt l' k r c = ixOf l' c := by
  unfold ixAt
  cases hx : ixOf l' c with
  | none => rfl
  | some j =>
    have := ixOf_lt hx
    simp; omega
theorem ixOf_at {l : List SRow} (hn : (l.map fun p => p.1.code).Nodup) {j : Nat} {p : SRow} (hp : l[j]? = some p) : ixOf l p.1.code = some j := by
  unfold ixOf
  rw [List.findIdx?_eq_some_iff_getElem]
  obtain ⟨hj, e⟩ := List.getElem?_eq_some_iff.1 hp
  refine ⟨hj, by rw [e]; simp, fun i hi => ?_⟩
  simp only [decide_eq_true_eq]
  intro e2
  have := (List.pairwise_iff_getElem.1 hn) i j (by simp; omega) (by simp; omega) hi
  simp only [List.getElem_map] at this
  rw [e] at this
  exact this e2
theorem ixAt_start {l : List SRow} (hn : (l.map fun p => p.1.code).Nodup) {k : Nat} {p : SRow} (hp : l[k]? = some p) (c : Code) : (if c = p.1.code then none else ixOf l c) = ixAt (l.eraseIdx k) k 0 c := by
  obtain ⟨hk, hpe⟩ := List.getElem?_eq_some_iff.1 hp
  have hn' : ((l.eraseIdx k).map fun p => p.1.code).Nodup := by
    exact hn.sublist ((List.eraseIdx_sublist l k).map _)
  by_cases hc : c = p.1.code
  · rw [if_pos hc]
    subst hc
    unfold ixAt
    cases hx : ixOf (l.eraseIdx k) p.1.code with
    | none => rfl
    | some j =>
      exfalso
      obtain ⟨q, hq, hqc⟩ := ixOf_some hx
      rw [List.getElem?_eraseIdx] at hq
      split at hq
      · have := ixOf_at hn hq
        rw [hqc, ixOf_at hn hp] at this
        cases this; omega
      · have := ixOf_at hn hq
        rw [hqc, ixOf_at hn hp] at this
        cases this; omega
  · rw [if_neg hc]
    unfold ixAt
    cases hx : ixOf l c with
    | none =>
      have : ixOf (l.eraseIdx k) c = none := by
        unfold ixOf
        rw [List.findIdx?_eq_none_iff]
        intro q hq
        have := ixOf_none hx q ((List.eraseIdx_sublist l k).subset hq)
        simpa using this
      rw [this]; rfl
    | some j =>
      obtain ⟨q, hq, rfl⟩ := ixOf_some hx
      have hjk : j ≠ k := fun e => by subst e; rw [hp] at hq; cases hq; exact hc rfl
      by_cases hlt : j < k
      · have : ixOf (l.eraseIdx k) q.1.code = some j := ixOf_at hn' (by rw [List.getElem?_eraseIdx, if_pos hlt]; exact hq)
        rw [this]
        simp [hlt]
      · have : ixOf (l.eraseIdx k) q.1.code = some (j - 1) := ixOf_at hn' (by rw [List.getElem?_eraseIdx, if_neg (by omega), show j - 1 + 1 = j by omega]; exact hq)
        rw [this]
        simp only [Option.map_some, Option.some.injEq]
        split <;> omega
theorem ixAt_step {l' : List SRow} (hn : (l'.map fun p => p.1.code).Nodup) {k r : Nat} {p : SRow} (hp : l'[k + r]? = some p) (c : Code) : (if c = p.1.code then some (k + r) else ixAt l' k r c) = ixAt l' k (r + 1) c := by
  by_cases hc : c = p.1.code
  · rw [if_pos hc]
    subst hc
    unfold ixAt
    rw [ixOf_at hn hp]
    simp
  · rw [if_neg hc]
    unfold ixAt
    cases hx : ixOf l' c with
    | none => rfl
    | some j =>
      have hj : j ≠ k + r := fun e => by
        obtain ⟨q, hq, hqc⟩ := ixOf_some hx
        subst e
        rw [hp] at hq
        cases hq
        exact hc hqc.symm
      simp only [Option.map_some, Option.some.injEq]
      split <;> split <;> omega
end Go.Proofs.Ytbgojeppfhldjaa
namespace Go.Proofs.Ytbgojeppfhldjaa
open Go Go.RowKit Yd

/-- What a drop leaves. -/
def DropDone (w : World) (C : Nat → Prop) (B : Nat) (bef aft : Int) (l : List SRow) (c : Yd.Acc) (made : Int) (N m : Nat) (e : Ending) (w' : World) : Prop :=
  e = .returned (.tuple #[]) ∧ Beside C w w' ∧ ∃ kv' tv', Book w' C B bef aft l c made N kv' tv' m

/-- While the places are laid anew. -/
structure Laying (w4 wr : World) (m N : Nat) (l' : List SRow) (k r : Nat) : Prop where
  places : Places wr m (N + r) (ixAt l' k r)
  grown : w4.grownBy wr (some m)

set_option maxRecDepth 100000 in
set_option maxHeartbeats 2000000 in
theorem drop_calls {w : World} {C : Nat → Prop} {B : Nat} {bef aft : Int} {l : List SRow} {c : Yd.Acc} {made : Int} {N : Nat} {kv tv : Value} {m : Nat} (h : Book w C B bef aft l c made N kv tv m)
    (code : Code) (hs : code.size ≤ maxLen) {k : Nat} {p : SRow} (hk : ixOf l code = some k) (hp : l[k]? = some p) (hN : N + 10 ≤ 1000000) :
    Calls Try.prog 81 #[.pointer (some ⟨B, 2, none⟩), .string code] w (DropDone w C B bef aft (l.eraseIdx k) c made (N + 10) m) := by
  have hkl : k < l.length := (List.getElem?_eq_some_iff.1 hp).1
  have hpc : p.1.code = code := by
    obtain ⟨p', hp', e⟩ := ixOf_some hk
    rw [hp] at hp'; cases hp'; exact e
  have hfew := h.few
  obtain ⟨n, hn⟩ : ∃ n, l.length = n + 1 := ⟨l.length - 1, by omega⟩
  obtain ⟨gk, ck, hkv, hck⟩ : ∃ g cap, kv = .slice (some ⟨g, 0, none⟩) (n + 1) cap ∧ ¬ cap = k := by
    obtain ⟨g, cap, _, h1, _, h2, _⟩ := row_block h.keys (by omega)
    rw [hn] at h1 h2
    exact ⟨g, cap, h1, by omega⟩
  obtain ⟨gt, ct, htv⟩ : ∃ g cap, tv = .slice (some ⟨g, 0, none⟩) (n + 1) cap := by
    obtain ⟨g, cap, _, h1, _⟩ := row_block h.things (by omega)
    rw [hn] at h1
    exact ⟨g, cap, h1⟩
  subst hkv htv
  have k2 := h.blk.at 2 (.slice (some ⟨gk, 0, none⟩) (n + 1) ck) rfl
  have k3 := h.blk.at 3 (.slice (some ⟨gt, 0, none⟩) (n + 1) ct) rfl
  have k4 := h.blk.at 4 (.map (some m)) rfl
  have hlk := h.places.look1 hs (T := 72) Try.underlying72 hk
  have hK := h.keys
  have hT := h.things
  rw [hn] at hK hT
  have hk1 : k < n + 1 := by omega
  have hgB : B ≠ m := fun e => by subst e; exact h.places.noBlk h.blk
  have H := Lib.hid h
  have HK := Lib.hid hK
  have HT := Lib.hid hT
  have HP := Lib.hid hp
  have HN := Lib.hid hn
  have HS := Lib.hid hs
  have HPC := Lib.hid hpc
  have HNN := Lib.hid hN
  have hB := h.blk.lt
  have hk0 : (0 : Int) ≤ (k : Int) := by omega
  have hk2 : (k : Int) ≤ (n : Int) := by omega
  have hn8 : (n : Int) + 1 ≤ 8 := by omega
  clear h hp hpc hn hs hN hkl hfew hk hK hT
  go_enter Try.func81, Try.ntmps81
  go_wp2_with (first
    | (at_delete; refine wpList_places_drop rfl (.tmp 16) (.tmp 17) 72 rfl Try.underlying72 rfl H.out.places rfl HS.out ?_; intro w1 hp1 hg1; have HP1 := Lib.hid hp1; have HB1 := Lib.hid ((Beside.refl C w).grown hg1 (fun r e => (by cases e; exact .inl H.out.inM))); have HK1 := Lib.hid (row_grown HK.out hg1 (row_notMap HK.out H.out.places)); have HT1 := Lib.hid (row_grown HT.out hg1 (row_notMap HT.out H.out.places)); have HF1 := Lib.hid (fun p hp => row_grown (H.out.froms p hp) hg1 (row_notMap (H.out.froms p hp) H.out.places)); have HBK1 := Lib.hid (H.out.blk.grown hg1 (fun e => hgB (by cases e; rfl))); have k2 := HBK1.out.at 2 (.slice (some ⟨gk, 0, none⟩) (n + 1) ck) rfl; have hB1 := HBK1.out.lt; clear hp1 hg1)
    | (go_at_call 86; refine (del_str HK1.out hk1 (by omega) (ones_codes l)).mono ?_; rintro e w2 ⟨rfl, hk2', hg2⟩; have HK2 := Lib.hid hk2'; have HG2 := Lib.hid hg2; have HBK2 := Lib.hid (HBK1.out.grown hg2 (HBK1.out.notRow HK1.out (by decide))); have k2 := HBK2.out.at 2 (.slice (some ⟨gk, 0, none⟩) (n + 1) ck) rfl; have f2 := HBK2.out.frozen 2; have k3 := HBK2.out.at 3 (.slice (some ⟨gt, 0, none⟩) (n + 1) ct) rfl; have hB2 := HBK2.out.lt; have HT2 := Lib.hid (row_setCell (row_grown HT1.out hg2 (row_notRow HT1.out HK1.out (by decide))) HBK2.out (by decide) 2 (.slice (some ⟨gk, 0, none⟩) n ck)); clear hk2' hg2)
    | (go_at_call 87; refine (del_stk HT2.out hk1 (by omega) (ones_rows (fun p hp => row_slice (H.out.froms p hp)))).mono ?_; rintro e w3 ⟨rfl, ht3, hg3⟩; have HT3 := Lib.hid ht3; have HG3 := Lib.hid hg3; have HBK3 := Lib.hid ((show Blk (w2.setCell ⟨B, 2, none⟩ (.slice (some ⟨gk, 0, none⟩) n ck)) B 76 (bookCells bef aft (.slice (some ⟨gk, 0, none⟩) n ck) (.slice (some ⟨gt, 0, none⟩) (n + 1) ct) m c made).toArray from HBK2.out.set_ 2 _).grown hg3 ((show Blk (w2.setCell ⟨B, 2, none⟩ (.slice (some ⟨gk, 0, none⟩) n ck)) B 76 (bookCells bef aft (.slice (some ⟨gk, 0, none⟩) n ck) (.slice (some ⟨gt, 0, none⟩) (n + 1) ct) m c made).toArray from HBK2.out.set_ 2 _).notRow HT2.out (by decide))); have k3' := HBK3.out.at 3 (.slice (some ⟨gt, 0, none⟩) (n + 1) ct) rfl; have f3 := HBK3.out.frozen 3; have k2' := HBK3.out.at 2 (.slice (some ⟨gk, 0, none⟩) n ck) rfl; have hB3 := HBK3.out.lt; clear ht3 hg3))
  have HP2 := Lib.hid ((HP1.out.grown HG2.out (HP1.out.notRow HK1.out)).setCell HBK2.out 2 (.slice (some ⟨gk, 0, none⟩) n ck))
  have HF2 := Lib.hid (fun p hp => row_setCell (row_grown (HF1.out p hp) HG2.out (row_notRow (HF1.out p hp) HK1.out (by decide))) HBK2.out (by decide) 2 (.slice (some ⟨gk, 0, none⟩) n ck))
  have HK2' := Lib.hid (row_setCell HK2.out HBK2.out (by decide) 2 (.slice (some ⟨gk, 0, none⟩) n ck))
  have HB2 := Lib.hid ((HB1.out.grown HG2.out (fun r e => by cases e; exact .inl (H.out.inK _ rfl))).setCell (p := ⟨B, 2, none⟩) (.inl H.out.inB) (.slice (some ⟨gk, 0, none⟩) n ck))
  have HP3 := Lib.hid ((HP2.out.grown HG3.out (HP2.out.notRow HT2.out)).setCell HBK3.out 3 (.slice (some ⟨gt, 0, none⟩) n ct))
  have HF3 := Lib.hid (fun p hp => row_setCell (row_grown (HF2.out p hp) HG3.out (row_notRow (HF2.out p hp) HT2.out (by decide))) HBK3.out (by decide) 3 (.slice (some ⟨gt, 0, none⟩) n ct))
  have HK3 := Lib.hid (row_setCell (row_grown HK2'.out HG3.out (row_notRow HK2'.out HT2.out (by decide))) HBK3.out (by decide) 3 (.slice (some ⟨gt, 0, none⟩) n ct))
  have HT3' := Lib.hid (row_setCell HT3.out HBK3.out (by decide) 3 (.slice (some ⟨gt, 0, none⟩) n ct))
  have HB3 := Lib.hid ((HB2.out.grown HG3.out (fun r e => by cases e; exact .inl (H.out.inT _ rfl))).setCell (p := ⟨B, 3, none⟩) (.inl H.out.inB) (.slice (some ⟨gt, 0, none⟩) n ct))
  have HBK4 := Lib.hid (show Blk (w3.setCell ⟨B, 3, none⟩ (.slice (some ⟨gt, 0, none⟩) n ct)) B 76 (bookCells bef aft (.slice (some ⟨gk, 0, none⟩) n ck) (.slice (some ⟨gt, 0, none⟩) n ct) m c made).toArray from HBK3.out.set_ 3 _)
  have HNC := Lib.hid (H.out.codes)
  have HLE := Lib.hid (show (l.eraseIdx k).length = n by rw [List.length_eraseIdx, if_pos (by rw [HN.out]; exact hk1), HN.out]; omega)
  have HP4 := Lib.hid (HP3.out.ext (fun c' => show _ = ixAt (l.eraseIdx k) k 0 c' by rw [← HPC.out]; exact ixAt_start HNC.out HP.out c'))
  have HSZ := Lib.hid H.out.sizes
  rw [codes_erase] at HK3
  rw [rows_erase] at HT3'
  clear k2 k3 k4 hlk f2 k3' f3 k2' hB hB1 hB2 HP1 HP2 HP3 HF1 HF2 HK1 HK2 HK2' HT1 HT2 HT3 HB1 HB2 HBK1 HBK2 HBK3 HG2 HG3 HK HT
  generalize w3.setCell ⟨B, 3, none⟩ (.slice (some ⟨gt, 0, none⟩) n ct) = w4 at *
  go_loopw [47] (fun i wr => ∃ r : Nat, r ≤ n - k ∧ i = .int .i64 r ∧ Hid (Laying w4 wr m N (l.eraseIdx k) k r)) (fun i _ => n - k - (intOf i).toNat)
  case atStart => exact ⟨0, Nat.zero_le _, rfl, Lib.hid ⟨HP4.out, ⟨rfl, rfl, rfl, Nat.le_refl _, fun _ _ _ => rfl⟩⟩⟩
  case round =>
    obtain ⟨r, hr, rfl, HY⟩ := hrel
    have HBR := Lib.hid (HBK4.out.grown HY.out.grown (fun e => hgB (by cases e; rfl)))
    have HKR := Lib.hid (row_grown HK3.out HY.out.grown (row_notMap HK3.out HP4.out))
    by_cases hlt : r < n - k
    · have hqx : ∃ q, (l.eraseIdx k)[k + r]? = some q := ⟨_, List.getElem?_eq_getElem (by rw [HLE.out]; omega)⟩
      obtain ⟨q, hq⟩ := hqx
      have HQ := Lib.hid hq
      have k4 := HBR.out.at 4 (.map (some m)) rfl
      have cq : wr.cell? ⟨gk, k + r, none⟩ = some (.string q.1.code) := by
        rw [World.ownsRow.cellAt HKR.out (k + r) (by omega)]
        unfold codeCells
        rw [List.getElem?_map, HQ.out]
        rfl
      have HQS := Lib.hid (show q.1.code.size ≤ maxLen from HSZ.out q ((List.eraseIdx_sublist l k).subset (List.mem_of_getElem? HQ.out)))
      have hlt' : (r : Int) < ((n - k : Nat) : Int) := by omega
      have hr0 : (0 : Int) ≤ (r : Int) := by omega
      have hnk : ((n - k : Nat) : Int) ≤ 8 := by omega
      clear hq
      go_wp2_with ((at_mapUpdate; refine wpList_places_put rfl (.tmp 55) (.tmp 56) (.tmp 59) 72 rfl Try.underlying72 rfl HY.out.places rfl HQS.out (by have := HNN.out; unfold maxLen; omega) (k := k + r) rfl (by omega) ?_); intro w5 hp5 hg5; have HY5 := Lib.hid (show Laying w4 w5 m N (l.eraseIdx k) k (r + 1) from ⟨hp5.ext (fun c' => ixAt_step (HNC.out.sublist ((List.eraseIdx_sublist l k).map _)) HQ.out c'), World.grownBy.trans HY.out.grown hg5⟩); clear hp5 hg5)
      go_roundw
      case rel => exact ⟨r + 1, by omega, by go_num, HY5⟩
      case measure => simp [intOf]; omega
    · have hlt' : ¬ (r : Int) < ((n - k : Nat) : Int) := by omega
      go_wp2
      go_end0
      refine ⟨rfl, HB3.out.grown HY.out.grown (fun r' e => by cases e; exact .inl H.out.inM), .slice (some ⟨gk, 0, none⟩) n ck, .slice (some ⟨gt, 0, none⟩) n ct, ?_⟩
      have hsub := List.eraseIdx_sublist l k
      refine ⟨HBR.out, by rw [HLE.out]; exact HKR.out, by rw [HLE.out]; exact row_grown HT3'.out HY.out.grown (row_notMap HT3'.out HP4.out), (HY.out.places.mono (by omega)).ext (fun c' => ixAt_end _ _ _ (by rw [HLE.out]; omega) c'), H.out.inB, fun g hg => (by cases hg; exact H.out.inK _ rfl), fun g hg => (by cases hg; exact H.out.inT _ rfl), H.out.inM,
        fun q hq => row_grown (HF3.out q (hsub.subset hq)) HY.out.grown (row_notMap (HF3.out q (hsub.subset hq)) HP4.out), fun q hq => H.out.fromsLen q (hsub.subset hq), HNC.out.sublist (hsub.map _), fun q hq => HSZ.out q (hsub.subset hq), by rw [HLE.out]; omega, HNN.out⟩
end Go.Proofs.Ytbgojeppfhldjaa
