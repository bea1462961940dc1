/- slices.Delete of one element of a row that the call owns. -/
import Derived.Test.YtbgojeppfhldjaaYPutNew
namespace Go.Proofs.Ytbgojeppfhldjaa
open Go Go.RowKit Yd

/-- An append where there is room, in a block known whole. -/
theorem wpList_append_room {P : Program} {w : World} {ops : Array Oper} {rest : List Oper} {o : Oper} {a : Act} {Q : Exit → Act → World → Prop} (hgd : o.guard = none) (s x : Operand) (t : TypeId)
    (ho : o.op = .call { callee := .builtin .append, args := #[s, x], argTypes := #[t, t] }) (e : TypeId) (i : TypeInfo) (size : Nat) (ht : P.underlying t = some (.slice e)) (hi : P.info? e = some i) (hsize : i.size = size)
    (g n cap : Nat) (cur : Array Value) (hg : Blk w g e cur) (hs : a.eval s = .slice (some ⟨g, 0, none⟩) n cap) (ad : Addr) (m c : Nat) (hx : a.eval x = .slice (some ad) m c) (news : List Value) (hl : news.length = m * size)
    (hnews : ∀ j u, news[j]? = some u → w.cell? (ad.add j) = some u) (h1 : ∀ u ∈ news, u.oneCell' = true) (hroom : n + m ≤ cap) (hfit : n * size + news.length ≤ cur.size)
    (h : wpList P ops Q rest (a.put o.dst (.slice (some ⟨g, 0, none⟩) (n + m) cap)) (w.setRow g (cur.toList.take (n * size) ++ news ++ cur.toList.drop (n * size + news.length)).toArray)) : wpList P ops Q (o :: rest) a w := by
  subst hsize
  refine wpList_plain hgd fun K hK => ?_
  have hr := run_append_room (P := P) w t o.type e i ht hi g n cap cur hg ad m c news hl hnews h1 hroom hfit
  unfold Oper.wp execOp
  simp only [ho, resolve, invoke, builtin, Sem.run_bind, Sem.run_pure, Result.andThen_ok, List.map_toArray, List.map_cons, List.map_nil, hs, hx, hr]
  exact hK _ _ h

/-- One element is cleared. -/
theorem wpList_clear_one {P : Program} {w : World} {ops : Array Oper} {rest : List Oper} {o : Oper} {a : Act} {Q : Exit → Act → World → Prop} (hgd : o.guard = none) (x : Operand) (t : TypeId)
    (ho : o.op = .call { callee := .builtin .clear, args := #[x], argTypes := #[t] }) (e : TypeId) (z : Value) (ht : P.underlying t = some (.slice e)) (hv : ∀ w, (zeroValue e).run P w = .ok z w) (h1 : ∀ u ∈ z.cells.toList, u.oneCell' = true)
    (g off c : Nat) (hx : a.eval x = .slice (some ⟨g, off, none⟩) 1 c) (hc : w.there g off z.cells.size)
    (h : wpList P ops Q rest (a.put o.dst (.tuple #[])) (w.setCells g off z.cells.toList)) : wpList P ops Q (o :: rest) a w := by
  refine wpList_plain hgd fun K hK => ?_
  have hz : (Builtin.zeroCells z.cells 1).toList = z.cells.toList := by
    refine List.ext_getElem (by simp [Builtin.zeroCells]) (fun i h1 h2 => ?_)
    have h3 : i < z.cells.size := by simpa using h2
    simp [Builtin.zeroCells, Nat.mod_eq_of_lt h3, h3]
  have hst := run_storeCells_cells (P := P) g off z.cells.toList 0 w (fun j hj => by simpa using (hc j (by simpa using hj)).1) (fun j hj => by simpa using (hc j (by simpa using hj)).2) h1
  simp only [Nat.add_zero] at hst
  have hr : (Builtin.clear_ #[t] o.type #[.slice (some ⟨g, off, none⟩) 1 c]).run P w = .ok (.tuple #[]) (w.setCells g off z.cells.toList) := by
    simp [Builtin.clear_, run_underlying ht, hv, hz, hst]
  unfold Oper.wp execOp
  simp only [ho, resolve, invoke, builtin, Sem.run_bind, Sem.run_pure, Result.andThen_ok, List.map_toArray, List.map_cons, List.map_nil, hx, hr]
  exact hK _ _ h

/-- The walk stands at a clear. -/
theorem at_clear {P : Program} {ops : Array Oper} {rest : List Oper} {d : Option Tmp} (x : Operand) (t : TypeId) {ty2 : TypeId} {ps : String} {af : Array Edge} {gd : Option (Nat × Bool)} {a : Act} {w : World} {Q : Exit → Act → World → Prop} (h : wpList P ops Q (⟨d, .call { callee := .builtin .clear, args := #[x], argTypes := #[t] }, ty2, ps, af, gd⟩ :: rest) a w) : wpList P ops Q (⟨d, .call { callee := .builtin .clear, args := #[x], argTypes := #[t] }, ty2, ps, af, gd⟩ :: rest) a w := h
theorem setRow_grown (w : World) (g : Nat) (cs : Array Value) : w.grownBy (w.setRow g cs) (some g) :=
  ⟨rfl, rfl, rfl, by simp [World.setRow], fun k _ hk => setRow_other w g k cs (fun e => hk (by rw [e]))⟩
theorem setCells_grown (w : World) (g o : Nat) (vs : List Value) : w.grownBy (w.setCells g o vs) (some g) := by
  obtain ⟨e1, e2, e3⟩ := setCells_same g vs o w
  exact ⟨e1, e2, e3, by rw [size_setCells]; exact Nat.le_refl _, fun k _ hk => heap_setCells w g (fun e => hk (by rw [e])) vs o⟩
theorem below_grown {w w' : World} (h : Below w.heap.size w w') (row : Option Nat) : w.grownBy w' row := ⟨h.os, h.tape, h.output, h.size, fun k hk _ => h.block k hk⟩

/-- What is left of a row's cells. -/
theorem del_take {size n i : Nat} {xs : List Value} (hi : i < n) (hx : n * size ≤ xs.length) :
    (xs.take (i * size) ++ (xs.take (n * size)).drop ((i + 1) * size) ++ xs.drop (i * size + ((xs.take (n * size)).drop ((i + 1) * size)).length)).take ((n - 1) * size) = (xs.take (n * size)).take (i * size) ++ (xs.take (n * size)).drop ((i + 1) * size) := by
  have h1 : i * size ≤ n * size := Nat.mul_le_mul_right _ (by omega)
  have h2 : (i + 1) * size ≤ n * size := Nat.mul_le_mul_right _ (by omega)
  have h3 : (n - 1) * size = i * size + (n * size - (i + 1) * size) := by
    obtain ⟨k, rfl⟩ : ∃ k, n = i + 1 + k := ⟨n - (i + 1), by omega⟩
    rw [show i + 1 + k - 1 = i + k by omega, Nat.add_mul, Nat.add_mul (i + 1) k]; omega
  have hl : ((xs.take (n * size)).drop ((i + 1) * size)).length = n * size - (i + 1) * size := by rw [List.length_drop, List.length_take, Nat.min_eq_left hx]
  have hl1 : (xs.take (i * size)).length = i * size := by rw [List.length_take]; omega
  rw [List.take_append_of_le_length (by rw [List.length_append, hl, hl1]; omega), List.take_of_length_le (by rw [List.length_append, hl, hl1]; omega), List.take_take, Nat.min_eq_left h1]

theorem zeroS (w : World) : (zeroValue 9).run Try.prog w = .ok (.string ⟨#[]⟩) w := by kernel_rfl
theorem zeroK (w : World) : (zeroValue 48).run Try.prog w = .ok (.agg #[.string ⟨#[]⟩, .int .i64 0, .int .i64 0, .int .i64 0, .int .i64 0, .int .i64 0, .int .i64 0, .slice none 0 0]) w := by kernel_rfl
/-- A row of which one element more is stored anew. -/
theorem row_cleared {w : World} {e : TypeId} {size k cap g : Nat} {cs vs : List Value} (hb : Blk w g e cs.toArray) (hl : cs.length = cap * size) (hk : k + 1 ≤ cap) (hc : cap ≤ maxLen) (hv : vs.length = size) :
    (w.setCells g (k * size) vs).ownsRow 0 e size (.slice (some ⟨g, 0, none⟩) k cap) k (cs.take (k * size)) := by
  have h1 : (k + 1) * size ≤ cap * size := Nat.mul_le_mul_right _ hk
  rw [Nat.add_mul, Nat.one_mul] at h1
  have e1 : cs = cs.take (k * size) ++ (cs.drop (k * size)).take size ++ cs.drop (k * size + size) := by
    rw [← List.drop_drop, List.append_assoc, List.take_append_drop, List.take_append_drop]
  have l1 : (cs.take (k * size)).length = k * size := by rw [List.length_take]; omega
  have l2 : ((cs.drop (k * size)).take size).length = vs.length := by rw [List.length_take, List.length_drop]; omega
  rw [e1] at hb
  have hb2 := Blk.storedMid _ _ _ vs hb l2
  rw [l1] at hb2
  have hsz : (cs.take (k * size) ++ vs ++ cs.drop (k * size + size)).toArray.size = cap * size := by
    simp only [List.size_toArray, List.length_append, l1, List.length_drop, hv]; omega
  have := row_of_block (n := k) hb2 (by omega) hc hsz
  have e2 : (cs.take (k * size) ++ vs ++ cs.drop (k * size + size)).take (k * size) = cs.take (k * size) := by
    rw [List.append_assoc, List.take_append_of_le_length (by rw [l1]; exact Nat.le_refl _), List.take_of_length_le (by rw [l1]; exact Nat.le_refl _)]
  rw [← e2]
  exact this

set_option maxRecDepth 100000 in
set_option maxHeartbeats 1000000 in
theorem del_str_main {w : World} {g k cap i : Nat} {xs : List Value} (h : w.ownsRow 0 9 1 (.slice (some ⟨g, 0, none⟩) (k + 1) cap) (k + 1) xs) (hi : i < k + 1) (hcap : ¬ cap = i + 1) (hn : k + 1 ≤ 1000) (h1 : ∀ u ∈ xs, u.oneCell' = true) :
    Calls Try.prog 86 #[.slice (some ⟨g, 0, none⟩) (k + 1) cap, .int .i64 (i : Int), .int .i64 ((i : Int) + 1)] w fun e w' => e = .returned (.slice (some ⟨g, 0, none⟩) k cap) ∧ w'.ownsRow 0 9 1 (.slice (some ⟨g, 0, none⟩) k cap) k (xs.take (i * 1) ++ xs.drop ((i + 1) * 1)) ∧ w.grownBy w' (some g) := by
  obtain ⟨g', cap', cur, hv, hb, hc, hmx, hsz, ht⟩ := row_block h (by omega)
  cases hv
  have HMX := Lib.hid hmx
  unfold maxLen at hmx
  have hlx : xs.length = (k + 1) * 1 := h.1
  have e1 : ¬ k + 1 = i := by omega
  have e2 : ¬ cap = 0 := by omega
  have e3 : ¬ cap = k := by omega
  have e4 : ¬ cap = i + 1 := hcap
  have hi0 : (0 : Int) ≤ (i : Int) := by omega
  have hi1 : (i : Int) + 1 ≤ (k : Int) + 1 := by omega
  have hi2 : (k : Int) + 1 ≤ (cap : Int) := by omega
  have hi3 : (k : Int) + 1 ≤ 1000 := by omega
  have hi4 : (cap : Int) ≤ 9223372036854775807 := by omega
  have hi5 : ((i : Int) + 1).toNat = i + 1 := by omega
  have hi6 : ((i : Int) == (i : Int) + 1) = false := by
    simp only [beq_eq_false_iff_ne, ne_eq]; omega
  have HB := Lib.hid hb
  have HT := Lib.hid ht
  have HSZ := Lib.hid hsz
  have HLX := Lib.hid hlx
  have H1 := Lib.hid h1
  obtain ⟨i1, hi1', hi1a, hi1b, hi1c⟩ := info_parts info_string
  have HI := Lib.hid hi1'
  have HIb := Lib.hid hi1b
  clear h hb ht hsz hlx h1 hi1' hi1a hi1b hi1c
  go_enter Try.func86, Try.ntmps86
  go_wp2
  refine region_split_below 6 (by kernel_rfl) (by kernel_rfl) (by kernel_rfl) ?_
  simp only [List.take_succ_cons, List.take_zero, List.drop_succ_cons, List.drop_zero]
  repeat (go_big_quiet_step (fail))
  refine wpQuiet_nil ?_
  intro w8 hw'
  have hb8 : Below w.heap.size w w8 := by obtain ⟨⟨dq, osq⟩, hw''⟩ := hw'; rw [hw'']; exact below_regrown w dq osq
  clear hw'
  have HB8 := Lib.hid (HB.out.below hb8)
  have HG8 := Lib.hid (below_grown hb8 (some g))
  clear hb8 HB
  have hnl : (xs.drop ((i + 1) * 1)).length = (k - i) * 1 := by rw [List.length_drop, HLX.out]; omega
  have HNL := Lib.hid hnl
  clear hnl
  refine wpList_append_room rfl (.tmp 22) (.tmp 25) 71 rfl 9 i1 1 Try.underlying71 HI.out HIb.out g i cap cur HB8.out rfl ⟨g, i + 1, none⟩ (k - i) _ rfl (xs.drop ((i + 1) * 1)) HNL.out (fun j u hu => ?_) (fun u hu => H1.out u (List.mem_of_mem_drop hu)) (by omega) (by rw [HNL.out, HSZ.out]; omega) ?_
  · rw [← HT.out, List.getElem?_drop] at hu
    obtain ⟨hj1, hj2⟩ := List.getElem?_eq_some_iff.1 hu
    rw [List.length_take] at hj1
    rw [List.getElem?_take, if_pos (by omega)] at hu
    rw [Addr.add_mid, HB8.out.cell]
    simpa using hu
  have HB9 := Lib.hid (setRow_heap w8 g cur (cur.toList.take (i * 1) ++ xs.drop ((i + 1) * 1) ++ cur.toList.drop (i * 1 + (xs.drop ((i + 1) * 1)).length)).toArray 9 (0, 0) HB8.out)
  have HG9 := Lib.hid (World.grownBy.trans HG8.out (setRow_grown w8 g (cur.toList.take (i * 1) ++ xs.drop ((i + 1) * 1) ++ cur.toList.drop (i * 1 + (xs.drop ((i + 1) * 1)).length)).toArray))
  clear HB8 HG8
  have hek : i + (k - i) = k := by omega
  rw [hek]
  clear hek
  generalize hcs : (cur.toList.take (i * 1) ++ xs.drop ((i + 1) * 1) ++ cur.toList.drop (i * 1 + (xs.drop ((i + 1) * 1)).length)) = cs at HB9 HG9 ⊢
  have HCS := Lib.hid hcs
  clear hcs
  generalize w8.setRow g cs.toArray = w9 at HB9 HG9 ⊢
  simp only [Act.put, List.setIfInBounds_toArray, List.set_cons_succ, List.set_cons_zero]
  have hlen : cs.length = cap * 1 := by
    have h2 := HNL.out
    rw [← HCS.out, List.length_append, List.length_append, h2, List.length_take, List.length_drop, Array.length_toList, HSZ.out]; omega
  have HLN := Lib.hid hlen
  clear hlen
  have HTH := Lib.hid (Blk.there (cs := cs.toArray) HB9.out (o := k) (n := 1) (by rw [List.size_toArray, HLN.out]; omega))
  have e7 : k + 1 - k = 1 := by omega
  have e8 : (k : Int) ≤ (k : Int) + 1 := by omega
  have e9 : (0 : Int) ≤ (k : Int) := by omega
  go_wp2_with ((with_reducible refine at_clear (.tmp 31) 71 ?_); go_must (refine wpList_clear_one rfl (.tmp 31) 71 rfl 9 (.string ⟨#[]⟩) Try.underlying71 zeroS (by simp [Value.cells, Value.oneCell']) g (k) (cap - k) rfl HTH.out ?_))
  go_ret
  have hrow := row_cleared (vs := [.string ⟨#[]⟩]) HB9.out HLN.out (by omega) HMX.out rfl
  have hdel := del_take (size := 1) (n := k + 1) (i := i) (xs := cur.toList) (by omega) (by rw [Array.length_toList, HSZ.out]; omega)
  rw [HT.out, HCS.out, show k + 1 - 1 = k by omega] at hdel
  rw [hdel] at hrow
  exact ⟨rfl, by simpa only [Nat.mul_one] using hrow, World.grownBy.trans HG9.out (setCells_grown w9 g _ _)⟩

set_option maxRecDepth 100000 in
set_option maxHeartbeats 1000000 in
theorem del_str_last {w : World} {g k : Nat} {xs : List Value} (h : w.ownsRow 0 9 1 (.slice (some ⟨g, 0, none⟩) (k + 1) (k + 1)) (k + 1) xs) (hn : k + 1 ≤ 1000) (h1 : ∀ u ∈ xs, u.oneCell' = true) :
    Calls Try.prog 86 #[.slice (some ⟨g, 0, none⟩) (k + 1) (k + 1), .int .i64 (k : Int), .int .i64 ((k : Int) + 1)] w fun e w' => e = .returned (.slice (some ⟨g, 0, none⟩) k (k + 1)) ∧ w'.ownsRow 0 9 1 (.slice (some ⟨g, 0, none⟩) k (k + 1)) k (xs.take (k * 1) ++ xs.drop ((k + 1) * 1)) ∧ w.grownBy w' (some g) := by
  obtain ⟨g', cap', cur, hv, hb, hc, hmx, hsz, ht⟩ := row_block h (by omega)
  cases hv
  have HMX := Lib.hid hmx
  unfold maxLen at hmx
  have hlx : xs.length = (k + 1) * 1 := h.1
  have e1 : ¬ k + 1 = k := by omega
  have hi0 : (0 : Int) ≤ (k : Int) := by omega
  have hi3 : (k : Int) + 1 ≤ 1000 := by omega
  have hi5 : ((k : Int) + 1).toNat = k + 1 := by omega
  have hi6 : ((k : Int) == (k : Int) + 1) = false := by
    simp only [beq_eq_false_iff_ne, ne_eq]; omega
  have e7 : k + 1 - k = 1 := by omega
  have e8 : (k : Int) ≤ (k : Int) + 1 := by omega
  have HB := Lib.hid hb
  have HT := Lib.hid ht
  have HSZ := Lib.hid hsz
  have HLX := Lib.hid hlx
  have H1 := Lib.hid h1
  obtain ⟨i1, hi1', hi1a, hi1b, hi1c⟩ := info_parts info_string
  have HI := Lib.hid hi1'
  have HIb := Lib.hid hi1b
  clear h hb ht hsz hlx h1 hi1' hi1a hi1b hi1c
  go_enter Try.func86, Try.ntmps86
  go_wp2
  refine region_split_below 6 (by kernel_rfl) (by kernel_rfl) (by kernel_rfl) ?_
  simp only [List.take_succ_cons, List.take_zero, List.drop_succ_cons, List.drop_zero]
  repeat (go_big_quiet_step (fail))
  refine wpQuiet_nil ?_
  intro w8 hw'
  have hb8 : Below w.heap.size w w8 := by obtain ⟨⟨dq, osq⟩, hw''⟩ := hw'; rw [hw'']; exact below_regrown w dq osq
  clear hw'
  have HB8 := Lib.hid (HB.out.below hb8)
  have HG8 := Lib.hid (below_grown hb8 (some g))
  clear hb8 HB
  have hnl : (xs.drop ((k + 1) * 1)).length = 0 * 1 := by rw [List.length_drop, HLX.out]; omega
  have HNL := Lib.hid hnl
  clear hnl
  refine wpList_append_room rfl (.tmp 22) (.tmp 25) 71 rfl 9 i1 1 Try.underlying71 HI.out HIb.out g k (k + 1) cur HB8.out rfl ⟨g, 0, none⟩ 0 _ rfl (xs.drop ((k + 1) * 1)) HNL.out (fun j u hu => ?_) (fun u hu => H1.out u (List.mem_of_mem_drop hu)) (by omega) (by rw [HNL.out, HSZ.out]; omega) ?_
  · have := HNL.out
    rw [show xs.drop ((k + 1) * 1) = [] from List.length_eq_zero_iff.1 (by omega)] at hu
    simp at hu
  have HB9 := Lib.hid (setRow_heap w8 g cur (cur.toList.take (k * 1) ++ xs.drop ((k + 1) * 1) ++ cur.toList.drop (k * 1 + (xs.drop ((k + 1) * 1)).length)).toArray 9 (0, 0) HB8.out)
  have HG9 := Lib.hid (World.grownBy.trans HG8.out (setRow_grown w8 g (cur.toList.take (k * 1) ++ xs.drop ((k + 1) * 1) ++ cur.toList.drop (k * 1 + (xs.drop ((k + 1) * 1)).length)).toArray))
  clear HB8 HG8
  generalize hcs : (cur.toList.take (k * 1) ++ xs.drop ((k + 1) * 1) ++ cur.toList.drop (k * 1 + (xs.drop ((k + 1) * 1)).length)) = cs at HB9 HG9 ⊢
  have HCS := Lib.hid hcs
  clear hcs
  generalize w8.setRow g cs.toArray = w9 at HB9 HG9 ⊢
  simp only [Act.put, List.setIfInBounds_toArray, List.set_cons_succ, List.set_cons_zero, Nat.add_zero]
  have hlen : cs.length = (k + 1) * 1 := by
    have h2 := HNL.out
    rw [← HCS.out, List.length_append, List.length_append, h2, List.length_take, List.length_drop, Array.length_toList, HSZ.out]; omega
  have HLN := Lib.hid hlen
  clear hlen
  have HTH := Lib.hid (Blk.there (cs := cs.toArray) HB9.out (o := k) (n := 1) (by rw [List.size_toArray, HLN.out]; omega))
  go_wp2_with ((with_reducible refine at_clear (.tmp 31) 71 ?_); go_must (refine wpList_clear_one rfl (.tmp 31) 71 rfl 9 (.string ⟨#[]⟩) Try.underlying71 zeroS (by simp [Value.cells, Value.oneCell']) g (k) 1 rfl HTH.out ?_))
  go_ret
  have hrow := row_cleared (vs := [.string ⟨#[]⟩]) HB9.out HLN.out (by omega) HMX.out rfl
  have hdel := del_take (size := 1) (n := k + 1) (i := k) (xs := cur.toList) (by omega) (by rw [Array.length_toList, HSZ.out]; omega)
  rw [HT.out, HCS.out, show k + 1 - 1 = k by omega] at hdel
  rw [hdel] at hrow
  exact ⟨rfl, by simpa only [Nat.mul_one] using hrow, World.grownBy.trans HG9.out (setCells_grown w9 g _ _)⟩

theorem del_str {w : World} {g k cap i : Nat} {xs : List Value} (h : w.ownsRow 0 9 1 (.slice (some ⟨g, 0, none⟩) (k + 1) cap) (k + 1) xs) (hi : i < k + 1) (hn : k + 1 ≤ 1000) (h1 : ∀ u ∈ xs, u.oneCell' = true) :
    Calls Try.prog 86 #[.slice (some ⟨g, 0, none⟩) (k + 1) cap, .int .i64 (i : Int), .int .i64 ((i : Int) + 1)] w fun e w' => e = .returned (.slice (some ⟨g, 0, none⟩) k cap) ∧ w'.ownsRow 0 9 1 (.slice (some ⟨g, 0, none⟩) k cap) k (xs.take (i * 1) ++ xs.drop ((i + 1) * 1)) ∧ w.grownBy w' (some g) := by
  by_cases hcap : cap = i + 1
  · obtain ⟨g', cap', cur, hv, hb, hc, hmx, hsz, ht⟩ := row_block h (by omega)
    cases hv
    obtain rfl : i = k := by omega
    subst hcap
    exact del_str_last h hn h1
  · exact del_str_main h hi hcap hn h1

set_option maxRecDepth 100000 in
set_option maxHeartbeats 1000000 in
theorem del_stk_main {w : World} {g k cap i : Nat} {xs : List Value} (h : w.ownsRow 0 48 8 (.slice (some ⟨g, 0, none⟩) (k + 1) cap) (k + 1) xs) (hi : i < k + 1) (hcap : ¬ cap = i + 1) (hn : k + 1 ≤ 1000) (h1 : ∀ u ∈ xs, u.oneCell' = true) :
    Calls Try.prog 87 #[.slice (some ⟨g, 0, none⟩) (k + 1) cap, .int .i64 (i : Int), .int .i64 ((i : Int) + 1)] w fun e w' => e = .returned (.slice (some ⟨g, 0, none⟩) k cap) ∧ w'.ownsRow 0 48 8 (.slice (some ⟨g, 0, none⟩) k cap) k (xs.take (i * 8) ++ xs.drop ((i + 1) * 8)) ∧ w.grownBy w' (some g) := by
  obtain ⟨g', cap', cur, hv, hb, hc, hmx, hsz, ht⟩ := row_block h (by omega)
  cases hv
  have HMX := Lib.hid hmx
  unfold maxLen at hmx
  have hlx : xs.length = (k + 1) * 8 := h.1
  have e1 : ¬ k + 1 = i := by omega
  have e2 : ¬ cap = 0 := by omega
  have e3 : ¬ cap = k := by omega
  have e4 : ¬ cap = i + 1 := hcap
  have hi0 : (0 : Int) ≤ (i : Int) := by omega
  have hi1 : (i : Int) + 1 ≤ (k : Int) + 1 := by omega
  have hi2 : (k : Int) + 1 ≤ (cap : Int) := by omega
  have hi3 : (k : Int) + 1 ≤ 1000 := by omega
  have hi4 : (cap : Int) ≤ 9223372036854775807 := by omega
  have hi5 : ((i : Int) + 1).toNat = i + 1 := by omega
  have hi6 : ((i : Int) == (i : Int) + 1) = false := by
    simp only [beq_eq_false_iff_ne, ne_eq]; omega
  have HB := Lib.hid hb
  have HT := Lib.hid ht
  have HSZ := Lib.hid hsz
  have HLX := Lib.hid hlx
  have H1 := Lib.hid h1
  obtain ⟨i1, hi1', hi1a, hi1b, hi1c⟩ := info_parts info_stack
  have HI := Lib.hid hi1'
  have HIb := Lib.hid hi1b
  clear h hb ht hsz hlx h1 hi1' hi1a hi1b hi1c
  go_enter Try.func87, Try.ntmps87
  go_wp2
  refine region_split_below 6 (by kernel_rfl) (by kernel_rfl) (by kernel_rfl) ?_
  simp only [List.take_succ_cons, List.take_zero, List.drop_succ_cons, List.drop_zero]
  repeat (go_big_quiet_step (fail))
  refine wpQuiet_nil ?_
  intro w8 hw'
  have hb8 : Below w.heap.size w w8 := by obtain ⟨⟨dq, osq⟩, hw''⟩ := hw'; rw [hw'']; exact below_regrown w dq osq
  clear hw'
  have HB8 := Lib.hid (HB.out.below hb8)
  have HG8 := Lib.hid (below_grown hb8 (some g))
  clear hb8 HB
  have hnl : (xs.drop ((i + 1) * 8)).length = (k - i) * 8 := by rw [List.length_drop, HLX.out]; omega
  have HNL := Lib.hid hnl
  clear hnl
  refine wpList_append_room rfl (.tmp 22) (.tmp 25) 33 rfl 48 i1 8 Try.underlying33 HI.out HIb.out g i cap cur HB8.out rfl ⟨g, (i + 1) * 8, none⟩ (k - i) _ rfl (xs.drop ((i + 1) * 8)) HNL.out (fun j u hu => ?_) (fun u hu => H1.out u (List.mem_of_mem_drop hu)) (by omega) (by rw [HNL.out, HSZ.out]; omega) ?_
  · rw [← HT.out, List.getElem?_drop] at hu
    obtain ⟨hj1, hj2⟩ := List.getElem?_eq_some_iff.1 hu
    rw [List.length_take] at hj1
    rw [List.getElem?_take, if_pos (by omega)] at hu
    rw [Addr.add_mid, HB8.out.cell]
    simpa using hu
  have HB9 := Lib.hid (setRow_heap w8 g cur (cur.toList.take (i * 8) ++ xs.drop ((i + 1) * 8) ++ cur.toList.drop (i * 8 + (xs.drop ((i + 1) * 8)).length)).toArray 48 (0, 0) HB8.out)
  have HG9 := Lib.hid (World.grownBy.trans HG8.out (setRow_grown w8 g (cur.toList.take (i * 8) ++ xs.drop ((i + 1) * 8) ++ cur.toList.drop (i * 8 + (xs.drop ((i + 1) * 8)).length)).toArray))
  clear HB8 HG8
  have hek : i + (k - i) = k := by omega
  rw [hek]
  clear hek
  generalize hcs : (cur.toList.take (i * 8) ++ xs.drop ((i + 1) * 8) ++ cur.toList.drop (i * 8 + (xs.drop ((i + 1) * 8)).length)) = cs at HB9 HG9 ⊢
  have HCS := Lib.hid hcs
  clear hcs
  generalize w8.setRow g cs.toArray = w9 at HB9 HG9 ⊢
  simp only [Act.put, List.setIfInBounds_toArray, List.set_cons_succ, List.set_cons_zero]
  have hlen : cs.length = cap * 8 := by
    have h2 := HNL.out
    rw [← HCS.out, List.length_append, List.length_append, h2, List.length_take, List.length_drop, Array.length_toList, HSZ.out]; omega
  have HLN := Lib.hid hlen
  clear hlen
  have HTH := Lib.hid (Blk.there (cs := cs.toArray) HB9.out (o := k * 8) (n := 8) (by rw [List.size_toArray, HLN.out]; omega))
  have e7 : k + 1 - k = 1 := by omega
  have e8 : (k : Int) ≤ (k : Int) + 1 := by omega
  have e9 : (0 : Int) ≤ (k : Int) := by omega
  go_wp2_with ((with_reducible refine at_clear (.tmp 31) 33 ?_); go_must (refine wpList_clear_one rfl (.tmp 31) 33 rfl 48 (.agg #[.string ⟨#[]⟩, .int .i64 0, .int .i64 0, .int .i64 0, .int .i64 0, .int .i64 0, .int .i64 0, .slice none 0 0]) Try.underlying33 zeroK (by simp [Value.cells, Value.oneCell']) g (k * 8) (cap - k) rfl HTH.out ?_))
  go_ret
  have hrow := row_cleared (vs := [.string ⟨#[]⟩, .int .i64 0, .int .i64 0, .int .i64 0, .int .i64 0, .int .i64 0, .int .i64 0, .slice none 0 0]) HB9.out HLN.out (by omega) HMX.out rfl
  have hdel := del_take (size := 8) (n := k + 1) (i := i) (xs := cur.toList) (by omega) (by rw [Array.length_toList, HSZ.out]; omega)
  rw [HT.out, HCS.out, show k + 1 - 1 = k by omega] at hdel
  rw [hdel] at hrow
  exact ⟨rfl, hrow, World.grownBy.trans HG9.out (setCells_grown w9 g _ _)⟩

set_option maxRecDepth 100000 in
set_option maxHeartbeats 1000000 in
theorem del_stk_last {w : World} {g k : Nat} {xs : List Value} (h : w.ownsRow 0 48 8 (.slice (some ⟨g, 0, none⟩) (k + 1) (k + 1)) (k + 1) xs) (hn : k + 1 ≤ 1000) (h1 : ∀ u ∈ xs, u.oneCell' = true) :
    Calls Try.prog 87 #[.slice (some ⟨g, 0, none⟩) (k + 1) (k + 1), .int .i64 (k : Int), .int .i64 ((k : Int) + 1)] w fun e w' => e = .returned (.slice (some ⟨g, 0, none⟩) k (k + 1)) ∧ w'.ownsRow 0 48 8 (.slice (some ⟨g, 0, none⟩) k (k + 1)) k (xs.take (k * 8) ++ xs.drop ((k + 1) * 8)) ∧ w.grownBy w' (some g) := by
  obtain ⟨g', cap', cur, hv, hb, hc, hmx, hsz, ht⟩ := row_block h (by omega)
  cases hv
  have HMX := Lib.hid hmx
  unfold maxLen at hmx
  have hlx : xs.length = (k + 1) * 8 := h.1
  have e1 : ¬ k + 1 = k := by omega
  have hi0 : (0 : Int) ≤ (k : Int) := by omega
  have hi3 : (k : Int) + 1 ≤ 1000 := by omega
  have hi5 : ((k : Int) + 1).toNat = k + 1 := by omega
  have hi6 : ((k : Int) == (k : Int) + 1) = false := by
    simp only [beq_eq_false_iff_ne, ne_eq]; omega
  have e7 : k + 1 - k = 1 := by omega
  have e8 : (k : Int) ≤ (k : Int) + 1 := by omega
  have HB := Lib.hid hb
  have HT := Lib.hid ht
  have HSZ := Lib.hid hsz
  have HLX := Lib.hid hlx
  have H1 := Lib.hid h1
  obtain ⟨i1, hi1', hi1a, hi1b, hi1c⟩ := info_parts info_stack
  have HI := Lib.hid hi1'
  have HIb := Lib.hid hi1b
  clear h hb ht hsz hlx h1 hi1' hi1a hi1b hi1c
  go_enter Try.func87, Try.ntmps87
  go_wp2
  refine region_split_below 6 (by kernel_rfl) (by kernel_rfl) (by kernel_rfl) ?_
  simp only [List.take_succ_cons, List.take_zero, List.drop_succ_cons, List.drop_zero]
  repeat (go_big_quiet_step (fail))
  refine wpQuiet_nil ?_
  intro w8 hw'
  have hb8 : Below w.heap.size w w8 := by obtain ⟨⟨dq, osq⟩, hw''⟩ := hw'; rw [hw'']; exact below_regrown w dq osq
  clear hw'
  have HB8 := Lib.hid (HB.out.below hb8)
  have HG8 := Lib.hid (below_grown hb8 (some g))
  clear hb8 HB
  have hnl : (xs.drop ((k + 1) * 8)).length = 0 * 8 := by rw [List.length_drop, HLX.out]; omega
  have HNL := Lib.hid hnl
  clear hnl
  refine wpList_append_room rfl (.tmp 22) (.tmp 25) 33 rfl 48 i1 8 Try.underlying33 HI.out HIb.out g k (k + 1) cur HB8.out rfl ⟨g, 0, none⟩ 0 _ rfl (xs.drop ((k + 1) * 8)) HNL.out (fun j u hu => ?_) (fun u hu => H1.out u (List.mem_of_mem_drop hu)) (by omega) (by rw [HNL.out, HSZ.out]; omega) ?_
  · have := HNL.out
    rw [show xs.drop ((k + 1) * 8) = [] from List.length_eq_zero_iff.1 (by omega)] at hu
    simp at hu
  have HB9 := Lib.hid (setRow_heap w8 g cur (cur.toList.take (k * 8) ++ xs.drop ((k + 1) * 8) ++ cur.toList.drop (k * 8 + (xs.drop ((k + 1) * 8)).length)).toArray 48 (0, 0) HB8.out)
  have HG9 := Lib.hid (World.grownBy.trans HG8.out (setRow_grown w8 g (cur.toList.take (k * 8) ++ xs.drop ((k + 1) * 8) ++ cur.toList.drop (k * 8 + (xs.drop ((k + 1) * 8)).length)).toArray))
  clear HB8 HG8
  generalize hcs : (cur.toList.take (k * 8) ++ xs.drop ((k + 1) * 8) ++ cur.toList.drop (k * 8 + (xs.drop ((k + 1) * 8)).length)) = cs at HB9 HG9 ⊢
  have HCS := Lib.hid hcs
  clear hcs
  generalize w8.setRow g cs.toArray = w9 at HB9 HG9 ⊢
  simp only [Act.put, List.setIfInBounds_toArray, List.set_cons_succ, List.set_cons_zero, Nat.add_zero]
  have hlen : cs.length = (k + 1) * 8 := by
    have h2 := HNL.out
    rw [← HCS.out, List.length_append, List.length_append, h2, List.length_take, List.length_drop, Array.length_toList, HSZ.out]; omega
  have HLN := Lib.hid hlen
  clear hlen
  have HTH := Lib.hid (Blk.there (cs := cs.toArray) HB9.out (o := k * 8) (n := 8) (by rw [List.size_toArray, HLN.out]; omega))
  go_wp2_with ((with_reducible refine at_clear (.tmp 31) 33 ?_); go_must (refine wpList_clear_one rfl (.tmp 31) 33 rfl 48 (.agg #[.string ⟨#[]⟩, .int .i64 0, .int .i64 0, .int .i64 0, .int .i64 0, .int .i64 0, .int .i64 0, .slice none 0 0]) Try.underlying33 zeroK (by simp [Value.cells, Value.oneCell']) g (k * 8) 1 rfl HTH.out ?_))
  go_ret
  have hrow := row_cleared (vs := [.string ⟨#[]⟩, .int .i64 0, .int .i64 0, .int .i64 0, .int .i64 0, .int .i64 0, .int .i64 0, .slice none 0 0]) HB9.out HLN.out (by omega) HMX.out rfl
  have hdel := del_take (size := 8) (n := k + 1) (i := k) (xs := cur.toList) (by omega) (by rw [Array.length_toList, HSZ.out]; omega)
  rw [HT.out, HCS.out, show k + 1 - 1 = k by omega] at hdel
  rw [hdel] at hrow
  exact ⟨rfl, hrow, World.grownBy.trans HG9.out (setCells_grown w9 g _ _)⟩

theorem del_stk {w : World} {g k cap i : Nat} {xs : List Value} (h : w.ownsRow 0 48 8 (.slice (some ⟨g, 0, none⟩) (k + 1) cap) (k + 1) xs) (hi : i < k + 1) (hn : k + 1 ≤ 1000) (h1 : ∀ u ∈ xs, u.oneCell' = true) :
    Calls Try.prog 87 #[.slice (some ⟨g, 0, none⟩) (k + 1) cap, .int .i64 (i : Int), .int .i64 ((i : Int) + 1)] w fun e w' => e = .returned (.slice (some ⟨g, 0, none⟩) k cap) ∧ w'.ownsRow 0 48 8 (.slice (some ⟨g, 0, none⟩) k cap) k (xs.take (i * 8) ++ xs.drop ((i + 1) * 8)) ∧ w.grownBy w' (some g) := by
  by_cases hcap : cap = i + 1
  · obtain ⟨g', cap', cur, hv, hb, hc, hmx, hsz, ht⟩ := row_block h (by omega)
    cases hv
    obtain rfl : i = k := by omega
    subst hcap
    exact del_stk_last h hn h1
  · exact del_stk_main h hi hcap hn h1
end Go.Proofs.Ytbgojeppfhldjaa
