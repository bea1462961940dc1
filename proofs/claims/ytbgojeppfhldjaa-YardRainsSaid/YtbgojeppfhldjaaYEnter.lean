/- The deed's fault and its recovery: the closure that enter defers. A deed is entered. -/
import Derived.Test.YtbgojeppfhldjaaYFormOf
import Derived.Tactics
import Derived.Tactics2
import Derived.Defers
import Derived.Recover
import Derived.Laws.Pointers
namespace Go.Proofs.Ytbgojeppfhldjaa
open Go Go.RowKit Yd

theorem fault_type : Try.prog.underlying 86 = some (.int .i64) := by kernel_rfl
theorem assert_fault (n : Int) (w : World) : (Instr.typeAssert (.iface 86 (.int .i64 n)) 20 86 true).run Try.prog w = .ok (.tuple #[.int .i64 n, .bool true]) w := by
  simp [Instr.typeAssert, run_underlying fault_type, go_sem, Result.andThen]
theorem assert_none (w : World) : (Instr.typeAssert .nilIface 20 86 true).run Try.prog w = .ok (.tuple #[.int .i64 0, .bool false]) w := by
  simp [Instr.typeAssert, run_underlying fault_type, go_sem, Result.andThen]

set_option maxRecDepth 100000 in
set_option maxHeartbeats 1000000 in
/-- The closure, met by a panic with a deed's fault: it recovers, and lays the fault. -/
theorem catch_fault (p : Addr) (x : Int) (n : Int) (older : List PanicEntry) (w : World) (hc : w.cell? p = some (.int .i64 x)) (hz : w.frozen? p = false) :
    CallsD Try.prog 39 #[.pointer (some p)] (.panicking ({ v := .iface 86 (.int .i64 n), recovered := false } :: older)) w fun e u' w' =>
      e = .returned (.tuple #[]) ∧ u' = .panicking ({ v := .iface 86 (.int .i64 n), recovered := true } :: older) ∧ w' = w.setCell p (.int .i64 n) := by
  refine callsD_of_wpS Try.func39 rfl fun c₀ cs hu => ?_
  simp only [Try.ntmps39, List.size_toArray, List.length_cons, List.length_nil, Nat.reduceAdd, Nat.reduceSub, Array.replicate_succ, Array.replicate_zero, List.push_toArray, List.append_toArray, List.nil_append, List.cons_append]
  apply wpS_seq
  apply wpS_region
  simp [wpOpsS, go_sem, recoverD, hu, assert_fault, Exit.thenS]
  apply wpS_seq
  apply wpS_region
  simp [wpOpsS, go_sem, Exit.thenS]
  refine wpS_cond (t := true) (by simp [Act.eval]) ?_
  simp only [if_true]
  apply wpS_region
  simp [wpOpsS, go_sem, hc, hz, bodyPostS, results, Try.results39]

set_option maxRecDepth 100000 in
set_option maxHeartbeats 1000000 in
/-- The closure at a return: nothing to recover. -/
theorem catch_idle (p : Addr) (w : World) :
    CallsD Try.prog 39 #[.pointer (some p)] .returning w fun e u' w' => e = .returned (.tuple #[]) ∧ u' = .returning ∧ w' = w := by
  refine callsD_of_wpS Try.func39 rfl fun c₀ cs hu => ?_
  simp only [Try.ntmps39, List.size_toArray, List.length_cons, List.length_nil, Nat.reduceAdd, Nat.reduceSub, Array.replicate_succ, Array.replicate_zero, List.push_toArray, List.append_toArray, List.nil_append, List.cons_append]
  apply wpS_seq
  apply wpS_region
  simp [wpOpsS, go_sem, recoverD, hu, assert_none, Exit.thenS]
  apply wpS_seq
  apply wpS_region
  simp [wpOpsS, go_sem, Exit.thenS]
  refine wpS_cond (t := false) (by simp [Act.eval]) ?_
  simp only [Bool.false_eq_true, if_false]
  refine wpS_of_wp (wp_skip ?_)
  cases c₀
  simp_all [bodyPostS, results, Try.results39]
end Go.Proofs.Ytbgojeppfhldjaa
namespace Go.Proofs.Ytbgojeppfhldjaa
open Go Go.RowKit Go.Shelf Yd

/-- What is there behind a deed that was entered. -/
def Entered (w : World) (C : Nat → Prop) (B : Nat) (bef aft : Int) (ss : List (Stk Code)) (c : Yd.Acc) (made : Int) (N m : Nat) (e : Ending) (w' : World) : Prop :=
  e = .returned (.int .i64 0) ∧ Beside C w w' ∧ ∃ (rows : List SRow) (kv' tv' : Value), rows.map (·.1) = ss ∧ Book w' (Wide C w) B bef aft rows c made N kv' tv' m

/-- A store into a block that is none of the book's. -/
theorem Book.far {w : World} {C : Nat → Prop} {B : Nat} {bef aft : Int} {l : List SRow} {c : Yd.Acc} {made : Int} {N : Nat} {kv tv : Value} {m : Nat} {g : Nat} {t : TypeId} {cs : Array Value} (hg : Blk w g t cs) (ht : t = 38) (o : Nat) (v : Value)
    (h : Book w C B bef aft l c made N kv tv m) : Book (w.setCell ⟨g, o, none⟩ v) C B bef aft l c made N kv tv m := by
  subst ht
  refine ⟨h.blk.far (p := ⟨g, o, none⟩) (fun e => ?_) v, row_setCell h.keys hg (by decide) o v, row_setCell h.things hg (by decide) o v, h.places.setCell hg o v, h.inB, h.inK, h.inT, h.inM, fun p hp => row_setCell (h.froms p hp) hg (by decide) o v, h.fromsLen, h.codes, h.sizes, h.few, h.room⟩
  have hb := h.blk
  simp only at e
  rw [e] at hb
  have := hb.symm.trans hg
  simp at this

set_option maxRecDepth 100000 in
set_option maxHeartbeats 2000000 in
theorem enter_done {w : World} {C : Nat → Prop} {B : Nat} {bef aft : Int} {l : List SRow} {c : Yd.Acc} {made : Int} {N : Nat} {kv tv : Value} {m : Nat} (h : Book w C B bef aft l c made N kv tv m) (hC : ∀ k, C k → k < w.heap.size)
    (k : Nat) (hk : k < 8) (kind day : Int) (hkd : kind = ((k + 1 : Nat) : Int)) (code other : Code) (al ah bl bh : Int) (hmd : 0 ≤ made ∧ made ≤ 1000000) {ss : List (Stk Code)} {c' : Yd.Acc} {N' : Nat}
    (hen : ∀ args w, (callFunc (fDo (k + 1)) args).run Try.prog w = .ok (.enter (fDo (k + 1)) args) w)
    (hdo : ∀ W, Book W C B bef aft l c made N kv tv m → (∀ k, C k → k < W.heap.size) → Calls Try.prog (fDo (k + 1)) #[.pointer (some ⟨B, 0, none⟩), .agg #[.int .i64 kind, .int .i64 day, .string code, .string other, .int .i64 al, .int .i64 ah, .int .i64 bl, .int .i64 bh]] W (DeedDone W C B bef aft ss c' made N' m)) :
    Calls Try.prog 26 #[.pointer (some ⟨B, 0, none⟩), .agg #[.int .i64 kind, .int .i64 day, .string code, .string other, .int .i64 al, .int .i64 ah, .int .i64 bl, .int .i64 bh]] w (Entered w C B bef aft ss c' (made + 1) N' m) := by
  have hmf : ∀ (fn : Fn) (first cap : Array Value) (w : World), (Instr.makeFunc fn first cap).run Try.prog w = .ok (.func fn first cap) w := fun _ _ _ _ => rfl
  have HDO := Lib.hid hdo
  have HC := Lib.hid hC
  have HB := Lib.hid h
  have HKD := Lib.hid hkd
  obtain ⟨s, hs⟩ : ∃ s : ByteArray, s = ⟨(fWord (k + 1)).toArray⟩ := ⟨_, rfl⟩
  obtain ⟨b, hb⟩ : ∃ b, b = fOther (k + 1) := ⟨_, rfl⟩
  obtain ⟨mn, hmn⟩ : ∃ n, n = (fMost (k + 1)).length := ⟨_, rfl⟩
  obtain ⟨F, hF⟩ : ∃ n, n = fDo (k + 1) := ⟨_, rfl⟩
  rw [← hF] at hen HDO
  have HSS := Lib.hid hs; have HBB := Lib.hid hb; have HMN := Lib.hid hmn; have HFF := Lib.hid hF
  clear hdo hC h hkd hs hb hmn hF
  obtain ⟨hm0, hm1⟩ := hmd
  have HD1 := Lib.hid ((boxed_deed HB.out HC.out [.int .i64 kind, .int .i64 day, .string code, .string other, .int .i64 al, .int .i64 ah, .int .i64 bl, .int .i64 bh]).alloc 38 [.int .i64 0] (g := w.heap.size + 1) (World.size_alloc _ _))
  go_enter_defers Try.func26, Try.ntmps26
  go_wp2_with (first
    | (go_at_call 40; refine (formOf_yes k hk kind HKD.out).mono ?_; rintro e w1 ⟨ma, rfl, hb1, _, _⟩; rw [← HKD.out, ← HSS.out, ← HBB.out, ← HMN.out, ← HFF.out]; have HD2 := Lib.hid (HD1.out.below hb1); clear hb1; have d0 := (show w1.cell? ⟨w.heap.size, 0, none⟩ = some (.int .i64 kind) from HD2.out.at 0 0 rfl rfl); have d1 := (show w1.cell? ⟨w.heap.size, 1, none⟩ = some (.int .i64 day) from HD2.out.at 0 1 rfl rfl); have d2 := (show w1.cell? ⟨w.heap.size, 2, none⟩ = some (.string code) from HD2.out.at 0 2 rfl rfl); have d3 := (show w1.cell? ⟨w.heap.size, 3, none⟩ = some (.string other) from HD2.out.at 0 3 rfl rfl); have d4 := (show w1.cell? ⟨w.heap.size, 4, none⟩ = some (.int .i64 al) from HD2.out.at 0 4 rfl rfl); have d5 := (show w1.cell? ⟨w.heap.size, 5, none⟩ = some (.int .i64 ah) from HD2.out.at 0 5 rfl rfl); have d6 := (show w1.cell? ⟨w.heap.size, 6, none⟩ = some (.int .i64 bl) from HD2.out.at 0 6 rfl rfl); have d7 := (show w1.cell? ⟨w.heap.size, 7, none⟩ = some (.int .i64 bh) from HD2.out.at 0 7 rfl rfl); have hz1 : w.heap.size < w1.heap.size := (HD2.out.far 0 rfl).2.1)
    | fail)
  have HD3 := Lib.hid (HD2.out.alloc 90 [.int .i64 kind, .string s, .bool b, .slice ma mn mn, .func (.func F) #[] #[]] rfl)
  clear d0 d1 d2 d3 d4 d5 d6 d7
  go_wp2_with (refine (HDO.out _ HD3.out.book (fun j hj => Nat.lt_of_lt_of_le (HC.out j hj) HD3.out.beside.size)).mono ?_; rintro e w3 ⟨rfl, hbs, rows, kv', tv', hrows, hk3⟩; have HBS := Lib.hid hbs; have HRW := Lib.hid hrows; have HK3 := Lib.hid hk3; have HF3 := Lib.hid (hbs.blk (HD3.out.loc 1 _ _ _ rfl).1 (HD3.out.far 1 rfl).2.2.1); have hBF : B ≠ w.heap.size + 1 := Ne.symm (HD3.out.far 1 rfl).2.2.2; have q17 := hk3.blk.at 17 (.int .i64 made) rfl; have f17 := hk3.blk.frozen 17; have HF4 := Lib.hid (HF3.out.far (p := ⟨B, 17, none⟩) (Ne.symm hBF) (.int .i64 (made + 1))); have q0 := HF4.out.at 0 _ rfl; have f0 := HF4.out.frozen 0; clear hbs hrows hk3)
  refine leaves_cons (f := 39) (args := #[.pointer (some ⟨w.heap.size + 1, 0, none⟩)]) (by simp) (by simp [go_sem]) ?_
  refine (catch_idle ⟨w.heap.size + 1, 0, none⟩ _).mono ?_
  rintro e u' w'' ⟨rfl, rfl, rfl⟩
  have hkB := HK3.out.setOwn [.int .i64 bef, .int .i64 aft, kv', tv', .map (some m), .int .i64 c'.vapour.lo, .int .i64 c'.vapour.hi, .int .i64 c'.broth.lo, .int .i64 c'.broth.hi, .int .i64 c'.dust.lo, .int .i64 c'.dust.hi, .int .i64 c'.soldDry.lo, .int .i64 c'.soldDry.hi, .int .i64 c'.soldWater.lo, .int .i64 c'.soldWater.hi, .int .i64 c'.soaked.lo, .int .i64 c'.soaked.hi] [.int .i64 made] [] [.int .i64 (made + 1)] (c' := c') (made' := made + 1) rfl rfl rfl
  have hkB : Book (w3.setCell ⟨B, 17, none⟩ (.int .i64 (made + 1))) _ B bef aft rows c' (made + 1) N' kv' tv' m := hkB
  have hF5 := HF4.out.set_ 0 (.int .i64 0)
  have hres := hF5.at 0 (.int .i64 0) rfl
  have hB5 : Beside C w ((w3.setCell ⟨B, 17, none⟩ (.int .i64 (made + 1))).setCell ⟨w.heap.size + 1, 0, none⟩ (.int .i64 0)) :=
    (((HD3.out.beside.mono (C1 := C) (fun _ f => f.elim)).trans HBS.out (fun k hk => .inl hk)).setCell (p := ⟨B, 17, none⟩) (.inl HB.out.inB) _).setCell (p := ⟨w.heap.size + 1, 0, none⟩) (.inr (Nat.le_succ _)) _
  have hk5 := Book.far HF4.out (by decide) 0 (.int .i64 0) hkB
  generalize (w3.setCell ⟨B, 17, none⟩ (.int .i64 (made + 1))).setCell ⟨w.heap.size + 1, 0, none⟩ (.int .i64 0) = W5 at hres hB5 hk5 ⊢
  simp [Leaves, settle, results, Try.results26, go_sem, hres]
  refine ⟨rfl, hB5, rows, kv', tv', HRW.out, hk5.wide (fun k hk => ?_)⟩
  rcases hk with hk | hk
  · exact .inl hk
  · exact .inr (Nat.le_trans HD3.out.beside.size hk)

set_option maxRecDepth 100000 in
set_option maxHeartbeats 2000000 in
theorem enter_fault {w : World} {C : Nat → Prop} {B : Nat} {bef aft : Int} {l : List SRow} {c : Yd.Acc} {made : Int} {N : Nat} {kv tv : Value} {m : Nat} (h : Book w C B bef aft l c made N kv tv m) (hC : ∀ k, C k → k < w.heap.size)
    (k : Nat) (hk : k < 8) (kind day : Int) (hkd : kind = ((k + 1 : Nat) : Int)) (code other : Code) (al ah bl bh : Int) (f : Int)
    (hen : ∀ args w, (callFunc (fDo (k + 1)) args).run Try.prog w = .ok (.enter (fDo (k + 1)) args) w)
    (hdo : ∀ W, Book W C B bef aft l c made N kv tv m → (∀ k, C k → k < W.heap.size) → Calls Try.prog (fDo (k + 1)) #[.pointer (some ⟨B, 0, none⟩), .agg #[.int .i64 kind, .int .i64 day, .string code, .string other, .int .i64 al, .int .i64 ah, .int .i64 bl, .int .i64 bh]] W fun e w' => e = .panicked (faulty f) ∧ Below W.heap.size W w') :
    Calls Try.prog 26 #[.pointer (some ⟨B, 0, none⟩), .agg #[.int .i64 kind, .int .i64 day, .string code, .string other, .int .i64 al, .int .i64 ah, .int .i64 bl, .int .i64 bh]] w fun e w' => e = .returned (.int .i64 f) ∧ Below w.heap.size w w' := by
  have hmf : ∀ (fn : Fn) (first cap : Array Value) (w : World), (Instr.makeFunc fn first cap).run Try.prog w = .ok (.func fn first cap) w := fun _ _ _ _ => rfl
  have HDO := Lib.hid hdo
  have HC := Lib.hid hC
  have HB := Lib.hid h
  have HKD := Lib.hid hkd
  obtain ⟨s, hs⟩ : ∃ s : ByteArray, s = ⟨(fWord (k + 1)).toArray⟩ := ⟨_, rfl⟩
  obtain ⟨b, hb⟩ : ∃ b, b = fOther (k + 1) := ⟨_, rfl⟩
  obtain ⟨mn, hmn⟩ : ∃ n, n = (fMost (k + 1)).length := ⟨_, rfl⟩
  obtain ⟨F, hF⟩ : ∃ n, n = fDo (k + 1) := ⟨_, rfl⟩
  rw [← hF] at hen HDO
  have HSS := Lib.hid hs; have HBB := Lib.hid hb; have HMN := Lib.hid hmn; have HFF := Lib.hid hF
  clear hdo hC h hkd hs hb hmn hF
  have HD1 := Lib.hid ((boxed_deed HB.out HC.out [.int .i64 kind, .int .i64 day, .string code, .string other, .int .i64 al, .int .i64 ah, .int .i64 bl, .int .i64 bh]).alloc 38 [.int .i64 0] (g := w.heap.size + 1) (World.size_alloc _ _))
  go_enter_defers Try.func26, Try.ntmps26
  go_wp2_with (first
    | (go_at_call 40; refine (formOf_yes k hk kind HKD.out).mono ?_; rintro e w1 ⟨ma, rfl, hb1, _, _⟩; rw [← HKD.out, ← HSS.out, ← HBB.out, ← HMN.out, ← HFF.out]; have HD2 := Lib.hid (HD1.out.below hb1); clear hb1; have d0 := (show w1.cell? ⟨w.heap.size, 0, none⟩ = some (.int .i64 kind) from HD2.out.at 0 0 rfl rfl); have d1 := (show w1.cell? ⟨w.heap.size, 1, none⟩ = some (.int .i64 day) from HD2.out.at 0 1 rfl rfl); have d2 := (show w1.cell? ⟨w.heap.size, 2, none⟩ = some (.string code) from HD2.out.at 0 2 rfl rfl); have d3 := (show w1.cell? ⟨w.heap.size, 3, none⟩ = some (.string other) from HD2.out.at 0 3 rfl rfl); have d4 := (show w1.cell? ⟨w.heap.size, 4, none⟩ = some (.int .i64 al) from HD2.out.at 0 4 rfl rfl); have d5 := (show w1.cell? ⟨w.heap.size, 5, none⟩ = some (.int .i64 ah) from HD2.out.at 0 5 rfl rfl); have d6 := (show w1.cell? ⟨w.heap.size, 6, none⟩ = some (.int .i64 bl) from HD2.out.at 0 6 rfl rfl); have d7 := (show w1.cell? ⟨w.heap.size, 7, none⟩ = some (.int .i64 bh) from HD2.out.at 0 7 rfl rfl); have hz1 : w.heap.size < w1.heap.size := (HD2.out.far 0 rfl).2.1)
    | fail)
  have HD3 := Lib.hid (HD2.out.alloc 90 [.int .i64 kind, .string s, .bool b, .slice ma mn mn, .func (.func F) #[] #[]] rfl)
  clear d0 d1 d2 d3 d4 d5 d6 d7
  go_wp2_with (refine (HDO.out _ HD3.out.book (fun j hj => Nat.lt_of_lt_of_le (HC.out j hj) HD3.out.beside.size)).mono ?_; rintro e w3 ⟨rfl, hbs⟩; have HD4 := Lib.hid (HD3.out.below hbs); clear hbs)
  refine leaves_cons (f := 39) (args := #[.pointer (some ⟨w.heap.size + 1, 0, none⟩)]) (by simp) (by simp [go_sem]) ?_
  refine (catch_fault ⟨w.heap.size + 1, 0, none⟩ 0 f [] _ (HD4.out.at 1 0 rfl rfl) ((HD4.out.loc 1 _ _ _ rfl).1.frozen 0)).mono ?_
  rintro e u' w'' ⟨rfl, rfl, rfl⟩
  have hres := ((HD4.out.loc 1 _ _ _ rfl).1.set_ 0 (.int .i64 f)).at 0 (.int .i64 f) rfl
  have hB5 := HD4.out.quiet.setCell (p := ⟨w.heap.size + 1, 0, none⟩) (Nat.le_succ _) (.int .i64 f)
  generalize w3.setCell ⟨w.heap.size + 1, 0, none⟩ (.int .i64 f) = W5 at hres hB5 ⊢
  simp [Leaves, settle, results, Try.results26, go_sem, hres]
  exact hB5
end Go.Proofs.Ytbgojeppfhldjaa
