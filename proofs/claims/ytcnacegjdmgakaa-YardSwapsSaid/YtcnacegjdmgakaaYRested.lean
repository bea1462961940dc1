/- The book: a stack that rested for long enough. -/
import Derived.Test.YtcnacegjdmgakaaYNeed
import Derived.Test.YtcnacegjdmgakaaYSplit
namespace Go.Proofs.Ytcnacegjdmgakaa
open Go Go.RowKit Yd

/-- A stack was boiled, and rested long enough behind it. -/
def restedB (aft : Int) (x : Stk Code) (day : Int) : Bool := !(x.boiled == -1) && decide (aft ≤ day - x.boiled)

set_option maxRecDepth 100000 in
set_option maxHeartbeats 1000000 in
theorem rested_ok {w : World} {C : Nat → Prop} {B : Nat} {bef aft : Int} {l : List SRow} {c : Yd.Acc} {made : Int} {N : Nat} {kv tv : Value} {m : Nat} (h : Book w C B bef aft l c made N kv tv m)
    (x : Stk Code) (fa : Option Addr) (fn fc : Nat) (day : Int) (hd : 0 ≤ day ∧ day ≤ 1000000) (hb : -1 ≤ x.boiled ∧ x.boiled ≤ 1000000) (hr : restedB aft x day = true) :
    Calls Try.prog 99 #[.pointer (some ⟨B, 0, none⟩), .agg #[.string x.code, .int .i64 x.dry.lo, .int .i64 x.dry.hi, .int .i64 x.water.lo, .int .i64 x.water.hi, .int .i64 x.piled, .int .i64 x.boiled, .slice fa fn fc], .int .i64 day] w fun e w' => e = .returned (.tuple #[]) ∧ Below w.heap.size w w' := by
  obtain ⟨hd0, hd1⟩ := hd
  obtain ⟨hb0, hb1⟩ := hb
  have hx := hr
  simp only [restedB, Bool.and_eq_true, Bool.not_eq_true', beq_eq_false_iff_ne, decide_eq_true_eq] at hx
  obtain ⟨hx1, hx2⟩ := hx
  have d1 : (x.boiled == -1) = false := by simpa using hx1
  have d2 : (x.boiled != -1) = true := by simpa using hx1
  have d3 : decide (aft ≤ day - x.boiled) = true := by simpa using hx2
  clear hx1 hx2 hr
  have kB := (h.blk.alloc (.cells #[.string x.code, .int .i64 x.dry.lo, .int .i64 x.dry.hi, .int .i64 x.water.lo, .int .i64 x.water.hi, .int .i64 x.piled, .int .i64 x.boiled, .slice fa fn fc] 49)).at 1 (.int .i64 aft) rfl
  have kS := (Blk.new w 49 #[.string x.code, .int .i64 x.dry.lo, .int .i64 x.dry.hi, .int .i64 x.water.lo, .int .i64 x.water.hi, .int .i64 x.piled, .int .i64 x.boiled, .slice fa fn fc]).at 6 (.int .i64 x.boiled) rfl
  have HB0 := Lib.hid ((Below.refl w.heap.size w).alloc (Nat.le_refl _) (.cells #[.string x.code, .int .i64 x.dry.lo, .int .i64 x.dry.hi, .int .i64 x.water.lo, .int .i64 x.water.hi, .int .i64 x.piled, .int .i64 x.boiled, .slice fa fn fc] 49))
  clear h
  go_enter Try.func99, Try.ntmps99
  go_wp2
  generalize w.alloc (.cells #[.string x.code, .int .i64 x.dry.lo, .int .i64 x.dry.hi, .int .i64 x.water.lo, .int .i64 x.water.hi, .int .i64 x.piled, .int .i64 x.boiled, .slice fa fn fc] 49) = W at kB kS HB0 ⊢
  have cB := cell_regrown kB
  have cS := cell_regrown kS
  clear kB kS
  refine region_split_below 14 (by kernel_rfl) (by kernel_rfl) (by kernel_rfl) ?_
  simp only [List.take_succ_cons, List.take_zero, List.drop_succ_cons, List.drop_zero]
  repeat (go_big_quiet_step (fail))
  refine wpQuiet_nil ?_
  intro w8 hw'
  have hb8 : Below W.heap.size W w8 := by obtain ⟨⟨dq, osq⟩, hw''⟩ := hw'; rw [hw'']; exact below_regrown W dq osq
  clear hw' cB cS
  go_wp2_with (go_at_call 98; refine (need_true _ _).mono ?_; rintro e w2 ⟨rfl, rfl⟩)
  go_end0
  exact ⟨rfl, HB0.out.trans (hb8.mono HB0.out.size)⟩

set_option maxRecDepth 100000 in
set_option maxHeartbeats 1000000 in
theorem rested_never {w : World} {C : Nat → Prop} {B : Nat} {bef aft : Int} {l : List SRow} {c : Yd.Acc} {made : Int} {N : Nat} {kv tv : Value} {m : Nat} (h : Book w C B bef aft l c made N kv tv m)
    (x : Stk Code) (fa : Option Addr) (fn fc : Nat) (day : Int) (hd : 0 ≤ day ∧ day ≤ 1000000) (hb : -1 ≤ x.boiled ∧ x.boiled ≤ 1000000) (hr : x.boiled = -1) :
    Calls Try.prog 99 #[.pointer (some ⟨B, 0, none⟩), .agg #[.string x.code, .int .i64 x.dry.lo, .int .i64 x.dry.hi, .int .i64 x.water.lo, .int .i64 x.water.hi, .int .i64 x.piled, .int .i64 x.boiled, .slice fa fn fc], .int .i64 day] w fun e w' => e = .panicked (faulty 3) ∧ Below w.heap.size w w' := by
  obtain ⟨hd0, hd1⟩ := hd
  obtain ⟨hb0, hb1⟩ := hb
  have kB := (h.blk.alloc (.cells #[.string x.code, .int .i64 x.dry.lo, .int .i64 x.dry.hi, .int .i64 x.water.lo, .int .i64 x.water.hi, .int .i64 x.piled, .int .i64 x.boiled, .slice fa fn fc] 49)).at 1 (.int .i64 aft) rfl
  have kS := (Blk.new w 49 #[.string x.code, .int .i64 x.dry.lo, .int .i64 x.dry.hi, .int .i64 x.water.lo, .int .i64 x.water.hi, .int .i64 x.piled, .int .i64 x.boiled, .slice fa fn fc]).at 6 (.int .i64 x.boiled) rfl
  have HR := Lib.hid hr; clear hr
  have HB0 := Lib.hid ((Below.refl w.heap.size w).alloc (Nat.le_refl _) (.cells #[.string x.code, .int .i64 x.dry.lo, .int .i64 x.dry.hi, .int .i64 x.water.lo, .int .i64 x.water.hi, .int .i64 x.piled, .int .i64 x.boiled, .slice fa fn fc] 49))
  clear h
  go_enter Try.func99, Try.ntmps99
  go_wp2
  generalize w.alloc (.cells #[.string x.code, .int .i64 x.dry.lo, .int .i64 x.dry.hi, .int .i64 x.water.lo, .int .i64 x.water.hi, .int .i64 x.piled, .int .i64 x.boiled, .slice fa fn fc] 49) = W at kB kS HB0 ⊢
  rw [HR.out] at kS
  have cB := cell_regrown kB
  have cS := cell_regrown kS
  clear kB kS
  refine region_split_below 14 (by kernel_rfl) (by kernel_rfl) (by kernel_rfl) ?_
  simp only [List.take_succ_cons, List.take_zero, List.drop_succ_cons, List.drop_zero]
  repeat (go_big_quiet_step (fail))
  refine wpQuiet_nil ?_
  intro w8 hw'
  have hb8 : Below W.heap.size W w8 := by obtain ⟨⟨dq, osq⟩, hw''⟩ := hw'; rw [hw'']; exact below_regrown W dq osq
  clear hw' cB cS
  go_wp2_with (go_at_call 98; refine (need_false _ _).mono ?_; rintro e w2 ⟨rfl, rfl⟩)
  exact ⟨rfl, rfl, HB0.out.trans (hb8.mono HB0.out.size)⟩

set_option maxRecDepth 100000 in
set_option maxHeartbeats 1000000 in
theorem rested_early {w : World} {C : Nat → Prop} {B : Nat} {bef aft : Int} {l : List SRow} {c : Yd.Acc} {made : Int} {N : Nat} {kv tv : Value} {m : Nat} (h : Book w C B bef aft l c made N kv tv m)
    (x : Stk Code) (fa : Option Addr) (fn fc : Nat) (day : Int) (hd : 0 ≤ day ∧ day ≤ 1000000) (hb : -1 ≤ x.boiled ∧ x.boiled ≤ 1000000) (hr : ¬ x.boiled = -1) (he : ¬ aft ≤ day - x.boiled) :
    Calls Try.prog 99 #[.pointer (some ⟨B, 0, none⟩), .agg #[.string x.code, .int .i64 x.dry.lo, .int .i64 x.dry.hi, .int .i64 x.water.lo, .int .i64 x.water.hi, .int .i64 x.piled, .int .i64 x.boiled, .slice fa fn fc], .int .i64 day] w fun e w' => e = .panicked (faulty 3) ∧ Below w.heap.size w w' := by
  obtain ⟨hd0, hd1⟩ := hd
  obtain ⟨hb0, hb1⟩ := hb
  have d1 : (x.boiled == -1) = false := by simpa using hr
  have d2 : (x.boiled != -1) = true := by simpa using hr
  have d3 : decide (aft ≤ day - x.boiled) = false := by simpa using he
  clear hr he
  have kB := (h.blk.alloc (.cells #[.string x.code, .int .i64 x.dry.lo, .int .i64 x.dry.hi, .int .i64 x.water.lo, .int .i64 x.water.hi, .int .i64 x.piled, .int .i64 x.boiled, .slice fa fn fc] 49)).at 1 (.int .i64 aft) rfl
  have kS := (Blk.new w 49 #[.string x.code, .int .i64 x.dry.lo, .int .i64 x.dry.hi, .int .i64 x.water.lo, .int .i64 x.water.hi, .int .i64 x.piled, .int .i64 x.boiled, .slice fa fn fc]).at 6 (.int .i64 x.boiled) rfl
  have HB0 := Lib.hid ((Below.refl w.heap.size w).alloc (Nat.le_refl _) (.cells #[.string x.code, .int .i64 x.dry.lo, .int .i64 x.dry.hi, .int .i64 x.water.lo, .int .i64 x.water.hi, .int .i64 x.piled, .int .i64 x.boiled, .slice fa fn fc] 49))
  clear h
  go_enter Try.func99, Try.ntmps99
  go_wp2
  generalize w.alloc (.cells #[.string x.code, .int .i64 x.dry.lo, .int .i64 x.dry.hi, .int .i64 x.water.lo, .int .i64 x.water.hi, .int .i64 x.piled, .int .i64 x.boiled, .slice fa fn fc] 49) = W at kB kS HB0 ⊢
  have cB := cell_regrown kB
  have cS := cell_regrown kS
  clear kB kS
  refine region_split_below 14 (by kernel_rfl) (by kernel_rfl) (by kernel_rfl) ?_
  simp only [List.take_succ_cons, List.take_zero, List.drop_succ_cons, List.drop_zero]
  repeat (go_big_quiet_step (fail))
  refine wpQuiet_nil ?_
  intro w8 hw'
  have hb8 : Below W.heap.size W w8 := by obtain ⟨⟨dq, osq⟩, hw''⟩ := hw'; rw [hw'']; exact below_regrown W dq osq
  clear hw' cB cS
  go_wp2_with (go_at_call 98; refine (need_false _ _).mono ?_; rintro e w2 ⟨rfl, rfl⟩)
  exact ⟨rfl, rfl, HB0.out.trans (hb8.mono HB0.out.size)⟩

theorem rested_no {w : World} {C : Nat → Prop} {B : Nat} {bef aft : Int} {l : List SRow} {c : Yd.Acc} {made : Int} {N : Nat} {kv tv : Value} {m : Nat} (h : Book w C B bef aft l c made N kv tv m)
    (x : Stk Code) (fa : Option Addr) (fn fc : Nat) (day : Int) (hd : 0 ≤ day ∧ day ≤ 1000000) (hb : -1 ≤ x.boiled ∧ x.boiled ≤ 1000000) (hr : restedB aft x day = false) :
    Calls Try.prog 99 #[.pointer (some ⟨B, 0, none⟩), .agg #[.string x.code, .int .i64 x.dry.lo, .int .i64 x.dry.hi, .int .i64 x.water.lo, .int .i64 x.water.hi, .int .i64 x.piled, .int .i64 x.boiled, .slice fa fn fc], .int .i64 day] w fun e w' => e = .panicked (faulty 3) ∧ Below w.heap.size w w' := by
  by_cases hx : x.boiled = -1
  · exact rested_never h x fa fn fc day hd hb hx
  · refine rested_early h x fa fn fc day hd hb hx (fun he => ?_)
    simp [restedB, hx, he] at hr
end Go.Proofs.Ytcnacegjdmgakaa
