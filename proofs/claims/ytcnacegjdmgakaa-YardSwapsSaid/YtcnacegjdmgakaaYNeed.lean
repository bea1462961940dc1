/- The book: what gives up on a deed; the stack with a code; a new code; a stack that rested. -/
import Derived.Test.YtcnacegjdmgakaaYGet
namespace Go.Proofs.Ytcnacegjdmgakaa
open Go Go.RowKit Yd

theorem size_stack : (Try.prog.info? 49).map (·.size) = some 8 := by kernel_rfl
/-- A deed's fault, as a panic. -/
def faulty (f : Int) : List PanicEntry := [{ v := .iface 110 (.int .i64 f), recovered := false }]

set_option maxRecDepth 100000 in
set_option maxHeartbeats 1000000 in
theorem need_true (f : Int) (w : World) : Calls Try.prog 98 #[.bool true, .int .i64 f] w fun e w' => e = .returned (.tuple #[]) ∧ w = w' := by
  go_enter Try.func98, Try.ntmps98
  go_wp2
  go_end0
  exact ⟨rfl, rfl⟩
set_option maxRecDepth 100000 in
set_option maxHeartbeats 1000000 in
theorem need_false (f : Int) (w : World) : Calls Try.prog 98 #[.bool false, .int .i64 f] w fun e w' => e = .panicked (faulty f) ∧ w = w' := by
  go_enter Try.func98, Try.ntmps98
  go_wp2
  exact ⟨rfl, rfl, rfl⟩

set_option maxRecDepth 100000 in
set_option maxHeartbeats 1000000 in
theorem stack_yes {w : World} {C : Nat → Prop} {B : Nat} {bef aft : Int} {l : List SRow} {c : Yd.Acc} {made : Int} {N : Nat} {kv tv : Value} {m : Nat} (h : Book w C B bef aft l c made N kv tv m)
    (code : Code) (hs : code.size ≤ maxLen) {k : Nat} {p : SRow} (hk : ixOf l code = some k) (hp : l[k]? = some p) :
    Calls Try.prog 94 #[.pointer (some ⟨B, 0, none⟩), .string code] w fun e w' => e = .returned (.agg (rowCells p).toArray) ∧ Below w.heap.size w w' := by
  obtain ⟨fa, fn, fc, hfv⟩ := row_slice (h.froms _ (List.mem_of_getElem? hp))
  have HG := Lib.hid (get_yes (h.alloc (.cells zeroStack 49)) code hs hk hp)
  obtain ⟨x, fv⟩ := p
  subst hfv
  have HK0 := Lib.hid (Blk.new w 49 zeroStack)
  have HO := Lib.hid (show (#[.string x.code, .int .i64 x.dry.lo, .int .i64 x.dry.hi, .int .i64 x.water.lo, .int .i64 x.water.hi, .int .i64 x.piled, .int .i64 x.boiled, .slice fa fn fc] : Array Value).all (·.oneCell') = true from by simp [Value.oneCell'])
  simp only [rowCells, stkCells, zeroStack] at HG HK0 ⊢
  clear h hk hp
  go_enter Try.func94, Try.ntmps94
  go_wp2_with (first
    | (go_at_call 106; refine HG.out.mono ?_; rintro e w1 ⟨rfl, hb1⟩; have HK1 := Lib.hid ((HK0.out.below hb1).alloc (.cells #[.string x.code, .int .i64 x.dry.lo, .int .i64 x.dry.hi, .int .i64 x.water.lo, .int .i64 x.water.hi, .int .i64 x.piled, .int .i64 x.boiled, .slice fa fn fc] 49)); have HB1 := Lib.hid (((Below.refl w.heap.size w).alloc (Nat.le_refl _) (.cells #[.string ⟨#[]⟩, .int .i64 0, .int .i64 0, .int .i64 0, .int .i64 0, .int .i64 0, .int .i64 0, .slice none 0 0] 49)).trans (hb1.mono (by rw [World.size_alloc]; omega))); clear hb1)
    | (go_at_call 98; refine (need_true _ _).mono ?_; rintro e w2 ⟨rfl, rfl⟩)
    | ((with_reducible refine at_store 49 (.tmp 4) (.tmp 17) ?_); go_must (refine wpList_store_mid rfl 49 (.tmp 4) (.tmp 17) rfl w.heap.size 0 #[.string x.code, .int .i64 x.dry.lo, .int .i64 x.dry.hi, .int .i64 x.water.lo, .int .i64 x.water.hi, .int .i64 x.piled, .int .i64 x.boiled, .slice fa fn fc] rfl rfl (HK1.out.there (Nat.le_of_ble_eq_true rfl)) size_stack HO.out ?_)))
  have hk2 := HK1.out.stored (old := [.string ⟨#[]⟩, .int .i64 0, .int .i64 0, .int .i64 0, .int .i64 0, .int .i64 0, .int .i64 0, .slice none 0 0]) [.string x.code, .int .i64 x.dry.lo, .int .i64 x.dry.hi, .int .i64 x.water.lo, .int .i64 x.water.hi, .int .i64 x.piled, .int .i64 x.boiled, .slice fa fn fc] rfl
  exact bodyPost_ret (results_cell_row rfl _ _ w.heap.size 49 _ (0, 0) _ rfl hk2 Try.underlying49 rfl size_stack) rfl ⟨rfl, below_setCells (HB1.out.alloc HB1.out.size _) (Nat.le_refl _) _ 0⟩

set_option maxRecDepth 100000 in
set_option maxHeartbeats 1000000 in
theorem stack_no {w : World} {C : Nat → Prop} {B : Nat} {bef aft : Int} {l : List SRow} {c : Yd.Acc} {made : Int} {N : Nat} {kv tv : Value} {m : Nat} (h : Book w C B bef aft l c made N kv tv m)
    (code : Code) (hs : code.size ≤ maxLen) (hn : ixOf l code = none) :
    Calls Try.prog 94 #[.pointer (some ⟨B, 0, none⟩), .string code] w fun e w' => e = .panicked (faulty 1) ∧ Below w.heap.size w w' := by
  have HG := Lib.hid (get_no (h.alloc (.cells zeroStack 49)) code hs hn)
  simp only [zeroStack] at HG
  clear h hn
  go_enter Try.func94, Try.ntmps94
  go_wp2_with (first
    | (go_at_call 106; refine HG.out.mono ?_; rintro e w1 ⟨rfl, hb1⟩; have HB1 := Lib.hid (((Below.refl w.heap.size w).alloc (Nat.le_refl _) (.cells #[.string ⟨#[]⟩, .int .i64 0, .int .i64 0, .int .i64 0, .int .i64 0, .int .i64 0, .int .i64 0, .slice none 0 0] 49)).trans (hb1.mono (by rw [World.size_alloc]; omega))); clear hb1)
    | (go_at_call 98; refine (need_false _ _).mono ?_; rintro e w2 ⟨rfl, rfl⟩))
  exact ⟨rfl, rfl, HB1.out.alloc HB1.out.size _⟩

set_option maxRecDepth 100000 in
set_option maxHeartbeats 1000000 in
theorem needNew_found {w : World} {C : Nat → Prop} {B : Nat} {bef aft : Int} {l : List SRow} {c : Yd.Acc} {made : Int} {N : Nat} {kv tv : Value} {m : Nat} (h : Book w C B bef aft l c made N kv tv m)
    (code : Code) (hs : code.size ≤ maxLen) {k : Nat} {p : SRow} (hk : ixOf l code = some k) (hp : l[k]? = some p) :
    Calls Try.prog 92 #[.pointer (some ⟨B, 0, none⟩), .string code] w fun e w' => e = .panicked (faulty 1) ∧ Below w.heap.size w w' := by
  obtain ⟨fa, fn, fc, hfv⟩ := row_slice (h.froms _ (List.mem_of_getElem? hp))
  have HG := Lib.hid (get_yes h code hs hk hp)
  obtain ⟨x, fv⟩ := p
  subst hfv
  simp only [rowCells, stkCells] at HG
  clear h hk hp
  go_enter Try.func92, Try.ntmps92
  go_wp2_with (first
    | (go_at_call 106; refine HG.out.mono ?_; rintro e w1 ⟨rfl, hb1⟩; have HB1 := Lib.hid (hb1); clear hb1)
    | (go_at_call 98; refine (need_false _ _).mono ?_; rintro e w2 ⟨rfl, rfl⟩))
  exact ⟨rfl, rfl, HB1.out.alloc HB1.out.size _⟩

set_option maxRecDepth 100000 in
set_option maxHeartbeats 1000000 in
theorem needNew_full {w : World} {C : Nat → Prop} {B : Nat} {bef aft : Int} {l : List SRow} {c : Yd.Acc} {made : Int} {N : Nat} {kv tv : Value} {m : Nat} (h : Book w C B bef aft l c made N kv tv m)
    (code : Code) (hs : code.size ≤ maxLen) (hn : ixOf l code = none) (h8 : 8 ≤ l.length) :
    Calls Try.prog 92 #[.pointer (some ⟨B, 0, none⟩), .string code] w fun e w' => e = .panicked (faulty 2) ∧ Below w.heap.size w w' := by
  have HG := Lib.hid (get_no h code hs hn)
  obtain ⟨ta, tn, tc, htv⟩ := row_slice h.things
  have htn : tn = l.length := by
    rcases h.things.2 with ⟨_, h0⟩ | ⟨g, cap, cur, h1, _⟩
    · omega
    · rw [htv] at h1; cases h1; rfl
  have c3 := h.blk.at 3 tv rfl
  have hB := h.blk.lt
  subst htv
  have d8 : decide ((tn : Int) < 8) = false := by simp; omega
  have d8' : decide (tn < 8) = false := by simp; omega
  simp only [zeroStack] at HG
  clear h hn htn h8
  go_enter Try.func92, Try.ntmps92
  go_wp2_with (first
    | (go_at_call 106; refine HG.out.mono ?_; rintro e w1 ⟨rfl, hb1⟩; have k3 := (hb1.cell (p := ⟨B, 3, none⟩) hB).trans c3; have hB1 : B < w1.heap.size := Nat.lt_of_lt_of_le hB hb1.size; have HB1 := Lib.hid (hb1); clear hb1 c3)
    | (go_at_call 98; refine (need_true 1 _).mono ?_; rintro e w2 ⟨rfl, rfl⟩)
    | (go_at_call 98; refine (need_false 2 _).mono ?_; rintro e w2 ⟨rfl, rfl⟩))
  exact ⟨rfl, rfl, HB1.out.alloc HB1.out.size _⟩

set_option maxRecDepth 100000 in
set_option maxHeartbeats 1000000 in
theorem needNew_ok {w : World} {C : Nat → Prop} {B : Nat} {bef aft : Int} {l : List SRow} {c : Yd.Acc} {made : Int} {N : Nat} {kv tv : Value} {m : Nat} (h : Book w C B bef aft l c made N kv tv m)
    (code : Code) (hs : code.size ≤ maxLen) (hn : ixOf l code = none) (h8 : l.length < 8) :
    Calls Try.prog 92 #[.pointer (some ⟨B, 0, none⟩), .string code] w fun e w' => e = .returned (.tuple #[]) ∧ Below w.heap.size w w' := by
  have HG := Lib.hid (get_no h code hs hn)
  obtain ⟨ta, tn, tc, htv⟩ := row_slice h.things
  have htn : tn = l.length := by
    rcases h.things.2 with ⟨h1, h0⟩ | ⟨g, cap, cur, h1, _⟩
    · rw [htv] at h1; cases h1; omega
    · rw [htv] at h1; cases h1; rfl
  have c3 := h.blk.at 3 tv rfl
  have hB := h.blk.lt
  subst htv
  have d8 : decide ((tn : Int) < 8) = true := by simp; omega
  have d8' : decide (tn < 8) = true := by simp; omega
  simp only [zeroStack] at HG
  clear h hn htn h8
  go_enter Try.func92, Try.ntmps92
  go_wp2_with (first
    | (go_at_call 106; refine HG.out.mono ?_; rintro e w1 ⟨rfl, hb1⟩; have k3 := (hb1.cell (p := ⟨B, 3, none⟩) hB).trans c3; have hB1 : B < w1.heap.size := Nat.lt_of_lt_of_le hB hb1.size; have HB1 := Lib.hid (hb1); clear hb1 c3)
    | (go_at_call 98; refine (need_true _ _).mono ?_; rintro e w2 ⟨rfl, rfl⟩))
  go_end0
  exact ⟨rfl, HB1.out.alloc HB1.out.size _⟩
end Go.Proofs.Ytcnacegjdmgakaa
