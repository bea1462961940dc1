/- The shelf: what get returns. The book: what gives up on a deed; the stack with a code; a new code; a stack that rested. The book: a stack that rested for long enough. -/
import Derived.Test.YtbgojeppfhldjaaYBook
import Derived.Laws.ResultCell
import Derived.Deep.DeepMust
import Derived.Outline
import Derived.Test.YtbgojeppfhldjaaYSplit
namespace Go.Proofs.Ytbgojeppfhldjaa
open Go Go.RowKit Yd

theorem rows_get {l : List SRow} {k : Nat} {p : SRow} (hk : l[k]? = some p) : ∀ i, i < 8 → (rowsCells l)[8 * k + i]? = (rowCells p)[i]? := by
  induction l generalizing k with
  | nil => simp at hk
  | cons q r ih =>
    intro i hi
    have hl : (rowCells q).length = 8 := rfl
    cases k with
    | zero =>
      simp at hk; subst hk
      show (rowCells q ++ rowsCells r)[_]? = _
      rw [List.getElem?_append_left (by omega)]
      simp
    | succ k =>
      simp at hk
      show (rowCells q ++ rowsCells r)[_]? = _
      rw [List.getElem?_append_right (by omega), hl, show 8 * (k + 1) + i - 8 = 8 * k + i by omega]
      exact ih hk i hi
theorem rows_length (l : List SRow) : (rowsCells l).length = l.length * 8 := by
  induction l with
  | nil => rfl
  | cons q r ih =>
    show (rowCells q ++ rowsCells r).length = _
    rw [List.length_append, ih]
    show 8 + _ = _
    simp; omega

/-- The row of stacks in memory: where it lies. -/
theorem Book.row {w : World} {C : Nat → Prop} {B : Nat} {bef aft : Int} {l : List SRow} {c : Acc} {made : Int} {N : Nat} {kv tv : Value} {m : Nat} (h : Book w C B bef aft l c made N kv tv m) {k : Nat} {p : SRow} (hk : l[k]? = some p) :
    ∃ g cap, tv = .slice (some ⟨g, 0, none⟩) l.length cap ∧ l.length ≤ cap ∧ C g ∧ g < w.heap.size ∧ ∀ i, i < 8 → w.cell? ⟨g, k * 8 + i, none⟩ = (rowCells p)[i]? := by
  have hlt : k < l.length := (List.getElem?_eq_some_iff.1 hk).1
  obtain ⟨g, cap, cur, hv, hb, hc, _, hs, ht⟩ := row_block h.things (by omega)
  refine ⟨g, cap, hv, hc, h.inT g (by rw [hv]; rfl), hb.lt, fun i hi => ?_⟩
  rw [hb.cell, ← rows_get hk i hi, ← ht, Nat.mul_comm k 8, List.getElem?_take, if_pos (by omega)]
  simp

theorem row_slice {w : World} {base : Nat} {e : TypeId} {size n : Nat} {v : Value} {xs : List Value} (h : w.ownsRow base e size v n xs) : ∃ a n c, v = .slice a n c := by
  rcases h.2 with ⟨h0, _⟩ | ⟨g, cap, cur, h1, _⟩
  · exact ⟨_, _, _, h0⟩
  · exact ⟨_, _, _, h1⟩
def zeroStack : Array Value := #[.string ⟨#[]⟩, .int .i64 0, .int .i64 0, .int .i64 0, .int .i64 0, .int .i64 0, .int .i64 0, .slice none 0 0]

set_option maxRecDepth 100000 in
set_option maxHeartbeats 1000000 in
theorem get_no {w : World} {C : Nat → Prop} {B : Nat} {bef aft : Int} {l : List SRow} {c : Acc} {made : Int} {N : Nat} {kv tv : Value} {m : Nat} (h : Book w C B bef aft l c made N kv tv m)
    (code : Code) (hs : code.size ≤ maxLen) (hn : ixOf l code = none) :
    Calls Try.prog 83 #[.pointer (some ⟨B, 2, none⟩), .string code] w fun e w' => e = .returned (.tuple #[.agg zeroStack, .bool false]) ∧ Below w.heap.size w w' := by
  have c4 := h.blk.at 4 (.map (some m)) rfl
  have hB := h.blk.lt
  obtain ⟨i, hlk, _⟩ := (h.places.same (w' := w.alloc (.cells zeroStack 48)) (Below.heap_alloc w _ _ h.places.lt)).look hs (T := 72) Try.underlying72
  rw [hn] at hlk
  simp only [zeroStack, Option.isSome_none] at hlk ⊢
  clear h
  go_enter Try.func83, Try.ntmps83
  go_wp2
  exact bodyPost_ret (v := .tuple #[.agg #[.string ⟨#[]⟩, .int .i64 0, .int .i64 0, .int .i64 0, .int .i64 0, .int .i64 0, .int .i64 0, .slice none 0 0], .bool false]) (by simp [results, Try.results83, go_sem]) rfl ⟨rfl, by (repeat (first | (refine Below.setCell ?_ (by first | (simp; done) | (simp; omega)) _) | (refine Below.alloc ?_ (by first | (simp; done) | (simp; omega)) _) | (refine Below.drew ?_))); exact Below.refl _ _⟩

set_option maxRecDepth 100000 in
set_option maxHeartbeats 1000000 in
theorem get_yes {w : World} {C : Nat → Prop} {B : Nat} {bef aft : Int} {l : List SRow} {c : Acc} {made : Int} {N : Nat} {kv tv : Value} {m : Nat} (h : Book w C B bef aft l c made N kv tv m)
    (code : Code) (hs : code.size ≤ maxLen) {k : Nat} {p : SRow} (hk : ixOf l code = some k) (hp : l[k]? = some p) :
    Calls Try.prog 83 #[.pointer (some ⟨B, 2, none⟩), .string code] w fun e w' => e = .returned (.tuple #[.agg (rowCells p).toArray, .bool true]) ∧ Below w.heap.size w w' := by
  have c4 := h.blk.at 4 (.map (some m)) rfl
  have c3 := h.blk.at 3 tv rfl
  have hB := h.blk.lt
  obtain ⟨i, hlk, hi⟩ := (h.places.same (w' := w.alloc (.cells zeroStack 48)) (Below.heap_alloc w _ _ h.places.lt)).look hs (T := 72) Try.underlying72
  have hi' := hi k hk
  subst hi'
  rw [hk] at hlk
  obtain ⟨g, cap, rfl, hcap, _, hg, hcs⟩ := h.row hp
  have hkl : k < l.length := (List.getElem?_eq_some_iff.1 hp).1
  have hfew := h.few
  have hkI : (k : Int) < (l.length : Int) := by omega
  have hk0 : (0 : Int) ≤ (k : Int) := by omega
  generalize hn : l.length = n at *
  obtain ⟨x, fv⟩ := p
  obtain ⟨fa, fn, fc, rfl⟩ := row_slice (h.froms _ (List.mem_of_getElem? hp))
  have r0 := hcs 0 (by omega)
  have r1 := hcs 1 (by omega)
  have r2 := hcs 2 (by omega)
  have r3 := hcs 3 (by omega)
  have r4 := hcs 4 (by omega)
  have r5 := hcs 5 (by omega)
  have r6 := hcs 6 (by omega)
  have r7 := hcs 7 (by omega)
  simp only [rowCells, stkCells, List.getElem?_cons_zero, List.getElem?_cons_succ, Nat.add_zero] at r0 r1 r2 r3 r4 r5 r6 r7 ⊢
  simp only [zeroStack, Option.isSome_some] at hlk
  clear h hi hcs hn hk hp
  go_enter Try.func83, Try.ntmps83
  go_wp2
  exact bodyPost_ret (v := .tuple #[.agg #[.string x.code, .int .i64 x.dry.lo, .int .i64 x.dry.hi, .int .i64 x.water.lo, .int .i64 x.water.hi, .int .i64 x.piled, .int .i64 x.boiled, .slice fa fn fc], .bool true]) (by simp [results, Try.results83, go_sem]) rfl ⟨rfl, by (repeat (first | (refine Below.setCell ?_ (by first | (simp; done) | (simp; omega)) _) | (refine Below.alloc ?_ (by first | (simp; done) | (simp; omega)) _) | (refine Below.drew ?_))); exact Below.refl _ _⟩
end Go.Proofs.Ytbgojeppfhldjaa
namespace Go.Proofs.Ytbgojeppfhldjaa
open Go Go.RowKit Yd

theorem size_stack : (Try.prog.info? 48).map (·.size) = some 8 := by kernel_rfl
/-- A deed's fault, as a panic. -/
def faulty (f : Int) : List PanicEntry := [{ v := .iface 86 (.int .i64 f), recovered := false }]

set_option maxRecDepth 100000 in
set_option maxHeartbeats 1000000 in
theorem need_true (f : Int) (w : World) : Calls Try.prog 75 #[.bool true, .int .i64 f] w fun e w' => e = .returned (.tuple #[]) ∧ w = w' := by
  go_enter Try.func75, Try.ntmps75
  go_wp2
  go_end0
  exact ⟨rfl, rfl⟩
set_option maxRecDepth 100000 in
set_option maxHeartbeats 1000000 in
theorem need_false (f : Int) (w : World) : Calls Try.prog 75 #[.bool false, .int .i64 f] w fun e w' => e = .panicked (faulty f) ∧ w = w' := by
  go_enter Try.func75, Try.ntmps75
  go_wp2
  exact ⟨rfl, rfl, rfl⟩

set_option maxRecDepth 100000 in
set_option maxHeartbeats 1000000 in
theorem stack_yes {w : World} {C : Nat → Prop} {B : Nat} {bef aft : Int} {l : List SRow} {c : Yd.Acc} {made : Int} {N : Nat} {kv tv : Value} {m : Nat} (h : Book w C B bef aft l c made N kv tv m)
    (code : Code) (hs : code.size ≤ maxLen) {k : Nat} {p : SRow} (hk : ixOf l code = some k) (hp : l[k]? = some p) :
    Calls Try.prog 71 #[.pointer (some ⟨B, 0, none⟩), .string code] w fun e w' => e = .returned (.agg (rowCells p).toArray) ∧ Below w.heap.size w w' := by
  obtain ⟨fa, fn, fc, hfv⟩ := row_slice (h.froms _ (List.mem_of_getElem? hp))
  have HG := Lib.hid (get_yes (h.alloc (.cells zeroStack 48)) code hs hk hp)
  obtain ⟨x, fv⟩ := p
  subst hfv
  have HK0 := Lib.hid (Blk.new w 48 zeroStack)
  have HO := Lib.hid (show (#[.string x.code, .int .i64 x.dry.lo, .int .i64 x.dry.hi, .int .i64 x.water.lo, .int .i64 x.water.hi, .int .i64 x.piled, .int .i64 x.boiled, .slice fa fn fc] : Array Value).all (·.oneCell') = true from by simp [Value.oneCell'])
  simp only [rowCells, stkCells, zeroStack] at HG HK0 ⊢
  clear h hk hp
  go_enter Try.func71, Try.ntmps71
  go_wp2_with (first
    | (go_at_call 83; refine HG.out.mono ?_; rintro e w1 ⟨rfl, hb1⟩; have HK1 := Lib.hid ((HK0.out.below hb1).alloc (.cells #[.string x.code, .int .i64 x.dry.lo, .int .i64 x.dry.hi, .int .i64 x.water.lo, .int .i64 x.water.hi, .int .i64 x.piled, .int .i64 x.boiled, .slice fa fn fc] 48)); have HB1 := Lib.hid (((Below.refl w.heap.size w).alloc (Nat.le_refl _) (.cells #[.string ⟨#[]⟩, .int .i64 0, .int .i64 0, .int .i64 0, .int .i64 0, .int .i64 0, .int .i64 0, .slice none 0 0] 48)).trans (hb1.mono (by rw [World.size_alloc]; omega))); clear hb1)
    | (go_at_call 75; refine (need_true _ _).mono ?_; rintro e w2 ⟨rfl, rfl⟩)
    | ((with_reducible refine at_store 48 (.tmp 4) (.tmp 17) ?_); go_must (refine wpList_store_mid rfl 48 (.tmp 4) (.tmp 17) rfl w.heap.size 0 #[.string x.code, .int .i64 x.dry.lo, .int .i64 x.dry.hi, .int .i64 x.water.lo, .int .i64 x.water.hi, .int .i64 x.piled, .int .i64 x.boiled, .slice fa fn fc] rfl rfl (HK1.out.there (Nat.le_of_ble_eq_true rfl)) size_stack HO.out ?_)))
  have hk2 := HK1.out.stored (old := [.string ⟨#[]⟩, .int .i64 0, .int .i64 0, .int .i64 0, .int .i64 0, .int .i64 0, .int .i64 0, .slice none 0 0]) [.string x.code, .int .i64 x.dry.lo, .int .i64 x.dry.hi, .int .i64 x.water.lo, .int .i64 x.water.hi, .int .i64 x.piled, .int .i64 x.boiled, .slice fa fn fc] rfl
  exact bodyPost_ret (results_cell_row rfl _ _ w.heap.size 48 _ (0, 0) _ rfl hk2 Try.underlying48 rfl size_stack) rfl ⟨rfl, below_setCells (HB1.out.alloc HB1.out.size _) (Nat.le_refl _) _ 0⟩

set_option maxRecDepth 100000 in
set_option maxHeartbeats 1000000 in
theorem stack_no {w : World} {C : Nat → Prop} {B : Nat} {bef aft : Int} {l : List SRow} {c : Yd.Acc} {made : Int} {N : Nat} {kv tv : Value} {m : Nat} (h : Book w C B bef aft l c made N kv tv m)
    (code : Code) (hs : code.size ≤ maxLen) (hn : ixOf l code = none) :
    Calls Try.prog 71 #[.pointer (some ⟨B, 0, none⟩), .string code] w fun e w' => e = .panicked (faulty 1) ∧ Below w.heap.size w w' := by
  have HG := Lib.hid (get_no (h.alloc (.cells zeroStack 48)) code hs hn)
  simp only [zeroStack] at HG
  clear h hn
  go_enter Try.func71, Try.ntmps71
  go_wp2_with (first
    | (go_at_call 83; refine HG.out.mono ?_; rintro e w1 ⟨rfl, hb1⟩; have HB1 := Lib.hid (((Below.refl w.heap.size w).alloc (Nat.le_refl _) (.cells #[.string ⟨#[]⟩, .int .i64 0, .int .i64 0, .int .i64 0, .int .i64 0, .int .i64 0, .int .i64 0, .slice none 0 0] 48)).trans (hb1.mono (by rw [World.size_alloc]; omega))); clear hb1)
    | (go_at_call 75; refine (need_false _ _).mono ?_; rintro e w2 ⟨rfl, rfl⟩))
  exact ⟨rfl, rfl, HB1.out.alloc HB1.out.size _⟩

set_option maxRecDepth 100000 in
set_option maxHeartbeats 1000000 in
theorem needNew_found {w : World} {C : Nat → Prop} {B : Nat} {bef aft : Int} {l : List SRow} {c : Yd.Acc} {made : Int} {N : Nat} {kv tv : Value} {m : Nat} (h : Book w C B bef aft l c made N kv tv m)
    (code : Code) (hs : code.size ≤ maxLen) {k : Nat} {p : SRow} (hk : ixOf l code = some k) (hp : l[k]? = some p) :
    Calls Try.prog 69 #[.pointer (some ⟨B, 0, none⟩), .string code] w fun e w' => e = .panicked (faulty 1) ∧ Below w.heap.size w w' := by
  obtain ⟨fa, fn, fc, hfv⟩ := row_slice (h.froms _ (List.mem_of_getElem? hp))
  have HG := Lib.hid (get_yes h code hs hk hp)
  obtain ⟨x, fv⟩ := p
  subst hfv
  simp only [rowCells, stkCells] at HG
  clear h hk hp
  go_enter Try.func69, Try.ntmps69
  go_wp2_with (first
    | (go_at_call 83; refine HG.out.mono ?_; rintro e w1 ⟨rfl, hb1⟩; have HB1 := Lib.hid (hb1); clear hb1)
    | (go_at_call 75; refine (need_false _ _).mono ?_; rintro e w2 ⟨rfl, rfl⟩))
  exact ⟨rfl, rfl, HB1.out.alloc HB1.out.size _⟩

set_option maxRecDepth 100000 in
set_option maxHeartbeats 1000000 in
theorem needNew_full {w : World} {C : Nat → Prop} {B : Nat} {bef aft : Int} {l : List SRow} {c : Yd.Acc} {made : Int} {N : Nat} {kv tv : Value} {m : Nat} (h : Book w C B bef aft l c made N kv tv m)
    (code : Code) (hs : code.size ≤ maxLen) (hn : ixOf l code = none) (h8 : 8 ≤ l.length) :
    Calls Try.prog 69 #[.pointer (some ⟨B, 0, none⟩), .string code] w fun e w' => e = .panicked (faulty 2) ∧ Below w.heap.size w w' := by
  have HG := Lib.hid (get_no h code hs hn)
  obtain ⟨ta, tn, tc, htv⟩ := row_slice h.things
  have htn : tn = l.length := by
    rcases h.things.2 with ⟨_, h0⟩ | ⟨g, cap, cur, h1, _⟩
    · omega
    · rw [htv] at h1; cases h1; rfl
  have c3 := h.blk.at 3 tv rfl
  have hB := h.blk.lt
  subst htv
  have d8 : decide ((tn : Int) < 8) = false := by simp; omega
  have d8' : decide (tn < 8) = false := by simp; omega
  simp only [zeroStack] at HG
  clear h hn htn h8
  go_enter Try.func69, Try.ntmps69
  go_wp2_with (first
    | (go_at_call 83; refine HG.out.mono ?_; rintro e w1 ⟨rfl, hb1⟩; have k3 := (hb1.cell (p := ⟨B, 3, none⟩) hB).trans c3; have hB1 : B < w1.heap.size := Nat.lt_of_lt_of_le hB hb1.size; have HB1 := Lib.hid (hb1); clear hb1 c3)
    | (go_at_call 75; refine (need_true 1 _).mono ?_; rintro e w2 ⟨rfl, rfl⟩)
    | (go_at_call 75; refine (need_false 2 _).mono ?_; rintro e w2 ⟨rfl, rfl⟩))
  exact ⟨rfl, rfl, HB1.out.alloc HB1.out.size _⟩

set_option maxRecDepth 100000 in
set_option maxHeartbeats 1000000 in
theorem needNew_ok {w : World} {C : Nat → Prop} {B : Nat} {bef aft : Int} {l : List SRow} {c : Yd.Acc} {made : Int} {N : Nat} {kv tv : Value} {m : Nat} (h : Book w C B bef aft l c made N kv tv m)
    (code : Code) (hs : code.size ≤ maxLen) (hn : ixOf l code = none) (h8 : l.length < 8) :
    Calls Try.prog 69 #[.pointer (some ⟨B, 0, none⟩), .string code] w fun e w' => e = .returned (.tuple #[]) ∧ Below w.heap.size w w' := by
  have HG := Lib.hid (get_no h code hs hn)
  obtain ⟨ta, tn, tc, htv⟩ := row_slice h.things
  have htn : tn = l.length := by
    rcases h.things.2 with ⟨h1, h0⟩ | ⟨g, cap, cur, h1, _⟩
    · rw [htv] at h1; cases h1; omega
    · rw [htv] at h1; cases h1; rfl
  have c3 := h.blk.at 3 tv rfl
  have hB := h.blk.lt
  subst htv
  have d8 : decide ((tn : Int) < 8) = true := by simp; omega
  have d8' : decide (tn < 8) = true := by simp; omega
  simp only [zeroStack] at HG
  clear h hn htn h8
  go_enter Try.func69, Try.ntmps69
  go_wp2_with (first
    | (go_at_call 83; refine HG.out.mono ?_; rintro e w1 ⟨rfl, hb1⟩; have k3 := (hb1.cell (p := ⟨B, 3, none⟩) hB).trans c3; have hB1 : B < w1.heap.size := Nat.lt_of_lt_of_le hB hb1.size; have HB1 := Lib.hid (hb1); clear hb1 c3)
    | (go_at_call 75; refine (need_true _ _).mono ?_; rintro e w2 ⟨rfl, rfl⟩))
  go_end0
  exact ⟨rfl, HB1.out.alloc HB1.out.size _⟩
end Go.Proofs.Ytbgojeppfhldjaa
namespace Go.Proofs.Ytbgojeppfhldjaa
open Go Go.RowKit Yd

/-- A stack was boiled, and rested long enough behind it. -/
def restedB (aft : Int) (x : Stk Code) (day : Int) : Bool := !(x.boiled == -1) && decide (aft ≤ day - x.boiled)

set_option maxRecDepth 100000 in
set_option maxHeartbeats 1000000 in
theorem rested_ok {w : World} {C : Nat → Prop} {B : Nat} {bef aft : Int} {l : List SRow} {c : Yd.Acc} {made : Int} {N : Nat} {kv tv : Value} {m : Nat} (h : Book w C B bef aft l c made N kv tv m)
    (x : Stk Code) (fa : Option Addr) (fn fc : Nat) (day : Int) (hd : 0 ≤ day ∧ day ≤ 1000000) (hb : -1 ≤ x.boiled ∧ x.boiled ≤ 1000000) (hr : restedB aft x day = true) :
    Calls Try.prog 76 #[.pointer (some ⟨B, 0, none⟩), .agg #[.string x.code, .int .i64 x.dry.lo, .int .i64 x.dry.hi, .int .i64 x.water.lo, .int .i64 x.water.hi, .int .i64 x.piled, .int .i64 x.boiled, .slice fa fn fc], .int .i64 day] w fun e w' => e = .returned (.tuple #[]) ∧ Below w.heap.size w w' := by
  obtain ⟨hd0, hd1⟩ := hd
  obtain ⟨hb0, hb1⟩ := hb
  have hx := hr
  simp only [restedB, Bool.and_eq_true, Bool.not_eq_true', beq_eq_false_iff_ne, decide_eq_true_eq] at hx
  obtain ⟨hx1, hx2⟩ := hx
  have d1 : (x.boiled == -1) = false := by simpa using hx1
  have d2 : (x.boiled != -1) = true := by simpa using hx1
  have d3 : decide (aft ≤ day - x.boiled) = true := by simpa using hx2
  clear hx1 hx2 hr
  have kB := (h.blk.alloc (.cells #[.string x.code, .int .i64 x.dry.lo, .int .i64 x.dry.hi, .int .i64 x.water.lo, .int .i64 x.water.hi, .int .i64 x.piled, .int .i64 x.boiled, .slice fa fn fc] 48)).at 1 (.int .i64 aft) rfl
  have kS := (Blk.new w 48 #[.string x.code, .int .i64 x.dry.lo, .int .i64 x.dry.hi, .int .i64 x.water.lo, .int .i64 x.water.hi, .int .i64 x.piled, .int .i64 x.boiled, .slice fa fn fc]).at 6 (.int .i64 x.boiled) rfl
  have HB0 := Lib.hid ((Below.refl w.heap.size w).alloc (Nat.le_refl _) (.cells #[.string x.code, .int .i64 x.dry.lo, .int .i64 x.dry.hi, .int .i64 x.water.lo, .int .i64 x.water.hi, .int .i64 x.piled, .int .i64 x.boiled, .slice fa fn fc] 48))
  clear h
  go_enter Try.func76, Try.ntmps76
  go_wp2
  generalize w.alloc (.cells #[.string x.code, .int .i64 x.dry.lo, .int .i64 x.dry.hi, .int .i64 x.water.lo, .int .i64 x.water.hi, .int .i64 x.piled, .int .i64 x.boiled, .slice fa fn fc] 48) = W at kB kS HB0 ⊢
  have cB := cell_regrown kB
  have cS := cell_regrown kS
  clear kB kS
  refine region_split_below 14 (by kernel_rfl) (by kernel_rfl) (by kernel_rfl) ?_
  simp only [List.take_succ_cons, List.take_zero, List.drop_succ_cons, List.drop_zero]
  repeat (go_big_quiet_step (fail))
  refine wpQuiet_nil ?_
  intro w8 hw'
  have hb8 : Below W.heap.size W w8 := by obtain ⟨⟨dq, osq⟩, hw''⟩ := hw'; rw [hw'']; exact below_regrown W dq osq
  clear hw' cB cS
  go_wp2_with (go_at_call 75; refine (need_true _ _).mono ?_; rintro e w2 ⟨rfl, rfl⟩)
  go_end0
  exact ⟨rfl, HB0.out.trans (hb8.mono HB0.out.size)⟩

set_option maxRecDepth 100000 in
set_option maxHeartbeats 1000000 in
theorem rested_never {w : World} {C : Nat → Prop} {B : Nat} {bef aft : Int} {l : List SRow} {c : Yd.Acc} {made : Int} {N : Nat} {kv tv : Value} {m : Nat} (h : Book w C B bef aft l c made N kv tv m)
    (x : Stk Code) (fa : Option Addr) (fn fc : Nat) (day : Int) (hd : 0 ≤ day ∧ day ≤ 1000000) (hb : -1 ≤ x.boiled ∧ x.boiled ≤ 1000000) (hr : x.boiled = -1) :
    Calls Try.prog 76 #[.pointer (some ⟨B, 0, none⟩), .agg #[.string x.code, .int .i64 x.dry.lo, .int .i64 x.dry.hi, .int .i64 x.water.lo, .int .i64 x.water.hi, .int .i64 x.piled, .int .i64 x.boiled, .slice fa fn fc], .int .i64 day] w fun e w' => e = .panicked (faulty 3) ∧ Below w.heap.size w w' := by
  obtain ⟨hd0, hd1⟩ := hd
  obtain ⟨hb0, hb1⟩ := hb
  have kB := (h.blk.alloc (.cells #[.string x.code, .int .i64 x.dry.lo, .int .i64 x.dry.hi, .int .i64 x.water.lo, .int .i64 x.water.hi, .int .i64 x.piled, .int .i64 x.boiled, .slice fa fn fc] 48)).at 1 (.int .i64 aft) rfl
  have kS := (Blk.new w 48 #[.string x.code, .int .i64 x.dry.lo, .int .i64 x.dry.hi, .int .i64 x.water.lo, .int .i64 x.water.hi, .int .i64 x.piled, .int .i64 x.boiled, .slice fa fn fc]).at 6 (.int .i64 x.boiled) rfl
  have HR := Lib.hid hr; clear hr
  have HB0 := Lib.hid ((Below.refl w.heap.size w).alloc (Nat.le_refl _) (.cells #[.string x.code, .int .i64 x.dry.lo, .int .i64 x.dry.hi, .int .i64 x.water.lo, .int .i64 x.water.hi, .int .i64 x.piled, .int .i64 x.boiled, .slice fa fn fc] 48))
  clear h
  go_enter Try.func76, Try.ntmps76
  go_wp2
  generalize w.alloc (.cells #[.string x.code, .int .i64 x.dry.lo, .int .i64 x.dry.hi, .int .i64 x.water.lo, .int .i64 x.water.hi, .int .i64 x.piled, .int .i64 x.boiled, .slice fa fn fc] 48) = W at kB kS HB0 ⊢
  rw [HR.out] at kS
  have cB := cell_regrown kB
  have cS := cell_regrown kS
  clear kB kS
  refine region_split_below 14 (by kernel_rfl) (by kernel_rfl) (by kernel_rfl) ?_
  simp only [List.take_succ_cons, List.take_zero, List.drop_succ_cons, List.drop_zero]
  repeat (go_big_quiet_step (fail))
  refine wpQuiet_nil ?_
  intro w8 hw'
  have hb8 : Below W.heap.size W w8 := by obtain ⟨⟨dq, osq⟩, hw''⟩ := hw'; rw [hw'']; exact below_regrown W dq osq
  clear hw' cB cS
  go_wp2_with (go_at_call 75; refine (need_false _ _).mono ?_; rintro e w2 ⟨rfl, rfl⟩)
  exact ⟨rfl, rfl, HB0.out.trans (hb8.mono HB0.out.size)⟩

set_option maxRecDepth 100000 in
set_option maxHeartbeats 1000000 in
theorem rested_early {w : World} {C : Nat → Prop} {B : Nat} {bef aft : Int} {l : List SRow} {c : Yd.Acc} {made : Int} {N : Nat} {kv tv : Value} {m : Nat} (h : Book w C B bef aft l c made N kv tv m)
    (x : Stk Code) (fa : Option Addr) (fn fc : Nat) (day : Int) (hd : 0 ≤ day ∧ day ≤ 1000000) (hb : -1 ≤ x.boiled ∧ x.boiled ≤ 1000000) (hr : ¬ x.boiled = -1) (he : ¬ aft ≤ day - x.boiled) :
    Calls Try.prog 76 #[.pointer (some ⟨B, 0, none⟩), .agg #[.string x.code, .int .i64 x.dry.lo, .int .i64 x.dry.hi, .int .i64 x.water.lo, .int .i64 x.water.hi, .int .i64 x.piled, .int .i64 x.boiled, .slice fa fn fc], .int .i64 day] w fun e w' => e = .panicked (faulty 3) ∧ Below w.heap.size w w' := by
  obtain ⟨hd0, hd1⟩ := hd
  obtain ⟨hb0, hb1⟩ := hb
  have d1 : (x.boiled == -1) = false := by simpa using hr
  have d2 : (x.boiled != -1) = true := by simpa using hr
  have d3 : decide (aft ≤ day - x.boiled) = false := by simpa using he
  clear hr he
  have kB := (h.blk.alloc (.cells #[.string x.code, .int .i64 x.dry.lo, .int .i64 x.dry.hi, .int .i64 x.water.lo, .int .i64 x.water.hi, .int .i64 x.piled, .int .i64 x.boiled, .slice fa fn fc] 48)).at 1 (.int .i64 aft) rfl
  have kS := (Blk.new w 48 #[.string x.code, .int .i64 x.dry.lo, .int .i64 x.dry.hi, .int .i64 x.water.lo, .int .i64 x.water.hi, .int .i64 x.piled, .int .i64 x.boiled, .slice fa fn fc]).at 6 (.int .i64 x.boiled) rfl
  have HB0 := Lib.hid ((Below.refl w.heap.size w).alloc (Nat.le_refl _) (.cells #[.string x.code, .int .i64 x.dry.lo, .int .i64 x.dry.hi, .int .i64 x.water.lo, .int .i64 x.water.hi, .int .i64 x.piled, .int .i64 x.boiled, .slice fa fn fc] 48))
  clear h
  go_enter Try.func76, Try.ntmps76
  go_wp2
  generalize w.alloc (.cells #[.string x.code, .int .i64 x.dry.lo, .int .i64 x.dry.hi, .int .i64 x.water.lo, .int .i64 x.water.hi, .int .i64 x.piled, .int .i64 x.boiled, .slice fa fn fc] 48) = W at kB kS HB0 ⊢
  have cB := cell_regrown kB
  have cS := cell_regrown kS
  clear kB kS
  refine region_split_below 14 (by kernel_rfl) (by kernel_rfl) (by kernel_rfl) ?_
  simp only [List.take_succ_cons, List.take_zero, List.drop_succ_cons, List.drop_zero]
  repeat (go_big_quiet_step (fail))
  refine wpQuiet_nil ?_
  intro w8 hw'
  have hb8 : Below W.heap.size W w8 := by obtain ⟨⟨dq, osq⟩, hw''⟩ := hw'; rw [hw'']; exact below_regrown W dq osq
  clear hw' cB cS
  go_wp2_with (go_at_call 75; refine (need_false _ _).mono ?_; rintro e w2 ⟨rfl, rfl⟩)
  exact ⟨rfl, rfl, HB0.out.trans (hb8.mono HB0.out.size)⟩

theorem rested_no {w : World} {C : Nat → Prop} {B : Nat} {bef aft : Int} {l : List SRow} {c : Yd.Acc} {made : Int} {N : Nat} {kv tv : Value} {m : Nat} (h : Book w C B bef aft l c made N kv tv m)
    (x : Stk Code) (fa : Option Addr) (fn fc : Nat) (day : Int) (hd : 0 ≤ day ∧ day ≤ 1000000) (hb : -1 ≤ x.boiled ∧ x.boiled ≤ 1000000) (hr : restedB aft x day = false) :
    Calls Try.prog 76 #[.pointer (some ⟨B, 0, none⟩), .agg #[.string x.code, .int .i64 x.dry.lo, .int .i64 x.dry.hi, .int .i64 x.water.lo, .int .i64 x.water.hi, .int .i64 x.piled, .int .i64 x.boiled, .slice fa fn fc], .int .i64 day] w fun e w' => e = .panicked (faulty 3) ∧ Below w.heap.size w w' := by
  by_cases hx : x.boiled = -1
  · exact rested_never h x fa fn fc day hd hb hx
  · refine rested_early h x fa fn fc day hd hb hx (fun he => ?_)
    simp [restedB, hx, he] at hr
end Go.Proofs.Ytbgojeppfhldjaa
