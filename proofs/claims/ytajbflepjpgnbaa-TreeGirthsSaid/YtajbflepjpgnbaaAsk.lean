/- A question about a tree: its first error, or the question. -/
import Derived.Test.YtajbflepjpgnbaaForest
import Derived.Laws.ResultCell
import Derived.Laws.Rows
import Derived.StillTailTactics
import Derived.Deep.DeepMust
namespace Go.Proofs.Ytajbflepjpgnbaa
open Go.RowKit

theorem below_setRow {B : Nat} {a w : World} (h : Below B a w) {g : Nat} (hg : B ≤ g) (cs : Array Value) : Below B a (w.setRow g cs) :=
  ⟨h.os, h.tape, h.output, by rw [show (w.setRow g cs).heap.size = w.heap.size from by simp [World.setRow]]; exact h.size, fun k hk => by rw [setRow_other w g k cs (by omega)]; exact h.block k hk⟩

theorem results_cell_one {P : Program} {fn : Func} {p u : Tmp} {ty : TypeId} (h : fn.results = #[.cell p ty, .tmp u]) (tmps : Array Value) (w : World) (g : Nat) (t : TypeId) (cs : Array Value) (fr : Nat × Nat) (d : TypeDesc)
    (hp : tmps.getD p undef = .pointer (some ⟨g, 0, none⟩)) (hg : w.heap[g]? = some (.cells cs t fr))
    (hu : P.underlying ty = some d) (hd : (match d with | .struct _ | .array _ _ => true | _ => false) = true) (hi : (P.info? ty).map (·.size) = some cs.size) :
    (results fn tmps).run P w = .ok (.tuple #[.agg cs, tmps.getD u undef]) w := by
  rw [results_cell_tmp h, hp]
  simp [asAddr, run_loadVar_row w g t ty cs fr d hg hu hd hi, Result.andThen]

/-- The walk stands at a store. -/
theorem at_store {P : Program} {ops : Array Oper} {rest : List Oper} {d : Option Tmp} (ty : TypeId) (x y : Operand) {ty2 : TypeId} {ps : String} {af : Array Edge} {gd : Option (Nat × Bool)} {a : Act} {w : World} {Q : Exit → Act → World → Prop} (h : wpList P ops Q (⟨d, .store ty x y, ty2, ps, af, gd⟩ :: rest) a w) : wpList P ops Q (⟨d, .store ty x y, ty2, ps, af, gd⟩ :: rest) a w := h

theorem size_question : (Try.prog.info? 74).map (·.size) = some 20 := by kernel_rfl

/-- What a question holds when it holds nothing. -/
def noQuestion : Array Value := #[.int .i64 0, .int .i64 0, .int .i64 0, .int .i64 0, .int .i64 0, .int .i64 0, .int .i64 0, .string ⟨#[]⟩, .int .i64 0, .int .i64 0, .int .i64 0, .int .i64 0, .int .i64 0, .int .i64 0, .int .i64 0, .slice none 0 0, .slice none 0 0, .int .i64 0, .int .i64 0, .int .i64 0]

theorem none_cells : noQuestion.all (·.oneCell') = true := by simp [noQuestion, Value.oneCell']

set_option maxRecDepth 100000 in
set_option maxHeartbeats 400000 in
theorem ask_forest (age rest girth f0 f1 f2 heal : Int) (a : Option Addr) (n c : Nat) (tree year height : Int) (w : World) (r : Int) (hr : (r != 0) = true)
    (hF : ∀ W, Below w.heap.size w W → Calls Try.prog 18 #[.agg #[.int .i64 age, .int .i64 rest, .int .i64 girth, .int .i64 f0, .int .i64 f1, .int .i64 f2, .int .i64 heal, .slice a n c]] W fun e w' => e = .returned (.int .i64 r) ∧ Below W.heap.size W w') :
    Calls Try.prog 34 #[.agg #[.int .i64 age, .int .i64 rest, .int .i64 girth, .int .i64 f0, .int .i64 f1, .int .i64 f2, .int .i64 heal, .slice a n c], .int .i64 tree, .int .i64 year, .int .i64 height] w fun e w' => e = .returned (.tuple #[.agg noQuestion, .int .i64 r]) ∧ Below w.heap.size w w' := by
  have HF := Lib.hid hF; clear hF
  go_enter Try.func34, Try.ntmps34
  go_wp2_with (first | (go_at_call 18; refine (HF.out _ (by repeat (first | exact Below.refl _ _ | refine Below.alloc ?_ (by simp <;> omega) _))).mono ?_; rintro e w1 ⟨rfl, hw1⟩; have hB1 : Below w.heap.size w w1 := Below.trans (by repeat (first | exact Below.refl _ _ | refine Below.alloc ?_ (by simp <;> omega) _)) (hw1.mono (by simp <;> omega)); have hz1 : w.heap.size + 1 < w1.heap.size := (by (have := hw1.size; simp at this; omega)); have hK := Lib.hid ((hw1.block (w.heap.size + 1) (by simp <;> omega)).trans (heap_alloc2_new w _ _)); clear hw1) | ((with_reducible refine at_store 74 (.tmp 8) (.tmp 15) ?_); go_must (refine wpList_store_row rfl 74 (.tmp 8) (.tmp 15) rfl (w.heap.size + 1) #[.int .i64 0, .int .i64 0, .int .i64 0, .int .i64 0, .int .i64 0, .int .i64 0, .int .i64 0, .string ⟨#[]⟩, .int .i64 0, .int .i64 0, .int .i64 0, .int .i64 0, .int .i64 0, .int .i64 0, .int .i64 0, .slice none 0 0, .slice none 0 0, .int .i64 0, .int .i64 0, .int .i64 0] rfl rfl 74 _ hK.out size_question rfl none_cells ?_)))
  exact bodyPost_ret (results_cell_one rfl _ _ (w.heap.size + 1) 74 #[.int .i64 0, .int .i64 0, .int .i64 0, .int .i64 0, .int .i64 0, .int .i64 0, .int .i64 0, .string ⟨#[]⟩, .int .i64 0, .int .i64 0, .int .i64 0, .int .i64 0, .int .i64 0, .int .i64 0, .int .i64 0, .slice none 0 0, .slice none 0 0, .int .i64 0, .int .i64 0, .int .i64 0] (0, 0) _ rfl (setRow_heap _ _ _ _ _ _ hK.out) Try.underlying74 rfl size_question) rfl ⟨rfl, below_setRow hB1 (by omega) _⟩

set_option maxRecDepth 100000 in
set_option maxHeartbeats 400000 in
theorem ask_below (age rest girth f0 f1 f2 heal : Int) (a : Option Addr) (n c : Nat) (tree year height : Int) (w : World) (h1 : tree < 0)
    (hF : ∀ W, Below w.heap.size w W → Calls Try.prog 18 #[.agg #[.int .i64 age, .int .i64 rest, .int .i64 girth, .int .i64 f0, .int .i64 f1, .int .i64 f2, .int .i64 heal, .slice a n c]] W fun e w' => e = .returned (.int .i64 0) ∧ Below W.heap.size W w') :
    Calls Try.prog 34 #[.agg #[.int .i64 age, .int .i64 rest, .int .i64 girth, .int .i64 f0, .int .i64 f1, .int .i64 f2, .int .i64 heal, .slice a n c], .int .i64 tree, .int .i64 year, .int .i64 height] w fun e w' => e = .returned (.tuple #[.agg noQuestion, .int .i64 6]) ∧ Below w.heap.size w w' := by
  have HF := Lib.hid hF; clear hF
  go_enter Try.func34, Try.ntmps34
  go_wp2_with (first | (go_at_call 18; refine (HF.out _ (by repeat (first | exact Below.refl _ _ | refine Below.alloc ?_ (by simp <;> omega) _))).mono ?_; rintro e w1 ⟨rfl, hw1⟩; have hB1 : Below w.heap.size w w1 := Below.trans (by repeat (first | exact Below.refl _ _ | refine Below.alloc ?_ (by simp <;> omega) _)) (hw1.mono (by simp <;> omega)); have hz1 : w.heap.size + 1 < w1.heap.size := (by (have := hw1.size; simp at this; omega)); have hK := Lib.hid ((hw1.block (w.heap.size + 1) (by simp <;> omega)).trans (heap_alloc2_new w _ _)); have cF := (hw1.cell (p := ⟨w.heap.size, 7, none⟩) (by simp <;> omega)).trans (show _ = some (Value.slice a n c) from by go_simp); clear hw1) | ((with_reducible refine at_store 74 (.tmp 8) (.tmp 26) ?_); go_must (refine wpList_store_row rfl 74 (.tmp 8) (.tmp 26) rfl (w.heap.size + 1) #[.int .i64 0, .int .i64 0, .int .i64 0, .int .i64 0, .int .i64 0, .int .i64 0, .int .i64 0, .string ⟨#[]⟩, .int .i64 0, .int .i64 0, .int .i64 0, .int .i64 0, .int .i64 0, .int .i64 0, .int .i64 0, .slice none 0 0, .slice none 0 0, .int .i64 0, .int .i64 0, .int .i64 0] rfl rfl 74 _ hK.out size_question rfl none_cells ?_)) | (first | (go_at_call 54; refine (isYear_calls _ _).mono ?_; rintro e w' ⟨rfl, rfl⟩) | (go_at_call 55; refine (isHeight_calls _ _).mono ?_; rintro e w' ⟨rfl, rfl⟩)))
  exact bodyPost_ret (results_cell_one rfl _ _ (w.heap.size + 1) 74 #[.int .i64 0, .int .i64 0, .int .i64 0, .int .i64 0, .int .i64 0, .int .i64 0, .int .i64 0, .string ⟨#[]⟩, .int .i64 0, .int .i64 0, .int .i64 0, .int .i64 0, .int .i64 0, .int .i64 0, .int .i64 0, .slice none 0 0, .slice none 0 0, .int .i64 0, .int .i64 0, .int .i64 0] (0, 0) _ rfl (setRow_heap _ _ _ _ _ _ hK.out) Try.underlying74 rfl size_question) rfl ⟨rfl, below_setRow hB1 (by omega) _⟩

set_option maxRecDepth 100000 in
set_option maxHeartbeats 400000 in
theorem ask_above (age rest girth f0 f1 f2 heal : Int) (a : Option Addr) (n c : Nat) (tree year height : Int) (w : World) (h1 : 0 ≤ tree) (h2 : (n : Int) ≤ tree)
    (hF : ∀ W, Below w.heap.size w W → Calls Try.prog 18 #[.agg #[.int .i64 age, .int .i64 rest, .int .i64 girth, .int .i64 f0, .int .i64 f1, .int .i64 f2, .int .i64 heal, .slice a n c]] W fun e w' => e = .returned (.int .i64 0) ∧ Below W.heap.size W w') :
    Calls Try.prog 34 #[.agg #[.int .i64 age, .int .i64 rest, .int .i64 girth, .int .i64 f0, .int .i64 f1, .int .i64 f2, .int .i64 heal, .slice a n c], .int .i64 tree, .int .i64 year, .int .i64 height] w fun e w' => e = .returned (.tuple #[.agg noQuestion, .int .i64 6]) ∧ Below w.heap.size w w' := by
  have HF := Lib.hid hF; clear hF
  go_enter Try.func34, Try.ntmps34
  go_wp2_with (first | (go_at_call 18; refine (HF.out _ (by repeat (first | exact Below.refl _ _ | refine Below.alloc ?_ (by simp <;> omega) _))).mono ?_; rintro e w1 ⟨rfl, hw1⟩; have hB1 : Below w.heap.size w w1 := Below.trans (by repeat (first | exact Below.refl _ _ | refine Below.alloc ?_ (by simp <;> omega) _)) (hw1.mono (by simp <;> omega)); have hz1 : w.heap.size + 1 < w1.heap.size := (by (have := hw1.size; simp at this; omega)); have hK := Lib.hid ((hw1.block (w.heap.size + 1) (by simp <;> omega)).trans (heap_alloc2_new w _ _)); have cF := (hw1.cell (p := ⟨w.heap.size, 7, none⟩) (by simp <;> omega)).trans (show _ = some (Value.slice a n c) from by go_simp); clear hw1) | ((with_reducible refine at_store 74 (.tmp 8) (.tmp 26) ?_); go_must (refine wpList_store_row rfl 74 (.tmp 8) (.tmp 26) rfl (w.heap.size + 1) #[.int .i64 0, .int .i64 0, .int .i64 0, .int .i64 0, .int .i64 0, .int .i64 0, .int .i64 0, .string ⟨#[]⟩, .int .i64 0, .int .i64 0, .int .i64 0, .int .i64 0, .int .i64 0, .int .i64 0, .int .i64 0, .slice none 0 0, .slice none 0 0, .int .i64 0, .int .i64 0, .int .i64 0] rfl rfl 74 _ hK.out size_question rfl none_cells ?_)) | (first | (go_at_call 54; refine (isYear_calls _ _).mono ?_; rintro e w' ⟨rfl, rfl⟩) | (go_at_call 55; refine (isHeight_calls _ _).mono ?_; rintro e w' ⟨rfl, rfl⟩)))
  exact bodyPost_ret (results_cell_one rfl _ _ (w.heap.size + 1) 74 #[.int .i64 0, .int .i64 0, .int .i64 0, .int .i64 0, .int .i64 0, .int .i64 0, .int .i64 0, .string ⟨#[]⟩, .int .i64 0, .int .i64 0, .int .i64 0, .int .i64 0, .int .i64 0, .int .i64 0, .int .i64 0, .slice none 0 0, .slice none 0 0, .int .i64 0, .int .i64 0, .int .i64 0] (0, 0) _ rfl (setRow_heap _ _ _ _ _ _ hK.out) Try.underlying74 rfl size_question) rfl ⟨rfl, below_setRow hB1 (by omega) _⟩

set_option maxRecDepth 100000 in
set_option maxHeartbeats 400000 in
theorem ask_year (age rest girth f0 f1 f2 heal : Int) (a : Option Addr) (n c : Nat) (tree year height : Int) (w : World) (h1 : 0 ≤ tree) (h2 : tree < (n : Int)) (h3 : inB year 0 300 = false)
    (hF : ∀ W, Below w.heap.size w W → Calls Try.prog 18 #[.agg #[.int .i64 age, .int .i64 rest, .int .i64 girth, .int .i64 f0, .int .i64 f1, .int .i64 f2, .int .i64 heal, .slice a n c]] W fun e w' => e = .returned (.int .i64 0) ∧ Below W.heap.size W w') :
    Calls Try.prog 34 #[.agg #[.int .i64 age, .int .i64 rest, .int .i64 girth, .int .i64 f0, .int .i64 f1, .int .i64 f2, .int .i64 heal, .slice a n c], .int .i64 tree, .int .i64 year, .int .i64 height] w fun e w' => e = .returned (.tuple #[.agg noQuestion, .int .i64 1]) ∧ Below w.heap.size w w' := by
  have HF := Lib.hid hF; clear hF
  go_enter Try.func34, Try.ntmps34
  go_wp2_with (first | (go_at_call 18; refine (HF.out _ (by repeat (first | exact Below.refl _ _ | refine Below.alloc ?_ (by simp <;> omega) _))).mono ?_; rintro e w1 ⟨rfl, hw1⟩; have hB1 : Below w.heap.size w w1 := Below.trans (by repeat (first | exact Below.refl _ _ | refine Below.alloc ?_ (by simp <;> omega) _)) (hw1.mono (by simp <;> omega)); have hz1 : w.heap.size + 1 < w1.heap.size := (by (have := hw1.size; simp at this; omega)); have hK := Lib.hid ((hw1.block (w.heap.size + 1) (by simp <;> omega)).trans (heap_alloc2_new w _ _)); have cF := (hw1.cell (p := ⟨w.heap.size, 7, none⟩) (by simp <;> omega)).trans (show _ = some (Value.slice a n c) from by go_simp); clear hw1) | ((with_reducible refine at_store 74 (.tmp 8) (.tmp 35) ?_); go_must (refine wpList_store_row rfl 74 (.tmp 8) (.tmp 35) rfl (w.heap.size + 1) #[.int .i64 0, .int .i64 0, .int .i64 0, .int .i64 0, .int .i64 0, .int .i64 0, .int .i64 0, .string ⟨#[]⟩, .int .i64 0, .int .i64 0, .int .i64 0, .int .i64 0, .int .i64 0, .int .i64 0, .int .i64 0, .slice none 0 0, .slice none 0 0, .int .i64 0, .int .i64 0, .int .i64 0] rfl rfl 74 _ hK.out size_question rfl none_cells ?_)) | (first | (go_at_call 54; refine (isYear_calls _ _).mono ?_; rintro e w' ⟨rfl, rfl⟩) | (go_at_call 55; refine (isHeight_calls _ _).mono ?_; rintro e w' ⟨rfl, rfl⟩)))
  exact bodyPost_ret (results_cell_one rfl _ _ (w.heap.size + 1) 74 #[.int .i64 0, .int .i64 0, .int .i64 0, .int .i64 0, .int .i64 0, .int .i64 0, .int .i64 0, .string ⟨#[]⟩, .int .i64 0, .int .i64 0, .int .i64 0, .int .i64 0, .int .i64 0, .int .i64 0, .int .i64 0, .slice none 0 0, .slice none 0 0, .int .i64 0, .int .i64 0, .int .i64 0] (0, 0) _ rfl (setRow_heap _ _ _ _ _ _ hK.out) Try.underlying74 rfl size_question) rfl ⟨rfl, below_setRow hB1 (by omega) _⟩

set_option maxRecDepth 100000 in
set_option maxHeartbeats 400000 in
theorem ask_height (age rest girth f0 f1 f2 heal : Int) (a : Option Addr) (n c : Nat) (tree year height : Int) (w : World) (h1 : 0 ≤ tree) (h2 : tree < (n : Int)) (h3 : inB year 0 300 = true) (h4 : inB height 1 15000 = false)
    (hF : ∀ W, Below w.heap.size w W → Calls Try.prog 18 #[.agg #[.int .i64 age, .int .i64 rest, .int .i64 girth, .int .i64 f0, .int .i64 f1, .int .i64 f2, .int .i64 heal, .slice a n c]] W fun e w' => e = .returned (.int .i64 0) ∧ Below W.heap.size W w') :
    Calls Try.prog 34 #[.agg #[.int .i64 age, .int .i64 rest, .int .i64 girth, .int .i64 f0, .int .i64 f1, .int .i64 f2, .int .i64 heal, .slice a n c], .int .i64 tree, .int .i64 year, .int .i64 height] w fun e w' => e = .returned (.tuple #[.agg noQuestion, .int .i64 1]) ∧ Below w.heap.size w w' := by
  have HF := Lib.hid hF; clear hF
  go_enter Try.func34, Try.ntmps34
  go_wp2_with (first | (go_at_call 18; refine (HF.out _ (by repeat (first | exact Below.refl _ _ | refine Below.alloc ?_ (by simp <;> omega) _))).mono ?_; rintro e w1 ⟨rfl, hw1⟩; have hB1 : Below w.heap.size w w1 := Below.trans (by repeat (first | exact Below.refl _ _ | refine Below.alloc ?_ (by simp <;> omega) _)) (hw1.mono (by simp <;> omega)); have hz1 : w.heap.size + 1 < w1.heap.size := (by (have := hw1.size; simp at this; omega)); have hK := Lib.hid ((hw1.block (w.heap.size + 1) (by simp <;> omega)).trans (heap_alloc2_new w _ _)); have cF := (hw1.cell (p := ⟨w.heap.size, 7, none⟩) (by simp <;> omega)).trans (show _ = some (Value.slice a n c) from by go_simp); clear hw1) | ((with_reducible refine at_store 74 (.tmp 8) (.tmp 35) ?_); go_must (refine wpList_store_row rfl 74 (.tmp 8) (.tmp 35) rfl (w.heap.size + 1) #[.int .i64 0, .int .i64 0, .int .i64 0, .int .i64 0, .int .i64 0, .int .i64 0, .int .i64 0, .string ⟨#[]⟩, .int .i64 0, .int .i64 0, .int .i64 0, .int .i64 0, .int .i64 0, .int .i64 0, .int .i64 0, .slice none 0 0, .slice none 0 0, .int .i64 0, .int .i64 0, .int .i64 0] rfl rfl 74 _ hK.out size_question rfl none_cells ?_)) | (first | (go_at_call 54; refine (isYear_calls _ _).mono ?_; rintro e w' ⟨rfl, rfl⟩) | (go_at_call 55; refine (isHeight_calls _ _).mono ?_; rintro e w' ⟨rfl, rfl⟩)))
  exact bodyPost_ret (results_cell_one rfl _ _ (w.heap.size + 1) 74 #[.int .i64 0, .int .i64 0, .int .i64 0, .int .i64 0, .int .i64 0, .int .i64 0, .int .i64 0, .string ⟨#[]⟩, .int .i64 0, .int .i64 0, .int .i64 0, .int .i64 0, .int .i64 0, .int .i64 0, .int .i64 0, .slice none 0 0, .slice none 0 0, .int .i64 0, .int .i64 0, .int .i64 0] (0, 0) _ rfl (setRow_heap _ _ _ _ _ _ hK.out) Try.underlying74 rfl size_question) rfl ⟨rfl, below_setRow hB1 (by omega) _⟩
end Go.Proofs.Ytajbflepjpgnbaa
