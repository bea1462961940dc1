/- A question about a tree: its first error, or the question. A question about a tree that stands. A tree's girth in a year. The judgements of the rules: dead, age; how many strips lie before a year. The judgements of rest and of healing: searches among strips and wounds. The judgement of healing: a search among wounds. The judgements of girth and height. -/
import Derived.Test.YtnoofdjlocadbaaGreatDoorForest
import Derived.Laws.ResultCell
import Derived.Laws.Rows
import Derived.StillTailTactics
import Derived.Deep.DeepMust
/-! A question about a tree: its first error, or the question. -/
namespace Go.Proofs.YtnoofdjlocadbaaGreatDoor
open Go.RowKit

theorem below_setRow {B : Nat} {a w : World} (h : Below B a w) {g : Nat} (hg : B ≤ g) (cs : Array Value) : Below B a (w.setRow g cs) :=
  ⟨h.os, h.tape, h.output, by rw [show (w.setRow g cs).heap.size = w.heap.size from by simp [World.setRow]]; exact h.size, fun k hk => by rw [setRow_other w g k cs (by omega)]; exact h.block k hk⟩

theorem results_cell_one {P : Program} {fn : Func} {p u : Tmp} {ty : TypeId} (h : fn.results = #[.cell p ty, .tmp u]) (tmps : Array Value) (w : World) (g : Nat) (t : TypeId) (cs : Array Value) (fr : Nat × Nat) (d : TypeDesc)
    (hp : tmps.getD p undef = .pointer (some ⟨g, 0, none⟩)) (hg : w.heap[g]? = some (.cells cs t fr))
    (hu : P.underlying ty = some d) (hd : (match d with | .struct _ | .array _ _ => true | _ => false) = true) (hi : (P.info? ty).map (·.size) = some cs.size) :
    (results fn tmps).run P w = .ok (.tuple #[.agg cs, tmps.getD u undef]) w := by
  rw [results_cell_tmp h, hp]
  simp [asAddr, run_loadVar_row w g t ty cs fr d hg hu hd hi, Result.andThen]

/-- The walk stands at a store. -/
theorem at_store {P : Program} {ops : Array Oper} {rest : List Oper} {d : Option Tmp} (ty : TypeId) (x y : Operand) {ty2 : TypeId} {ps : String} {af : Array Edge} {gd : Option (Nat × Bool)} {a : Act} {w : World} {Q : Exit → Act → World → Prop} (h : wpList P ops Q (⟨d, .store ty x y, ty2, ps, af, gd⟩ :: rest) a w) : wpList P ops Q (⟨d, .store ty x y, ty2, ps, af, gd⟩ :: rest) a w := h

theorem size_question : (Tryz.prog.info? 81).map (·.size) = some 20 := by kernel_rfl

/-- What a question holds when it holds nothing. -/
def noQuestion : Array Value := #[.int .i64 0, .int .i64 0, .int .i64 0, .int .i64 0, .int .i64 0, .int .i64 0, .int .i64 0, .string ⟨#[]⟩, .int .i64 0, .int .i64 0, .int .i64 0, .int .i64 0, .int .i64 0, .int .i64 0, .int .i64 0, .slice none 0 0, .slice none 0 0, .int .i64 0, .int .i64 0, .int .i64 0]

theorem none_cells : noQuestion.all (·.oneCell') = true := by simp [noQuestion, Value.oneCell']

set_option maxRecDepth 100000 in
set_option maxHeartbeats 400000 in
theorem ask_forest (age rest girth f0 f1 f2 heal : Int) (a : Option Addr) (n c : Nat) (tree year height : Int) (w : World) (r : Int) (hr : (r != 0) = true)
    (hF : ∀ W, Below w.heap.size w W → Calls Tryz.prog 18 #[.agg #[.int .i64 age, .int .i64 rest, .int .i64 girth, .int .i64 f0, .int .i64 f1, .int .i64 f2, .int .i64 heal, .slice a n c]] W fun e w' => e = .returned (.int .i64 r) ∧ Below W.heap.size W w') :
    Calls Tryz.prog 33 #[.agg #[.int .i64 age, .int .i64 rest, .int .i64 girth, .int .i64 f0, .int .i64 f1, .int .i64 f2, .int .i64 heal, .slice a n c], .int .i64 tree, .int .i64 year, .int .i64 height] w fun e w' => e = .returned (.tuple #[.agg noQuestion, .int .i64 r]) ∧ Below w.heap.size w w' := by
  have HF := Lib.hid hF; clear hF
  go_enter Tryz.func33, Tryz.ntmps33
  go_wp2_with (first | (go_at_call 18; refine (HF.out _ (by repeat (first | exact Below.refl _ _ | refine Below.alloc ?_ (by simp <;> omega) _))).mono ?_; rintro e w1 ⟨rfl, hw1⟩; have hB1 : Below w.heap.size w w1 := Below.trans (by repeat (first | exact Below.refl _ _ | refine Below.alloc ?_ (by simp <;> omega) _)) (hw1.mono (by simp <;> omega)); have hz1 : w.heap.size + 1 < w1.heap.size := (by (have := hw1.size; simp at this; omega)); have hK := Lib.hid ((hw1.block (w.heap.size + 1) (by simp <;> omega)).trans (heap_alloc2_new w _ _)); clear hw1) | ((with_reducible refine at_store 81 (.tmp 8) (.tmp 15) ?_); go_must (refine wpList_store_row rfl 81 (.tmp 8) (.tmp 15) rfl (w.heap.size + 1) #[.int .i64 0, .int .i64 0, .int .i64 0, .int .i64 0, .int .i64 0, .int .i64 0, .int .i64 0, .string ⟨#[]⟩, .int .i64 0, .int .i64 0, .int .i64 0, .int .i64 0, .int .i64 0, .int .i64 0, .int .i64 0, .slice none 0 0, .slice none 0 0, .int .i64 0, .int .i64 0, .int .i64 0] rfl rfl 81 _ hK.out size_question rfl none_cells ?_)))
  exact bodyPost_ret (results_cell_one rfl _ _ (w.heap.size + 1) 81 #[.int .i64 0, .int .i64 0, .int .i64 0, .int .i64 0, .int .i64 0, .int .i64 0, .int .i64 0, .string ⟨#[]⟩, .int .i64 0, .int .i64 0, .int .i64 0, .int .i64 0, .int .i64 0, .int .i64 0, .int .i64 0, .slice none 0 0, .slice none 0 0, .int .i64 0, .int .i64 0, .int .i64 0] (0, 0) _ rfl (setRow_heap _ _ _ _ _ _ hK.out) Tryz.underlying81 rfl size_question) rfl ⟨rfl, below_setRow hB1 (by omega) _⟩

set_option maxRecDepth 100000 in
set_option maxHeartbeats 400000 in
theorem ask_below (age rest girth f0 f1 f2 heal : Int) (a : Option Addr) (n c : Nat) (tree year height : Int) (w : World) (h1 : tree < 0)
    (hF : ∀ W, Below w.heap.size w W → Calls Tryz.prog 18 #[.agg #[.int .i64 age, .int .i64 rest, .int .i64 girth, .int .i64 f0, .int .i64 f1, .int .i64 f2, .int .i64 heal, .slice a n c]] W fun e w' => e = .returned (.int .i64 0) ∧ Below W.heap.size W w') :
    Calls Tryz.prog 33 #[.agg #[.int .i64 age, .int .i64 rest, .int .i64 girth, .int .i64 f0, .int .i64 f1, .int .i64 f2, .int .i64 heal, .slice a n c], .int .i64 tree, .int .i64 year, .int .i64 height] w fun e w' => e = .returned (.tuple #[.agg noQuestion, .int .i64 6]) ∧ Below w.heap.size w w' := by
  have HF := Lib.hid hF; clear hF
  go_enter Tryz.func33, Tryz.ntmps33
  go_wp2_with (first | (go_at_call 18; refine (HF.out _ (by repeat (first | exact Below.refl _ _ | refine Below.alloc ?_ (by simp <;> omega) _))).mono ?_; rintro e w1 ⟨rfl, hw1⟩; have hB1 : Below w.heap.size w w1 := Below.trans (by repeat (first | exact Below.refl _ _ | refine Below.alloc ?_ (by simp <;> omega) _)) (hw1.mono (by simp <;> omega)); have hz1 : w.heap.size + 1 < w1.heap.size := (by (have := hw1.size; simp at this; omega)); have hK := Lib.hid ((hw1.block (w.heap.size + 1) (by simp <;> omega)).trans (heap_alloc2_new w _ _)); have cF := (hw1.cell (p := ⟨w.heap.size, 7, none⟩) (by simp <;> omega)).trans (show _ = some (Value.slice a n c) from by go_simp); clear hw1) | ((with_reducible refine at_store 81 (.tmp 8) (.tmp 26) ?_); go_must (refine wpList_store_row rfl 81 (.tmp 8) (.tmp 26) rfl (w.heap.size + 1) #[.int .i64 0, .int .i64 0, .int .i64 0, .int .i64 0, .int .i64 0, .int .i64 0, .int .i64 0, .string ⟨#[]⟩, .int .i64 0, .int .i64 0, .int .i64 0, .int .i64 0, .int .i64 0, .int .i64 0, .int .i64 0, .slice none 0 0, .slice none 0 0, .int .i64 0, .int .i64 0, .int .i64 0] rfl rfl 81 _ hK.out size_question rfl none_cells ?_)) | (first | (go_at_call 58; refine (isYear_calls _ _).mono ?_; rintro e w' ⟨rfl, rfl⟩) | (go_at_call 59; refine (isHeight_calls _ _).mono ?_; rintro e w' ⟨rfl, rfl⟩)))
  exact bodyPost_ret (results_cell_one rfl _ _ (w.heap.size + 1) 81 #[.int .i64 0, .int .i64 0, .int .i64 0, .int .i64 0, .int .i64 0, .int .i64 0, .int .i64 0, .string ⟨#[]⟩, .int .i64 0, .int .i64 0, .int .i64 0, .int .i64 0, .int .i64 0, .int .i64 0, .int .i64 0, .slice none 0 0, .slice none 0 0, .int .i64 0, .int .i64 0, .int .i64 0] (0, 0) _ rfl (setRow_heap _ _ _ _ _ _ hK.out) Tryz.underlying81 rfl size_question) rfl ⟨rfl, below_setRow hB1 (by omega) _⟩

set_option maxRecDepth 100000 in
set_option maxHeartbeats 400000 in
theorem ask_above (age rest girth f0 f1 f2 heal : Int) (a : Option Addr) (n c : Nat) (tree year height : Int) (w : World) (h1 : 0 ≤ tree) (h2 : (n : Int) ≤ tree)
    (hF : ∀ W, Below w.heap.size w W → Calls Tryz.prog 18 #[.agg #[.int .i64 age, .int .i64 rest, .int .i64 girth, .int .i64 f0, .int .i64 f1, .int .i64 f2, .int .i64 heal, .slice a n c]] W fun e w' => e = .returned (.int .i64 0) ∧ Below W.heap.size W w') :
    Calls Tryz.prog 33 #[.agg #[.int .i64 age, .int .i64 rest, .int .i64 girth, .int .i64 f0, .int .i64 f1, .int .i64 f2, .int .i64 heal, .slice a n c], .int .i64 tree, .int .i64 year, .int .i64 height] w fun e w' => e = .returned (.tuple #[.agg noQuestion, .int .i64 6]) ∧ Below w.heap.size w w' := by
  have HF := Lib.hid hF; clear hF
  go_enter Tryz.func33, Tryz.ntmps33
  go_wp2_with (first | (go_at_call 18; refine (HF.out _ (by repeat (first | exact Below.refl _ _ | refine Below.alloc ?_ (by simp <;> omega) _))).mono ?_; rintro e w1 ⟨rfl, hw1⟩; have hB1 : Below w.heap.size w w1 := Below.trans (by repeat (first | exact Below.refl _ _ | refine Below.alloc ?_ (by simp <;> omega) _)) (hw1.mono (by simp <;> omega)); have hz1 : w.heap.size + 1 < w1.heap.size := (by (have := hw1.size; simp at this; omega)); have hK := Lib.hid ((hw1.block (w.heap.size + 1) (by simp <;> omega)).trans (heap_alloc2_new w _ _)); have cF := (hw1.cell (p := ⟨w.heap.size, 7, none⟩) (by simp <;> omega)).trans (show _ = some (Value.slice a n c) from by go_simp); clear hw1) | ((with_reducible refine at_store 81 (.tmp 8) (.tmp 26) ?_); go_must (refine wpList_store_row rfl 81 (.tmp 8) (.tmp 26) rfl (w.heap.size + 1) #[.int .i64 0, .int .i64 0, .int .i64 0, .int .i64 0, .int .i64 0, .int .i64 0, .int .i64 0, .string ⟨#[]⟩, .int .i64 0, .int .i64 0, .int .i64 0, .int .i64 0, .int .i64 0, .int .i64 0, .int .i64 0, .slice none 0 0, .slice none 0 0, .int .i64 0, .int .i64 0, .int .i64 0] rfl rfl 81 _ hK.out size_question rfl none_cells ?_)) | (first | (go_at_call 58; refine (isYear_calls _ _).mono ?_; rintro e w' ⟨rfl, rfl⟩) | (go_at_call 59; refine (isHeight_calls _ _).mono ?_; rintro e w' ⟨rfl, rfl⟩)))
  exact bodyPost_ret (results_cell_one rfl _ _ (w.heap.size + 1) 81 #[.int .i64 0, .int .i64 0, .int .i64 0, .int .i64 0, .int .i64 0, .int .i64 0, .int .i64 0, .string ⟨#[]⟩, .int .i64 0, .int .i64 0, .int .i64 0, .int .i64 0, .int .i64 0, .int .i64 0, .int .i64 0, .slice none 0 0, .slice none 0 0, .int .i64 0, .int .i64 0, .int .i64 0] (0, 0) _ rfl (setRow_heap _ _ _ _ _ _ hK.out) Tryz.underlying81 rfl size_question) rfl ⟨rfl, below_setRow hB1 (by omega) _⟩

set_option maxRecDepth 100000 in
set_option maxHeartbeats 400000 in
theorem ask_year (age rest girth f0 f1 f2 heal : Int) (a : Option Addr) (n c : Nat) (tree year height : Int) (w : World) (h1 : 0 ≤ tree) (h2 : tree < (n : Int)) (h3 : inB year 0 300 = false)
    (hF : ∀ W, Below w.heap.size w W → Calls Tryz.prog 18 #[.agg #[.int .i64 age, .int .i64 rest, .int .i64 girth, .int .i64 f0, .int .i64 f1, .int .i64 f2, .int .i64 heal, .slice a n c]] W fun e w' => e = .returned (.int .i64 0) ∧ Below W.heap.size W w') :
    Calls Tryz.prog 33 #[.agg #[.int .i64 age, .int .i64 rest, .int .i64 girth, .int .i64 f0, .int .i64 f1, .int .i64 f2, .int .i64 heal, .slice a n c], .int .i64 tree, .int .i64 year, .int .i64 height] w fun e w' => e = .returned (.tuple #[.agg noQuestion, .int .i64 1]) ∧ Below w.heap.size w w' := by
  have HF := Lib.hid hF; clear hF
  go_enter Tryz.func33, Tryz.ntmps33
  go_wp2_with (first | (go_at_call 18; refine (HF.out _ (by repeat (first | exact Below.refl _ _ | refine Below.alloc ?_ (by simp <;> omega) _))).mono ?_; rintro e w1 ⟨rfl, hw1⟩; have hB1 : Below w.heap.size w w1 := Below.trans (by repeat (first | exact Below.refl _ _ | refine Below.alloc ?_ (by simp <;> omega) _)) (hw1.mono (by simp <;> omega)); have hz1 : w.heap.size + 1 < w1.heap.size := (by (have := hw1.size; simp at this; omega)); have hK := Lib.hid ((hw1.block (w.heap.size + 1) (by simp <;> omega)).trans (heap_alloc2_new w _ _)); have cF := (hw1.cell (p := ⟨w.heap.size, 7, none⟩) (by simp <;> omega)).trans (show _ = some (Value.slice a n c) from by go_simp); clear hw1) | ((with_reducible refine at_store 81 (.tmp 8) (.tmp 35) ?_); go_must (refine wpList_store_row rfl 81 (.tmp 8) (.tmp 35) rfl (w.heap.size + 1) #[.int .i64 0, .int .i64 0, .int .i64 0, .int .i64 0, .int .i64 0, .int .i64 0, .int .i64 0, .string ⟨#[]⟩, .int .i64 0, .int .i64 0, .int .i64 0, .int .i64 0, .int .i64 0, .int .i64 0, .int .i64 0, .slice none 0 0, .slice none 0 0, .int .i64 0, .int .i64 0, .int .i64 0] rfl rfl 81 _ hK.out size_question rfl none_cells ?_)) | (first | (go_at_call 58; refine (isYear_calls _ _).mono ?_; rintro e w' ⟨rfl, rfl⟩) | (go_at_call 59; refine (isHeight_calls _ _).mono ?_; rintro e w' ⟨rfl, rfl⟩)))
  exact bodyPost_ret (results_cell_one rfl _ _ (w.heap.size + 1) 81 #[.int .i64 0, .int .i64 0, .int .i64 0, .int .i64 0, .int .i64 0, .int .i64 0, .int .i64 0, .string ⟨#[]⟩, .int .i64 0, .int .i64 0, .int .i64 0, .int .i64 0, .int .i64 0, .int .i64 0, .int .i64 0, .slice none 0 0, .slice none 0 0, .int .i64 0, .int .i64 0, .int .i64 0] (0, 0) _ rfl (setRow_heap _ _ _ _ _ _ hK.out) Tryz.underlying81 rfl size_question) rfl ⟨rfl, below_setRow hB1 (by omega) _⟩

set_option maxRecDepth 100000 in
set_option maxHeartbeats 400000 in
theorem ask_height (age rest girth f0 f1 f2 heal : Int) (a : Option Addr) (n c : Nat) (tree year height : Int) (w : World) (h1 : 0 ≤ tree) (h2 : tree < (n : Int)) (h3 : inB year 0 300 = true) (h4 : inB height 1 15000 = false)
    (hF : ∀ W, Below w.heap.size w W → Calls Tryz.prog 18 #[.agg #[.int .i64 age, .int .i64 rest, .int .i64 girth, .int .i64 f0, .int .i64 f1, .int .i64 f2, .int .i64 heal, .slice a n c]] W fun e w' => e = .returned (.int .i64 0) ∧ Below W.heap.size W w') :
    Calls Tryz.prog 33 #[.agg #[.int .i64 age, .int .i64 rest, .int .i64 girth, .int .i64 f0, .int .i64 f1, .int .i64 f2, .int .i64 heal, .slice a n c], .int .i64 tree, .int .i64 year, .int .i64 height] w fun e w' => e = .returned (.tuple #[.agg noQuestion, .int .i64 1]) ∧ Below w.heap.size w w' := by
  have HF := Lib.hid hF; clear hF
  go_enter Tryz.func33, Tryz.ntmps33
  go_wp2_with (first | (go_at_call 18; refine (HF.out _ (by repeat (first | exact Below.refl _ _ | refine Below.alloc ?_ (by simp <;> omega) _))).mono ?_; rintro e w1 ⟨rfl, hw1⟩; have hB1 : Below w.heap.size w w1 := Below.trans (by repeat (first | exact Below.refl _ _ | refine Below.alloc ?_ (by simp <;> omega) _)) (hw1.mono (by simp <;> omega)); have hz1 : w.heap.size + 1 < w1.heap.size := (by (have := hw1.size; simp at this; omega)); have hK := Lib.hid ((hw1.block (w.heap.size + 1) (by simp <;> omega)).trans (heap_alloc2_new w _ _)); have cF := (hw1.cell (p := ⟨w.heap.size, 7, none⟩) (by simp <;> omega)).trans (show _ = some (Value.slice a n c) from by go_simp); clear hw1) | ((with_reducible refine at_store 81 (.tmp 8) (.tmp 35) ?_); go_must (refine wpList_store_row rfl 81 (.tmp 8) (.tmp 35) rfl (w.heap.size + 1) #[.int .i64 0, .int .i64 0, .int .i64 0, .int .i64 0, .int .i64 0, .int .i64 0, .int .i64 0, .string ⟨#[]⟩, .int .i64 0, .int .i64 0, .int .i64 0, .int .i64 0, .int .i64 0, .int .i64 0, .int .i64 0, .slice none 0 0, .slice none 0 0, .int .i64 0, .int .i64 0, .int .i64 0] rfl rfl 81 _ hK.out size_question rfl none_cells ?_)) | (first | (go_at_call 58; refine (isYear_calls _ _).mono ?_; rintro e w' ⟨rfl, rfl⟩) | (go_at_call 59; refine (isHeight_calls _ _).mono ?_; rintro e w' ⟨rfl, rfl⟩)))
  exact bodyPost_ret (results_cell_one rfl _ _ (w.heap.size + 1) 81 #[.int .i64 0, .int .i64 0, .int .i64 0, .int .i64 0, .int .i64 0, .int .i64 0, .int .i64 0, .string ⟨#[]⟩, .int .i64 0, .int .i64 0, .int .i64 0, .int .i64 0, .int .i64 0, .int .i64 0, .int .i64 0, .slice none 0 0, .slice none 0 0, .int .i64 0, .int .i64 0, .int .i64 0] (0, 0) _ rfl (setRow_heap _ _ _ _ _ _ hK.out) Tryz.underlying81 rfl size_question) rfl ⟨rfl, below_setRow hB1 (by omega) _⟩
end Go.Proofs.YtnoofdjlocadbaaGreatDoor

/-! A question about a tree that stands. -/
namespace Go.Proofs.YtnoofdjlocadbaaGreatDoor
open Go.RowKit

set_option maxRecDepth 100000 in
set_option maxHeartbeats 2000000 in
theorem ask_ok (age rest girth f0 f1 f2 heal : Int) (b off n c k : Nat) (year height : Int) (code : ByteArray) (bmin bmax taped gmin gmax wmin wmax : Int) (sa : Option Addr) (sn sc : Nat) (wa : Option Addr) (wn wc : Nat) (dead : Int) (w : World) (hb : b < w.heap.size) (hk : k < n) (hn : n ≤ 20)
    (hy : inB year 0 300 = true) (hh : inB height 1 15000 = true)
    (h0 : w.cell? ⟨b, off + k * 11, none⟩ = some (Value.string code)) (h1 : w.cell? ⟨b, off + k * 11 + 1, none⟩ = some (Value.int .i64 bmin)) (h2 : w.cell? ⟨b, off + k * 11 + 2, none⟩ = some (Value.int .i64 bmax)) (h3 : w.cell? ⟨b, off + k * 11 + 3, none⟩ = some (Value.int .i64 taped)) (h4 : w.cell? ⟨b, off + k * 11 + 4, none⟩ = some (Value.int .i64 gmin)) (h5 : w.cell? ⟨b, off + k * 11 + 5, none⟩ = some (Value.int .i64 gmax)) (h6 : w.cell? ⟨b, off + k * 11 + 6, none⟩ = some (Value.int .i64 wmin)) (h7 : w.cell? ⟨b, off + k * 11 + 7, none⟩ = some (Value.int .i64 wmax)) (h8 : w.cell? ⟨b, off + k * 11 + 8, none⟩ = some (Value.slice sa sn sc)) (h9 : w.cell? ⟨b, off + k * 11 + 9, none⟩ = some (Value.slice wa wn wc)) (h10 : w.cell? ⟨b, off + k * 11 + 10, none⟩ = some (Value.int .i64 dead))
    (hF : ∀ W, Below w.heap.size w W → Calls Tryz.prog 18 #[.agg #[.int .i64 age, .int .i64 rest, .int .i64 girth, .int .i64 f0, .int .i64 f1, .int .i64 f2, .int .i64 heal, .slice (some ⟨b, off, none⟩) n c]] W fun e w' => e = .returned (.int .i64 0) ∧ Below W.heap.size W w') :
    Calls Tryz.prog 33 #[.agg #[.int .i64 age, .int .i64 rest, .int .i64 girth, .int .i64 f0, .int .i64 f1, .int .i64 f2, .int .i64 heal, .slice (some ⟨b, off, none⟩) n c], .int .i64 k, .int .i64 year, .int .i64 height] w fun e w' => e = .returned (.tuple #[.agg #[.int .i64 age, .int .i64 rest, .int .i64 girth, .int .i64 f0, .int .i64 f1, .int .i64 f2, .int .i64 heal, .string code, .int .i64 bmin, .int .i64 bmax, .int .i64 taped, .int .i64 gmin, .int .i64 gmax, .int .i64 wmin, .int .i64 wmax, .slice sa sn sc, .slice wa wn wc, .int .i64 dead, .int .i64 year, .int .i64 height], .int .i64 0]) ∧ Below w.heap.size w w' := by
  have HF := Lib.hid hF; clear hF
  have hn' : (n : Int) ≤ 20 := by omega
  have hk' : (k : Int) < (n : Int) := by omega
  go_enter Tryz.func33, Tryz.ntmps33
  go_wp2_with (first | (go_at_call 18; refine (HF.out _ (by repeat (first | exact Below.refl _ _ | refine Below.alloc ?_ (by simp <;> omega) _))).mono ?_; rintro e w1 ⟨rfl, hw1⟩; have hB1 : Below w.heap.size w w1 := Below.trans (by repeat (first | exact Below.refl _ _ | refine Below.alloc ?_ (by simp <;> omega) _)) (hw1.mono (by simp <;> omega)); have hz1 : w.heap.size + 1 < w1.heap.size := (by (have := hw1.size; simp at this; omega)); have hK := Lib.hid ((hw1.block (w.heap.size + 1) (by simp <;> omega)).trans (heap_alloc2_new w _ _)); have cF := (hw1.cell (p := ⟨w.heap.size, 7, none⟩) (by simp <;> omega)).trans (show _ = some (Value.slice (some ⟨b, off, none⟩) n c) from by go_simp); have cL0 := (hw1.cell (p := ⟨w.heap.size, 0, none⟩) (by simp <;> omega)).trans (show _ = some (Value.int .i64 age) from by go_simp); have cL1 := (hw1.cell (p := ⟨w.heap.size, 1, none⟩) (by simp <;> omega)).trans (show _ = some (Value.int .i64 rest) from by go_simp); have cL2 := (hw1.cell (p := ⟨w.heap.size, 2, none⟩) (by simp <;> omega)).trans (show _ = some (Value.int .i64 girth) from by go_simp); have cL3 := (hw1.cell (p := ⟨w.heap.size, 3, none⟩) (by simp <;> omega)).trans (show _ = some (Value.int .i64 f0) from by go_simp); have cL4 := (hw1.cell (p := ⟨w.heap.size, 4, none⟩) (by simp <;> omega)).trans (show _ = some (Value.int .i64 f1) from by go_simp); have cL5 := (hw1.cell (p := ⟨w.heap.size, 5, none⟩) (by simp <;> omega)).trans (show _ = some (Value.int .i64 f2) from by go_simp); have cL6 := (hw1.cell (p := ⟨w.heap.size, 6, none⟩) (by simp <;> omega)).trans (show _ = some (Value.int .i64 heal) from by go_simp); have cT0 := (hB1.cell (p := ⟨b, off + k * 11, none⟩) hb).trans h0; have cT1 := (hB1.cell (p := ⟨b, off + k * 11 + 1, none⟩) hb).trans h1; have cT2 := (hB1.cell (p := ⟨b, off + k * 11 + 2, none⟩) hb).trans h2; have cT3 := (hB1.cell (p := ⟨b, off + k * 11 + 3, none⟩) hb).trans h3; have cT4 := (hB1.cell (p := ⟨b, off + k * 11 + 4, none⟩) hb).trans h4; have cT5 := (hB1.cell (p := ⟨b, off + k * 11 + 5, none⟩) hb).trans h5; have cT6 := (hB1.cell (p := ⟨b, off + k * 11 + 6, none⟩) hb).trans h6; have cT7 := (hB1.cell (p := ⟨b, off + k * 11 + 7, none⟩) hb).trans h7; have cT8 := (hB1.cell (p := ⟨b, off + k * 11 + 8, none⟩) hb).trans h8; have cT9 := (hB1.cell (p := ⟨b, off + k * 11 + 9, none⟩) hb).trans h9; have cT10 := (hB1.cell (p := ⟨b, off + k * 11 + 10, none⟩) hb).trans h10; clear hw1) | (first | (go_at_call 58; refine (isYear_calls _ _).mono ?_; rintro e w' ⟨rfl, rfl⟩) | (go_at_call 59; refine (isHeight_calls _ _).mono ?_; rintro e w' ⟨rfl, rfl⟩)))
  go_still_tail 10, (by kernel_rfl)
  change wpList _ _ _ _ _ w1.drew
  have hK2 := Lib.hid (show w1.drew.heap[w.heap.size + 1]? = _ from hK.out)
  have hB2 : Below w.heap.size w w1.drew := hB1.drew
  have hO : Hid ((#[.int .i64 age, .int .i64 rest, .int .i64 girth, .int .i64 f0, .int .i64 f1, .int .i64 f2, .int .i64 heal, .string code, .int .i64 bmin, .int .i64 bmax, .int .i64 taped, .int .i64 gmin, .int .i64 gmax, .int .i64 wmin, .int .i64 wmax, .slice sa sn sc, .slice wa wn wc, .int .i64 dead, .int .i64 year, .int .i64 height] : Array Value).all (·.oneCell') = true) := Lib.hid (by simp [Value.oneCell'])
  clear hK cF cL0 cL1 cL2 cL3 cL4 cL5 cL6 cT0 cT1 cT2 cT3 cT4 cT5 cT6 cT7 cT8 cT9 cT10 h0 h1 h2 h3 h4 h5 h6 h7 h8 h9 h10
  generalize w1.drew = w2 at hK2 hB2 ⊢
  refine wpList_store_row rfl 81 (.tmp 8) (.tmp 45) rfl (w.heap.size + 1) #[.int .i64 age, .int .i64 rest, .int .i64 girth, .int .i64 f0, .int .i64 f1, .int .i64 f2, .int .i64 heal, .string code, .int .i64 bmin, .int .i64 bmax, .int .i64 taped, .int .i64 gmin, .int .i64 gmax, .int .i64 wmin, .int .i64 wmax, .slice sa sn sc, .slice wa wn wc, .int .i64 dead, .int .i64 year, .int .i64 height] rfl rfl 81 _ hK2.out size_question rfl hO.out ?_
  go_wp2
  exact bodyPost_ret (results_cell_one rfl _ _ (w.heap.size + 1) 81 #[.int .i64 age, .int .i64 rest, .int .i64 girth, .int .i64 f0, .int .i64 f1, .int .i64 f2, .int .i64 heal, .string code, .int .i64 bmin, .int .i64 bmax, .int .i64 taped, .int .i64 gmin, .int .i64 gmax, .int .i64 wmin, .int .i64 wmax, .slice sa sn sc, .slice wa wn wc, .int .i64 dead, .int .i64 year, .int .i64 height] (0, 0) _ rfl (setRow_heap _ _ _ _ _ _ hK2.out) Tryz.underlying81 rfl size_question) rfl ⟨rfl, below_setRow hB2 (by omega) _⟩

end Go.Proofs.YtnoofdjlocadbaaGreatDoor

/-! A tree's girth in a year. -/
namespace Go.Proofs.YtnoofdjlocadbaaGreatDoor
open Go.RowKit

theorem mul_bounds {a b A B : Int} (ha : 0 ≤ a) (hA : a ≤ A) (hb : 0 ≤ b) (hB : b ≤ B) : 0 ≤ a * b ∧ a * b ≤ A * B :=
  ⟨Int.mul_nonneg ha hb, Int.le_trans (Int.mul_le_mul_of_nonneg_right hA hb) (Int.mul_le_mul_of_nonneg_left hB (Int.le_trans ha hA))⟩

theorem mul_bounds_neg {a b A B : Int} (ha : -A ≤ a) (hA : a ≤ 0) (hb : 0 ≤ b) (hB : b ≤ B) : -(A * B) ≤ a * b ∧ a * b ≤ 0 := by
  have h := mul_bounds (a := -a) (b := b) (A := A) (B := B) (by omega) (by omega) hb hB
  rw [Int.neg_mul] at h
  omega

theorem size_bounds : (Tryz.prog.info? 41).map (·.size) = some 2 := by kernel_rfl

set_option maxRecDepth 100000 in
set_option maxHeartbeats 1000000 in
theorem girth_after (age rest girth f0 f1 f2 heal : Int) (code : ByteArray) (bmin bmax taped gmin gmax wmin wmax : Int) (sa : Option Addr) (sn sc : Nat) (wa : Option Addr) (wn wc : Nat) (dead : Int) (year height : Int) (w : World) (hy0 : 0 ≤ year) (hy1 : year ≤ 300) (ht0 : 0 ≤ taped) (ht1 : taped ≤ 300) (h : taped ≤ year) (hg0 : 0 ≤ gmin) (hg1 : gmin ≤ gmax) (hg2 : gmax ≤ 6000) (hw0 : 0 ≤ wmin) (hw1 : wmin ≤ wmax) (hw2 : wmax ≤ 50) :
    Calls Tryz.prog 119 #[.agg #[.int .i64 age, .int .i64 rest, .int .i64 girth, .int .i64 f0, .int .i64 f1, .int .i64 f2, .int .i64 heal, .string code, .int .i64 bmin, .int .i64 bmax, .int .i64 taped, .int .i64 gmin, .int .i64 gmax, .int .i64 wmin, .int .i64 wmax, .slice sa sn sc, .slice wa wn wc, .int .i64 dead, .int .i64 year, .int .i64 height]] w fun e w' => e = .returned (.agg #[.int .i64 (gmin + (year - taped) * wmin), .int .i64 (gmax + (year - taped) * wmax)]) ∧ Below w.heap.size w w' := by
  obtain ⟨p0, p1⟩ := mul_bounds (a := year - taped) (b := wmin) (A := 300) (B := 50) (by omega) (by omega) (by omega) (by omega)
  obtain ⟨q0, q1⟩ := mul_bounds (a := year - taped) (b := wmax) (A := 300) (B := 50) (by omega) (by omega) (by omega) (by omega)
  have h' : 0 ≤ year - taped := by omega
  go_enter Tryz.func119, Tryz.ntmps119
  go_wp2
  exact bodyPost_ret (results_cell_row rfl _ _ (w.heap.size + 1) 41 #[.int .i64 (gmin + (year - taped) * wmin), .int .i64 (gmax + (year - taped) * wmax)] (0, 0) _ rfl ((Below.heap_alloc _ _ _ (by simp)).trans (heap_alloc2_new w _ _)) Tryz.underlying41 rfl size_bounds) rfl ⟨rfl, (by repeat (first | exact Below.refl _ _ | refine Below.alloc ?_ (by simp <;> omega) _))⟩

set_option maxRecDepth 100000 in
set_option maxHeartbeats 1000000 in
theorem girth_before (age rest girth f0 f1 f2 heal : Int) (code : ByteArray) (bmin bmax taped gmin gmax wmin wmax : Int) (sa : Option Addr) (sn sc : Nat) (wa : Option Addr) (wn wc : Nat) (dead : Int) (year height : Int) (w : World) (hy0 : 0 ≤ year) (hy1 : year ≤ 300) (ht0 : 0 ≤ taped) (ht1 : taped ≤ 300) (h : year < taped) (hg0 : 0 ≤ gmin) (hg1 : gmin ≤ gmax) (hg2 : gmax ≤ 6000) (hw0 : 0 ≤ wmin) (hw1 : wmin ≤ wmax) (hw2 : wmax ≤ 50) :
    Calls Tryz.prog 119 #[.agg #[.int .i64 age, .int .i64 rest, .int .i64 girth, .int .i64 f0, .int .i64 f1, .int .i64 f2, .int .i64 heal, .string code, .int .i64 bmin, .int .i64 bmax, .int .i64 taped, .int .i64 gmin, .int .i64 gmax, .int .i64 wmin, .int .i64 wmax, .slice sa sn sc, .slice wa wn wc, .int .i64 dead, .int .i64 year, .int .i64 height]] w fun e w' => e = .returned (.agg #[.int .i64 (max 0 (gmin + (year - taped) * wmax)), .int .i64 (max 0 (gmax + (year - taped) * wmin))]) ∧ Below w.heap.size w w' := by
  obtain ⟨p0, p1⟩ := mul_bounds_neg (a := year - taped) (b := wmin) (A := 300) (B := 50) (by omega) (by omega) (by omega) (by omega)
  obtain ⟨q0, q1⟩ := mul_bounds_neg (a := year - taped) (b := wmax) (A := 300) (B := 50) (by omega) (by omega) (by omega) (by omega)
  have h' : year - taped < 0 := by omega
  by_cases h1 : 0 < gmin + (year - taped) * wmax
  · rw [Int.max_eq_right (show (0 : Int) ≤ gmin + (year - taped) * wmax by omega)]
    by_cases h2 : 0 < gmax + (year - taped) * wmin
    · rw [Int.max_eq_right (show (0 : Int) ≤ gmax + (year - taped) * wmin by omega)]
      go_enter Tryz.func119, Tryz.ntmps119
      go_wp2
      exact bodyPost_ret (results_cell_row rfl _ _ (w.heap.size + 1) 41 #[.int .i64 (gmin + (year - taped) * wmax), .int .i64 (gmax + (year - taped) * wmin)] (0, 0) _ rfl ((Below.heap_alloc _ _ _ (by simp)).trans (heap_alloc2_new w _ _)) Tryz.underlying41 rfl size_bounds) rfl ⟨rfl, (by repeat (first | exact Below.refl _ _ | refine Below.alloc ?_ (by simp <;> omega) _))⟩
    · rw [Int.max_eq_left (show gmax + (year - taped) * wmin ≤ 0 by omega)]
      have h2' : gmax + (year - taped) * wmin ≤ 0 := by omega
      go_enter Tryz.func119, Tryz.ntmps119
      go_wp2
      exact bodyPost_ret (results_cell_row rfl _ _ (w.heap.size + 1) 41 #[.int .i64 (gmin + (year - taped) * wmax), .int .i64 (0)] (0, 0) _ rfl ((Below.heap_alloc _ _ _ (by simp)).trans (heap_alloc2_new w _ _)) Tryz.underlying41 rfl size_bounds) rfl ⟨rfl, (by repeat (first | exact Below.refl _ _ | refine Below.alloc ?_ (by simp <;> omega) _))⟩
  · rw [Int.max_eq_left (show gmin + (year - taped) * wmax ≤ 0 by omega)]
    have h1' : gmin + (year - taped) * wmax ≤ 0 := by omega
    by_cases h2 : 0 < gmax + (year - taped) * wmin
    · rw [Int.max_eq_right (show (0 : Int) ≤ gmax + (year - taped) * wmin by omega)]
      go_enter Tryz.func119, Tryz.ntmps119
      go_wp2
      exact bodyPost_ret (results_cell_row rfl _ _ (w.heap.size + 1) 41 #[.int .i64 (0), .int .i64 (gmax + (year - taped) * wmin)] (0, 0) _ rfl ((Below.heap_alloc _ _ _ (by simp)).trans (heap_alloc2_new w _ _)) Tryz.underlying41 rfl size_bounds) rfl ⟨rfl, (by repeat (first | exact Below.refl _ _ | refine Below.alloc ?_ (by simp <;> omega) _))⟩
    · rw [Int.max_eq_left (show gmax + (year - taped) * wmin ≤ 0 by omega)]
      have h2' : gmax + (year - taped) * wmin ≤ 0 := by omega
      go_enter Tryz.func119, Tryz.ntmps119
      go_wp2
      exact bodyPost_ret (results_cell_row rfl _ _ (w.heap.size + 1) 41 #[.int .i64 (0), .int .i64 (0)] (0, 0) _ rfl ((Below.heap_alloc _ _ _ (by simp)).trans (heap_alloc2_new w _ _)) Tryz.underlying41 rfl size_bounds) rfl ⟨rfl, (by repeat (first | exact Below.refl _ _ | refine Below.alloc ?_ (by simp <;> omega) _))⟩

end Go.Proofs.YtnoofdjlocadbaaGreatDoor

/-! The judgements of the rules: dead, age; how many strips lie before a year. -/
namespace Go.Proofs.YtnoofdjlocadbaaGreatDoor
open Go.RowKit

theorem below_drewN {B : Nat} {a w : World} (h : Below B a w) (n : Nat) : Below B a (w.drewN n) := ⟨h.os, h.tape, h.output, h.size, h.block⟩

set_option maxHeartbeats 400000 in
theorem judged_calls (a b : Bool) (w : World) :
    Calls Tryz.prog 113 #[.bool a, .bool b] w fun e w' => e = .returned (.int .i64 (judged a b)) ∧ w = w' := by
  cases a
  · cases b
    · show Calls _ _ _ _ fun e w' => e = .returned (.int .i64 2) ∧ w = w'
      go_enter Tryz.func113, Tryz.ntmps113
      go_wp2
      go_ret
      exact ⟨rfl, rfl⟩
    · show Calls _ _ _ _ fun e w' => e = .returned (.int .i64 0) ∧ w = w'
      go_enter Tryz.func113, Tryz.ntmps113
      go_wp2
      go_ret
      exact ⟨rfl, rfl⟩
  · show Calls _ _ _ _ fun e w' => e = .returned (.int .i64 1) ∧ w = w'
    go_enter Tryz.func113, Tryz.ntmps113
    go_wp2
    go_ret
    exact ⟨rfl, rfl⟩

set_option maxHeartbeats 400000 in
theorem known_calls (a : Bool) (w : World) :
    Calls Tryz.prog 112 #[.bool a] w fun e w' => e = .returned (.int .i64 (judged a a)) ∧ w = w' := by
  go_enter Tryz.func112, Tryz.ntmps112
  go_wp2_with (go_at_call 113; refine (judged_calls _ _ _).mono ?_; rintro e w' ⟨rfl, rfl⟩)
  go_ret
  exact ⟨rfl, rfl⟩

set_option maxRecDepth 100000 in
set_option maxHeartbeats 1000000 in
theorem judgeDead_calls (age rest girth f0 f1 f2 heal : Int) (code : ByteArray) (bmin bmax taped gmin gmax wmin wmax : Int) (sa : Option Addr) (sn sc : Nat) (wa : Option Addr) (wn wc : Nat) (dead : Int) (year height : Int) (w : World) :
    Calls Tryz.prog 91 #[.agg #[.int .i64 age, .int .i64 rest, .int .i64 girth, .int .i64 f0, .int .i64 f1, .int .i64 f2, .int .i64 heal, .string code, .int .i64 bmin, .int .i64 bmax, .int .i64 taped, .int .i64 gmin, .int .i64 gmax, .int .i64 wmin, .int .i64 wmax, .slice sa sn sc, .slice wa wn wc, .int .i64 dead, .int .i64 year, .int .i64 height]] w fun e w' => e = .returned (.int .i64 (judged (decide (dead = -1 ∨ year < dead)) (decide (dead = -1 ∨ year < dead)))) ∧ Below w.heap.size w w' := by
  by_cases hd : dead = -1
  · have hb : (dead == -1) = true := by simp [hd]
    have hr : decide (dead = -1 ∨ year < dead) = true := by simp [hd]
    rw [hr]
    clear hd hr
    go_enter Tryz.func91, Tryz.ntmps91
    go_wp2_with (go_at_call 112; refine (known_calls _ _).mono ?_; rintro e w' ⟨rfl, rfl⟩)
    go_ret
    exact ⟨rfl, (by repeat (first | exact Below.refl _ _ | refine Below.alloc ?_ (by simp <;> omega) _))⟩
  · have hb : (dead == -1) = false := by simp [hd]
    by_cases hy : year < dead
    · have hr : decide (dead = -1 ∨ year < dead) = true := by simp [hy]
      rw [hr]
      clear hd hr
      have hyb : decide (year < dead) = true := by simp [hy]
      go_enter Tryz.func91, Tryz.ntmps91
      go_wp2_with (go_at_call 112; refine (known_calls _ _).mono ?_; rintro e w' ⟨rfl, rfl⟩)
      go_ret
      exact ⟨rfl, (by repeat (first | exact Below.refl _ _ | refine Below.alloc ?_ (by simp <;> omega) _))⟩
    · have hr : decide (dead = -1 ∨ year < dead) = false := by simp [hy, hd]
      rw [hr]
      clear hd hr
      have hyb : decide (year < dead) = false := by simp [hy]
      go_enter Tryz.func91, Tryz.ntmps91
      go_wp2_with (go_at_call 112; refine (known_calls _ _).mono ?_; rintro e w' ⟨rfl, rfl⟩)
      go_ret
      exact ⟨rfl, (by repeat (first | exact Below.refl _ _ | refine Below.alloc ?_ (by simp <;> omega) _))⟩

set_option maxRecDepth 100000 in
set_option maxHeartbeats 1000000 in
theorem judgeAge_calls (age rest girth f0 f1 f2 heal : Int) (code : ByteArray) (bmin bmax taped gmin gmax wmin wmax : Int) (sa : Option Addr) (sn sc : Nat) (wa : Option Addr) (wn wc : Nat) (dead : Int) (year height : Int) (w : World) (hy0 : 0 ≤ year) (hy1 : year ≤ 300) (hb0 : 0 ≤ bmin) (hb1 : bmin ≤ 300) (hb2 : 0 ≤ bmax) (hb3 : bmax ≤ 300) :
    Calls Tryz.prog 92 #[.agg #[.int .i64 age, .int .i64 rest, .int .i64 girth, .int .i64 f0, .int .i64 f1, .int .i64 f2, .int .i64 heal, .string code, .int .i64 bmin, .int .i64 bmax, .int .i64 taped, .int .i64 gmin, .int .i64 gmax, .int .i64 wmin, .int .i64 wmax, .slice sa sn sc, .slice wa wn wc, .int .i64 dead, .int .i64 year, .int .i64 height]] w fun e w' => e = .returned (.int .i64 (judged (decide (age ≤ year - bmax)) (decide (age ≤ year - bmin)))) ∧ Below w.heap.size w w' := by
  have hx : (year - bmax : Int) ≤ 300 := by omega
  go_enter Tryz.func92, Tryz.ntmps92
  go_wp2
  go_quiet (fail)
  go_wp2_with (go_at_call 113; refine (judged_calls _ _ _).mono ?_; rintro e w' ⟨rfl, rfl⟩)
  go_ret
  exact ⟨rfl, below_drewN ((Below.refl _ w).alloc (Nat.le_refl _) _) _⟩

def countBefore (xs : List (Int × Int)) (y : Int) : Nat := (xs.filter fun s => decide (s.1 < y)).length

theorem count_yes (xs : List (Int × Int)) (y : Int) (k : Nat) (h : k < xs.length) (r m : Nat) (hr : r = m + countBefore (xs.drop k) y) (hp : xs[k]!.1 < y) : r = (m + 1) + countBefore (xs.drop (k + 1)) y := by
  rw [hr, drop_get xs k h]; simp only [countBefore, List.filter_cons]; rw [if_pos (by simpa using hp)]; simp; omega
theorem count_no (xs : List (Int × Int)) (y : Int) (k : Nat) (h : k < xs.length) (r m : Nat) (hr : r = m + countBefore (xs.drop k) y) (hp : ¬ xs[k]!.1 < y) : r = m + countBefore (xs.drop (k + 1)) y := by
  rw [hr, drop_get xs k h]; simp only [countBefore, List.filter_cons]; rw [if_neg (by simpa using hp)]
theorem count_end (xs : List (Int × Int)) (y : Int) (k : Nat) (h : xs.length ≤ k) (r m : Nat) (hr : r = m + countBefore (xs.drop k) y) : r = m := by
  rw [hr, List.drop_eq_nil_of_le h]; rfl

set_option maxRecDepth 100000 in
set_option maxHeartbeats 2000000 in
theorem stripsBefore_some (age rest girth f0 f1 f2 heal : Int) (code : ByteArray) (bmin bmax taped gmin gmax wmin wmax : Int) (sc : Nat) (wa : Option Addr) (wn wc : Nat) (dead : Int) (year height : Int) (b off : Nat) (xs : List (Int × Int)) (w : World) (hb : b < w.heap.size) (hl : xs.length ≤ 140737488355328)
    (hc : ∀ j, j < xs.length → ∀ i u, (stripCells xs[j]!)[i]? = some u → w.cell? ⟨b, off + j * 2 + i, none⟩ = some u) :
    Calls Tryz.prog 118 #[.agg #[.int .i64 age, .int .i64 rest, .int .i64 girth, .int .i64 f0, .int .i64 f1, .int .i64 f2, .int .i64 heal, .string code, .int .i64 bmin, .int .i64 bmax, .int .i64 taped, .int .i64 gmin, .int .i64 gmax, .int .i64 wmin, .int .i64 wmax, .slice (some ⟨b, off, none⟩) xs.length sc, .slice wa wn wc, .int .i64 dead, .int .i64 year, .int .i64 height]] w fun e w' => e = .returned (.int .i64 (countBefore xs year : Nat)) ∧ Below w.heap.size w w' := by
  have hl' : (xs.length : Int) ≤ 140737488355328 := by omega
  have hr : countBefore xs year = 0 + countBefore (xs.drop 0) year := by simp
  generalize countBefore xs year = r at hr ⊢
  have HR := Lib.hid hr; clear hr
  have HC := Lib.hid hc; clear hc
  go_enter Tryz.func118, Tryz.ntmps118
  go_wp2
  go_loopw [3, 10] (fun cnt i wr => ∃ (k m : Nat), k ≤ xs.length ∧ m ≤ k ∧ i = .int .i64 k ∧ cnt = .int .i64 m ∧ Hid (r = m + countBefore (xs.drop k) year) ∧ Below (w.heap.size + 1) (w.alloc (.cells #[.int .i64 age, .int .i64 rest, .int .i64 girth, .int .i64 f0, .int .i64 f1, .int .i64 f2, .int .i64 heal, .string code, .int .i64 bmin, .int .i64 bmax, .int .i64 taped, .int .i64 gmin, .int .i64 gmax, .int .i64 wmin, .int .i64 wmax, .slice (some ⟨b, off, none⟩) xs.length sc, .slice wa wn wc, .int .i64 dead, .int .i64 year, .int .i64 height] 81)) wr) (fun _ i _ => xs.length - (intOf i).toNat)
  case atStart => exact ⟨0, 0, by omega, by omega, rfl, rfl, HR, Below.refl _ _⟩
  case round =>
    clear HR
    obtain ⟨k, m, hk, hm, rfl, rfl, HR, hB⟩ := hrel
    have hBw : Below w.heap.size w wr := ((Below.refl _ w).alloc (Nat.le_refl _) _).trans (hB.mono (by omega))
    have cy : wr.cell? ⟨w.heap.size, 18, none⟩ = some (.int .i64 year) := (hB.cell (p := ⟨w.heap.size, 18, none⟩) (by simp)).trans (by simp)
    have hz : w.heap.size < wr.heap.size := (by have := hB.size; simp at this; omega)
    by_cases hlt : k < xs.length
    · have c0 : wr.cell? ⟨b, off + k * 2, none⟩ = some (.int .i64 xs[k]!.1) := (hBw.cell (p := ⟨b, off + k * 2, none⟩) hb).trans (HC.out k hlt 0 _ rfl)
      have c1 : wr.cell? ⟨b, off + k * 2 + 1, none⟩ = some (.int .i64 xs[k]!.2) := (hBw.cell (p := ⟨b, off + k * 2 + 1, none⟩) hb).trans (HC.out k hlt 1 _ rfl)
      generalize hx : xs[k]! = x at c0 c1
      have HX := Lib.hid hx; clear hx
      obtain ⟨y, h⟩ := x
      dsimp only at c0 c1
      have hB' := hB.alloc (show w.heap.size + 1 ≤ wr.heap.size by omega)
      by_cases hy : y < year
      · have HS := Lib.hid (count_yes xs year k hlt r m HR.out (by rw [HX.out]; exact hy))
        go_wp2
        exact ⟨⟨k + 1, m + 1, by omega, by omega, by go_num, by go_num, HS, hB' _⟩, by simp [intOf]; omega⟩
      · have HS := Lib.hid (count_no xs year k hlt r m HR.out (by rw [HX.out]; exact hy))
        have hy' : year ≤ y := by omega
        go_wp2
        exact ⟨⟨k + 1, m, by omega, by omega, by go_num, rfl, HS, hB' _⟩, by simp [intOf]; omega⟩
    · have HS := Lib.hid (count_end xs year k (by omega) r m HR.out)
      have hge : xs.length ≤ k := by omega
      go_wp2
      go_ret
      exact ⟨by rw [HS.out]; rfl, hBw⟩

set_option maxRecDepth 100000 in
set_option maxHeartbeats 1000000 in
theorem stripsBefore_nil (age rest girth f0 f1 f2 heal : Int) (code : ByteArray) (bmin bmax taped gmin gmax wmin wmax : Int) (sa : Option Addr) (sc : Nat) (wa : Option Addr) (wn wc : Nat) (dead : Int) (year height : Int) (w : World) :
    Calls Tryz.prog 118 #[.agg #[.int .i64 age, .int .i64 rest, .int .i64 girth, .int .i64 f0, .int .i64 f1, .int .i64 f2, .int .i64 heal, .string code, .int .i64 bmin, .int .i64 bmax, .int .i64 taped, .int .i64 gmin, .int .i64 gmax, .int .i64 wmin, .int .i64 wmax, .slice sa 0 sc, .slice wa wn wc, .int .i64 dead, .int .i64 year, .int .i64 height]] w fun e w' => e = .returned (.int .i64 0) ∧ Below w.heap.size w w' := by
  go_enter Tryz.func118, Tryz.ntmps118
  go_wp2
  refine wp_loop_rounds 1 ?_
  rw [rounds_succ]
  go_wp2
  go_ret
  exact ⟨rfl, (by repeat (first | exact Below.refl _ _ | refine Below.alloc ?_ (by simp <;> omega) _))⟩

theorem stripsBefore_calls (age rest girth f0 f1 f2 heal : Int) (code : ByteArray) (bmin bmax taped gmin gmax wmin wmax : Int) (sa : Option Addr) (sn sc : Nat) (wa : Option Addr) (wn wc : Nat) (dead : Int) (year height : Int) (xs : List (Int × Int)) (B : Nat) (w : World) (hB : B ≤ w.heap.size) (h : Held B w 2 stripCells (.slice sa sn sc) xs) :
    Calls Tryz.prog 118 #[.agg #[.int .i64 age, .int .i64 rest, .int .i64 girth, .int .i64 f0, .int .i64 f1, .int .i64 f2, .int .i64 heal, .string code, .int .i64 bmin, .int .i64 bmax, .int .i64 taped, .int .i64 gmin, .int .i64 gmax, .int .i64 wmin, .int .i64 wmax, .slice sa sn sc, .slice wa wn wc, .int .i64 dead, .int .i64 year, .int .i64 height]] w fun e w' => e = .returned (.int .i64 (countBefore xs year : Nat)) ∧ Below w.heap.size w w' := by
  rcases h with ⟨⟨a, c, h⟩, rfl⟩ | ⟨b, off, c, h, hb, ⟨h1, h2⟩, hc⟩
  · cases h
    exact stripsBefore_nil age rest girth f0 f1 f2 heal code bmin bmax taped gmin gmax wmin wmax sa sc wa wn wc dead year height w
  · cases h
    exact stripsBefore_some age rest girth f0 f1 f2 heal code bmin bmax taped gmin gmax wmin wmax sc wa wn wc dead year height b off xs w (by omega) (by omega) hc
end Go.Proofs.YtnoofdjlocadbaaGreatDoor

/-! The judgements of rest and of healing: searches among strips and wounds. -/
namespace Go.Proofs.YtnoofdjlocadbaaGreatDoor
open Go.RowKit

def nearB (year rest : Int) (s : Int × Int) : Bool := decide (max (year - s.1) (s.1 - year) < rest)
def freshB (year heal w : Int) : Bool := decide (0 ≤ year - w ∧ year - w < heal)

set_option maxHeartbeats 1000000 in
theorem near_calls (y h year rest : Int) (B : Nat) (w : World) (hB : B < w.heap.size) (hy0 : 0 ≤ year) (hy1 : year ≤ 300) (hs0 : 0 ≤ y) (hs1 : y ≤ 300)
    (cy : w.cell? ⟨B, 18, none⟩ = some (.int .i64 year)) (cr : w.cell? ⟨B, 1, none⟩ = some (.int .i64 rest)) :
    Calls Tryz.prog 114 (#[.agg #[.int .i64 y, .int .i64 h]] ++ #[.pointer (some ⟨B, 0, none⟩)]) w fun e w' => e = .returned (.bool (nearB year rest (y, h))) ∧ Below w.heap.size w w' := by
  have hne : B ≠ w.heap.size := by omega
  unfold nearB
  dsimp only
  show Calls Tryz.prog _ #[.agg #[.int .i64 y, .int .i64 h], .pointer (some ⟨B, 0, none⟩)] _ _
  by_cases hc : year - y < y - year
  · rw [Int.max_eq_right (show year - y ≤ y - year by omega)]
    go_enter Tryz.func114, Tryz.ntmps114
    go_wp2
    go_ret
    exact ⟨rfl, (by repeat (first | exact Below.refl _ _ | refine Below.alloc ?_ (by simp <;> omega) _))⟩
  · rw [Int.max_eq_left (show y - year ≤ year - y by omega)]
    have hc' : y - year ≤ year - y := by omega
    go_enter Tryz.func114, Tryz.ntmps114
    go_wp2
    go_ret
    exact ⟨rfl, (by repeat (first | exact Below.refl _ _ | refine Below.alloc ?_ (by simp <;> omega) _))⟩

set_option maxHeartbeats 2000000 in
theorem indexStrip (year rest : Int) (B b off c : Nat) (xs : List (Int × Int)) (w : World) (hB : B < w.heap.size) (hb : b < w.heap.size) (hl : xs.length ≤ 140737488355328) (hy0 : 0 ≤ year) (hy1 : year ≤ 300) (hx : ∀ s ∈ xs, 0 ≤ s.1 ∧ s.1 ≤ 300)
    (cy : w.cell? ⟨B, 18, none⟩ = some (.int .i64 year)) (cr : w.cell? ⟨B, 1, none⟩ = some (.int .i64 rest))
    (hc : ∀ j, j < xs.length → ∀ i u, (stripCells xs[j]!)[i]? = some u → w.cell? ⟨b, off + j * 2 + i, none⟩ = some u) :
    Calls Tryz.prog 134 #[.slice (some ⟨b, off, none⟩) xs.length c, .func (.func 114) #[] #[.pointer (some ⟨B, 0, none⟩)]] w (SomeIdx (xs.any (nearB year rest)) w) := by
  have hl' : (xs.length : Int) ≤ 140737488355328 := by omega
  have hr : xs.any (nearB year rest) = (xs.drop 0).any (nearB year rest) := rfl
  generalize xs.any (nearB year rest) = r at hr ⊢
  have HR := Lib.hid hr; clear hr
  have HC := Lib.hid hc; clear hc
  have HY := Lib.hid cy; clear cy
  have HE := Lib.hid cr; clear cr
  have HX := Lib.hid hx; clear hx
  go_enter Tryz.func134, Tryz.ntmps134
  go_wp2
  go_loopw [8] (fun i wr => ∃ k : Nat, k ≤ xs.length ∧ i = .int .i64 k ∧ Hid (r = (xs.drop k).any (nearB year rest)) ∧ Below w.heap.size w wr) (fun i _ => xs.length - (intOf i).toNat)
  case atStart => exact ⟨0, by omega, rfl, HR, Below.refl _ _⟩
  case round =>
    clear HR
    obtain ⟨k, hk, rfl, HR, hB'⟩ := hrel
    by_cases hlt : k < xs.length
    · have c0 : wr.cell? ⟨b, off + k * 2, none⟩ = some (.int .i64 xs[k]!.1) := (hB'.cell (p := ⟨b, off + k * 2, none⟩) hb).trans (HC.out k hlt 0 _ rfl)
      have c1 : wr.cell? ⟨b, off + k * 2 + 1, none⟩ = some (.int .i64 xs[k]!.2) := (hB'.cell (p := ⟨b, off + k * 2 + 1, none⟩) hb).trans (HC.out k hlt 1 _ rfl)
      obtain ⟨m0, m1⟩ := HX.out xs[k]! (by rw [getElem!_pos xs k hlt]; exact List.getElem_mem hlt)
      have hcall := near_calls xs[k]!.1 xs[k]!.2 year rest B wr (Nat.lt_of_lt_of_le hB hB'.size) hy0 hy1 m0 m1 ((hB'.cell (p := ⟨B, 18, none⟩) hB).trans HY.out) ((hB'.cell (p := ⟨B, 1, none⟩) hB).trans HE.out)
      clear m0 m1
      cases hs : nearB year rest xs[k]!
      · have HS := Lib.hid (any_miss (nearB year rest) xs k hlt r HR.out hs)
        rw [show (xs[k]!.1, xs[k]!.2) = xs[k]! from rfl, hs] at hcall
        clear hs
        generalize xs[k]!.1 = y at c0 hcall
        generalize xs[k]!.2 = h at c1 hcall
        have HK := Lib.hid hcall; clear hcall
        go_wp2_with (go_at_call 114; refine HK.out.mono ?_; rintro e w' ⟨rfl, hw⟩)
        exact ⟨⟨k + 1, by omega, by go_num, HS, hB'.trans (hw.mono hB'.size)⟩, by simp [intOf]; omega⟩
      · have HS := Lib.hid (any_hit (nearB year rest) xs k hlt r HR.out hs)
        rw [show (xs[k]!.1, xs[k]!.2) = xs[k]! from rfl, hs] at hcall
        clear hs
        generalize xs[k]!.1 = y at c0 hcall
        generalize xs[k]!.2 = h at c1 hcall
        have HK := Lib.hid hcall; clear hcall
        go_wp2_with (go_at_call 114; refine HK.out.mono ?_; rintro e w' ⟨rfl, hw⟩)
        go_ret
        exact ⟨k, rfl, Lib.hid (by rw [HS.out]; simp), hB'.trans (hw.mono hB'.size)⟩
    · have HS := Lib.hid (any_end (nearB year rest) xs k (by omega) r HR.out)
      have hge : xs.length ≤ k := by omega
      go_wp2
      go_ret
      exact ⟨-1, rfl, Lib.hid (by rw [HS.out]; simp), hB'⟩

set_option maxHeartbeats 1000000 in
theorem indexStrip_nil (a : Option Addr) (c : Nat) (g : Value) (w : World) :
    Calls Tryz.prog 134 #[.slice a 0 c, g] w fun e w' => e = .returned (.int .i64 (-1)) ∧ w = w' := by
  go_enter Tryz.func134, Tryz.ntmps134
  go_wp2
  refine wp_loop_rounds 1 ?_
  rw [rounds_succ]
  go_wp2
  go_ret
  exact ⟨rfl, rfl⟩

set_option maxHeartbeats 1000000 in
theorem containsStrip {v : Value} (year rest : Int) (B D : Nat) (xs : List (Int × Int)) (w : World) (hB : B < w.heap.size) (hD : D ≤ w.heap.size) (hy0 : 0 ≤ year) (hy1 : year ≤ 300) (hx : ∀ s ∈ xs, 0 ≤ s.1 ∧ s.1 ≤ 300)
    (cy : w.cell? ⟨B, 18, none⟩ = some (.int .i64 year)) (cr : w.cell? ⟨B, 1, none⟩ = some (.int .i64 rest)) (h : Held D w 2 stripCells v xs) :
    Calls Tryz.prog 115 #[v, .func (.func 114) #[] #[.pointer (some ⟨B, 0, none⟩)]] w fun e w' => e = .returned (.bool (xs.any (nearB year rest))) ∧ Below w.heap.size w w' := by
  rcases h with ⟨⟨a, c, rfl⟩, rfl⟩ | ⟨b, off, c, rfl, hb, ⟨h1, h2⟩, hc⟩
  · clear cy cr
    show Calls _ _ _ _ fun e w' => e = .returned (.bool false) ∧ Below w.heap.size w w'
    go_enter Tryz.func115, Tryz.ntmps115
    go_wp2_with (go_at_call 134; refine (indexStrip_nil _ _ _ _).mono ?_; rintro e w' ⟨rfl, rfl⟩)
    go_ret
    exact ⟨rfl, Below.refl _ _⟩
  · have H := Lib.hid (indexStrip year rest B b off c xs w hB (by omega) (by omega) hy0 hy1 hx cy cr hc)
    clear cy cr hc hx
    generalize xs.any (nearB year rest) = r at H ⊢
    go_enter Tryz.func115, Tryz.ntmps115
    go_wp2_with (go_at_call 134; refine H.out.mono ?_; rintro e w' ⟨n, rfl, hn, hw⟩)
    go_ret
    exact ⟨by rw [hn.out]; rfl, hw⟩

set_option maxRecDepth 100000 in
set_option maxHeartbeats 1000000 in
theorem judgeRest_calls (age rest girth f0 f1 f2 heal : Int) (code : ByteArray) (bmin bmax taped gmin gmax wmin wmax : Int) (sa : Option Addr) (sn sc : Nat) (wa : Option Addr) (wn wc : Nat) (dead : Int) (year height : Int) (xs : List (Int × Int)) (w : World) (hy0 : 0 ≤ year) (hy1 : year ≤ 300) (hx : ∀ s ∈ xs, 0 ≤ s.1 ∧ s.1 ≤ 300) (h : Held w.heap.size w 2 stripCells (.slice sa sn sc) xs) :
    Calls Tryz.prog 93 #[.agg #[.int .i64 age, .int .i64 rest, .int .i64 girth, .int .i64 f0, .int .i64 f1, .int .i64 f2, .int .i64 heal, .string code, .int .i64 bmin, .int .i64 bmax, .int .i64 taped, .int .i64 gmin, .int .i64 gmax, .int .i64 wmin, .int .i64 wmax, .slice sa sn sc, .slice wa wn wc, .int .i64 dead, .int .i64 year, .int .i64 height]] w fun e w' => e = .returned (.int .i64 (judged (!xs.any (nearB year rest)) (!xs.any (nearB year rest)))) ∧ Below w.heap.size w w' := by
  have hcon := containsStrip year rest w.heap.size w.heap.size xs (w.alloc (.cells #[.int .i64 age, .int .i64 rest, .int .i64 girth, .int .i64 f0, .int .i64 f1, .int .i64 f2, .int .i64 heal, .string code, .int .i64 bmin, .int .i64 bmax, .int .i64 taped, .int .i64 gmin, .int .i64 gmax, .int .i64 wmin, .int .i64 wmax, .slice sa sn sc, .slice wa wn wc, .int .i64 dead, .int .i64 year, .int .i64 height] 81)) (by simp) (by simp) hy0 hy1 hx (by simp) (by simp) (h.below ((Below.refl _ w).alloc (Nat.le_refl _) _))
  clear hx h
  generalize xs.any (nearB year rest) = r at hcon ⊢
  have H := Lib.hid hcon; clear hcon
  go_enter Tryz.func93, Tryz.ntmps93
  go_wp2_with (first | (go_at_call 115; refine H.out.mono ?_; rintro e w1 ⟨rfl, hw1⟩) | (go_at_call 112; refine (known_calls _ _).mono ?_; rintro e w' ⟨rfl, rfl⟩))
  go_ret
  exact ⟨rfl, ((Below.refl _ w).alloc (Nat.le_refl _) _).trans (hw1.mono (by simp))⟩
end Go.Proofs.YtnoofdjlocadbaaGreatDoor

/-! The judgement of healing: a search among wounds. -/
namespace Go.Proofs.YtnoofdjlocadbaaGreatDoor
open Go.RowKit

set_option maxHeartbeats 1000000 in
theorem fresh_calls (y year heal : Int) (B : Nat) (w : World) (hy0 : 0 ≤ year) (hy1 : year ≤ 300) (hs0 : 0 ≤ y) (hs1 : y ≤ 300)
    (cy : w.cell? ⟨B, 18, none⟩ = some (.int .i64 year)) (cr : w.cell? ⟨B, 6, none⟩ = some (.int .i64 heal)) :
    Calls Tryz.prog 116 (#[.int .i64 y] ++ #[.pointer (some ⟨B, 0, none⟩)]) w fun e w' => e = .returned (.bool (freshB year heal y)) ∧ w = w' := by
  unfold freshB
  show Calls Tryz.prog _ #[.int .i64 y, .pointer (some ⟨B, 0, none⟩)] _ _
  by_cases h1 : 0 ≤ year - y
  · by_cases h2 : year - y < heal
    · rw [decide_eq_true (show 0 ≤ year - y ∧ year - y < heal from ⟨h1, h2⟩)]
      have h2b : decide (year - y < heal) = true := by simp [h2]
      go_enter Tryz.func116, Tryz.ntmps116
      go_wp2
      go_ret
      exact ⟨rfl, rfl⟩
    · rw [decide_eq_false (show ¬ (0 ≤ year - y ∧ year - y < heal) from fun h => h2 h.2)]
      have h2b : decide (year - y < heal) = false := by simp [h2]
      go_enter Tryz.func116, Tryz.ntmps116
      go_wp2
      go_ret
      exact ⟨rfl, rfl⟩
  · rw [decide_eq_false (show ¬ (0 ≤ year - y ∧ year - y < heal) from fun h => h1 h.1)]
    have h1' : year - y < 0 := by omega
    go_enter Tryz.func116, Tryz.ntmps116
    go_wp2
    go_ret
    exact ⟨rfl, rfl⟩

/-- A search's answer that leaves the world alone. -/
def SameIdx (r : Bool) (w : World) (e : Ending) (w' : World) : Prop := ∃ n : Int, e = .returned (.int .i64 n) ∧ Hid (r = decide (0 ≤ n)) ∧ w = w'

set_option maxHeartbeats 2000000 in
theorem indexInt (year heal : Int) (B b off c : Nat) (xs : List Int) (w : World) (hl : xs.length ≤ 140737488355328) (hy0 : 0 ≤ year) (hy1 : year ≤ 300) (hx : ∀ s ∈ xs, 0 ≤ s ∧ s ≤ 300)
    (cy : w.cell? ⟨B, 18, none⟩ = some (.int .i64 year)) (cr : w.cell? ⟨B, 6, none⟩ = some (.int .i64 heal))
    (hc : ∀ j, j < xs.length → w.cell? ⟨b, off + j, none⟩ = some (.int .i64 xs[j]!)) :
    Calls Tryz.prog 135 #[.slice (some ⟨b, off, none⟩) xs.length c, .func (.func 116) #[] #[.pointer (some ⟨B, 0, none⟩)]] w (SameIdx (xs.any (freshB year heal)) w) := by
  have hl' : (xs.length : Int) ≤ 140737488355328 := by omega
  have hr : xs.any (freshB year heal) = (xs.drop 0).any (freshB year heal) := rfl
  generalize xs.any (freshB year heal) = r at hr ⊢
  have HR := Lib.hid hr; clear hr
  have HC := Lib.hid hc; clear hc
  have HY := Lib.hid cy; clear cy
  have HE := Lib.hid cr; clear cr
  have HX := Lib.hid hx; clear hx
  go_enter Tryz.func135, Tryz.ntmps135
  go_wp2
  go_loop [8] (fun i => ∃ k : Nat, k ≤ xs.length ∧ i = .int .i64 k ∧ Hid (r = (xs.drop k).any (freshB year heal))) (fun i => xs.length - (intOf i).toNat)
  case atStart => exact ⟨0, by omega, rfl, HR⟩
  case round =>
    clear HR
    obtain ⟨k, hk, rfl, HR⟩ := hrel
    by_cases hlt : k < xs.length
    · have c0 : w.cell? ⟨b, off + k, none⟩ = some (.int .i64 xs[k]!) := HC.out k hlt
      obtain ⟨m0, m1⟩ := HX.out xs[k]! (by rw [getElem!_pos xs k hlt]; exact List.getElem_mem hlt)
      have hcall := fresh_calls xs[k]! year heal B w hy0 hy1 m0 m1 HY.out HE.out
      clear m0 m1
      cases hs : freshB year heal xs[k]!
      · have HS := Lib.hid (any_miss (freshB year heal) xs k hlt r HR.out hs)
        rw [hs] at hcall
        clear hs
        generalize xs[k]! = y at c0 hcall
        have HK := Lib.hid hcall; clear hcall
        go_wp2_with (go_at_call 116; refine HK.out.mono ?_; rintro e w' ⟨rfl, rfl⟩)
        exact ⟨⟨k + 1, by omega, by go_num, HS⟩, by simp [intOf]; omega⟩
      · have HS := Lib.hid (any_hit (freshB year heal) xs k hlt r HR.out hs)
        rw [hs] at hcall
        clear hs
        generalize xs[k]! = y at c0 hcall
        have HK := Lib.hid hcall; clear hcall
        go_wp2_with (go_at_call 116; refine HK.out.mono ?_; rintro e w' ⟨rfl, rfl⟩)
        go_ret
        exact ⟨k, rfl, Lib.hid (by rw [HS.out]; simp), rfl⟩
    · have HS := Lib.hid (any_end (freshB year heal) xs k (by omega) r HR.out)
      have hge : xs.length ≤ k := by omega
      go_wp2
      go_ret
      exact ⟨-1, rfl, Lib.hid (by rw [HS.out]; simp), rfl⟩

set_option maxHeartbeats 1000000 in
theorem indexInt_nil (a : Option Addr) (c : Nat) (g : Value) (w : World) :
    Calls Tryz.prog 135 #[.slice a 0 c, g] w fun e w' => e = .returned (.int .i64 (-1)) ∧ w = w' := by
  go_enter Tryz.func135, Tryz.ntmps135
  go_wp2
  refine wp_loop_rounds 1 ?_
  rw [rounds_succ]
  go_wp2
  go_ret
  exact ⟨rfl, rfl⟩

set_option maxHeartbeats 1000000 in
theorem containsInt {v : Value} (year heal : Int) (B D : Nat) (xs : List Int) (w : World) (hy0 : 0 ≤ year) (hy1 : year ≤ 300) (hx : ∀ s ∈ xs, 0 ≤ s ∧ s ≤ 300)
    (cy : w.cell? ⟨B, 18, none⟩ = some (.int .i64 year)) (cr : w.cell? ⟨B, 6, none⟩ = some (.int .i64 heal)) (h : Held D w 1 intCells v xs) :
    Calls Tryz.prog 117 #[v, .func (.func 116) #[] #[.pointer (some ⟨B, 0, none⟩)]] w fun e w' => e = .returned (.bool (xs.any (freshB year heal))) ∧ w = w' := by
  rcases h with ⟨⟨a, c, rfl⟩, rfl⟩ | ⟨b, off, c, rfl, hb, ⟨h1, h2⟩, hc⟩
  · clear cy cr
    show Calls _ _ _ _ fun e w' => e = .returned (.bool false) ∧ w = w'
    go_enter Tryz.func117, Tryz.ntmps117
    go_wp2_with (go_at_call 135; refine (indexInt_nil _ _ _ _).mono ?_; rintro e w' ⟨rfl, rfl⟩)
    go_ret
    exact ⟨rfl, rfl⟩
  · have H := Lib.hid (indexInt year heal B b off c xs w (by omega) hy0 hy1 hx cy cr fun j hj => by have := hc j hj 0 _ rfl; rwa [Nat.mul_one, Nat.add_zero] at this)
    clear cy cr hc hx
    generalize xs.any (freshB year heal) = r at H ⊢
    go_enter Tryz.func117, Tryz.ntmps117
    go_wp2_with (go_at_call 135; refine H.out.mono ?_; rintro e w' ⟨n, rfl, hn, rfl⟩)
    go_ret
    exact ⟨by rw [hn.out]; rfl, rfl⟩

set_option maxRecDepth 100000 in
set_option maxHeartbeats 1000000 in
theorem judgeHeal_calls (age rest girth f0 f1 f2 heal : Int) (code : ByteArray) (bmin bmax taped gmin gmax wmin wmax : Int) (sa : Option Addr) (sn sc : Nat) (wa : Option Addr) (wn wc : Nat) (dead : Int) (year height : Int) (xs : List Int) (w : World) (hy0 : 0 ≤ year) (hy1 : year ≤ 300) (hx : ∀ s ∈ xs, 0 ≤ s ∧ s ≤ 300) (h : Held w.heap.size w 1 intCells (.slice wa wn wc) xs) :
    Calls Tryz.prog 94 #[.agg #[.int .i64 age, .int .i64 rest, .int .i64 girth, .int .i64 f0, .int .i64 f1, .int .i64 f2, .int .i64 heal, .string code, .int .i64 bmin, .int .i64 bmax, .int .i64 taped, .int .i64 gmin, .int .i64 gmax, .int .i64 wmin, .int .i64 wmax, .slice sa sn sc, .slice wa wn wc, .int .i64 dead, .int .i64 year, .int .i64 height]] w fun e w' => e = .returned (.int .i64 (judged (!xs.any (freshB year heal)) (!xs.any (freshB year heal)))) ∧ Below w.heap.size w w' := by
  have hcon := containsInt year heal w.heap.size w.heap.size xs (w.alloc (.cells #[.int .i64 age, .int .i64 rest, .int .i64 girth, .int .i64 f0, .int .i64 f1, .int .i64 f2, .int .i64 heal, .string code, .int .i64 bmin, .int .i64 bmax, .int .i64 taped, .int .i64 gmin, .int .i64 gmax, .int .i64 wmin, .int .i64 wmax, .slice sa sn sc, .slice wa wn wc, .int .i64 dead, .int .i64 year, .int .i64 height] 81)) hy0 hy1 hx (by simp) (by simp) (h.below ((Below.refl _ w).alloc (Nat.le_refl _) _))
  clear hx h
  generalize xs.any (freshB year heal) = r at hcon ⊢
  have H := Lib.hid hcon; clear hcon
  go_enter Tryz.func94, Tryz.ntmps94
  go_wp2_with (first | (go_at_call 117; refine H.out.mono ?_; rintro e w1 ⟨rfl, rfl⟩) | (go_at_call 112; refine (known_calls _ _).mono ?_; rintro e w' ⟨rfl, rfl⟩))
  go_ret
  exact ⟨rfl, (by repeat (first | exact Below.refl _ _ | refine Below.alloc ?_ (by simp <;> omega) _))⟩
end Go.Proofs.YtnoofdjlocadbaaGreatDoor

/-! The judgements of girth and height. -/
namespace Go.Proofs.YtnoofdjlocadbaaGreatDoor
open Go.RowKit

/-- The walk stands at a load. -/
theorem at_load {P : Program} {ops : Array Oper} {rest : List Oper} {d : Option Tmp} (ty : TypeId) (x : Operand) {ty2 : TypeId} {ps : String} {af : Array Edge} {gd : Option (Nat × Bool)} {a : Act} {w : World} {Q : Exit → Act → World → Prop} (h : wpList P ops Q (⟨d, .load ty x, ty2, ps, af, gd⟩ :: rest) a w) : wpList P ops Q (⟨d, .load ty x, ty2, ps, af, gd⟩ :: rest) a w := h

/-- What girth says and what stripsBefore counts, whatever world they are asked in behind w. -/
def GirthSays (age rest girth f0 f1 f2 heal : Int) (code : ByteArray) (bmin bmax taped gmin gmax wmin wmax : Int) (sa : Option Addr) (sn sc : Nat) (wa : Option Addr) (wn wc : Nat) (dead : Int) (year height : Int) (lo hi : Int) : Prop := ∀ W : World, Calls Tryz.prog 119 #[.agg #[.int .i64 age, .int .i64 rest, .int .i64 girth, .int .i64 f0, .int .i64 f1, .int .i64 f2, .int .i64 heal, .string code, .int .i64 bmin, .int .i64 bmax, .int .i64 taped, .int .i64 gmin, .int .i64 gmax, .int .i64 wmin, .int .i64 wmax, .slice sa sn sc, .slice wa wn wc, .int .i64 dead, .int .i64 year, .int .i64 height]] W fun e w' => e = .returned (.agg #[.int .i64 lo, .int .i64 hi]) ∧ Below W.heap.size W w'
def CountSays (age rest girth f0 f1 f2 heal : Int) (code : ByteArray) (bmin bmax taped gmin gmax wmin wmax : Int) (sa : Option Addr) (sn sc : Nat) (wa : Option Addr) (wn wc : Nat) (dead : Int) (year height : Int) (n : Nat) (w : World) : Prop := ∀ W : World, Below w.heap.size w W → Calls Tryz.prog 118 #[.agg #[.int .i64 age, .int .i64 rest, .int .i64 girth, .int .i64 f0, .int .i64 f1, .int .i64 f2, .int .i64 heal, .string code, .int .i64 bmin, .int .i64 bmax, .int .i64 taped, .int .i64 gmin, .int .i64 gmax, .int .i64 wmin, .int .i64 wmax, .slice sa sn sc, .slice wa wn wc, .int .i64 dead, .int .i64 year, .int .i64 height]] W fun e w' => e = .returned (.int .i64 n) ∧ Below W.heap.size W w'

set_option maxRecDepth 100000 in
set_option maxHeartbeats 1000000 in
theorem judgeGirth_stripped (age rest girth f0 f1 f2 heal : Int) (code : ByteArray) (bmin bmax taped gmin gmax wmin wmax : Int) (sa : Option Addr) (sn sc : Nat) (wa : Option Addr) (wn wc : Nat) (dead : Int) (year height : Int) (n : Nat) (w : World) (hn : 0 < n) (hB : CountSays age rest girth f0 f1 f2 heal code bmin bmax taped gmin gmax wmin wmax sa sn sc wa wn wc dead year height n w) :
    Calls Tryz.prog 95 #[.agg #[.int .i64 age, .int .i64 rest, .int .i64 girth, .int .i64 f0, .int .i64 f1, .int .i64 f2, .int .i64 heal, .string code, .int .i64 bmin, .int .i64 bmax, .int .i64 taped, .int .i64 gmin, .int .i64 gmax, .int .i64 wmin, .int .i64 wmax, .slice sa sn sc, .slice wa wn wc, .int .i64 dead, .int .i64 year, .int .i64 height]] w fun e w' => e = .returned (.int .i64 1) ∧ Below w.heap.size w w' := by
  have HB := Lib.hid (hB (w.alloc (.cells #[.int .i64 age, .int .i64 rest, .int .i64 girth, .int .i64 f0, .int .i64 f1, .int .i64 f2, .int .i64 heal, .string code, .int .i64 bmin, .int .i64 bmax, .int .i64 taped, .int .i64 gmin, .int .i64 gmax, .int .i64 wmin, .int .i64 wmax, .slice sa sn sc, .slice wa wn wc, .int .i64 dead, .int .i64 year, .int .i64 height] 81)) ((Below.refl _ w).alloc (Nat.le_refl _) _))
  have HK := Lib.hid (heap_alloc_new w (.cells #[.int .i64 age, .int .i64 rest, .int .i64 girth, .int .i64 f0, .int .i64 f1, .int .i64 f2, .int .i64 heal, .string code, .int .i64 bmin, .int .i64 bmax, .int .i64 taped, .int .i64 gmin, .int .i64 gmax, .int .i64 wmin, .int .i64 wmax, .slice sa sn sc, .slice wa wn wc, .int .i64 dead, .int .i64 year, .int .i64 height] 81))
  have hn' : (0 : Int) < (n : Int) := by omega
  go_enter Tryz.func95, Tryz.ntmps95
  go_wp2_with (first | ((with_reducible refine at_load 81 (.tmp 1) ?_); go_must (refine wpList_load_row rfl 81 (.tmp 1) rfl w.heap.size rfl 81 #[.int .i64 age, .int .i64 rest, .int .i64 girth, .int .i64 f0, .int .i64 f1, .int .i64 f2, .int .i64 heal, .string code, .int .i64 bmin, .int .i64 bmax, .int .i64 taped, .int .i64 gmin, .int .i64 gmax, .int .i64 wmin, .int .i64 wmax, .slice sa sn sc, .slice wa wn wc, .int .i64 dead, .int .i64 year, .int .i64 height] (0, 0) _ HK.out Tryz.underlying81 rfl size_question ?_)) | (go_at_call 118; refine HB.out.mono ?_; rintro e w1 ⟨rfl, hw1⟩))
  go_ret
  exact ⟨rfl, ((Below.refl _ w).alloc (Nat.le_refl _) _).trans (hw1.mono (by simp))⟩
set_option maxRecDepth 100000 in
set_option maxHeartbeats 2000000 in
theorem judgeGirth_first (age rest girth f0 f1 f2 heal : Int) (code : ByteArray) (bmin bmax taped gmin gmax wmin wmax : Int) (sa : Option Addr) (sn sc : Nat) (wa : Option Addr) (wn wc : Nat) (dead : Int) (year height : Int) (lo hi : Int) (w : World) (hB : CountSays age rest girth f0 f1 f2 heal code bmin bmax taped gmin gmax wmin wmax sa sn sc wa wn wc dead year height 0 w) (hG : GirthSays age rest girth f0 f1 f2 heal code bmin bmax taped gmin gmax wmin wmax sa sn sc wa wn wc dead year height lo hi) :
    Calls Tryz.prog 95 #[.agg #[.int .i64 age, .int .i64 rest, .int .i64 girth, .int .i64 f0, .int .i64 f1, .int .i64 f2, .int .i64 heal, .string code, .int .i64 bmin, .int .i64 bmax, .int .i64 taped, .int .i64 gmin, .int .i64 gmax, .int .i64 wmin, .int .i64 wmax, .slice sa sn sc, .slice wa wn wc, .int .i64 dead, .int .i64 year, .int .i64 height]] w fun e w' => e = .returned (.int .i64 (judged (decide (girth ≤ lo)) (decide (girth ≤ hi)))) ∧ Below w.heap.size w w' := by
  have HB := Lib.hid (hB (w.alloc (.cells #[.int .i64 age, .int .i64 rest, .int .i64 girth, .int .i64 f0, .int .i64 f1, .int .i64 f2, .int .i64 heal, .string code, .int .i64 bmin, .int .i64 bmax, .int .i64 taped, .int .i64 gmin, .int .i64 gmax, .int .i64 wmin, .int .i64 wmax, .slice sa sn sc, .slice wa wn wc, .int .i64 dead, .int .i64 year, .int .i64 height] 81)) ((Below.refl _ w).alloc (Nat.le_refl _) _))
  have HG := Lib.hid hG
  have HK := Lib.hid (heap_alloc_new w (.cells #[.int .i64 age, .int .i64 rest, .int .i64 girth, .int .i64 f0, .int .i64 f1, .int .i64 f2, .int .i64 heal, .string code, .int .i64 bmin, .int .i64 bmax, .int .i64 taped, .int .i64 gmin, .int .i64 gmax, .int .i64 wmin, .int .i64 wmax, .slice sa sn sc, .slice wa wn wc, .int .i64 dead, .int .i64 year, .int .i64 height] 81))
  clear hG hB
  go_enter Tryz.func95, Tryz.ntmps95
  go_wp2_with (first | ((with_reducible refine at_load 81 (.tmp 1) ?_); go_must (refine wpList_load_row rfl 81 (.tmp 1) rfl w.heap.size rfl 81 #[.int .i64 age, .int .i64 rest, .int .i64 girth, .int .i64 f0, .int .i64 f1, .int .i64 f2, .int .i64 heal, .string code, .int .i64 bmin, .int .i64 bmax, .int .i64 taped, .int .i64 gmin, .int .i64 gmax, .int .i64 wmin, .int .i64 wmax, .slice sa sn sc, .slice wa wn wc, .int .i64 dead, .int .i64 year, .int .i64 height] (0, 0) _ HK.out Tryz.underlying81 rfl size_question ?_)) | (go_at_call 118; refine HB.out.mono ?_; rintro e w1 ⟨rfl, hw1⟩; replace HK := Lib.hid ((hw1.block w.heap.size (by simp)).trans HK.out); obtain ⟨hc1, hf1⟩ := bcell hw1; clear hf1; have hz1 : w.heap.size < w1.heap.size := (by (have := hw1.size; simp at this; omega))) | (go_at_call 119; refine (HG.out _).mono ?_; rintro e w2 ⟨rfl, hw2⟩; obtain ⟨hc2, hf2⟩ := bcell hw2; clear hf2; have hz2 : w.heap.size < w2.heap.size := Nat.lt_of_lt_of_le hz1 hw2.size) | (go_at_call 113; refine (judged_calls _ _ _).mono ?_; rintro e w' ⟨rfl, rfl⟩))
  go_ret
  exact ⟨rfl, Below.alloc (((Below.refl _ w).alloc (Nat.le_refl _) _).trans ((hw1.mono (by simp)).trans (hw2.mono (by omega)))) (by omega) _⟩

set_option maxRecDepth 100000 in
set_option maxHeartbeats 2000000 in
theorem judgeHeight_none (age rest girth f0 f1 f2 heal : Int) (code : ByteArray) (bmin bmax taped gmin gmax wmin wmax : Int) (sa : Option Addr) (sn sc : Nat) (wa : Option Addr) (wn wc : Nat) (dead : Int) (year height : Int) (lo hi : Int) (w : World) (hh0 : 1 ≤ height) (hh1 : height ≤ 15000) (hp0 : 0 ≤ f0 * lo) (hp1 : f0 * lo ≤ 10000000) (hq0 : 0 ≤ f0 * hi) (hq1 : f0 * hi ≤ 10000000) (hB : CountSays age rest girth f0 f1 f2 heal code bmin bmax taped gmin gmax wmin wmax sa sn sc wa wn wc dead year height 0 w) (hG : GirthSays age rest girth f0 f1 f2 heal code bmin bmax taped gmin gmax wmin wmax sa sn sc wa wn wc dead year height lo hi) :
    Calls Tryz.prog 96 #[.agg #[.int .i64 age, .int .i64 rest, .int .i64 girth, .int .i64 f0, .int .i64 f1, .int .i64 f2, .int .i64 heal, .string code, .int .i64 bmin, .int .i64 bmax, .int .i64 taped, .int .i64 gmin, .int .i64 gmax, .int .i64 wmin, .int .i64 wmax, .slice sa sn sc, .slice wa wn wc, .int .i64 dead, .int .i64 year, .int .i64 height]] w fun e w' => e = .returned (.int .i64 (judged (decide (10 * height ≤ f0 * lo)) (decide (10 * height ≤ f0 * hi)))) ∧ Below w.heap.size w w' := by
  have HB := Lib.hid (hB (w.alloc (.cells #[.int .i64 age, .int .i64 rest, .int .i64 girth, .int .i64 f0, .int .i64 f1, .int .i64 f2, .int .i64 heal, .string code, .int .i64 bmin, .int .i64 bmax, .int .i64 taped, .int .i64 gmin, .int .i64 gmax, .int .i64 wmin, .int .i64 wmax, .slice sa sn sc, .slice wa wn wc, .int .i64 dead, .int .i64 year, .int .i64 height] 81)) ((Below.refl _ w).alloc (Nat.le_refl _) _))
  have HG := Lib.hid hG
  have HK := Lib.hid (heap_alloc_new w (.cells #[.int .i64 age, .int .i64 rest, .int .i64 girth, .int .i64 f0, .int .i64 f1, .int .i64 f2, .int .i64 heal, .string code, .int .i64 bmin, .int .i64 bmax, .int .i64 taped, .int .i64 gmin, .int .i64 gmax, .int .i64 wmin, .int .i64 wmax, .slice sa sn sc, .slice wa wn wc, .int .i64 dead, .int .i64 year, .int .i64 height] 81))
  clear hG hB
  go_enter Tryz.func96, Tryz.ntmps96
  go_wp2_with (first | ((with_reducible refine at_load 81 (.tmp 1) ?_); go_must (refine wpList_load_row rfl 81 (.tmp 1) rfl w.heap.size rfl 81 #[.int .i64 age, .int .i64 rest, .int .i64 girth, .int .i64 f0, .int .i64 f1, .int .i64 f2, .int .i64 heal, .string code, .int .i64 bmin, .int .i64 bmax, .int .i64 taped, .int .i64 gmin, .int .i64 gmax, .int .i64 wmin, .int .i64 wmax, .slice sa sn sc, .slice wa wn wc, .int .i64 dead, .int .i64 year, .int .i64 height] (0, 0) _ HK.out Tryz.underlying81 rfl size_question ?_)) | (go_at_call 118; refine HB.out.mono ?_; rintro e w1 ⟨rfl, hw1⟩; replace HK := Lib.hid ((hw1.block w.heap.size (by simp)).trans HK.out); obtain ⟨hc1, hf1⟩ := bcell hw1; clear hf1; have hz1 : w.heap.size < w1.heap.size := (by (have := hw1.size; simp at this; omega))) | (go_at_call 119; refine (HG.out _).mono ?_; rintro e w2 ⟨rfl, hw2⟩; obtain ⟨hc2, hf2⟩ := bcell hw2; clear hf2; have hz2 : w.heap.size < w2.heap.size := Nat.lt_of_lt_of_le hz1 hw2.size) | (go_at_call 113; refine (judged_calls _ _ _).mono ?_; rintro e w' ⟨rfl, rfl⟩))
  go_ret
  exact ⟨rfl, Below.alloc (((Below.refl _ w).alloc (Nat.le_refl _) _).trans ((hw1.mono (by simp)).trans (hw2.mono (by omega)))) (by omega) _⟩

set_option maxRecDepth 100000 in
set_option maxHeartbeats 2000000 in
theorem judgeHeight_one (age rest girth f0 f1 f2 heal : Int) (code : ByteArray) (bmin bmax taped gmin gmax wmin wmax : Int) (sa : Option Addr) (sn sc : Nat) (wa : Option Addr) (wn wc : Nat) (dead : Int) (year height : Int) (lo hi : Int) (w : World) (hh0 : 1 ≤ height) (hh1 : height ≤ 15000) (hp0 : 0 ≤ f1 * lo) (hp1 : f1 * lo ≤ 10000000) (hq0 : 0 ≤ f1 * hi) (hq1 : f1 * hi ≤ 10000000) (hB : CountSays age rest girth f0 f1 f2 heal code bmin bmax taped gmin gmax wmin wmax sa sn sc wa wn wc dead year height 1 w) (hG : GirthSays age rest girth f0 f1 f2 heal code bmin bmax taped gmin gmax wmin wmax sa sn sc wa wn wc dead year height lo hi) :
    Calls Tryz.prog 96 #[.agg #[.int .i64 age, .int .i64 rest, .int .i64 girth, .int .i64 f0, .int .i64 f1, .int .i64 f2, .int .i64 heal, .string code, .int .i64 bmin, .int .i64 bmax, .int .i64 taped, .int .i64 gmin, .int .i64 gmax, .int .i64 wmin, .int .i64 wmax, .slice sa sn sc, .slice wa wn wc, .int .i64 dead, .int .i64 year, .int .i64 height]] w fun e w' => e = .returned (.int .i64 (judged (decide (10 * height ≤ f1 * lo)) (decide (10 * height ≤ f1 * hi)))) ∧ Below w.heap.size w w' := by
  have HB := Lib.hid (hB (w.alloc (.cells #[.int .i64 age, .int .i64 rest, .int .i64 girth, .int .i64 f0, .int .i64 f1, .int .i64 f2, .int .i64 heal, .string code, .int .i64 bmin, .int .i64 bmax, .int .i64 taped, .int .i64 gmin, .int .i64 gmax, .int .i64 wmin, .int .i64 wmax, .slice sa sn sc, .slice wa wn wc, .int .i64 dead, .int .i64 year, .int .i64 height] 81)) ((Below.refl _ w).alloc (Nat.le_refl _) _))
  have HG := Lib.hid hG
  have HK := Lib.hid (heap_alloc_new w (.cells #[.int .i64 age, .int .i64 rest, .int .i64 girth, .int .i64 f0, .int .i64 f1, .int .i64 f2, .int .i64 heal, .string code, .int .i64 bmin, .int .i64 bmax, .int .i64 taped, .int .i64 gmin, .int .i64 gmax, .int .i64 wmin, .int .i64 wmax, .slice sa sn sc, .slice wa wn wc, .int .i64 dead, .int .i64 year, .int .i64 height] 81))
  clear hG hB
  go_enter Tryz.func96, Tryz.ntmps96
  go_wp2_with (first | ((with_reducible refine at_load 81 (.tmp 1) ?_); go_must (refine wpList_load_row rfl 81 (.tmp 1) rfl w.heap.size rfl 81 #[.int .i64 age, .int .i64 rest, .int .i64 girth, .int .i64 f0, .int .i64 f1, .int .i64 f2, .int .i64 heal, .string code, .int .i64 bmin, .int .i64 bmax, .int .i64 taped, .int .i64 gmin, .int .i64 gmax, .int .i64 wmin, .int .i64 wmax, .slice sa sn sc, .slice wa wn wc, .int .i64 dead, .int .i64 year, .int .i64 height] (0, 0) _ HK.out Tryz.underlying81 rfl size_question ?_)) | (go_at_call 118; refine HB.out.mono ?_; rintro e w1 ⟨rfl, hw1⟩; replace HK := Lib.hid ((hw1.block w.heap.size (by simp)).trans HK.out); obtain ⟨hc1, hf1⟩ := bcell hw1; clear hf1; have hz1 : w.heap.size < w1.heap.size := (by (have := hw1.size; simp at this; omega))) | (go_at_call 119; refine (HG.out _).mono ?_; rintro e w2 ⟨rfl, hw2⟩; obtain ⟨hc2, hf2⟩ := bcell hw2; clear hf2; have hz2 : w.heap.size < w2.heap.size := Nat.lt_of_lt_of_le hz1 hw2.size) | (go_at_call 113; refine (judged_calls _ _ _).mono ?_; rintro e w' ⟨rfl, rfl⟩))
  go_ret
  exact ⟨rfl, Below.alloc (((Below.refl _ w).alloc (Nat.le_refl _) _).trans ((hw1.mono (by simp)).trans (hw2.mono (by omega)))) (by omega) _⟩

set_option maxRecDepth 100000 in
set_option maxHeartbeats 2000000 in
theorem judgeHeight_two (age rest girth f0 f1 f2 heal : Int) (code : ByteArray) (bmin bmax taped gmin gmax wmin wmax : Int) (sa : Option Addr) (sn sc : Nat) (wa : Option Addr) (wn wc : Nat) (dead : Int) (year height : Int) (lo hi : Int) (w : World) (hh0 : 1 ≤ height) (hh1 : height ≤ 15000) (hp0 : 0 ≤ f2 * lo) (hp1 : f2 * lo ≤ 10000000) (hq0 : 0 ≤ f2 * hi) (hq1 : f2 * hi ≤ 10000000) (hB : CountSays age rest girth f0 f1 f2 heal code bmin bmax taped gmin gmax wmin wmax sa sn sc wa wn wc dead year height 2 w) (hG : GirthSays age rest girth f0 f1 f2 heal code bmin bmax taped gmin gmax wmin wmax sa sn sc wa wn wc dead year height lo hi) :
    Calls Tryz.prog 96 #[.agg #[.int .i64 age, .int .i64 rest, .int .i64 girth, .int .i64 f0, .int .i64 f1, .int .i64 f2, .int .i64 heal, .string code, .int .i64 bmin, .int .i64 bmax, .int .i64 taped, .int .i64 gmin, .int .i64 gmax, .int .i64 wmin, .int .i64 wmax, .slice sa sn sc, .slice wa wn wc, .int .i64 dead, .int .i64 year, .int .i64 height]] w fun e w' => e = .returned (.int .i64 (judged (decide (10 * height ≤ f2 * lo)) (decide (10 * height ≤ f2 * hi)))) ∧ Below w.heap.size w w' := by
  have HB := Lib.hid (hB (w.alloc (.cells #[.int .i64 age, .int .i64 rest, .int .i64 girth, .int .i64 f0, .int .i64 f1, .int .i64 f2, .int .i64 heal, .string code, .int .i64 bmin, .int .i64 bmax, .int .i64 taped, .int .i64 gmin, .int .i64 gmax, .int .i64 wmin, .int .i64 wmax, .slice sa sn sc, .slice wa wn wc, .int .i64 dead, .int .i64 year, .int .i64 height] 81)) ((Below.refl _ w).alloc (Nat.le_refl _) _))
  have HG := Lib.hid hG
  have HK := Lib.hid (heap_alloc_new w (.cells #[.int .i64 age, .int .i64 rest, .int .i64 girth, .int .i64 f0, .int .i64 f1, .int .i64 f2, .int .i64 heal, .string code, .int .i64 bmin, .int .i64 bmax, .int .i64 taped, .int .i64 gmin, .int .i64 gmax, .int .i64 wmin, .int .i64 wmax, .slice sa sn sc, .slice wa wn wc, .int .i64 dead, .int .i64 year, .int .i64 height] 81))
  clear hG hB
  go_enter Tryz.func96, Tryz.ntmps96
  go_wp2_with (first | ((with_reducible refine at_load 81 (.tmp 1) ?_); go_must (refine wpList_load_row rfl 81 (.tmp 1) rfl w.heap.size rfl 81 #[.int .i64 age, .int .i64 rest, .int .i64 girth, .int .i64 f0, .int .i64 f1, .int .i64 f2, .int .i64 heal, .string code, .int .i64 bmin, .int .i64 bmax, .int .i64 taped, .int .i64 gmin, .int .i64 gmax, .int .i64 wmin, .int .i64 wmax, .slice sa sn sc, .slice wa wn wc, .int .i64 dead, .int .i64 year, .int .i64 height] (0, 0) _ HK.out Tryz.underlying81 rfl size_question ?_)) | (go_at_call 118; refine HB.out.mono ?_; rintro e w1 ⟨rfl, hw1⟩; replace HK := Lib.hid ((hw1.block w.heap.size (by simp)).trans HK.out); obtain ⟨hc1, hf1⟩ := bcell hw1; clear hf1; have hz1 : w.heap.size < w1.heap.size := (by (have := hw1.size; simp at this; omega))) | (go_at_call 119; refine (HG.out _).mono ?_; rintro e w2 ⟨rfl, hw2⟩; obtain ⟨hc2, hf2⟩ := bcell hw2; clear hf2; have hz2 : w.heap.size < w2.heap.size := Nat.lt_of_lt_of_le hz1 hw2.size) | (go_at_call 113; refine (judged_calls _ _ _).mono ?_; rintro e w' ⟨rfl, rfl⟩))
  go_ret
  exact ⟨rfl, Below.alloc (((Below.refl _ w).alloc (Nat.le_refl _) _).trans ((hw1.mono (by simp)).trans (hw2.mono (by omega)))) (by omega) _⟩

set_option maxRecDepth 100000 in
set_option maxHeartbeats 2000000 in
theorem judgeHeight_more (age rest girth f0 f1 f2 heal : Int) (code : ByteArray) (bmin bmax taped gmin gmax wmin wmax : Int) (sa : Option Addr) (sn sc : Nat) (wa : Option Addr) (wn wc : Nat) (dead : Int) (year height : Int) (n : Nat) (lo hi : Int) (w : World) (hn : 2 < n) (hh0 : 1 ≤ height) (hh1 : height ≤ 15000) (hp0 : 0 ≤ f2 * lo) (hp1 : f2 * lo ≤ 10000000) (hq0 : 0 ≤ f2 * hi) (hq1 : f2 * hi ≤ 10000000) (hB : CountSays age rest girth f0 f1 f2 heal code bmin bmax taped gmin gmax wmin wmax sa sn sc wa wn wc dead year height n w) (hG : GirthSays age rest girth f0 f1 f2 heal code bmin bmax taped gmin gmax wmin wmax sa sn sc wa wn wc dead year height lo hi) :
    Calls Tryz.prog 96 #[.agg #[.int .i64 age, .int .i64 rest, .int .i64 girth, .int .i64 f0, .int .i64 f1, .int .i64 f2, .int .i64 heal, .string code, .int .i64 bmin, .int .i64 bmax, .int .i64 taped, .int .i64 gmin, .int .i64 gmax, .int .i64 wmin, .int .i64 wmax, .slice sa sn sc, .slice wa wn wc, .int .i64 dead, .int .i64 year, .int .i64 height]] w fun e w' => e = .returned (.int .i64 (judged (decide (10 * height ≤ f2 * lo)) (decide (10 * height ≤ f2 * hi)))) ∧ Below w.heap.size w w' := by
  have HB := Lib.hid (hB (w.alloc (.cells #[.int .i64 age, .int .i64 rest, .int .i64 girth, .int .i64 f0, .int .i64 f1, .int .i64 f2, .int .i64 heal, .string code, .int .i64 bmin, .int .i64 bmax, .int .i64 taped, .int .i64 gmin, .int .i64 gmax, .int .i64 wmin, .int .i64 wmax, .slice sa sn sc, .slice wa wn wc, .int .i64 dead, .int .i64 year, .int .i64 height] 81)) ((Below.refl _ w).alloc (Nat.le_refl _) _))
  have hn' : (2 : Int) < (n : Int) := by omega
  have HG := Lib.hid hG
  have HK := Lib.hid (heap_alloc_new w (.cells #[.int .i64 age, .int .i64 rest, .int .i64 girth, .int .i64 f0, .int .i64 f1, .int .i64 f2, .int .i64 heal, .string code, .int .i64 bmin, .int .i64 bmax, .int .i64 taped, .int .i64 gmin, .int .i64 gmax, .int .i64 wmin, .int .i64 wmax, .slice sa sn sc, .slice wa wn wc, .int .i64 dead, .int .i64 year, .int .i64 height] 81))
  clear hG hB
  go_enter Tryz.func96, Tryz.ntmps96
  go_wp2_with (first | ((with_reducible refine at_load 81 (.tmp 1) ?_); go_must (refine wpList_load_row rfl 81 (.tmp 1) rfl w.heap.size rfl 81 #[.int .i64 age, .int .i64 rest, .int .i64 girth, .int .i64 f0, .int .i64 f1, .int .i64 f2, .int .i64 heal, .string code, .int .i64 bmin, .int .i64 bmax, .int .i64 taped, .int .i64 gmin, .int .i64 gmax, .int .i64 wmin, .int .i64 wmax, .slice sa sn sc, .slice wa wn wc, .int .i64 dead, .int .i64 year, .int .i64 height] (0, 0) _ HK.out Tryz.underlying81 rfl size_question ?_)) | (go_at_call 118; refine HB.out.mono ?_; rintro e w1 ⟨rfl, hw1⟩; replace HK := Lib.hid ((hw1.block w.heap.size (by simp)).trans HK.out); obtain ⟨hc1, hf1⟩ := bcell hw1; clear hf1; have hz1 : w.heap.size < w1.heap.size := (by (have := hw1.size; simp at this; omega))) | (go_at_call 119; refine (HG.out _).mono ?_; rintro e w2 ⟨rfl, hw2⟩; obtain ⟨hc2, hf2⟩ := bcell hw2; clear hf2; have hz2 : w.heap.size < w2.heap.size := Nat.lt_of_lt_of_le hz1 hw2.size) | (go_at_call 113; refine (judged_calls _ _ _).mono ?_; rintro e w' ⟨rfl, rfl⟩))
  go_ret
  exact ⟨rfl, Below.alloc (((Below.refl _ w).alloc (Nat.le_refl _) _).trans ((hw1.mono (by simp)).trans (hw2.mono (by omega)))) (by omega) _⟩

end Go.Proofs.YtnoofdjlocadbaaGreatDoor
