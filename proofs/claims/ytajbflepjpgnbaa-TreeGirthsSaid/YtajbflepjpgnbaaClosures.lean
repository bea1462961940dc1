/- The two searches' closures: is a rule's judgement this one? -/
import Derived.Test.YtajbflepjpgnbaaFirstB
namespace Go.Proofs.Ytajbflepjpgnbaa
open Go.RowKit Go.Shelf

/-- What the judgement at a place says, whatever world it is asked in behind w. -/
def JudgeSays (age rest girth f0 f1 f2 heal : Int) (code : ByteArray) (bmin bmax taped gmin gmax wmin wmax : Int) (sa : Option Addr) (sn sc : Nat) (wa : Option Addr) (wn wc : Nat) (dead : Int) (year height : Int) (k : Nat) (v : Int) (w : World) : Prop := ∀ W : World, Below w.heap.size w W → Calls Try.prog (ruleFn k) #[.agg #[.int .i64 age, .int .i64 rest, .int .i64 girth, .int .i64 f0, .int .i64 f1, .int .i64 f2, .int .i64 heal, .string code, .int .i64 bmin, .int .i64 bmax, .int .i64 taped, .int .i64 gmin, .int .i64 gmax, .int .i64 wmin, .int .i64 wmax, .slice sa sn sc, .slice wa wn wc, .int .i64 dead, .int .i64 year, .int .i64 height]] W fun e w' => e = .returned (.int .i64 v) ∧ Below W.heap.size W w'

set_option maxRecDepth 100000 in
set_option maxHeartbeats 1000000 in
theorem broken_0 (age rest girth f0 f1 f2 heal : Int) (code : ByteArray) (bmin bmax taped gmin gmax wmin wmax : Int) (sa : Option Addr) (sn sc : Nat) (wa : Option Addr) (wn wc : Nat) (dead : Int) (year height : Int) (v : Int) (w W : World) (Bq : Nat) (hB : Below w.heap.size w W) (hq : Blk W Bq 74 #[.int .i64 age, .int .i64 rest, .int .i64 girth, .int .i64 f0, .int .i64 f1, .int .i64 f2, .int .i64 heal, .string code, .int .i64 bmin, .int .i64 bmax, .int .i64 taped, .int .i64 gmin, .int .i64 gmax, .int .i64 wmin, .int .i64 wmax, .slice sa sn sc, .slice wa wn wc, .int .i64 dead, .int .i64 year, .int .i64 height]) (hJ : JudgeSays age rest girth f0 f1 f2 heal code bmin bmax taped gmin gmax wmin wmax sa sn sc wa wn wc dead year height 0 v w) :
    Calls Try.prog 65 #[.agg #[.int .i64 1, .func (.func 85) #[] #[]], .pointer (some ⟨Bq, 0, none⟩)] W fun e w' => e = .returned (.bool (v == 2)) ∧ Below W.heap.size W w' := by
  have HJ := Lib.hid (hJ (W.alloc (.cells #[.int .i64 1, .func (.func 85) #[] #[]] 106)) (hB.alloc hB.size _))
  have HK := Lib.hid (show _ from hq.alloc (.cells #[.int .i64 1, .func (.func 85) #[] #[]] 106))
  clear hJ hq
  go_enter Try.func65, Try.ntmps65
  go_wp2_with (first | ((with_reducible refine at_load 74 (.tmp 1) ?_); go_must (refine wpList_load_row rfl 74 (.tmp 1) rfl Bq rfl 74 #[.int .i64 age, .int .i64 rest, .int .i64 girth, .int .i64 f0, .int .i64 f1, .int .i64 f2, .int .i64 heal, .string code, .int .i64 bmin, .int .i64 bmax, .int .i64 taped, .int .i64 gmin, .int .i64 gmax, .int .i64 wmin, .int .i64 wmax, .slice sa sn sc, .slice wa wn wc, .int .i64 dead, .int .i64 year, .int .i64 height] (0, 0) _ HK.out Try.underlying74 rfl size_question ?_)) | (go_at_call 85; refine HJ.out.mono ?_; rintro e w1 ⟨rfl, hw1⟩))
  go_ret
  exact ⟨rfl, ((Below.refl _ W).alloc (Nat.le_refl _) _).trans (hw1.mono (by simp))⟩

set_option maxRecDepth 100000 in
set_option maxHeartbeats 1000000 in
theorem broken_1 (age rest girth f0 f1 f2 heal : Int) (code : ByteArray) (bmin bmax taped gmin gmax wmin wmax : Int) (sa : Option Addr) (sn sc : Nat) (wa : Option Addr) (wn wc : Nat) (dead : Int) (year height : Int) (v : Int) (w W : World) (Bq : Nat) (hB : Below w.heap.size w W) (hq : Blk W Bq 74 #[.int .i64 age, .int .i64 rest, .int .i64 girth, .int .i64 f0, .int .i64 f1, .int .i64 f2, .int .i64 heal, .string code, .int .i64 bmin, .int .i64 bmax, .int .i64 taped, .int .i64 gmin, .int .i64 gmax, .int .i64 wmin, .int .i64 wmax, .slice sa sn sc, .slice wa wn wc, .int .i64 dead, .int .i64 year, .int .i64 height]) (hJ : JudgeSays age rest girth f0 f1 f2 heal code bmin bmax taped gmin gmax wmin wmax sa sn sc wa wn wc dead year height 1 v w) :
    Calls Try.prog 65 #[.agg #[.int .i64 2, .func (.func 86) #[] #[]], .pointer (some ⟨Bq, 0, none⟩)] W fun e w' => e = .returned (.bool (v == 2)) ∧ Below W.heap.size W w' := by
  have HJ := Lib.hid (hJ (W.alloc (.cells #[.int .i64 2, .func (.func 86) #[] #[]] 106)) (hB.alloc hB.size _))
  have HK := Lib.hid (show _ from hq.alloc (.cells #[.int .i64 2, .func (.func 86) #[] #[]] 106))
  clear hJ hq
  go_enter Try.func65, Try.ntmps65
  go_wp2_with (first | ((with_reducible refine at_load 74 (.tmp 1) ?_); go_must (refine wpList_load_row rfl 74 (.tmp 1) rfl Bq rfl 74 #[.int .i64 age, .int .i64 rest, .int .i64 girth, .int .i64 f0, .int .i64 f1, .int .i64 f2, .int .i64 heal, .string code, .int .i64 bmin, .int .i64 bmax, .int .i64 taped, .int .i64 gmin, .int .i64 gmax, .int .i64 wmin, .int .i64 wmax, .slice sa sn sc, .slice wa wn wc, .int .i64 dead, .int .i64 year, .int .i64 height] (0, 0) _ HK.out Try.underlying74 rfl size_question ?_)) | (go_at_call 86; refine HJ.out.mono ?_; rintro e w1 ⟨rfl, hw1⟩))
  go_ret
  exact ⟨rfl, ((Below.refl _ W).alloc (Nat.le_refl _) _).trans (hw1.mono (by simp))⟩

set_option maxRecDepth 100000 in
set_option maxHeartbeats 1000000 in
theorem broken_2 (age rest girth f0 f1 f2 heal : Int) (code : ByteArray) (bmin bmax taped gmin gmax wmin wmax : Int) (sa : Option Addr) (sn sc : Nat) (wa : Option Addr) (wn wc : Nat) (dead : Int) (year height : Int) (v : Int) (w W : World) (Bq : Nat) (hB : Below w.heap.size w W) (hq : Blk W Bq 74 #[.int .i64 age, .int .i64 rest, .int .i64 girth, .int .i64 f0, .int .i64 f1, .int .i64 f2, .int .i64 heal, .string code, .int .i64 bmin, .int .i64 bmax, .int .i64 taped, .int .i64 gmin, .int .i64 gmax, .int .i64 wmin, .int .i64 wmax, .slice sa sn sc, .slice wa wn wc, .int .i64 dead, .int .i64 year, .int .i64 height]) (hJ : JudgeSays age rest girth f0 f1 f2 heal code bmin bmax taped gmin gmax wmin wmax sa sn sc wa wn wc dead year height 2 v w) :
    Calls Try.prog 65 #[.agg #[.int .i64 3, .func (.func 87) #[] #[]], .pointer (some ⟨Bq, 0, none⟩)] W fun e w' => e = .returned (.bool (v == 2)) ∧ Below W.heap.size W w' := by
  have HJ := Lib.hid (hJ (W.alloc (.cells #[.int .i64 3, .func (.func 87) #[] #[]] 106)) (hB.alloc hB.size _))
  have HK := Lib.hid (show _ from hq.alloc (.cells #[.int .i64 3, .func (.func 87) #[] #[]] 106))
  clear hJ hq
  go_enter Try.func65, Try.ntmps65
  go_wp2_with (first | ((with_reducible refine at_load 74 (.tmp 1) ?_); go_must (refine wpList_load_row rfl 74 (.tmp 1) rfl Bq rfl 74 #[.int .i64 age, .int .i64 rest, .int .i64 girth, .int .i64 f0, .int .i64 f1, .int .i64 f2, .int .i64 heal, .string code, .int .i64 bmin, .int .i64 bmax, .int .i64 taped, .int .i64 gmin, .int .i64 gmax, .int .i64 wmin, .int .i64 wmax, .slice sa sn sc, .slice wa wn wc, .int .i64 dead, .int .i64 year, .int .i64 height] (0, 0) _ HK.out Try.underlying74 rfl size_question ?_)) | (go_at_call 87; refine HJ.out.mono ?_; rintro e w1 ⟨rfl, hw1⟩))
  go_ret
  exact ⟨rfl, ((Below.refl _ W).alloc (Nat.le_refl _) _).trans (hw1.mono (by simp))⟩

set_option maxRecDepth 100000 in
set_option maxHeartbeats 1000000 in
theorem broken_3 (age rest girth f0 f1 f2 heal : Int) (code : ByteArray) (bmin bmax taped gmin gmax wmin wmax : Int) (sa : Option Addr) (sn sc : Nat) (wa : Option Addr) (wn wc : Nat) (dead : Int) (year height : Int) (v : Int) (w W : World) (Bq : Nat) (hB : Below w.heap.size w W) (hq : Blk W Bq 74 #[.int .i64 age, .int .i64 rest, .int .i64 girth, .int .i64 f0, .int .i64 f1, .int .i64 f2, .int .i64 heal, .string code, .int .i64 bmin, .int .i64 bmax, .int .i64 taped, .int .i64 gmin, .int .i64 gmax, .int .i64 wmin, .int .i64 wmax, .slice sa sn sc, .slice wa wn wc, .int .i64 dead, .int .i64 year, .int .i64 height]) (hJ : JudgeSays age rest girth f0 f1 f2 heal code bmin bmax taped gmin gmax wmin wmax sa sn sc wa wn wc dead year height 3 v w) :
    Calls Try.prog 65 #[.agg #[.int .i64 4, .func (.func 88) #[] #[]], .pointer (some ⟨Bq, 0, none⟩)] W fun e w' => e = .returned (.bool (v == 2)) ∧ Below W.heap.size W w' := by
  have HJ := Lib.hid (hJ (W.alloc (.cells #[.int .i64 4, .func (.func 88) #[] #[]] 106)) (hB.alloc hB.size _))
  have HK := Lib.hid (show _ from hq.alloc (.cells #[.int .i64 4, .func (.func 88) #[] #[]] 106))
  clear hJ hq
  go_enter Try.func65, Try.ntmps65
  go_wp2_with (first | ((with_reducible refine at_load 74 (.tmp 1) ?_); go_must (refine wpList_load_row rfl 74 (.tmp 1) rfl Bq rfl 74 #[.int .i64 age, .int .i64 rest, .int .i64 girth, .int .i64 f0, .int .i64 f1, .int .i64 f2, .int .i64 heal, .string code, .int .i64 bmin, .int .i64 bmax, .int .i64 taped, .int .i64 gmin, .int .i64 gmax, .int .i64 wmin, .int .i64 wmax, .slice sa sn sc, .slice wa wn wc, .int .i64 dead, .int .i64 year, .int .i64 height] (0, 0) _ HK.out Try.underlying74 rfl size_question ?_)) | (go_at_call 88; refine HJ.out.mono ?_; rintro e w1 ⟨rfl, hw1⟩))
  go_ret
  exact ⟨rfl, ((Below.refl _ W).alloc (Nat.le_refl _) _).trans (hw1.mono (by simp))⟩

set_option maxRecDepth 100000 in
set_option maxHeartbeats 1000000 in
theorem broken_4 (age rest girth f0 f1 f2 heal : Int) (code : ByteArray) (bmin bmax taped gmin gmax wmin wmax : Int) (sa : Option Addr) (sn sc : Nat) (wa : Option Addr) (wn wc : Nat) (dead : Int) (year height : Int) (v : Int) (w W : World) (Bq : Nat) (hB : Below w.heap.size w W) (hq : Blk W Bq 74 #[.int .i64 age, .int .i64 rest, .int .i64 girth, .int .i64 f0, .int .i64 f1, .int .i64 f2, .int .i64 heal, .string code, .int .i64 bmin, .int .i64 bmax, .int .i64 taped, .int .i64 gmin, .int .i64 gmax, .int .i64 wmin, .int .i64 wmax, .slice sa sn sc, .slice wa wn wc, .int .i64 dead, .int .i64 year, .int .i64 height]) (hJ : JudgeSays age rest girth f0 f1 f2 heal code bmin bmax taped gmin gmax wmin wmax sa sn sc wa wn wc dead year height 4 v w) :
    Calls Try.prog 65 #[.agg #[.int .i64 5, .func (.func 89) #[] #[]], .pointer (some ⟨Bq, 0, none⟩)] W fun e w' => e = .returned (.bool (v == 2)) ∧ Below W.heap.size W w' := by
  have HJ := Lib.hid (hJ (W.alloc (.cells #[.int .i64 5, .func (.func 89) #[] #[]] 106)) (hB.alloc hB.size _))
  have HK := Lib.hid (show _ from hq.alloc (.cells #[.int .i64 5, .func (.func 89) #[] #[]] 106))
  clear hJ hq
  go_enter Try.func65, Try.ntmps65
  go_wp2_with (first | ((with_reducible refine at_load 74 (.tmp 1) ?_); go_must (refine wpList_load_row rfl 74 (.tmp 1) rfl Bq rfl 74 #[.int .i64 age, .int .i64 rest, .int .i64 girth, .int .i64 f0, .int .i64 f1, .int .i64 f2, .int .i64 heal, .string code, .int .i64 bmin, .int .i64 bmax, .int .i64 taped, .int .i64 gmin, .int .i64 gmax, .int .i64 wmin, .int .i64 wmax, .slice sa sn sc, .slice wa wn wc, .int .i64 dead, .int .i64 year, .int .i64 height] (0, 0) _ HK.out Try.underlying74 rfl size_question ?_)) | (go_at_call 89; refine HJ.out.mono ?_; rintro e w1 ⟨rfl, hw1⟩))
  go_ret
  exact ⟨rfl, ((Below.refl _ W).alloc (Nat.le_refl _) _).trans (hw1.mono (by simp))⟩

set_option maxRecDepth 100000 in
set_option maxHeartbeats 1000000 in
theorem broken_5 (age rest girth f0 f1 f2 heal : Int) (code : ByteArray) (bmin bmax taped gmin gmax wmin wmax : Int) (sa : Option Addr) (sn sc : Nat) (wa : Option Addr) (wn wc : Nat) (dead : Int) (year height : Int) (v : Int) (w W : World) (Bq : Nat) (hB : Below w.heap.size w W) (hq : Blk W Bq 74 #[.int .i64 age, .int .i64 rest, .int .i64 girth, .int .i64 f0, .int .i64 f1, .int .i64 f2, .int .i64 heal, .string code, .int .i64 bmin, .int .i64 bmax, .int .i64 taped, .int .i64 gmin, .int .i64 gmax, .int .i64 wmin, .int .i64 wmax, .slice sa sn sc, .slice wa wn wc, .int .i64 dead, .int .i64 year, .int .i64 height]) (hJ : JudgeSays age rest girth f0 f1 f2 heal code bmin bmax taped gmin gmax wmin wmax sa sn sc wa wn wc dead year height 5 v w) :
    Calls Try.prog 65 #[.agg #[.int .i64 6, .func (.func 90) #[] #[]], .pointer (some ⟨Bq, 0, none⟩)] W fun e w' => e = .returned (.bool (v == 2)) ∧ Below W.heap.size W w' := by
  have HJ := Lib.hid (hJ (W.alloc (.cells #[.int .i64 6, .func (.func 90) #[] #[]] 106)) (hB.alloc hB.size _))
  have HK := Lib.hid (show _ from hq.alloc (.cells #[.int .i64 6, .func (.func 90) #[] #[]] 106))
  clear hJ hq
  go_enter Try.func65, Try.ntmps65
  go_wp2_with (first | ((with_reducible refine at_load 74 (.tmp 1) ?_); go_must (refine wpList_load_row rfl 74 (.tmp 1) rfl Bq rfl 74 #[.int .i64 age, .int .i64 rest, .int .i64 girth, .int .i64 f0, .int .i64 f1, .int .i64 f2, .int .i64 heal, .string code, .int .i64 bmin, .int .i64 bmax, .int .i64 taped, .int .i64 gmin, .int .i64 gmax, .int .i64 wmin, .int .i64 wmax, .slice sa sn sc, .slice wa wn wc, .int .i64 dead, .int .i64 year, .int .i64 height] (0, 0) _ HK.out Try.underlying74 rfl size_question ?_)) | (go_at_call 90; refine HJ.out.mono ?_; rintro e w1 ⟨rfl, hw1⟩))
  go_ret
  exact ⟨rfl, ((Below.refl _ W).alloc (Nat.le_refl _) _).trans (hw1.mono (by simp))⟩

theorem broken_calls (age rest girth f0 f1 f2 heal : Int) (code : ByteArray) (bmin bmax taped gmin gmax wmin wmax : Int) (sa : Option Addr) (sn sc : Nat) (wa : Option Addr) (wn wc : Nat) (dead : Int) (year height : Int) (vs : Nat → Int) (w W : World) (Bq : Nat) (x : Fin 6) (hB : Below w.heap.size w W) (hq : Blk W Bq 74 #[.int .i64 age, .int .i64 rest, .int .i64 girth, .int .i64 f0, .int .i64 f1, .int .i64 f2, .int .i64 heal, .string code, .int .i64 bmin, .int .i64 bmax, .int .i64 taped, .int .i64 gmin, .int .i64 gmax, .int .i64 wmin, .int .i64 wmax, .slice sa sn sc, .slice wa wn wc, .int .i64 dead, .int .i64 year, .int .i64 height]) (hJ : ∀ k, k < 6 → JudgeSays age rest girth f0 f1 f2 heal code bmin bmax taped gmin gmax wmin wmax sa sn sc wa wn wc dead year height k (vs k) w) :
    Calls Try.prog 65 #[.agg #[.int .i64 ((x.val : Int) + 1), .func (.func (ruleFn x.val)) #[] #[]], .pointer (some ⟨Bq, 0, none⟩)] W fun e w' => e = .returned (.bool (vs x.val == 2)) ∧ Below W.heap.size W w' :=
  match x with
  | ⟨0, _⟩ => broken_0 age rest girth f0 f1 f2 heal code bmin bmax taped gmin gmax wmin wmax sa sn sc wa wn wc dead year height (vs 0) w W Bq hB hq (hJ 0 (by omega))
  | ⟨1, _⟩ => broken_1 age rest girth f0 f1 f2 heal code bmin bmax taped gmin gmax wmin wmax sa sn sc wa wn wc dead year height (vs 1) w W Bq hB hq (hJ 1 (by omega))
  | ⟨2, _⟩ => broken_2 age rest girth f0 f1 f2 heal code bmin bmax taped gmin gmax wmin wmax sa sn sc wa wn wc dead year height (vs 2) w W Bq hB hq (hJ 2 (by omega))
  | ⟨3, _⟩ => broken_3 age rest girth f0 f1 f2 heal code bmin bmax taped gmin gmax wmin wmax sa sn sc wa wn wc dead year height (vs 3) w W Bq hB hq (hJ 3 (by omega))
  | ⟨4, _⟩ => broken_4 age rest girth f0 f1 f2 heal code bmin bmax taped gmin gmax wmin wmax sa sn sc wa wn wc dead year height (vs 4) w W Bq hB hq (hJ 4 (by omega))
  | ⟨5, _⟩ => broken_5 age rest girth f0 f1 f2 heal code bmin bmax taped gmin gmax wmin wmax sa sn sc wa wn wc dead year height (vs 5) w W Bq hB hq (hJ 5 (by omega))

set_option maxRecDepth 100000 in
set_option maxHeartbeats 1000000 in
theorem doubtful_0 (age rest girth f0 f1 f2 heal : Int) (code : ByteArray) (bmin bmax taped gmin gmax wmin wmax : Int) (sa : Option Addr) (sn sc : Nat) (wa : Option Addr) (wn wc : Nat) (dead : Int) (year height : Int) (v : Int) (w W : World) (Bq : Nat) (hB : Below w.heap.size w W) (hq : Blk W Bq 74 #[.int .i64 age, .int .i64 rest, .int .i64 girth, .int .i64 f0, .int .i64 f1, .int .i64 f2, .int .i64 heal, .string code, .int .i64 bmin, .int .i64 bmax, .int .i64 taped, .int .i64 gmin, .int .i64 gmax, .int .i64 wmin, .int .i64 wmax, .slice sa sn sc, .slice wa wn wc, .int .i64 dead, .int .i64 year, .int .i64 height]) (hJ : JudgeSays age rest girth f0 f1 f2 heal code bmin bmax taped gmin gmax wmin wmax sa sn sc wa wn wc dead year height 0 v w) :
    Calls Try.prog 66 #[.agg #[.int .i64 1, .func (.func 85) #[] #[]], .pointer (some ⟨Bq, 0, none⟩)] W fun e w' => e = .returned (.bool (v == 0)) ∧ Below W.heap.size W w' := by
  have HJ := Lib.hid (hJ (W.alloc (.cells #[.int .i64 1, .func (.func 85) #[] #[]] 106)) (hB.alloc hB.size _))
  have HK := Lib.hid (show _ from hq.alloc (.cells #[.int .i64 1, .func (.func 85) #[] #[]] 106))
  clear hJ hq
  go_enter Try.func66, Try.ntmps66
  go_wp2_with (first | ((with_reducible refine at_load 74 (.tmp 1) ?_); go_must (refine wpList_load_row rfl 74 (.tmp 1) rfl Bq rfl 74 #[.int .i64 age, .int .i64 rest, .int .i64 girth, .int .i64 f0, .int .i64 f1, .int .i64 f2, .int .i64 heal, .string code, .int .i64 bmin, .int .i64 bmax, .int .i64 taped, .int .i64 gmin, .int .i64 gmax, .int .i64 wmin, .int .i64 wmax, .slice sa sn sc, .slice wa wn wc, .int .i64 dead, .int .i64 year, .int .i64 height] (0, 0) _ HK.out Try.underlying74 rfl size_question ?_)) | (go_at_call 85; refine HJ.out.mono ?_; rintro e w1 ⟨rfl, hw1⟩))
  go_ret
  exact ⟨rfl, ((Below.refl _ W).alloc (Nat.le_refl _) _).trans (hw1.mono (by simp))⟩

set_option maxRecDepth 100000 in
set_option maxHeartbeats 1000000 in
theorem doubtful_1 (age rest girth f0 f1 f2 heal : Int) (code : ByteArray) (bmin bmax taped gmin gmax wmin wmax : Int) (sa : Option Addr) (sn sc : Nat) (wa : Option Addr) (wn wc : Nat) (dead : Int) (year height : Int) (v : Int) (w W : World) (Bq : Nat) (hB : Below w.heap.size w W) (hq : Blk W Bq 74 #[.int .i64 age, .int .i64 rest, .int .i64 girth, .int .i64 f0, .int .i64 f1, .int .i64 f2, .int .i64 heal, .string code, .int .i64 bmin, .int .i64 bmax, .int .i64 taped, .int .i64 gmin, .int .i64 gmax, .int .i64 wmin, .int .i64 wmax, .slice sa sn sc, .slice wa wn wc, .int .i64 dead, .int .i64 year, .int .i64 height]) (hJ : JudgeSays age rest girth f0 f1 f2 heal code bmin bmax taped gmin gmax wmin wmax sa sn sc wa wn wc dead year height 1 v w) :
    Calls Try.prog 66 #[.agg #[.int .i64 2, .func (.func 86) #[] #[]], .pointer (some ⟨Bq, 0, none⟩)] W fun e w' => e = .returned (.bool (v == 0)) ∧ Below W.heap.size W w' := by
  have HJ := Lib.hid (hJ (W.alloc (.cells #[.int .i64 2, .func (.func 86) #[] #[]] 106)) (hB.alloc hB.size _))
  have HK := Lib.hid (show _ from hq.alloc (.cells #[.int .i64 2, .func (.func 86) #[] #[]] 106))
  clear hJ hq
  go_enter Try.func66, Try.ntmps66
  go_wp2_with (first | ((with_reducible refine at_load 74 (.tmp 1) ?_); go_must (refine wpList_load_row rfl 74 (.tmp 1) rfl Bq rfl 74 #[.int .i64 age, .int .i64 rest, .int .i64 girth, .int .i64 f0, .int .i64 f1, .int .i64 f2, .int .i64 heal, .string code, .int .i64 bmin, .int .i64 bmax, .int .i64 taped, .int .i64 gmin, .int .i64 gmax, .int .i64 wmin, .int .i64 wmax, .slice sa sn sc, .slice wa wn wc, .int .i64 dead, .int .i64 year, .int .i64 height] (0, 0) _ HK.out Try.underlying74 rfl size_question ?_)) | (go_at_call 86; refine HJ.out.mono ?_; rintro e w1 ⟨rfl, hw1⟩))
  go_ret
  exact ⟨rfl, ((Below.refl _ W).alloc (Nat.le_refl _) _).trans (hw1.mono (by simp))⟩

set_option maxRecDepth 100000 in
set_option maxHeartbeats 1000000 in
theorem doubtful_2 (age rest girth f0 f1 f2 heal : Int) (code : ByteArray) (bmin bmax taped gmin gmax wmin wmax : Int) (sa : Option Addr) (sn sc : Nat) (wa : Option Addr) (wn wc : Nat) (dead : Int) (year height : Int) (v : Int) (w W : World) (Bq : Nat) (hB : Below w.heap.size w W) (hq : Blk W Bq 74 #[.int .i64 age, .int .i64 rest, .int .i64 girth, .int .i64 f0, .int .i64 f1, .int .i64 f2, .int .i64 heal, .string code, .int .i64 bmin, .int .i64 bmax, .int .i64 taped, .int .i64 gmin, .int .i64 gmax, .int .i64 wmin, .int .i64 wmax, .slice sa sn sc, .slice wa wn wc, .int .i64 dead, .int .i64 year, .int .i64 height]) (hJ : JudgeSays age rest girth f0 f1 f2 heal code bmin bmax taped gmin gmax wmin wmax sa sn sc wa wn wc dead year height 2 v w) :
    Calls Try.prog 66 #[.agg #[.int .i64 3, .func (.func 87) #[] #[]], .pointer (some ⟨Bq, 0, none⟩)] W fun e w' => e = .returned (.bool (v == 0)) ∧ Below W.heap.size W w' := by
  have HJ := Lib.hid (hJ (W.alloc (.cells #[.int .i64 3, .func (.func 87) #[] #[]] 106)) (hB.alloc hB.size _))
  have HK := Lib.hid (show _ from hq.alloc (.cells #[.int .i64 3, .func (.func 87) #[] #[]] 106))
  clear hJ hq
  go_enter Try.func66, Try.ntmps66
  go_wp2_with (first | ((with_reducible refine at_load 74 (.tmp 1) ?_); go_must (refine wpList_load_row rfl 74 (.tmp 1) rfl Bq rfl 74 #[.int .i64 age, .int .i64 rest, .int .i64 girth, .int .i64 f0, .int .i64 f1, .int .i64 f2, .int .i64 heal, .string code, .int .i64 bmin, .int .i64 bmax, .int .i64 taped, .int .i64 gmin, .int .i64 gmax, .int .i64 wmin, .int .i64 wmax, .slice sa sn sc, .slice wa wn wc, .int .i64 dead, .int .i64 year, .int .i64 height] (0, 0) _ HK.out Try.underlying74 rfl size_question ?_)) | (go_at_call 87; refine HJ.out.mono ?_; rintro e w1 ⟨rfl, hw1⟩))
  go_ret
  exact ⟨rfl, ((Below.refl _ W).alloc (Nat.le_refl _) _).trans (hw1.mono (by simp))⟩

set_option maxRecDepth 100000 in
set_option maxHeartbeats 1000000 in
theorem doubtful_3 (age rest girth f0 f1 f2 heal : Int) (code : ByteArray) (bmin bmax taped gmin gmax wmin wmax : Int) (sa : Option Addr) (sn sc : Nat) (wa : Option Addr) (wn wc : Nat) (dead : Int) (year height : Int) (v : Int) (w W : World) (Bq : Nat) (hB : Below w.heap.size w W) (hq : Blk W Bq 74 #[.int .i64 age, .int .i64 rest, .int .i64 girth, .int .i64 f0, .int .i64 f1, .int .i64 f2, .int .i64 heal, .string code, .int .i64 bmin, .int .i64 bmax, .int .i64 taped, .int .i64 gmin, .int .i64 gmax, .int .i64 wmin, .int .i64 wmax, .slice sa sn sc, .slice wa wn wc, .int .i64 dead, .int .i64 year, .int .i64 height]) (hJ : JudgeSays age rest girth f0 f1 f2 heal code bmin bmax taped gmin gmax wmin wmax sa sn sc wa wn wc dead year height 3 v w) :
    Calls Try.prog 66 #[.agg #[.int .i64 4, .func (.func 88) #[] #[]], .pointer (some ⟨Bq, 0, none⟩)] W fun e w' => e = .returned (.bool (v == 0)) ∧ Below W.heap.size W w' := by
  have HJ := Lib.hid (hJ (W.alloc (.cells #[.int .i64 4, .func (.func 88) #[] #[]] 106)) (hB.alloc hB.size _))
  have HK := Lib.hid (show _ from hq.alloc (.cells #[.int .i64 4, .func (.func 88) #[] #[]] 106))
  clear hJ hq
  go_enter Try.func66, Try.ntmps66
  go_wp2_with (first | ((with_reducible refine at_load 74 (.tmp 1) ?_); go_must (refine wpList_load_row rfl 74 (.tmp 1) rfl Bq rfl 74 #[.int .i64 age, .int .i64 rest, .int .i64 girth, .int .i64 f0, .int .i64 f1, .int .i64 f2, .int .i64 heal, .string code, .int .i64 bmin, .int .i64 bmax, .int .i64 taped, .int .i64 gmin, .int .i64 gmax, .int .i64 wmin, .int .i64 wmax, .slice sa sn sc, .slice wa wn wc, .int .i64 dead, .int .i64 year, .int .i64 height] (0, 0) _ HK.out Try.underlying74 rfl size_question ?_)) | (go_at_call 88; refine HJ.out.mono ?_; rintro e w1 ⟨rfl, hw1⟩))
  go_ret
  exact ⟨rfl, ((Below.refl _ W).alloc (Nat.le_refl _) _).trans (hw1.mono (by simp))⟩

set_option maxRecDepth 100000 in
set_option maxHeartbeats 1000000 in
theorem doubtful_4 (age rest girth f0 f1 f2 heal : Int) (code : ByteArray) (bmin bmax taped gmin gmax wmin wmax : Int) (sa : Option Addr) (sn sc : Nat) (wa : Option Addr) (wn wc : Nat) (dead : Int) (year height : Int) (v : Int) (w W : World) (Bq : Nat) (hB : Below w.heap.size w W) (hq : Blk W Bq 74 #[.int .i64 age, .int .i64 rest, .int .i64 girth, .int .i64 f0, .int .i64 f1, .int .i64 f2, .int .i64 heal, .string code, .int .i64 bmin, .int .i64 bmax, .int .i64 taped, .int .i64 gmin, .int .i64 gmax, .int .i64 wmin, .int .i64 wmax, .slice sa sn sc, .slice wa wn wc, .int .i64 dead, .int .i64 year, .int .i64 height]) (hJ : JudgeSays age rest girth f0 f1 f2 heal code bmin bmax taped gmin gmax wmin wmax sa sn sc wa wn wc dead year height 4 v w) :
    Calls Try.prog 66 #[.agg #[.int .i64 5, .func (.func 89) #[] #[]], .pointer (some ⟨Bq, 0, none⟩)] W fun e w' => e = .returned (.bool (v == 0)) ∧ Below W.heap.size W w' := by
  have HJ := Lib.hid (hJ (W.alloc (.cells #[.int .i64 5, .func (.func 89) #[] #[]] 106)) (hB.alloc hB.size _))
  have HK := Lib.hid (show _ from hq.alloc (.cells #[.int .i64 5, .func (.func 89) #[] #[]] 106))
  clear hJ hq
  go_enter Try.func66, Try.ntmps66
  go_wp2_with (first | ((with_reducible refine at_load 74 (.tmp 1) ?_); go_must (refine wpList_load_row rfl 74 (.tmp 1) rfl Bq rfl 74 #[.int .i64 age, .int .i64 rest, .int .i64 girth, .int .i64 f0, .int .i64 f1, .int .i64 f2, .int .i64 heal, .string code, .int .i64 bmin, .int .i64 bmax, .int .i64 taped, .int .i64 gmin, .int .i64 gmax, .int .i64 wmin, .int .i64 wmax, .slice sa sn sc, .slice wa wn wc, .int .i64 dead, .int .i64 year, .int .i64 height] (0, 0) _ HK.out Try.underlying74 rfl size_question ?_)) | (go_at_call 89; refine HJ.out.mono ?_; rintro e w1 ⟨rfl, hw1⟩))
  go_ret
  exact ⟨rfl, ((Below.refl _ W).alloc (Nat.le_refl _) _).trans (hw1.mono (by simp))⟩

set_option maxRecDepth 100000 in
set_option maxHeartbeats 1000000 in
theorem doubtful_5 (age rest girth f0 f1 f2 heal : Int) (code : ByteArray) (bmin bmax taped gmin gmax wmin wmax : Int) (sa : Option Addr) (sn sc : Nat) (wa : Option Addr) (wn wc : Nat) (dead : Int) (year height : Int) (v : Int) (w W : World) (Bq : Nat) (hB : Below w.heap.size w W) (hq : Blk W Bq 74 #[.int .i64 age, .int .i64 rest, .int .i64 girth, .int .i64 f0, .int .i64 f1, .int .i64 f2, .int .i64 heal, .string code, .int .i64 bmin, .int .i64 bmax, .int .i64 taped, .int .i64 gmin, .int .i64 gmax, .int .i64 wmin, .int .i64 wmax, .slice sa sn sc, .slice wa wn wc, .int .i64 dead, .int .i64 year, .int .i64 height]) (hJ : JudgeSays age rest girth f0 f1 f2 heal code bmin bmax taped gmin gmax wmin wmax sa sn sc wa wn wc dead year height 5 v w) :
    Calls Try.prog 66 #[.agg #[.int .i64 6, .func (.func 90) #[] #[]], .pointer (some ⟨Bq, 0, none⟩)] W fun e w' => e = .returned (.bool (v == 0)) ∧ Below W.heap.size W w' := by
  have HJ := Lib.hid (hJ (W.alloc (.cells #[.int .i64 6, .func (.func 90) #[] #[]] 106)) (hB.alloc hB.size _))
  have HK := Lib.hid (show _ from hq.alloc (.cells #[.int .i64 6, .func (.func 90) #[] #[]] 106))
  clear hJ hq
  go_enter Try.func66, Try.ntmps66
  go_wp2_with (first | ((with_reducible refine at_load 74 (.tmp 1) ?_); go_must (refine wpList_load_row rfl 74 (.tmp 1) rfl Bq rfl 74 #[.int .i64 age, .int .i64 rest, .int .i64 girth, .int .i64 f0, .int .i64 f1, .int .i64 f2, .int .i64 heal, .string code, .int .i64 bmin, .int .i64 bmax, .int .i64 taped, .int .i64 gmin, .int .i64 gmax, .int .i64 wmin, .int .i64 wmax, .slice sa sn sc, .slice wa wn wc, .int .i64 dead, .int .i64 year, .int .i64 height] (0, 0) _ HK.out Try.underlying74 rfl size_question ?_)) | (go_at_call 90; refine HJ.out.mono ?_; rintro e w1 ⟨rfl, hw1⟩))
  go_ret
  exact ⟨rfl, ((Below.refl _ W).alloc (Nat.le_refl _) _).trans (hw1.mono (by simp))⟩

theorem doubtful_calls (age rest girth f0 f1 f2 heal : Int) (code : ByteArray) (bmin bmax taped gmin gmax wmin wmax : Int) (sa : Option Addr) (sn sc : Nat) (wa : Option Addr) (wn wc : Nat) (dead : Int) (year height : Int) (vs : Nat → Int) (w W : World) (Bq : Nat) (x : Fin 6) (hB : Below w.heap.size w W) (hq : Blk W Bq 74 #[.int .i64 age, .int .i64 rest, .int .i64 girth, .int .i64 f0, .int .i64 f1, .int .i64 f2, .int .i64 heal, .string code, .int .i64 bmin, .int .i64 bmax, .int .i64 taped, .int .i64 gmin, .int .i64 gmax, .int .i64 wmin, .int .i64 wmax, .slice sa sn sc, .slice wa wn wc, .int .i64 dead, .int .i64 year, .int .i64 height]) (hJ : ∀ k, k < 6 → JudgeSays age rest girth f0 f1 f2 heal code bmin bmax taped gmin gmax wmin wmax sa sn sc wa wn wc dead year height k (vs k) w) :
    Calls Try.prog 66 #[.agg #[.int .i64 ((x.val : Int) + 1), .func (.func (ruleFn x.val)) #[] #[]], .pointer (some ⟨Bq, 0, none⟩)] W fun e w' => e = .returned (.bool (vs x.val == 0)) ∧ Below W.heap.size W w' :=
  match x with
  | ⟨0, _⟩ => doubtful_0 age rest girth f0 f1 f2 heal code bmin bmax taped gmin gmax wmin wmax sa sn sc wa wn wc dead year height (vs 0) w W Bq hB hq (hJ 0 (by omega))
  | ⟨1, _⟩ => doubtful_1 age rest girth f0 f1 f2 heal code bmin bmax taped gmin gmax wmin wmax sa sn sc wa wn wc dead year height (vs 1) w W Bq hB hq (hJ 1 (by omega))
  | ⟨2, _⟩ => doubtful_2 age rest girth f0 f1 f2 heal code bmin bmax taped gmin gmax wmin wmax sa sn sc wa wn wc dead year height (vs 2) w W Bq hB hq (hJ 2 (by omega))
  | ⟨3, _⟩ => doubtful_3 age rest girth f0 f1 f2 heal code bmin bmax taped gmin gmax wmin wmax sa sn sc wa wn wc dead year height (vs 3) w W Bq hB hq (hJ 3 (by omega))
  | ⟨4, _⟩ => doubtful_4 age rest girth f0 f1 f2 heal code bmin bmax taped gmin gmax wmin wmax sa sn sc wa wn wc dead year height (vs 4) w W Bq hB hq (hJ 4 (by omega))
  | ⟨5, _⟩ => doubtful_5 age rest girth f0 f1 f2 heal code bmin bmax taped gmin gmax wmin wmax sa sn sc wa wn wc dead year height (vs 5) w W Bq hB hq (hJ 5 (by omega))

end Go.Proofs.Ytajbflepjpgnbaa
