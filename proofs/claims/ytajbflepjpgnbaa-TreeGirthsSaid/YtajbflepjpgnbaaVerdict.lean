/- The verdict of all rules. -/
import Derived.Test.YtajbflepjpgnbaaClosures
namespace Go.Proofs.Ytajbflepjpgnbaa
open Go.RowKit Go.Shelf

theorem RulesLie.mono {n m : Nat} {w : World} {b off : Nat} (h : RulesLie n w b off) (hm : n ≤ m) : RulesLie m w b off := ⟨Nat.lt_of_lt_of_le h.1 hm, h.2⟩

set_option maxRecDepth 100000 in
set_option maxHeartbeats 2000000 in
theorem verdict_broken (age rest girth f0 f1 f2 heal : Int) (code : ByteArray) (bmin bmax taped gmin gmax wmin wmax : Int) (sa : Option Addr) (sn sc : Nat) (wa : Option Addr) (wn wc : Nat) (dead : Int) (year height : Int) (vs : Nat → Int) (w : World) (x : Fin 6) (hJ : ∀ k, k < 6 → JudgeSays age rest girth f0 f1 f2 heal code bmin bmax taped gmin gmax wmin wmax sa sn sc wa wn wc dead year height k (vs k) w) (hx : firstPlace (fun x => vs x.val == 2) = some x) :
    Calls Try.prog 43 #[.agg #[.int .i64 age, .int .i64 rest, .int .i64 girth, .int .i64 f0, .int .i64 f1, .int .i64 f2, .int .i64 heal, .string code, .int .i64 bmin, .int .i64 bmax, .int .i64 taped, .int .i64 gmin, .int .i64 gmax, .int .i64 wmin, .int .i64 wmax, .slice sa sn sc, .slice wa wn wc, .int .i64 dead, .int .i64 year, .int .i64 height]] w fun e w' => e = .returned (.tuple #[.int .i64 2, .int .i64 ((x.val : Int) + 1)]) ∧ Below w.heap.size w w' := by
  have HJ := Lib.hid hJ; clear hJ
  go_enter Try.func43, Try.ntmps43
  go_wp2_with fail
  refine (rules_calls _).mono ?_
  rintro e w2 ⟨rfl, hw2, hR2⟩
  have hB2 : Below w.heap.size w w2 := ((Below.refl _ w).alloc (Nat.le_refl _) _).trans (hw2.mono (by simp))
  have HQ2 := Lib.hid (show Blk w2 w.heap.size 74 #[.int .i64 age, .int .i64 rest, .int .i64 girth, .int .i64 f0, .int .i64 f1, .int .i64 f2, .int .i64 heal, .string code, .int .i64 bmin, .int .i64 bmax, .int .i64 taped, .int .i64 gmin, .int .i64 gmax, .int .i64 wmin, .int .i64 wmax, .slice sa sn sc, .slice wa wn wc, .int .i64 dead, .int .i64 year, .int .i64 height] from (Blk.new w _ _).below hw2 (by simp))
  simp only [World.size_alloc] at hR2
  have HR2 := Lib.hid hR2
  clear hR2 hw2
  go_wp2_with fail
  refine (values_calls _ _ _ _).mono ?_
  rintro e w3 ⟨rfl, hw⟩
  have hB3 : Below w.heap.size w w3 := by rw [hw]; exact hB2.alloc hB2.size _
  have HQ3 := Lib.hid (show Blk w3 w.heap.size 74 #[.int .i64 age, .int .i64 rest, .int .i64 girth, .int .i64 f0, .int .i64 f1, .int .i64 f2, .int .i64 heal, .string code, .int .i64 bmin, .int .i64 bmax, .int .i64 taped, .int .i64 gmin, .int .i64 gmax, .int .i64 wmin, .int .i64 wmax, .slice sa sn sc, .slice wa wn wc, .int .i64 dead, .int .i64 year, .int .i64 height] from by rw [hw]; exact HQ2.out.alloc _)
  have hz3 : w2.heap.size < w3.heap.size := by rw [hw]; simp
  have hc3 : w3.cell? ⟨w2.heap.size, 0, none⟩ = some (.slice (some ⟨w.heap.size + 1, 0, none⟩) 6 6) := by rw [hw]; exact (Blk.new w2 _ _).cell 0
  have HR3 := Lib.hid (show RulesLie w3.heap.size w3 (w.heap.size + 1) 0 from by rw [hw]; exact (HR2.out.below ((Below.refl _ w2).alloc (Nat.le_refl _) _)).mono (by simp))
  clear hw
  have hf := firstOf_broken w2.heap.size w.heap.size (w.heap.size + 1) 0 6 (fun x => vs x.val == 2) w3 hz3 hc3 HR3.out
    (fun x W hW => broken_calls age rest girth f0 f1 f2 heal code bmin bmax taped gmin gmax wmin wmax sa sn sc wa wn wc dead year height vs w W w.heap.size x (hB3.trans (hW.mono hB3.size)) (HQ3.out.below hW (Blk.lt HQ3.out)) HJ.out)
  clear hc3
  rw [hx] at hf
  simp only [foundVal] at hf
  have HF := Lib.hid hf; clear hf hx
  go_wp2_with fail
  refine HF.out.mono ?_
  rintro e w4 ⟨rfl, hw⟩
  clear HF
  have hB4 : Below w.heap.size w w4 := hB3.trans (hw.mono hB3.size)
  have HQ4 := Lib.hid (HQ3.out.below hw (Blk.lt HQ3.out))
  have HR4 := Lib.hid ((HR3.out.below hw).mono hw.size)
  clear hw
  go_wp2
  go_quiet (fail)
  go_wp2
  go_ret2
  exact ⟨rfl, below_drewN (hB4.alloc hB4.size _) _⟩

set_option maxRecDepth 100000 in
set_option maxHeartbeats 2000000 in
theorem verdict_doubtful (age rest girth f0 f1 f2 heal : Int) (code : ByteArray) (bmin bmax taped gmin gmax wmin wmax : Int) (sa : Option Addr) (sn sc : Nat) (wa : Option Addr) (wn wc : Nat) (dead : Int) (year height : Int) (vs : Nat → Int) (w : World) (x : Fin 6) (hJ : ∀ k, k < 6 → JudgeSays age rest girth f0 f1 f2 heal code bmin bmax taped gmin gmax wmin wmax sa sn sc wa wn wc dead year height k (vs k) w) (hx : firstPlace (fun x => vs x.val == 2) = none) (hy : firstPlace (fun x => vs x.val == 0) = some x) :
    Calls Try.prog 43 #[.agg #[.int .i64 age, .int .i64 rest, .int .i64 girth, .int .i64 f0, .int .i64 f1, .int .i64 f2, .int .i64 heal, .string code, .int .i64 bmin, .int .i64 bmax, .int .i64 taped, .int .i64 gmin, .int .i64 gmax, .int .i64 wmin, .int .i64 wmax, .slice sa sn sc, .slice wa wn wc, .int .i64 dead, .int .i64 year, .int .i64 height]] w fun e w' => e = .returned (.tuple #[.int .i64 0, .int .i64 ((x.val : Int) + 1)]) ∧ Below w.heap.size w w' := by
  have HJ := Lib.hid hJ; clear hJ
  go_enter Try.func43, Try.ntmps43
  go_wp2_with fail
  refine (rules_calls _).mono ?_
  rintro e w2 ⟨rfl, hw2, hR2⟩
  have hB2 : Below w.heap.size w w2 := ((Below.refl _ w).alloc (Nat.le_refl _) _).trans (hw2.mono (by simp))
  have HQ2 := Lib.hid (show Blk w2 w.heap.size 74 #[.int .i64 age, .int .i64 rest, .int .i64 girth, .int .i64 f0, .int .i64 f1, .int .i64 f2, .int .i64 heal, .string code, .int .i64 bmin, .int .i64 bmax, .int .i64 taped, .int .i64 gmin, .int .i64 gmax, .int .i64 wmin, .int .i64 wmax, .slice sa sn sc, .slice wa wn wc, .int .i64 dead, .int .i64 year, .int .i64 height] from (Blk.new w _ _).below hw2 (by simp))
  simp only [World.size_alloc] at hR2
  have HR2 := Lib.hid hR2
  clear hR2 hw2
  go_wp2_with fail
  refine (values_calls _ _ _ _).mono ?_
  rintro e w3 ⟨rfl, hw⟩
  have hB3 : Below w.heap.size w w3 := by rw [hw]; exact hB2.alloc hB2.size _
  have HQ3 := Lib.hid (show Blk w3 w.heap.size 74 #[.int .i64 age, .int .i64 rest, .int .i64 girth, .int .i64 f0, .int .i64 f1, .int .i64 f2, .int .i64 heal, .string code, .int .i64 bmin, .int .i64 bmax, .int .i64 taped, .int .i64 gmin, .int .i64 gmax, .int .i64 wmin, .int .i64 wmax, .slice sa sn sc, .slice wa wn wc, .int .i64 dead, .int .i64 year, .int .i64 height] from by rw [hw]; exact HQ2.out.alloc _)
  have hz3 : w2.heap.size < w3.heap.size := by rw [hw]; simp
  have hc3 : w3.cell? ⟨w2.heap.size, 0, none⟩ = some (.slice (some ⟨w.heap.size + 1, 0, none⟩) 6 6) := by rw [hw]; exact (Blk.new w2 _ _).cell 0
  have HR3 := Lib.hid (show RulesLie w3.heap.size w3 (w.heap.size + 1) 0 from by rw [hw]; exact (HR2.out.below ((Below.refl _ w2).alloc (Nat.le_refl _) _)).mono (by simp))
  clear hw
  have hf := firstOf_broken w2.heap.size w.heap.size (w.heap.size + 1) 0 6 (fun x => vs x.val == 2) w3 hz3 hc3 HR3.out
    (fun x W hW => broken_calls age rest girth f0 f1 f2 heal code bmin bmax taped gmin gmax wmin wmax sa sn sc wa wn wc dead year height vs w W w.heap.size x (hB3.trans (hW.mono hB3.size)) (HQ3.out.below hW (Blk.lt HQ3.out)) HJ.out)
  clear hc3
  rw [hx] at hf
  simp only [foundVal] at hf
  have HF := Lib.hid hf; clear hf hx
  go_wp2_with fail
  refine HF.out.mono ?_
  rintro e w4 ⟨rfl, hw⟩
  clear HF
  have hB4 : Below w.heap.size w w4 := hB3.trans (hw.mono hB3.size)
  have HQ4 := Lib.hid (HQ3.out.below hw (Blk.lt HQ3.out))
  have HR4 := Lib.hid ((HR3.out.below hw).mono hw.size)
  clear hw
  go_wp2_with fail
  have hB5 := hB4.alloc hB4.size (.cells #[.int .i64 0, .nilFunc] 106)
  have HQ5 := Lib.hid (Blk.alloc HQ4.out (.cells #[.int .i64 0, .nilFunc] 106))
  have HR5 := Lib.hid ((HR4.out.below ((Below.refl _ w4).alloc (Nat.le_refl _) (.cells #[.int .i64 0, .nilFunc] 106))).mono ((Below.refl w4.heap.size w4).alloc (Nat.le_refl _) (.cells #[.int .i64 0, .nilFunc] 106)).size)
  clear HQ4 HR4
  generalize w4.alloc (.cells #[.int .i64 0, .nilFunc] 106) = w5 at hB5 HQ5 HR5 ⊢
  go_wp2_with fail
  refine (values_calls _ _ _ _).mono ?_
  rintro e w6 ⟨rfl, hw⟩
  have hB6 : Below w.heap.size w w6 := by rw [hw]; exact hB5.alloc hB5.size _
  have HQ6 := Lib.hid (show Blk w6 w.heap.size 74 #[.int .i64 age, .int .i64 rest, .int .i64 girth, .int .i64 f0, .int .i64 f1, .int .i64 f2, .int .i64 heal, .string code, .int .i64 bmin, .int .i64 bmax, .int .i64 taped, .int .i64 gmin, .int .i64 gmax, .int .i64 wmin, .int .i64 wmax, .slice sa sn sc, .slice wa wn wc, .int .i64 dead, .int .i64 year, .int .i64 height] from by rw [hw]; exact HQ5.out.alloc _)
  have hz6 : w5.heap.size < w6.heap.size := by rw [hw]; simp
  have hc6 : w6.cell? ⟨w5.heap.size, 0, none⟩ = some (.slice (some ⟨w.heap.size + 1, 0, none⟩) 6 6) := by rw [hw]; exact (Blk.new w5 _ _).cell 0
  have HR6 := Lib.hid (show RulesLie w6.heap.size w6 (w.heap.size + 1) 0 from by rw [hw]; exact (HR5.out.below ((Below.refl _ w5).alloc (Nat.le_refl _) _)).mono (by simp))
  clear hw
  have hf := firstOf_doubtful w5.heap.size w.heap.size (w.heap.size + 1) 0 6 (fun x => vs x.val == 0) w6 hz6 hc6 HR6.out
    (fun x W hW => doubtful_calls age rest girth f0 f1 f2 heal code bmin bmax taped gmin gmax wmin wmax sa sn sc wa wn wc dead year height vs w W w.heap.size x (hB6.trans (hW.mono hB6.size)) (HQ6.out.below hW (Blk.lt HQ6.out)) HJ.out)
  clear hc6
  rw [hy] at hf
  simp only [foundVal] at hf
  have HF := Lib.hid hf; clear hf hy
  go_wp2_with fail
  refine HF.out.mono ?_
  rintro e w7 ⟨rfl, hw⟩
  clear HF
  have hB7 : Below w.heap.size w w7 := hB6.trans (hw.mono hB6.size)
  have HQ7 := Lib.hid (HQ6.out.below hw (Blk.lt HQ6.out))
  have HR7 := Lib.hid ((HR6.out.below hw).mono hw.size)
  clear hw
  go_wp2
  go_quiet (fail)
  go_wp2
  go_ret2
  exact ⟨rfl, below_drewN (hB7.alloc hB7.size _) _⟩

set_option maxRecDepth 100000 in
set_option maxHeartbeats 2000000 in
theorem verdict_always (age rest girth f0 f1 f2 heal : Int) (code : ByteArray) (bmin bmax taped gmin gmax wmin wmax : Int) (sa : Option Addr) (sn sc : Nat) (wa : Option Addr) (wn wc : Nat) (dead : Int) (year height : Int) (vs : Nat → Int) (w : World) (hJ : ∀ k, k < 6 → JudgeSays age rest girth f0 f1 f2 heal code bmin bmax taped gmin gmax wmin wmax sa sn sc wa wn wc dead year height k (vs k) w) (hx : firstPlace (fun x => vs x.val == 2) = none) (hy : firstPlace (fun x => vs x.val == 0) = none) :
    Calls Try.prog 43 #[.agg #[.int .i64 age, .int .i64 rest, .int .i64 girth, .int .i64 f0, .int .i64 f1, .int .i64 f2, .int .i64 heal, .string code, .int .i64 bmin, .int .i64 bmax, .int .i64 taped, .int .i64 gmin, .int .i64 gmax, .int .i64 wmin, .int .i64 wmax, .slice sa sn sc, .slice wa wn wc, .int .i64 dead, .int .i64 year, .int .i64 height]] w fun e w' => e = .returned (.tuple #[.int .i64 1, .int .i64 0]) ∧ Below w.heap.size w w' := by
  have HJ := Lib.hid hJ; clear hJ
  go_enter Try.func43, Try.ntmps43
  go_wp2_with fail
  refine (rules_calls _).mono ?_
  rintro e w2 ⟨rfl, hw2, hR2⟩
  have hB2 : Below w.heap.size w w2 := ((Below.refl _ w).alloc (Nat.le_refl _) _).trans (hw2.mono (by simp))
  have HQ2 := Lib.hid (show Blk w2 w.heap.size 74 #[.int .i64 age, .int .i64 rest, .int .i64 girth, .int .i64 f0, .int .i64 f1, .int .i64 f2, .int .i64 heal, .string code, .int .i64 bmin, .int .i64 bmax, .int .i64 taped, .int .i64 gmin, .int .i64 gmax, .int .i64 wmin, .int .i64 wmax, .slice sa sn sc, .slice wa wn wc, .int .i64 dead, .int .i64 year, .int .i64 height] from (Blk.new w _ _).below hw2 (by simp))
  simp only [World.size_alloc] at hR2
  have HR2 := Lib.hid hR2
  clear hR2 hw2
  go_wp2_with fail
  refine (values_calls _ _ _ _).mono ?_
  rintro e w3 ⟨rfl, hw⟩
  have hB3 : Below w.heap.size w w3 := by rw [hw]; exact hB2.alloc hB2.size _
  have HQ3 := Lib.hid (show Blk w3 w.heap.size 74 #[.int .i64 age, .int .i64 rest, .int .i64 girth, .int .i64 f0, .int .i64 f1, .int .i64 f2, .int .i64 heal, .string code, .int .i64 bmin, .int .i64 bmax, .int .i64 taped, .int .i64 gmin, .int .i64 gmax, .int .i64 wmin, .int .i64 wmax, .slice sa sn sc, .slice wa wn wc, .int .i64 dead, .int .i64 year, .int .i64 height] from by rw [hw]; exact HQ2.out.alloc _)
  have hz3 : w2.heap.size < w3.heap.size := by rw [hw]; simp
  have hc3 : w3.cell? ⟨w2.heap.size, 0, none⟩ = some (.slice (some ⟨w.heap.size + 1, 0, none⟩) 6 6) := by rw [hw]; exact (Blk.new w2 _ _).cell 0
  have HR3 := Lib.hid (show RulesLie w3.heap.size w3 (w.heap.size + 1) 0 from by rw [hw]; exact (HR2.out.below ((Below.refl _ w2).alloc (Nat.le_refl _) _)).mono (by simp))
  clear hw
  have hf := firstOf_broken w2.heap.size w.heap.size (w.heap.size + 1) 0 6 (fun x => vs x.val == 2) w3 hz3 hc3 HR3.out
    (fun x W hW => broken_calls age rest girth f0 f1 f2 heal code bmin bmax taped gmin gmax wmin wmax sa sn sc wa wn wc dead year height vs w W w.heap.size x (hB3.trans (hW.mono hB3.size)) (HQ3.out.below hW (Blk.lt HQ3.out)) HJ.out)
  clear hc3
  rw [hx] at hf
  simp only [foundVal] at hf
  have HF := Lib.hid hf; clear hf hx
  go_wp2_with fail
  refine HF.out.mono ?_
  rintro e w4 ⟨rfl, hw⟩
  clear HF
  have hB4 : Below w.heap.size w w4 := hB3.trans (hw.mono hB3.size)
  have HQ4 := Lib.hid (HQ3.out.below hw (Blk.lt HQ3.out))
  have HR4 := Lib.hid ((HR3.out.below hw).mono hw.size)
  clear hw
  go_wp2_with fail
  have hB5 := hB4.alloc hB4.size (.cells #[.int .i64 0, .nilFunc] 106)
  have HQ5 := Lib.hid (Blk.alloc HQ4.out (.cells #[.int .i64 0, .nilFunc] 106))
  have HR5 := Lib.hid ((HR4.out.below ((Below.refl _ w4).alloc (Nat.le_refl _) (.cells #[.int .i64 0, .nilFunc] 106))).mono ((Below.refl w4.heap.size w4).alloc (Nat.le_refl _) (.cells #[.int .i64 0, .nilFunc] 106)).size)
  clear HQ4 HR4
  generalize w4.alloc (.cells #[.int .i64 0, .nilFunc] 106) = w5 at hB5 HQ5 HR5 ⊢
  go_wp2_with fail
  refine (values_calls _ _ _ _).mono ?_
  rintro e w6 ⟨rfl, hw⟩
  have hB6 : Below w.heap.size w w6 := by rw [hw]; exact hB5.alloc hB5.size _
  have HQ6 := Lib.hid (show Blk w6 w.heap.size 74 #[.int .i64 age, .int .i64 rest, .int .i64 girth, .int .i64 f0, .int .i64 f1, .int .i64 f2, .int .i64 heal, .string code, .int .i64 bmin, .int .i64 bmax, .int .i64 taped, .int .i64 gmin, .int .i64 gmax, .int .i64 wmin, .int .i64 wmax, .slice sa sn sc, .slice wa wn wc, .int .i64 dead, .int .i64 year, .int .i64 height] from by rw [hw]; exact HQ5.out.alloc _)
  have hz6 : w5.heap.size < w6.heap.size := by rw [hw]; simp
  have hc6 : w6.cell? ⟨w5.heap.size, 0, none⟩ = some (.slice (some ⟨w.heap.size + 1, 0, none⟩) 6 6) := by rw [hw]; exact (Blk.new w5 _ _).cell 0
  have HR6 := Lib.hid (show RulesLie w6.heap.size w6 (w.heap.size + 1) 0 from by rw [hw]; exact (HR5.out.below ((Below.refl _ w5).alloc (Nat.le_refl _) _)).mono (by simp))
  clear hw
  have hf := firstOf_doubtful w5.heap.size w.heap.size (w.heap.size + 1) 0 6 (fun x => vs x.val == 0) w6 hz6 hc6 HR6.out
    (fun x W hW => doubtful_calls age rest girth f0 f1 f2 heal code bmin bmax taped gmin gmax wmin wmax sa sn sc wa wn wc dead year height vs w W w.heap.size x (hB6.trans (hW.mono hB6.size)) (HQ6.out.below hW (Blk.lt HQ6.out)) HJ.out)
  clear hc6
  rw [hy] at hf
  simp only [foundVal] at hf
  have HF := Lib.hid hf; clear hf hy
  go_wp2_with fail
  refine HF.out.mono ?_
  rintro e w7 ⟨rfl, hw⟩
  clear HF
  have hB7 : Below w.heap.size w w7 := hB6.trans (hw.mono hB6.size)
  have HQ7 := Lib.hid (HQ6.out.below hw (Blk.lt HQ6.out))
  have HR7 := Lib.hid ((HR6.out.below hw).mono hw.size)
  clear hw
  go_wp2
  go_ret2
  exact ⟨rfl, hB7.alloc hB7.size _⟩

/-- The verdict that judgements make. -/
def verdictV (vs : Nat → Int) : Int × Int :=
  match firstPlace (fun x => vs x.val == 2) with
  | some x => (2, (x.val : Int) + 1)
  | none =>
    match firstPlace (fun x => vs x.val == 0) with
    | some x => (0, (x.val : Int) + 1)
    | none => (1, 0)

theorem verdict_calls (age rest girth f0 f1 f2 heal : Int) (code : ByteArray) (bmin bmax taped gmin gmax wmin wmax : Int) (sa : Option Addr) (sn sc : Nat) (wa : Option Addr) (wn wc : Nat) (dead : Int) (year height : Int) (vs : Nat → Int) (w : World) (hJ : ∀ k, k < 6 → JudgeSays age rest girth f0 f1 f2 heal code bmin bmax taped gmin gmax wmin wmax sa sn sc wa wn wc dead year height k (vs k) w) :
    Calls Try.prog 43 #[.agg #[.int .i64 age, .int .i64 rest, .int .i64 girth, .int .i64 f0, .int .i64 f1, .int .i64 f2, .int .i64 heal, .string code, .int .i64 bmin, .int .i64 bmax, .int .i64 taped, .int .i64 gmin, .int .i64 gmax, .int .i64 wmin, .int .i64 wmax, .slice sa sn sc, .slice wa wn wc, .int .i64 dead, .int .i64 year, .int .i64 height]] w fun e w' => e = .returned (.tuple #[.int .i64 (verdictV vs).1, .int .i64 (verdictV vs).2]) ∧ Below w.heap.size w w' := by
  unfold verdictV
  cases hx : firstPlace (fun x => vs x.val == 2) with
  | some x => exact verdict_broken age rest girth f0 f1 f2 heal code bmin bmax taped gmin gmax wmin wmax sa sn sc wa wn wc dead year height vs w x hJ hx
  | none =>
    cases hy : firstPlace (fun x => vs x.val == 0) with
    | some x => exact verdict_doubtful age rest girth f0 f1 f2 heal code bmin bmax taped gmin gmax wmin wmax sa sn sc wa wn wc dead year height vs w x hJ hx hy
    | none => exact verdict_always age rest girth f0 f1 f2 heal code bmin bmax taped gmin gmax wmin wmax sa sn sc wa wn wc dead year height vs w hJ hx hy
end Go.Proofs.Ytajbflepjpgnbaa
