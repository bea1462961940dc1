/- The chapter's example: the yard. The chapter's examples stand. -/
import Derived.Test.YtbgojeppfhldjaaYMoist
namespace Go.Proofs.Ytbgojeppfhldjaa
open Go Go.RowKit Go.Shelf Yd

def cA : Code := ⟨#[65]⟩
def cB : Code := ⟨#[66]⟩
def cN : Code := ⟨#[]⟩
def exDeeds : List (Deed Code) := [⟨1, 0, cA, cN, ⟨1000, 1100⟩, ⟨300, 400⟩⟩, ⟨2, 100, cA, cN, ⟨500, 600⟩, ⟨0, 0⟩⟩, ⟨3, 180, cA, cN, ⟨20, 30⟩, ⟨400, 450⟩⟩, ⟨4, 194, cA, cN, ⟨10, 20⟩, ⟨0, 0⟩⟩, ⟨5, 194, cA, cB, ⟨250, 250⟩, ⟨0, 0⟩⟩, ⟨7, 200, cB, cN, ⟨380, 390⟩, ⟨0, 0⟩⟩, ⟨8, 200, cA, cN, ⟨0, 0⟩, ⟨0, 0⟩⟩]
def exA : Stk Code := ⟨cA, ⟨713, 801⟩, ⟨390, 522⟩, 0, 180, [0]⟩
def exB : Stk Code := ⟨cB, ⟨237, 260⟩, ⟨130, 153⟩, 0, 180, [0]⟩
def exAcc : Yd.Acc := ⟨⟨150, 240⟩, ⟨20, 33⟩, ⟨10, 20⟩, ⟨0, 0⟩, ⟨0, 0⟩, ⟨400, 495⟩⟩

theorem ex_ok : errYard 180 14 exDeeds = 0 := by rfl
theorem ex_six : Yd.follow 180 14 exDeeds 6 = (⟨[exA, exB], exAcc⟩, 6, 0) := by rfl
theorem ex_seven : (Yd.follow 180 14 exDeeds 7).2.2 = 0 := by rfl
theorem ex_b : (Yd.follow 180 14 exDeeds 7).1.stacks[at_ (Yd.follow 180 14 exDeeds 7).1.stacks cB]? = some exB := by rfl
theorem ex_sizes : ∀ d ∈ exDeeds, d.stack.size ≤ maxLen ∧ d.other.size ≤ maxLen := by
  intro d hd
  have h1 : (1 : Nat) ≤ maxLen := by decide
  simp only [exDeeds, List.mem_cons, List.not_mem_nil, or_false] at hd
  rcases hd with rfl | rfl | rfl | rfl | rfl | rfl | rfl <;> exact ⟨h1, Nat.le_trans (by decide) h1⟩

set_option maxHeartbeats 400000 in
theorem bounds_calls (a b : Int) (w : World) : Calls Try.prog 21 #[.int .i64 a, .int .i64 b] w fun e w' => e = .returned (.agg #[.int .i64 a, .int .i64 b]) ∧ Below w.heap.size w w' := by
  go_enter Try.func21, Try.ntmps21
  go_wp2
  refine bodyPost_ret (v := .agg #[.int .i64 a, .int .i64 b]) (by simp [results, Try.results21, go_sem]) rfl ⟨rfl, ?_⟩
  (repeat (first | (refine Below.setCell ?_ (by first | (simp; done) | (simp; omega)) _) | (refine Below.alloc ?_ (by first | (simp; done) | (simp; omega)) _) | (refine Below.drew ?_)))
  exact Below.refl _ _

/-- The example's deeds, as they lie in memory. -/
def exCells : Array Value := #[.int .i64 1, .int .i64 0, .string ⟨#[65]⟩, .string ⟨#[]⟩, .int .i64 1000, .int .i64 1100, .int .i64 300, .int .i64 400, .int .i64 2, .int .i64 100, .string ⟨#[65]⟩, .string ⟨#[]⟩, .int .i64 500, .int .i64 600, .int .i64 0, .int .i64 0, .int .i64 3, .int .i64 180, .string ⟨#[65]⟩, .string ⟨#[]⟩, .int .i64 20, .int .i64 30, .int .i64 400, .int .i64 450, .int .i64 4, .int .i64 194, .string ⟨#[65]⟩, .string ⟨#[]⟩, .int .i64 10, .int .i64 20, .int .i64 0, .int .i64 0, .int .i64 5, .int .i64 194, .string ⟨#[65]⟩, .string ⟨#[66]⟩, .int .i64 250, .int .i64 250, .int .i64 0, .int .i64 0, .int .i64 7, .int .i64 200, .string ⟨#[66]⟩, .string ⟨#[]⟩, .int .i64 380, .int .i64 390, .int .i64 0, .int .i64 0, .int .i64 8, .int .i64 200, .string ⟨#[65]⟩, .string ⟨#[]⟩, .int .i64 0, .int .i64 0, .int .i64 0, .int .i64 0]
theorem ex_held {w : World} {g : Nat} (h : Blk w g 57 exCells) : Held w.heap.size w 8 deedCells (.slice (some ⟨g, 0, none⟩) 7 7) exDeeds := by
  refine .inr ⟨g, 0, 7, rfl, h.lt, ⟨by decide, by decide, by decide⟩, fun j hj i u hu => ?_⟩
  have hi : i < 8 := by simpa [deedCells] using (List.getElem?_eq_some_iff.1 hu).1
  have hj : j < 7 := hj
  rw [← hu, Nat.zero_add, h.cell]
  match j, hj with
  | 0, _ | 1, _ | 2, _ | 3, _ | 4, _ | 5, _ | 6, _ => match i, hi with
    | 0, _ | 1, _ | 2, _ | 3, _ | 4, _ | 5, _ | 6, _ | 7, _ => rfl

theorem size_yard : (Try.prog.info? 43).map (·.size) = some 3 := by kernel_rfl

set_option maxRecDepth 100000 in
set_option maxHeartbeats 4000000 in
theorem example_calls (w : World) : Calls Try.prog 19 #[] w fun e w' => ∃ g, e = .returned (.agg #[.int .i64 180, .int .i64 14, .slice (some ⟨g, 0, none⟩) 7 7]) ∧ Below w.heap.size w w' ∧ Blk w' g 57 exCells := by
  have HW0 := Lib.hid ((Below.refl w.heap.size w).alloc (Nat.le_refl _) (.cells #[.int .i64 0, .int .i64 0, .slice none 0 0] 43))
  have HK0 := Lib.hid (Blk.new w 43 #[.int .i64 0, .int .i64 0, .slice none 0 0])
  go_enter Try.func19, Try.ntmps19
  go_wp2_with (first
    | (go_at_call 21; refine (bounds_calls _ _ _).mono ?_; rintro e w2 ⟨rfl, hb2⟩; first | (have HW := Lib.hid (HW.out.trans (hb2.mono HW.out.size)); have HK := Lib.hid (HK.out.below hb2); clear hb2) | (have HW := Lib.hid (HW0.out.trans (hb2.mono HW0.out.size)); have HK := Lib.hid (HK0.out.below hb2); clear hb2))
    | ((with_reducible refine at_store 43 (.tmp 0) (.tmp 17) ?_); go_must (refine wpList_store_mid rfl 43 (.tmp 0) (.tmp 17) rfl w.heap.size 0 #[.int .i64 180, .int .i64 14, .slice (some ⟨w2.heap.size, 0, none⟩) 7 7] rfl rfl ((HK.out.alloc _).there (o := 0) (n := 3) (Nat.le_of_ble_eq_true rfl)) size_yard (show (#[.int .i64 180, .int .i64 14, .slice (some ⟨w2.heap.size, 0, none⟩) 7 7] : Array Value).all (·.oneCell') = true from by simp [Value.oneCell']) ?_)))
  have hk2 := (HK.out.alloc (.cells exCells 57)).stored (old := [.int .i64 0, .int .i64 0, .slice none 0 0]) [.int .i64 180, .int .i64 14, .slice (some ⟨w2.heap.size, 0, none⟩) 7 7] rfl
  have hlt := HK.out.lt
  refine bodyPost_ret (results_cell_row rfl _ _ w.heap.size 43 _ (0, 0) _ rfl hk2 Try.underlying43 rfl size_yard) rfl ⟨w2.heap.size, rfl, below_setCells (HW.out.alloc HW.out.size _) (Nat.le_refl _) _ 0, ?_⟩
  exact (Blk.new w2 57 exCells).apart (Nat.ne_of_gt hlt) 0 _
end Go.Proofs.Ytbgojeppfhldjaa
namespace Go.Proofs.Ytbgojeppfhldjaa
open Go Go.RowKit Go.Shelf Yd

theorem two_rows {rows : List SRow} (h : rows.map (·.1) = [exA, exB]) : ∃ va vb, rows = [(exA, va), (exB, vb)] := by
  match rows, h with
  | [(a, va), (b, vb)], h =>
    simp only [List.map_cons, List.map_nil, List.cons.injEq, and_true] at h
    exact ⟨va, vb, by rw [h.1, h.2]⟩

set_option maxRecDepth 100000 in
set_option maxHeartbeats 8000000 in
theorem stands_calls (w : World) : Calls Try.prog 6 #[] w fun e w' => e = .returned (.bool true) ∧ Below w.heap.size w w' := by
  have HB0 := Lib.hid (Below.refl w.heap.size w)
  go_enter Try.func6, Try.ntmps6
  go_upto_region 2 with (first
    | (go_at_call 19; refine (example_calls _).mono ?_; rintro e w1 ⟨g1, rfl, hb1, hk1⟩; have HB1 := Lib.hid (HB0.out.trans hb1); have HK1 := Lib.hid hk1; clear hb1 hk1)
    | (go_at_call 9; refine (follow_calls 180 14 _ exDeeds 6 _ (ex_held HK1.out) ex_ok ex_sizes (by decide) (by decide)).mono ?_; rintro e w2 ⟨rows, tv, acc, k, f, hfo, _, _, rfl, hb2, hst⟩; rw [ex_six] at hfo; obtain ⟨hf1, rfl, rfl⟩ : (⟨[exA, exB], exAcc⟩ : St Code) = stOf rows acc ∧ 6 = k ∧ 0 = f := (by simpa using hfo); obtain ⟨hf2, rfl⟩ : [exA, exB] = rows.map (·.1) ∧ exAcc = acc := (by simpa [stOf] using hf1); obtain ⟨va, vb, rfl⟩ := two_rows hf2.symm; obtain ⟨ta, tn, tc, rfl⟩ := row_slice hst.things; have HST := Lib.hid hst; have HB2 := Lib.hid (HB1.out.trans (hb2.mono HB1.out.size)); have HZ2 := Lib.hid (Blk.new w2 37 #[.slice none 0 0, .int .i64 0, .int .i64 0, .int .i64 0, .int .i64 0, .int .i64 0, .int .i64 0, .int .i64 0, .int .i64 0, .int .i64 0, .int .i64 0, .int .i64 0, .int .i64 0]); clear hfo hf1 hf2 hst hb2)
    | ((with_reducible refine at_store 37 (.tmp 1) (.tmp 10) ?_); go_must (refine wpList_store_mid rfl 37 (.tmp 1) (.tmp 10) rfl w2.heap.size 0 #[.slice ta tn tc, .int .i64 150, .int .i64 240, .int .i64 20, .int .i64 33, .int .i64 10, .int .i64 20, .int .i64 0, .int .i64 0, .int .i64 0, .int .i64 0, .int .i64 400, .int .i64 495] rfl rfl (HZ2.out.there (o := 0) (n := 13) (Nat.le_of_ble_eq_true rfl)) size_standing (show (#[.slice ta tn tc, .int .i64 150, .int .i64 240, .int .i64 20, .int .i64 33, .int .i64 10, .int .i64 20, .int .i64 0, .int .i64 0, .int .i64 0, .int .i64 0, .int .i64 400, .int .i64 495] : Array Value).all (·.oneCell') = true from by simp [Value.oneCell']) ?_)))
  have HZ3 := Lib.hid (HZ2.out.stored (old := [.slice none 0 0, .int .i64 0, .int .i64 0, .int .i64 0, .int .i64 0, .int .i64 0, .int .i64 0, .int .i64 0, .int .i64 0, .int .i64 0, .int .i64 0, .int .i64 0, .int .i64 0]) [.slice ta tn tc, .int .i64 150, .int .i64 240, .int .i64 20, .int .i64 33, .int .i64 10, .int .i64 20, .int .i64 0, .int .i64 0, .int .i64 0, .int .i64 0, .int .i64 400, .int .i64 495] rfl)
  have HB3 := Lib.hid (below_setCells (HB2.out.alloc HB2.out.size (.cells #[.slice none 0 0, .int .i64 0, .int .i64 0, .int .i64 0, .int .i64 0, .int .i64 0, .int .i64 0, .int .i64 0, .int .i64 0, .int .i64 0, .int .i64 0, .int .i64 0, .int .i64 0] 37)) HB2.out.size [.slice ta tn tc, .int .i64 150, .int .i64 240, .int .i64 20, .int .i64 33, .int .i64 10, .int .i64 20, .int .i64 0, .int .i64 0, .int .i64 0, .int .i64 0, .int .i64 400, .int .i64 495] 0)
  have HST3 := Lib.hid ((HST.out.same (w' := w2.alloc (.cells #[.slice none 0 0, .int .i64 0, .int .i64 0, .int .i64 0, .int .i64 0, .int .i64 0, .int .i64 0, .int .i64 0, .int .i64 0, .int .i64 0, .int .i64 0, .int .i64 0, .int .i64 0] 37)) (fun k hk => Below.heap_alloc _ _ k hk)).setCells HZ2.out (by decide) (by decide) 0 [.slice ta tn tc, .int .i64 150, .int .i64 240, .int .i64 20, .int .i64 33, .int .i64 10, .int .i64 20, .int .i64 0, .int .i64 0, .int .i64 0, .int .i64 0, .int .i64 400, .int .i64 495])
  generalize (w2.alloc (.cells #[.slice none 0 0, .int .i64 0, .int .i64 0, .int .i64 0, .int .i64 0, .int .i64 0, .int .i64 0, .int .i64 0, .int .i64 0, .int .i64 0, .int .i64 0, .int .i64 0, .int .i64 0] 37)).setCells w2.heap.size 0 [.slice ta tn tc, .int .i64 150, .int .i64 240, .int .i64 20, .int .i64 33, .int .i64 10, .int .i64 20, .int .i64 0, .int .i64 0, .int .i64 0, .int .i64 0, .int .i64 400, .int .i64 495] = w3 at HZ3 HB3 HST3 ⊢
  obtain ⟨g3, hg3⟩ : ∃ g, g = w2.heap.size := ⟨_, rfl⟩
  rw [← hg3] at HZ3 ⊢
  clear HZ2 HST HB2 HB1 HK1 hg3
  go_upto_region 3 with (first
    | (go_at_call 19; refine (example_calls _).mono ?_; rintro e w4 ⟨g4, rfl, hb4, hk4⟩; have HB4 := Lib.hid (HB3.out.trans (hb4.mono HB3.out.size)); have HK4 := Lib.hid hk4; have HZ4 := Lib.hid (HZ3.out.below hb4); have HST4 := Lib.hid (HST3.out.below hb4); clear hb4 hk4)
    | (go_at_call 20; refine (moist_calls 180 14 _ exDeeds 7 _ (ex_held HK4.out) ex_ok ex_sizes (by decide) (by decide) ex_seven cB exB ex_b (by decide)).mono ?_; rintro e w5 ⟨rfl, hb5⟩; rw [show moistLo exB = 500 from rfl, show moistHi exB = 646 from rfl]; have HB5 := Lib.hid (HB4.out.trans (hb5.mono HB4.out.size)); have HZ5 := Lib.hid (HZ4.out.below hb5); have HST5 := Lib.hid (HST4.out.below hb5); clear hb5))
  have HK6 := Lib.hid (Blk.new w5 23 #[.int .i64 500, .int .i64 646])
  have HB6 := Lib.hid (HB5.out.alloc HB5.out.size (.cells #[.int .i64 500, .int .i64 646] 23))
  have HZ6 := Lib.hid (HZ5.out.alloc (.cells #[.int .i64 500, .int .i64 646] 23))
  have HST6 := Lib.hid (HST5.out.same (w' := w5.alloc (.cells #[.int .i64 500, .int .i64 646] 23)) (fun k hk => Below.heap_alloc _ _ k hk))
  try simp only [Act.put]
  generalize w5.alloc (.cells #[.int .i64 500, .int .i64 646] 23) = w6 at HK6 HB6 HZ6 HST6 ⊢
  obtain ⟨g5, hg5⟩ : ∃ g, g = w5.heap.size := ⟨_, rfl⟩
  rw [← hg5] at HK6 ⊢
  clear hg5 HZ5 HST5 HB5 HZ4 HST4 HB4 HK4 HZ3 HST3 HB3
  have htn : tn = 2 := row_len HST6.out.things
  subst htn
  have q0 := cell_regrown (HZ6.out.at 0 (.slice ta 2 tc) rfl)
  have q1 := cell_regrown (HK6.out.at 0 (.int .i64 500) rfl)
  have q2 := cell_regrown (HK6.out.at 1 (.int .i64 646) rfl)
  have k0 := regrown_calls (W := w6) (fun w => bounds_calls 500 646 w)
  refine wp_region_quiet_below (by kernel_rfl) (by kernel_rfl) ?_
  repeat (go_big_quiet_step (with_reducible exact k0 _ _))
  refine wpQuiet_nil ?_
  intro w7 hw'
  have hb8 : Below w6.heap.size w6 w7 := by obtain ⟨⟨dq, osq⟩, hw''⟩ := hw'; rw [hw'']; exact below_regrown w6 dq osq
  clear hw' q0 q1 q2 k0
  have HB7 := Lib.hid (HB6.out.trans (hb8.mono HB6.out.size))
  have HZ7 := Lib.hid (HZ6.out.below hb8)
  have HST7 := Lib.hid (HST6.out.below hb8)
  clear hb8 HB6 HZ6 HST6 HK6
  obtain ⟨gt, cap, htv, hgt, hcA⟩ := HST7.out.row (k := 0) (p := (exA, va)) rfl
  obtain ⟨gt', cap', htv', hgt', hcB⟩ := HST7.out.row (k := 1) (p := (exB, vb)) rfl
  injection htv with ea en ec
  injection htv' with ea' en' ec'
  subst ea ec
  injection ea' with ea''
  injection ea'' with e3
  subst e3
  have HCA := Lib.hid hcA; have HCB := Lib.hid hcB
  clear hcA hcB en en' hgt' ec'
  go_upto_region 5 with (fail)
  have q0 := cell_regrown (HZ7.out.at 0 (.slice (some ⟨gt, 0, none⟩) 2 tc) rfl)
  have q1 := cell_regrown (show w7.cell? ⟨gt, 1, none⟩ = some (.int .i64 713) from HCA.out 1 (by decide))
  have q2 := cell_regrown (show w7.cell? ⟨gt, 2, none⟩ = some (.int .i64 801) from HCA.out 2 (by decide))
  have q3 := cell_regrown (show w7.cell? ⟨gt, 9, none⟩ = some (.int .i64 237) from HCB.out 1 (by decide))
  have q4 := cell_regrown (show w7.cell? ⟨gt, 10, none⟩ = some (.int .i64 260) from HCB.out 2 (by decide))
  have q5 := cell_regrown (show w7.cell? ⟨gt, 11, none⟩ = some (.int .i64 130) from HCB.out 3 (by decide))
  have q6 := cell_regrown (show w7.cell? ⟨gt, 12, none⟩ = some (.int .i64 153) from HCB.out 4 (by decide))
  have q7 := cell_regrown (HZ7.out.at 5 (.int .i64 10) rfl)
  have q8 := cell_regrown (HZ7.out.at 6 (.int .i64 20) rfl)
  have k1 := regrown_calls (W := w7) (fun w => bounds_calls 713 801 w)
  have k2 := regrown_calls (W := w7) (fun w => bounds_calls 237 260 w)
  have k3 := regrown_calls (W := w7) (fun w => bounds_calls 130 153 w)
  have k4 := regrown_calls (W := w7) (fun w => bounds_calls 10 20 w)
  refine wp_region_quiet_below (by kernel_rfl) (by kernel_rfl) ?_
  repeat (go_big_quiet_step (first | (with_reducible exact k1 _ _) | (with_reducible exact k2 _ _) | (with_reducible exact k3 _ _) | (with_reducible exact k4 _ _)))
  refine wpQuiet_nil ?_
  intro w8 hw'
  have hb8 : Below w7.heap.size w7 w8 := by obtain ⟨⟨dq, osq⟩, hw''⟩ := hw'; rw [hw'']; exact below_regrown w7 dq osq
  clear hw' q0 q1 q2 q3 q4 q5 q6 q7 q8 k1 k2 k3 k4
  go_wp2
  go_ret
  exact ⟨rfl, HB7.out.trans (hb8.mono HB7.out.size)⟩
end Go.Proofs.Ytbgojeppfhldjaa
