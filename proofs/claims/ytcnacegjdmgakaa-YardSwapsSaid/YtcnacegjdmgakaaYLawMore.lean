/- YardMore: the law's walk. -/
import Derived.Test.YtcnacegjdmgakaaYStands
import Derived.Test.YtcnacegjdmgakaaYRefYard
namespace Go.Proofs.Ytcnacegjdmgakaa
open Go Go.RowKit Go.Shelf Yd

set_option maxRecDepth 100000 in
set_option maxHeartbeats 8000000 in
/-- A yard that the statements pass over, or that has an error. -/
theorem more_stands (bef aft : Int) (v : Value) (ds : List (Deed Code)) (x1 x2 : Int) (w : World) (h : Held w.heap.size w 8 deedCells v ds) (hno : greatB ds = true ∨ errYard bef aft ds ≠ 0) :
    Calls Try.prog 5 #[.agg #[.int .i64 bef, .int .i64 aft, v], .int .u8 x1, .int .u8 x2] w fun e w' => e = .returned (.bool true) ∧ Below w.heap.size w w' := by
  obtain ⟨a, c, hv, _, _⟩ := h.slice
  have HGR := Lib.hid (fun (W : World) (hW : Below w.heap.size w W) => great_calls bef aft v ds W ((h.below hW).mono hW.size))
  have HCK := Lib.hid (fun (W : World) (hW : Below w.heap.size w W) => refYard_calls bef aft v ds W ((h.below hW).mono hW.size))
  subst hv
  obtain ⟨n, hnn⟩ : ∃ n, n = ds.length := ⟨_, rfl⟩
  rw [← hnn] at HGR HCK ⊢
  have HW0 := Lib.hid ((Below.refl w.heap.size w).alloc (Nat.le_refl _) (.cells #[.int .i64 bef, .int .i64 aft, .slice a n c] 24))
  have HY0 := Lib.hid (Blk.new w 24 #[.int .i64 bef, .int .i64 aft, .slice a n c])
  clear h hnn
  cases hg : greatB ds with
  | true =>
    have HG := Lib.hid hg
    clear hg hno
    go_enter Try.func5, Try.ntmps5
    go_wp2_with (first
      | (go_at_call 13; refine (HGR.out _ HW0.out).mono ?_; rintro e w1 ⟨rfl, hb1⟩; rw [HG.out]; have HW1 := Lib.hid (HW0.out.trans (hb1.mono HW0.out.size)); have HY1 := Lib.hid (HY0.out.below hb1); clear hb1)
      | (go_at_call 15; refine (stands_calls _).mono ?_; rintro e w2 ⟨rfl, hb2⟩; have HW2 := Lib.hid (HW1.out.trans (hb2.mono HW1.out.size)); clear hb2))
    go_ret
    exact ⟨rfl, HW2.out⟩
  | false =>
    have HG := Lib.hid hg
    have hno : errYard bef aft ds ≠ 0 := hno.resolve_left (by rw [hg]; simp)
    have d1 : (errYard bef aft ds == 0) = false := by simpa using hno
    have d2 : (errYard bef aft ds != 0) = true := by simpa using hno
    clear hg hno
    generalize errYard bef aft ds = ey at HCK d1 d2
    go_enter Try.func5, Try.ntmps5
    go_wp2_with (first
      | (go_at_call 13; refine (HGR.out _ HW0.out).mono ?_; rintro e w1 ⟨rfl, hb1⟩; rw [HG.out]; have HW1 := Lib.hid (HW0.out.trans (hb1.mono HW0.out.size)); have HY1 := Lib.hid (HY0.out.below hb1); have y0 := HY1.out.at 0 _ rfl; have y1 := HY1.out.at 1 _ rfl; have y2 := HY1.out.at 2 _ rfl; clear hb1)
      | (go_at_call 14; refine (HCK.out _ HW1.out).mono ?_; rintro e w2 ⟨rfl, hb2⟩; have HW2 := Lib.hid (HW1.out.trans (hb2.mono HW1.out.size)); clear hb2)
      | (go_at_call 15; refine (stands_calls _).mono ?_; rintro e w3 ⟨rfl, hb3⟩; have HW3 := Lib.hid (HW2.out.trans (hb3.mono HW2.out.size)); clear hb3))
    go_ret
    exact ⟨rfl, HW3.out⟩

theorem Held.take {α : Type} [Inhabited α] {B : Nat} {w : World} {k : Nat} {enc : α → List Value} {a : Option Addr} {n c : Nat} {xs : List α} (h : Held B w k enc (.slice a n c) xs) (m : Nat) (hm : m ≤ n) : Held B w k enc (.slice a m c) (xs.take m) := by
  rcases h with ⟨⟨a', c', hv⟩, rfl⟩ | ⟨b, off, c', hv, hB, hl, hc⟩
  · injection hv with e1 e2 e3
    subst e1 e2 e3
    obtain rfl : m = 0 := by omega
    exact .inl ⟨⟨_, _, rfl⟩, rfl⟩
  · injection hv with e1 e2 e3
    subst e1 e2 e3
    have hlt : (xs.take m).length = m := by rw [List.length_take]; omega
    refine .inr ⟨b, off, c, by rw [hlt], hB, ⟨by omega, by omega, hl.2.2⟩, fun j hj i u hu => ?_⟩
    have hj2 : j < xs.length := by omega
    refine hc j hj2 i u ?_
    rw [← hu, getElem!_pos xs j hj2, getElem!_pos (xs.take m) j hj, List.getElem_take]
theorem errDeeds_take : ∀ {ds : List (Deed Code)} {day : Int} (m : Nat), errDeeds day ds = 0 → errDeeds day (ds.take m) = 0
  | [], _, m, _ => by simp [errDeeds]
  | d :: r, day, 0, _ => rfl
  | d :: r, day, m + 1, h => by
    rw [List.take_succ_cons, errDeeds_cons]
    rw [errDeeds_cons] at h
    split at h
    · rename_i h0
      rw [if_pos h0]
      exact errDeeds_take m h
    · rename_i h0; exact absurd h h0
theorem errYard_take {bef aft : Int} {ds : List (Deed Code)} (m : Nat) (h : errYard bef aft ds = 0) : errYard bef aft (ds.take m) = 0 := by
  obtain ⟨h1, h2, h3, h4⟩ := errYard_ok h
  unfold errYard
  rw [h1, h2, if_neg (by simp), if_neg (by rw [List.length_take]; omega)]
  exact errDeeds_take m h4
theorem great_few {bef aft : Int} {ds : List (Deed Code)} (hg : greatB ds = false) (h : errYard bef aft ds = 0) : ds.length ≤ 12 := by
  obtain ⟨_, _, h3, _⟩ := errYard_ok h
  unfold greatB at hg
  simp only [Bool.or_eq_false_iff, decide_eq_false_iff_not] at hg
  omega

set_option maxRecDepth 100000 in
set_option maxHeartbeats 8000000 in
theorem more_real (bef aft : Int) (v : Value) (ds : List (Deed Code)) (x1 x2 : Int) (w : World) (h : Held w.heap.size w 8 deedCells v ds) (hsz : ∀ d ∈ ds, d.stack.size ≤ maxLen ∧ d.other.size ≤ maxLen) (hg : greatB ds = false) (hok : errYard bef aft ds = 0)
    (hx1 : 0 ≤ x1 ∧ x1 ≤ 255) (hx2 : 0 ≤ x2 ∧ x2 ≤ 255) :
    Calls Try.prog 5 #[.agg #[.int .i64 bef, .int .i64 aft, v], .int .u8 x1, .int .u8 x2] w fun e w' => e = .returned (.bool true) ∧ Below w.heap.size w w' := by
  have h12 := great_few hg hok
  obtain ⟨a, c, hv, _, _⟩ := h.slice
  have HGR := Lib.hid (fun (W : World) (hW : Below w.heap.size w W) => great_calls bef aft v ds W ((h.below hW).mono hW.size))
  have HCK := Lib.hid (fun (W : World) (hW : Below w.heap.size w W) => refYard_calls bef aft v ds W ((h.below hW).mono hW.size))
  have HFO := Lib.hid (fun (k0 : Nat) (hk : k0 ≤ ds.length) (W : World) (hW : Below w.heap.size w W) => follow_calls bef aft v ds k0 W ((h.below hW).mono hW.size) hok hsz hk (Nat.le_trans hk h12))
  have HFL := Lib.hid (fun (k0 : Nat) (hk : k0 ≤ ds.length) (W : World) (hW : Below w.heap.size w W) => follow_calls bef aft (.slice a k0 c) (ds.take k0) k0 W (((by rw [hv] at h; exact h.take k0 hk : Held w.heap.size w 8 deedCells (.slice a k0 c) (ds.take k0)).below hW).mono hW.size) (errYard_take k0 hok) (fun d hd => hsz d (List.mem_of_mem_take hd)) (by rw [List.length_take]; omega) (Nat.le_trans hk h12))
  subst hv
  obtain ⟨n, hnn⟩ : ∃ n, n = ds.length := ⟨_, rfl⟩
  have HN := Lib.hid hnn
  have hkc : n ≤ c := by
    rcases h with ⟨⟨a', c', hv⟩, he⟩ | ⟨b, off, c', hv, _, hl, _⟩
    · have : n = 0 := by rw [hnn, he]; rfl
      omega
    · injection hv with e1 e2 e3
      omega
  rw [← hnn] at HGR HCK HFO HFL h12 ⊢
  have HW0 := Lib.hid ((Below.refl w.heap.size w).alloc (Nat.le_refl _) (.cells #[.int .i64 bef, .int .i64 aft, .slice a n c] 24))
  have HY0 := Lib.hid (Blk.new w 24 #[.int .i64 bef, .int .i64 aft, .slice a n c])
  have HG := Lib.hid hg
  have HOK := Lib.hid hok
  clear h hsz hnn hg hok
  obtain ⟨gy, hgy⟩ : ∃ g, g = w.heap.size := ⟨_, rfl⟩
  obtain ⟨A0, hA0⟩ : ∃ A : Nat, x1 % ((n : Int) + 1) = (A : Int) := ⟨(x1 % ((n : Int) + 1)).toNat, by have := Int.emod_nonneg x1 (show (n : Int) + 1 ≠ 0 by omega); omega⟩
  obtain ⟨B0, hB0⟩ : ∃ B : Nat, x2 % ((n : Int) + 1) = (B : Int) := ⟨(x2 % ((n : Int) + 1)).toNat, by have := Int.emod_nonneg x2 (show (n : Int) + 1 ≠ 0 by omega); omega⟩
  have hA1 : A0 ≤ n := by have := Int.emod_lt_of_pos x1 (show (0 : Int) < (n : Int) + 1 by omega); omega
  have hB1 : B0 ≤ n := by have := Int.emod_lt_of_pos x2 (show (0 : Int) < (n : Int) + 1 by omega); omega
  have hA2 : x1.tmod ((n : Int) + 1) = (A0 : Int) := by rw [Int.tmod_eq_emod_of_nonneg hx1.1]; exact hA0
  have hB2 : x2.tmod ((n : Int) + 1) = (B0 : Int) := by rw [Int.tmod_eq_emod_of_nonneg hx2.1]; exact hB0
  obtain ⟨hx10, hx11⟩ := hx1
  obtain ⟨hx20, hx21⟩ := hx2
  go_enter Try.func5, Try.ntmps5
  go_upto_region 3 with (first
    | (go_at_call 13; refine (HGR.out _ HW0.out).mono ?_; rintro e w1 ⟨rfl, hb1⟩; rw [HG.out]; have HW1 := Lib.hid (HW0.out.trans (hb1.mono HW0.out.size)); have HY1 := Lib.hid (HY0.out.below hb1); have y0 := HY1.out.at 0 _ rfl; have y1 := HY1.out.at 1 _ rfl; have y2 := HY1.out.at 2 _ rfl; clear hb1)
    | (go_at_call 14; refine (HCK.out _ HW1.out).mono ?_; rintro e w2 ⟨rfl, hb2⟩; rw [HOK.out]; have HWw2 := Lib.hid (HW1.out.trans (hb2.mono HW1.out.size)); have HYw2 := Lib.hid (HY1.out.below hb2); clear hb2 y0 y1 y2))
  have q0 := cell_regrown (HYw2.out.at 2 _ rfl)
  refine wp_region_quiet_below (by kernel_rfl) (by kernel_rfl) ?_
  repeat (go_big_quiet_step (fail))
  refine wpQuiet_nil ?_
  intro w3 hw'
  have hb8 : Below w2.heap.size w2 w3 := by obtain ⟨⟨dq, osq⟩, hw''⟩ := hw'; rw [hw'']; exact below_regrown w2 dq osq
  clear hw' q0
  have HWw3 := Lib.hid (HWw2.out.trans (hb8.mono HWw2.out.size))
  have HYw3 := Lib.hid (HYw2.out.below hb8)
  clear hb8 HWw2 HYw2
  go_upto_region 5 with (fail)
  obtain ⟨A, hA⟩ : ∃ A : Nat, A = min A0 B0 := ⟨_, rfl⟩
  obtain ⟨B, hB⟩ : ∃ B : Nat, B = max A0 B0 := ⟨_, rfl⟩
  have hmin : (if B0 < A0 then (B0 : Int) else (A0 : Int)) = (A : Int) := by split <;> omega
  have hmax : (if A0 < B0 then (B0 : Int) else (A0 : Int)) = (B : Int) := by split <;> omega
  have hAB : A ≤ B := by omega
  have hBn : B ≤ n := by omega
  have hAn : A ≤ n := by omega
  rw [hmin, hmax]
  clear hA hB hmin hmax hA0 hB0 hA2 hB2 hA1 hB1
  have y0 := HYw3.out.at 0 _ rfl
  have y1 := HYw3.out.at 1 _ rfl
  have y2 := HYw3.out.at 2 _ rfl
  go_upto_region 6 with (first
    | (go_at_call 16; refine (HFO.out A hAn _ HWw3.out).mono ?_; rintro e w4 ⟨rows1, tv1, acc1, k1, f1, hfo, _, _, rfl, hb, hst⟩; obtain ⟨⟨vapour10, vapour11⟩, ⟨broth10, broth11⟩, ⟨dust10, dust11⟩, ⟨soldDry10, soldDry11⟩, ⟨soldWater10, soldWater11⟩, ⟨soaked10, soaked11⟩⟩ := acc1; obtain ⟨t1a, t1n, t1c, rfl⟩ := row_slice hst.things; have HFO1 := Lib.hid hfo; have HS1w4 := Lib.hid hst; have HYw4 := Lib.hid (HYw3.out.below hb); have HWw4 := Lib.hid (HWw3.out.trans (hb.mono HWw3.out.size)); have HZ1w4 := Lib.hid (Blk.new w4 36 #[.slice none 0 0, .int .i64 0, .int .i64 0, .int .i64 0, .int .i64 0, .int .i64 0, .int .i64 0, .int .i64 0, .int .i64 0, .int .i64 0, .int .i64 0, .int .i64 0, .int .i64 0]); have HO1 := Lib.hid (show (#[.slice t1a t1n t1c, .int .i64 vapour10, .int .i64 vapour11, .int .i64 broth10, .int .i64 broth11, .int .i64 dust10, .int .i64 dust11, .int .i64 soldDry10, .int .i64 soldDry11, .int .i64 soldWater10, .int .i64 soldWater11, .int .i64 soaked10, .int .i64 soaked11] : Array Value).all (·.oneCell') = true from by simp [Value.oneCell']); clear hfo hst hb)
    | ((with_reducible refine at_store 36 (.tmp 9) (.tmp 53) ?_); go_must (refine wpList_store_mid rfl 36 (.tmp 9) (.tmp 53) rfl w4.heap.size 0 #[.slice t1a t1n t1c, .int .i64 vapour10, .int .i64 vapour11, .int .i64 broth10, .int .i64 broth11, .int .i64 dust10, .int .i64 dust11, .int .i64 soldDry10, .int .i64 soldDry11, .int .i64 soldWater10, .int .i64 soldWater11, .int .i64 soaked10, .int .i64 soaked11] rfl rfl (HZ1w4.out.there (o := 0) (n := 13) (Nat.le_of_ble_eq_true rfl)) size_standing HO1.out ?_)))
  clear y0 y1 y2
  have HZ1w5 := Lib.hid (HZ1w4.out.stored (old := [.slice none 0 0, .int .i64 0, .int .i64 0, .int .i64 0, .int .i64 0, .int .i64 0, .int .i64 0, .int .i64 0, .int .i64 0, .int .i64 0, .int .i64 0, .int .i64 0, .int .i64 0]) [.slice t1a t1n t1c, .int .i64 vapour10, .int .i64 vapour11, .int .i64 broth10, .int .i64 broth11, .int .i64 dust10, .int .i64 dust11, .int .i64 soldDry10, .int .i64 soldDry11, .int .i64 soldWater10, .int .i64 soldWater11, .int .i64 soaked10, .int .i64 soaked11] rfl)
  have HYw5 := Lib.hid ((HYw4.out.alloc (.cells #[.slice none 0 0, .int .i64 0, .int .i64 0, .int .i64 0, .int .i64 0, .int .i64 0, .int .i64 0, .int .i64 0, .int .i64 0, .int .i64 0, .int .i64 0, .int .i64 0, .int .i64 0] 36)).apart (Nat.ne_of_lt HYw4.out.lt) 0 [.slice t1a t1n t1c, .int .i64 vapour10, .int .i64 vapour11, .int .i64 broth10, .int .i64 broth11, .int .i64 dust10, .int .i64 dust11, .int .i64 soldDry10, .int .i64 soldDry11, .int .i64 soldWater10, .int .i64 soldWater11, .int .i64 soaked10, .int .i64 soaked11])
  have HS1w5 := Lib.hid ((HS1w4.out.same (w' := (w4.alloc (.cells #[.slice none 0 0, .int .i64 0, .int .i64 0, .int .i64 0, .int .i64 0, .int .i64 0, .int .i64 0, .int .i64 0, .int .i64 0, .int .i64 0, .int .i64 0, .int .i64 0, .int .i64 0] 36))) (fun k hk => Below.heap_alloc _ _ k hk)).setCells HZ1w4.out (by decide) (by decide) 0 [.slice t1a t1n t1c, .int .i64 vapour10, .int .i64 vapour11, .int .i64 broth10, .int .i64 broth11, .int .i64 dust10, .int .i64 dust11, .int .i64 soldDry10, .int .i64 soldDry11, .int .i64 soldWater10, .int .i64 soldWater11, .int .i64 soaked10, .int .i64 soaked11])
  have HWw5 := Lib.hid (below_setCells (HWw4.out.alloc HWw4.out.size (.cells #[.slice none 0 0, .int .i64 0, .int .i64 0, .int .i64 0, .int .i64 0, .int .i64 0, .int .i64 0, .int .i64 0, .int .i64 0, .int .i64 0, .int .i64 0, .int .i64 0, .int .i64 0] 36)) HWw4.out.size [.slice t1a t1n t1c, .int .i64 vapour10, .int .i64 vapour11, .int .i64 broth10, .int .i64 broth11, .int .i64 dust10, .int .i64 dust11, .int .i64 soldDry10, .int .i64 soldDry11, .int .i64 soldWater10, .int .i64 soldWater11, .int .i64 soaked10, .int .i64 soaked11] 0)
  generalize (w4.alloc (.cells #[.slice none 0 0, .int .i64 0, .int .i64 0, .int .i64 0, .int .i64 0, .int .i64 0, .int .i64 0, .int .i64 0, .int .i64 0, .int .i64 0, .int .i64 0, .int .i64 0, .int .i64 0] 36)).setCells w4.heap.size 0 [.slice t1a t1n t1c, .int .i64 vapour10, .int .i64 vapour11, .int .i64 broth10, .int .i64 broth11, .int .i64 dust10, .int .i64 dust11, .int .i64 soldDry10, .int .i64 soldDry11, .int .i64 soldWater10, .int .i64 soldWater11, .int .i64 soaked10, .int .i64 soaked11] = w5 at HZ1w5 HYw5 HS1w5 HWw5 ⊢
  obtain ⟨g1, hg1⟩ : ∃ g, g = w4.heap.size := ⟨_, rfl⟩
  rw [← hg1] at HZ1w5 ⊢
  clear hg1 HZ1w4 HWw4 HYw4 HS1w4
  have y0 := HYw5.out.at 0 _ rfl
  have y1 := HYw5.out.at 1 _ rfl
  have y2 := HYw5.out.at 2 _ rfl
  go_upto_region 7 with (first
    | (go_at_call 16; refine (HFO.out B hBn _ HWw5.out).mono ?_; rintro e w6 ⟨rows2, tv2, acc2, k2, f2, hfo, _, _, rfl, hb, hst⟩; obtain ⟨⟨vapour20, vapour21⟩, ⟨broth20, broth21⟩, ⟨dust20, dust21⟩, ⟨soldDry20, soldDry21⟩, ⟨soldWater20, soldWater21⟩, ⟨soaked20, soaked21⟩⟩ := acc2; obtain ⟨t2a, t2n, t2c, rfl⟩ := row_slice hst.things; have HFO2 := Lib.hid hfo; have HS2w6 := Lib.hid hst; have HYw6 := Lib.hid (HYw5.out.below hb); have HZ1w6 := Lib.hid (HZ1w5.out.below hb); have HS1w6 := Lib.hid (HS1w5.out.below hb); have HWw6 := Lib.hid (HWw5.out.trans (hb.mono HWw5.out.size)); have HZ2w6 := Lib.hid (Blk.new w6 36 #[.slice none 0 0, .int .i64 0, .int .i64 0, .int .i64 0, .int .i64 0, .int .i64 0, .int .i64 0, .int .i64 0, .int .i64 0, .int .i64 0, .int .i64 0, .int .i64 0, .int .i64 0]); have HO2 := Lib.hid (show (#[.slice t2a t2n t2c, .int .i64 vapour20, .int .i64 vapour21, .int .i64 broth20, .int .i64 broth21, .int .i64 dust20, .int .i64 dust21, .int .i64 soldDry20, .int .i64 soldDry21, .int .i64 soldWater20, .int .i64 soldWater21, .int .i64 soaked20, .int .i64 soaked21] : Array Value).all (·.oneCell') = true from by simp [Value.oneCell']); clear hfo hst hb)
    | ((with_reducible refine at_store 36 (.tmp 13) (.tmp 61) ?_); go_must (refine wpList_store_mid rfl 36 (.tmp 13) (.tmp 61) rfl w6.heap.size 0 #[.slice t2a t2n t2c, .int .i64 vapour20, .int .i64 vapour21, .int .i64 broth20, .int .i64 broth21, .int .i64 dust20, .int .i64 dust21, .int .i64 soldDry20, .int .i64 soldDry21, .int .i64 soldWater20, .int .i64 soldWater21, .int .i64 soaked20, .int .i64 soaked21] rfl rfl (HZ2w6.out.there (o := 0) (n := 13) (Nat.le_of_ble_eq_true rfl)) size_standing HO2.out ?_)))
  clear y0 y1 y2
  have HZ2w7 := Lib.hid (HZ2w6.out.stored (old := [.slice none 0 0, .int .i64 0, .int .i64 0, .int .i64 0, .int .i64 0, .int .i64 0, .int .i64 0, .int .i64 0, .int .i64 0, .int .i64 0, .int .i64 0, .int .i64 0, .int .i64 0]) [.slice t2a t2n t2c, .int .i64 vapour20, .int .i64 vapour21, .int .i64 broth20, .int .i64 broth21, .int .i64 dust20, .int .i64 dust21, .int .i64 soldDry20, .int .i64 soldDry21, .int .i64 soldWater20, .int .i64 soldWater21, .int .i64 soaked20, .int .i64 soaked21] rfl)
  have HYw7 := Lib.hid ((HYw6.out.alloc (.cells #[.slice none 0 0, .int .i64 0, .int .i64 0, .int .i64 0, .int .i64 0, .int .i64 0, .int .i64 0, .int .i64 0, .int .i64 0, .int .i64 0, .int .i64 0, .int .i64 0, .int .i64 0] 36)).apart (Nat.ne_of_lt HYw6.out.lt) 0 [.slice t2a t2n t2c, .int .i64 vapour20, .int .i64 vapour21, .int .i64 broth20, .int .i64 broth21, .int .i64 dust20, .int .i64 dust21, .int .i64 soldDry20, .int .i64 soldDry21, .int .i64 soldWater20, .int .i64 soldWater21, .int .i64 soaked20, .int .i64 soaked21])
  have HZ1w7 := Lib.hid ((HZ1w6.out.alloc (.cells #[.slice none 0 0, .int .i64 0, .int .i64 0, .int .i64 0, .int .i64 0, .int .i64 0, .int .i64 0, .int .i64 0, .int .i64 0, .int .i64 0, .int .i64 0, .int .i64 0, .int .i64 0] 36)).apart (Nat.ne_of_lt HZ1w6.out.lt) 0 [.slice t2a t2n t2c, .int .i64 vapour20, .int .i64 vapour21, .int .i64 broth20, .int .i64 broth21, .int .i64 dust20, .int .i64 dust21, .int .i64 soldDry20, .int .i64 soldDry21, .int .i64 soldWater20, .int .i64 soldWater21, .int .i64 soaked20, .int .i64 soaked21])
  have HS1w7 := Lib.hid ((HS1w6.out.same (w' := (w6.alloc (.cells #[.slice none 0 0, .int .i64 0, .int .i64 0, .int .i64 0, .int .i64 0, .int .i64 0, .int .i64 0, .int .i64 0, .int .i64 0, .int .i64 0, .int .i64 0, .int .i64 0, .int .i64 0] 36))) (fun k hk => Below.heap_alloc _ _ k hk)).setCells HZ2w6.out (by decide) (by decide) 0 [.slice t2a t2n t2c, .int .i64 vapour20, .int .i64 vapour21, .int .i64 broth20, .int .i64 broth21, .int .i64 dust20, .int .i64 dust21, .int .i64 soldDry20, .int .i64 soldDry21, .int .i64 soldWater20, .int .i64 soldWater21, .int .i64 soaked20, .int .i64 soaked21])
  have HS2w7 := Lib.hid ((HS2w6.out.same (w' := (w6.alloc (.cells #[.slice none 0 0, .int .i64 0, .int .i64 0, .int .i64 0, .int .i64 0, .int .i64 0, .int .i64 0, .int .i64 0, .int .i64 0, .int .i64 0, .int .i64 0, .int .i64 0, .int .i64 0] 36))) (fun k hk => Below.heap_alloc _ _ k hk)).setCells HZ2w6.out (by decide) (by decide) 0 [.slice t2a t2n t2c, .int .i64 vapour20, .int .i64 vapour21, .int .i64 broth20, .int .i64 broth21, .int .i64 dust20, .int .i64 dust21, .int .i64 soldDry20, .int .i64 soldDry21, .int .i64 soldWater20, .int .i64 soldWater21, .int .i64 soaked20, .int .i64 soaked21])
  have HWw7 := Lib.hid (below_setCells (HWw6.out.alloc HWw6.out.size (.cells #[.slice none 0 0, .int .i64 0, .int .i64 0, .int .i64 0, .int .i64 0, .int .i64 0, .int .i64 0, .int .i64 0, .int .i64 0, .int .i64 0, .int .i64 0, .int .i64 0, .int .i64 0] 36)) HWw6.out.size [.slice t2a t2n t2c, .int .i64 vapour20, .int .i64 vapour21, .int .i64 broth20, .int .i64 broth21, .int .i64 dust20, .int .i64 dust21, .int .i64 soldDry20, .int .i64 soldDry21, .int .i64 soldWater20, .int .i64 soldWater21, .int .i64 soaked20, .int .i64 soaked21] 0)
  generalize (w6.alloc (.cells #[.slice none 0 0, .int .i64 0, .int .i64 0, .int .i64 0, .int .i64 0, .int .i64 0, .int .i64 0, .int .i64 0, .int .i64 0, .int .i64 0, .int .i64 0, .int .i64 0, .int .i64 0] 36)).setCells w6.heap.size 0 [.slice t2a t2n t2c, .int .i64 vapour20, .int .i64 vapour21, .int .i64 broth20, .int .i64 broth21, .int .i64 dust20, .int .i64 dust21, .int .i64 soldDry20, .int .i64 soldDry21, .int .i64 soldWater20, .int .i64 soldWater21, .int .i64 soaked20, .int .i64 soaked21] = w7 at HZ2w7 HYw7 HZ1w7 HS1w7 HS2w7 HWw7 ⊢
  obtain ⟨g2, hg2⟩ : ∃ g, g = w6.heap.size := ⟨_, rfl⟩
  rw [← hg2] at HZ2w7 ⊢
  clear hg2 HZ2w6 HWw6 HYw6 HZ1w6 HS1w6 HS2w6
  have hcA := follow_count bef aft ds (show A ≤ ds.length from by rw [← HN.out]; exact hAn)
  have hcB := follow_count bef aft ds (show B ≤ ds.length from by rw [← HN.out]; exact hBn)
  rw [HFO1.out] at hcA
  rw [HFO2.out] at hcB
  simp only at hcA hcB
  by_cases hf : f1 = 0
  · subst hf
    have hk1 : k1 = A := hcA.2.mp rfl
    subst hk1
    have hm := follow_more bef aft ds hAB (show B ≤ ds.length from by rw [← HN.out]; exact hBn) (by rw [HFO1.out])
    rw [HFO2.out] at hm
    simp only at hm
    have hm2 : k2 ≤ B := hcB.1
    have hmade := (follow_made bef aft ds B).resolve_right (by rw [← HN.out]; omega)
    rw [HFO2.out] at hmade
    simp only at hmade
    have HMADE := Lib.hid hmade
    clear hmade hcA hcB
    have hk2n : k2 ≤ n := by omega
    have hk2c : k2 ≤ c := by omega
    have hmI : (k1 : Int) ≤ (k2 : Int) := by omega
    have hm2I : (k2 : Int) ≤ (B : Int) := by omega
    have y0 := HYw7.out.at 0 _ rfl
    have y1 := HYw7.out.at 1 _ rfl
    have y2 := HYw7.out.at 2 _ rfl
    go_upto_region 14 with ((with_reducible refine at_store 24 (.tmp 17) (.tmp 105) ?_); go_must (refine wpList_store_mid rfl 24 (.tmp 17) (.tmp 105) rfl w7.heap.size 0 #[.int .i64 bef, .int .i64 aft, .slice a n c] rfl rfl ((Blk.new w7 24 #[.int .i64 0, .int .i64 0, .slice none 0 0]).there (o := 0) (n := 3) (Nat.le_of_ble_eq_true rfl)) size_yard (show (#[.int .i64 bef, .int .i64 aft, .slice a n c] : Array Value).all (·.oneCell') = true from by simp [Value.oneCell']) ?_))
    clear y0 y1 y2
    have HLw8 := Lib.hid ((Blk.new w7 24 #[.int .i64 0, .int .i64 0, .slice none 0 0]).stored (old := [.int .i64 0, .int .i64 0, .slice none 0 0]) [.int .i64 bef, .int .i64 aft, .slice a n c] rfl)
    have HYw8 := Lib.hid ((HYw7.out.alloc (.cells #[.int .i64 0, .int .i64 0, .slice none 0 0] 24)).apart (Nat.ne_of_lt HYw7.out.lt) 0 [.int .i64 bef, .int .i64 aft, .slice a n c])
    have HZ2w8 := Lib.hid ((HZ2w7.out.alloc (.cells #[.int .i64 0, .int .i64 0, .slice none 0 0] 24)).apart (Nat.ne_of_lt HZ2w7.out.lt) 0 [.int .i64 bef, .int .i64 aft, .slice a n c])
    have HS2w8 := Lib.hid ((HS2w7.out.same (w' := w7.alloc (.cells #[.int .i64 0, .int .i64 0, .slice none 0 0] 24)) (fun k hk => Below.heap_alloc _ _ k hk)).setCells (Blk.new w7 24 #[.int .i64 0, .int .i64 0, .slice none 0 0]) (by decide) (by decide) 0 [.int .i64 bef, .int .i64 aft, .slice a n c])
    have HWw8 := Lib.hid (below_setCells (HWw7.out.alloc HWw7.out.size (.cells #[.int .i64 0, .int .i64 0, .slice none 0 0] 24)) HWw7.out.size [.int .i64 bef, .int .i64 aft, .slice a n c] 0)
    have HLT := Lib.hid (And.intro HYw7.out.lt HZ2w7.out.lt)
    have HGE := Lib.hid HWw7.out.size
    generalize (w7.alloc (.cells #[.int .i64 0, .int .i64 0, .slice none 0 0] 24)).setCells w7.heap.size 0 [.int .i64 bef, .int .i64 aft, .slice a n c] = w8 at HLw8 HYw8 HZ2w8 HS2w8 HWw8 ⊢
    obtain ⟨gl, hgl⟩ : ∃ g, g = w7.heap.size := ⟨_, rfl⟩
    rw [← hgl] at HLw8 HLT HGE ⊢
    clear hgl HYw7 HZ1w7 HZ2w7 HS1w7 HS2w7 HWw7
    have y2 := HYw8.out.at 2 _ rfl
    have l2 := HLw8.out.at 2 _ rfl
    have lf := HLw8.out.frozen 2
    go_upto_region 15 with (fail)
    clear y2 l2 lf
    have HLw9 := Lib.hid (HLw8.out.set_ 2 (.slice a k2 c))
    have HZ2w9 := Lib.hid (show Blk (w8.setCell ⟨gl, 2, none⟩ (.slice a k2 c)) g2 36 #[.slice t2a t2n t2c, .int .i64 vapour20, .int .i64 vapour21, .int .i64 broth20, .int .i64 broth21, .int .i64 dust20, .int .i64 dust21, .int .i64 soldDry20, .int .i64 soldDry21, .int .i64 soldWater20, .int .i64 soldWater21, .int .i64 soaked20, .int .i64 soaked21] from HZ2w8.out.apart (Nat.ne_of_lt HLT.out.2) 2 [.slice a k2 c])
    have HS2w9 := Lib.hid (show Stands (w8.setCell ⟨gl, 2, none⟩ (.slice a k2 c)) rows2 (.slice t2a t2n t2c) from HS2w8.out.setCells HLw8.out (by decide) (by decide) 2 [.slice a k2 c])
    have HWw9 := Lib.hid (HWw8.out.setCell (p := ⟨gl, 2, none⟩) HGE.out (.slice a k2 c))
    generalize w8.setCell ⟨gl, 2, none⟩ (.slice a k2 c) = w9 at HLw9 HZ2w9 HS2w9 HWw9 ⊢
    have l0 := HLw9.out.at 0 (.int .i64 bef) rfl
    have l1 := HLw9.out.at 1 (.int .i64 aft) rfl
    have l2 := HLw9.out.at 2 (.slice a k2 c) rfl
    go_upto_region 16 with (first
      | (go_at_call 16; refine (HFL.out k2 hk2n _ HWw9.out).mono ?_; rintro e w10 ⟨rows3, tv3, acc3, k3, f3, hfo, _, _, rfl, hb, hst⟩; obtain ⟨⟨vapour30, vapour31⟩, ⟨broth30, broth31⟩, ⟨dust30, dust31⟩, ⟨soldDry30, soldDry31⟩, ⟨soldWater30, soldWater31⟩, ⟨soaked30, soaked31⟩⟩ := acc3; obtain ⟨t3a, t3n, t3c, rfl⟩ := row_slice hst.things; have HFO3 := Lib.hid hfo; have HS3w10 := Lib.hid hst; have HZ2w10 := Lib.hid (HZ2w9.out.below hb); have HS2w10 := Lib.hid (HS2w9.out.below hb); have HWw10 := Lib.hid (HWw9.out.trans (hb.mono HWw9.out.size)); have HZ3w10 := Lib.hid (Blk.new w10 36 #[.slice none 0 0, .int .i64 0, .int .i64 0, .int .i64 0, .int .i64 0, .int .i64 0, .int .i64 0, .int .i64 0, .int .i64 0, .int .i64 0, .int .i64 0, .int .i64 0, .int .i64 0]); have HO3 := Lib.hid (show (#[.slice t3a t3n t3c, .int .i64 vapour30, .int .i64 vapour31, .int .i64 broth30, .int .i64 broth31, .int .i64 dust30, .int .i64 dust31, .int .i64 soldDry30, .int .i64 soldDry31, .int .i64 soldWater30, .int .i64 soldWater31, .int .i64 soaked30, .int .i64 soaked31] : Array Value).all (·.oneCell') = true from by simp [Value.oneCell']); clear hfo hst hb)
      | ((with_reducible refine at_store 36 (.tmp 18) (.tmp 115) ?_); go_must (refine wpList_store_mid rfl 36 (.tmp 18) (.tmp 115) rfl w10.heap.size 0 #[.slice t3a t3n t3c, .int .i64 vapour30, .int .i64 vapour31, .int .i64 broth30, .int .i64 broth31, .int .i64 dust30, .int .i64 dust31, .int .i64 soldDry30, .int .i64 soldDry31, .int .i64 soldWater30, .int .i64 soldWater31, .int .i64 soaked30, .int .i64 soaked31] rfl rfl (HZ3w10.out.there (o := 0) (n := 13) (Nat.le_of_ble_eq_true rfl)) size_standing HO3.out ?_)))
    clear l0 l1 l2
    have HZ3w11 := Lib.hid (HZ3w10.out.stored (old := [.slice none 0 0, .int .i64 0, .int .i64 0, .int .i64 0, .int .i64 0, .int .i64 0, .int .i64 0, .int .i64 0, .int .i64 0, .int .i64 0, .int .i64 0, .int .i64 0, .int .i64 0]) [.slice t3a t3n t3c, .int .i64 vapour30, .int .i64 vapour31, .int .i64 broth30, .int .i64 broth31, .int .i64 dust30, .int .i64 dust31, .int .i64 soldDry30, .int .i64 soldDry31, .int .i64 soldWater30, .int .i64 soldWater31, .int .i64 soaked30, .int .i64 soaked31] rfl)
    have HZ2w11 := Lib.hid ((HZ2w10.out.alloc (.cells #[.slice none 0 0, .int .i64 0, .int .i64 0, .int .i64 0, .int .i64 0, .int .i64 0, .int .i64 0, .int .i64 0, .int .i64 0, .int .i64 0, .int .i64 0, .int .i64 0, .int .i64 0] 36)).apart (Nat.ne_of_lt HZ2w10.out.lt) 0 [.slice t3a t3n t3c, .int .i64 vapour30, .int .i64 vapour31, .int .i64 broth30, .int .i64 broth31, .int .i64 dust30, .int .i64 dust31, .int .i64 soldDry30, .int .i64 soldDry31, .int .i64 soldWater30, .int .i64 soldWater31, .int .i64 soaked30, .int .i64 soaked31])
    have HS2w11 := Lib.hid ((HS2w10.out.same (w' := (w10.alloc (.cells #[.slice none 0 0, .int .i64 0, .int .i64 0, .int .i64 0, .int .i64 0, .int .i64 0, .int .i64 0, .int .i64 0, .int .i64 0, .int .i64 0, .int .i64 0, .int .i64 0, .int .i64 0] 36))) (fun k hk => Below.heap_alloc _ _ k hk)).setCells HZ3w10.out (by decide) (by decide) 0 [.slice t3a t3n t3c, .int .i64 vapour30, .int .i64 vapour31, .int .i64 broth30, .int .i64 broth31, .int .i64 dust30, .int .i64 dust31, .int .i64 soldDry30, .int .i64 soldDry31, .int .i64 soldWater30, .int .i64 soldWater31, .int .i64 soaked30, .int .i64 soaked31])
    have HS3w11 := Lib.hid ((HS3w10.out.same (w' := (w10.alloc (.cells #[.slice none 0 0, .int .i64 0, .int .i64 0, .int .i64 0, .int .i64 0, .int .i64 0, .int .i64 0, .int .i64 0, .int .i64 0, .int .i64 0, .int .i64 0, .int .i64 0, .int .i64 0] 36))) (fun k hk => Below.heap_alloc _ _ k hk)).setCells HZ3w10.out (by decide) (by decide) 0 [.slice t3a t3n t3c, .int .i64 vapour30, .int .i64 vapour31, .int .i64 broth30, .int .i64 broth31, .int .i64 dust30, .int .i64 dust31, .int .i64 soldDry30, .int .i64 soldDry31, .int .i64 soldWater30, .int .i64 soldWater31, .int .i64 soaked30, .int .i64 soaked31])
    have HWw11 := Lib.hid (below_setCells (HWw10.out.alloc HWw10.out.size (.cells #[.slice none 0 0, .int .i64 0, .int .i64 0, .int .i64 0, .int .i64 0, .int .i64 0, .int .i64 0, .int .i64 0, .int .i64 0, .int .i64 0, .int .i64 0, .int .i64 0, .int .i64 0] 36)) HWw10.out.size [.slice t3a t3n t3c, .int .i64 vapour30, .int .i64 vapour31, .int .i64 broth30, .int .i64 broth31, .int .i64 dust30, .int .i64 dust31, .int .i64 soldDry30, .int .i64 soldDry31, .int .i64 soldWater30, .int .i64 soldWater31, .int .i64 soaked30, .int .i64 soaked31] 0)
    generalize (w10.alloc (.cells #[.slice none 0 0, .int .i64 0, .int .i64 0, .int .i64 0, .int .i64 0, .int .i64 0, .int .i64 0, .int .i64 0, .int .i64 0, .int .i64 0, .int .i64 0, .int .i64 0, .int .i64 0] 36)).setCells w10.heap.size 0 [.slice t3a t3n t3c, .int .i64 vapour30, .int .i64 vapour31, .int .i64 broth30, .int .i64 broth31, .int .i64 dust30, .int .i64 dust31, .int .i64 soldDry30, .int .i64 soldDry31, .int .i64 soldWater30, .int .i64 soldWater31, .int .i64 soaked30, .int .i64 soaked31] = w11 at HZ3w11 HZ2w11 HS2w11 HS3w11 HWw11 ⊢
    obtain ⟨g3, hg3⟩ : ∃ g, g = w10.heap.size := ⟨_, rfl⟩
    rw [← hg3] at HZ3w11 ⊢
    clear hg3 HZ3w10 HWw10 HZ2w10 HS2w10 HS3w10
    have hbb := HMADE.out
    rw [HFO3.out] at hbb
    simp only [Prod.mk.injEq, stOf, St.mk.injEq, Acc.mk.injEq, Bd.mk.injEq] at hbb
    obtain ⟨⟨hr, ⟨rfl, rfl⟩, ⟨rfl, rfl⟩, ⟨rfl, rfl⟩, ⟨rfl, rfl⟩, ⟨rfl, rfl⟩, ⟨rfl, rfl⟩⟩, rfl, rfl⟩ := hbb
    have htn : t2n = t3n := by rw [row_len HS2w11.out.things, row_len HS3w11.out.things]; have := congrArg List.length hr; simpa using this.symm
    subst htn
    have HR := Lib.hid hr
    have p0 := HZ3w11.out.at 0 (.slice t3a t2n t3c) rfl
    have p1 := HZ3w11.out.at 1 (.int .i64 vapour30) rfl
    have p2 := HZ3w11.out.at 2 (.int .i64 vapour31) rfl
    have p3 := HZ3w11.out.at 3 (.int .i64 broth30) rfl
    have p4 := HZ3w11.out.at 4 (.int .i64 broth31) rfl
    have p5 := HZ3w11.out.at 5 (.int .i64 dust30) rfl
    have p6 := HZ3w11.out.at 6 (.int .i64 dust31) rfl
    have p7 := HZ3w11.out.at 7 (.int .i64 soldDry30) rfl
    have p8 := HZ3w11.out.at 8 (.int .i64 soldDry31) rfl
    have p9 := HZ3w11.out.at 9 (.int .i64 soldWater30) rfl
    have p10 := HZ3w11.out.at 10 (.int .i64 soldWater31) rfl
    have p11 := HZ3w11.out.at 11 (.int .i64 soaked30) rfl
    have p12 := HZ3w11.out.at 12 (.int .i64 soaked31) rfl
    have r0 := HZ2w11.out.at 0 (.slice t2a t2n t2c) rfl
    have r1 := HZ2w11.out.at 1 (.int .i64 vapour30) rfl
    have r2 := HZ2w11.out.at 2 (.int .i64 vapour31) rfl
    have r3 := HZ2w11.out.at 3 (.int .i64 broth30) rfl
    have r4 := HZ2w11.out.at 4 (.int .i64 broth31) rfl
    have r5 := HZ2w11.out.at 5 (.int .i64 dust30) rfl
    have r6 := HZ2w11.out.at 6 (.int .i64 dust31) rfl
    have r7 := HZ2w11.out.at 7 (.int .i64 soldDry30) rfl
    have r8 := HZ2w11.out.at 8 (.int .i64 soldDry31) rfl
    have r9 := HZ2w11.out.at 9 (.int .i64 soldWater30) rfl
    have r10 := HZ2w11.out.at 10 (.int .i64 soldWater31) rfl
    have r11 := HZ2w11.out.at 11 (.int .i64 soaked30) rfl
    have r12 := HZ2w11.out.at 12 (.int .i64 soaked31) rfl
    go_wp2_with (first
      | (go_at_call 20; refine (same_rows HS3w11.out HS2w11.out HR.out).mono ?_; rintro e w12 ⟨rfl, hb12⟩; have HWw12 := Lib.hid (HWw11.out.trans (hb12.mono HWw11.out.size)); clear hb12)
      | (go_at_call 15; refine (stands_calls _).mono ?_; rintro e w13 ⟨rfl, hb13⟩; have HWw13 := Lib.hid (HWw12.out.trans (hb13.mono HWw12.out.size)); clear hb13))
    go_ret
    exact ⟨rfl, HWw13.out⟩
  · have hbb := follow_fault bef aft ds hAB (show (Yd.follow bef aft ds A).2.2 ≠ 0 from by rw [HFO1.out]; exact hf)
    rw [HFO1.out, HFO2.out] at hbb
    simp only [Prod.mk.injEq, stOf, St.mk.injEq, Acc.mk.injEq, Bd.mk.injEq] at hbb
    obtain ⟨⟨hr, ⟨rfl, rfl⟩, ⟨rfl, rfl⟩, ⟨rfl, rfl⟩, ⟨rfl, rfl⟩, ⟨rfl, rfl⟩, ⟨rfl, rfl⟩⟩, rfl, rfl⟩ := hbb
    have htn : t2n = t1n := by rw [row_len HS1w7.out.things, row_len HS2w7.out.things]; have := congrArg List.length hr; simpa using this
    subst htn
    have hneA : ¬ k2 = A := fun e => hf (hcA.2.mpr e)
    have d1 : (f2 == 0) = false := by simpa using hf
    have d2 : ((k2 : Int) == (A : Int)) = false := by simp; omega
    have d3 : (f2 != 0) = true := by simpa using hf
    have HR := Lib.hid hr
    clear hcA hcB hf hr hneA
    have p0 := HZ1w7.out.at 0 (.slice t1a t2n t1c) rfl
    have p1 := HZ1w7.out.at 1 (.int .i64 vapour20) rfl
    have p2 := HZ1w7.out.at 2 (.int .i64 vapour21) rfl
    have p3 := HZ1w7.out.at 3 (.int .i64 broth20) rfl
    have p4 := HZ1w7.out.at 4 (.int .i64 broth21) rfl
    have p5 := HZ1w7.out.at 5 (.int .i64 dust20) rfl
    have p6 := HZ1w7.out.at 6 (.int .i64 dust21) rfl
    have p7 := HZ1w7.out.at 7 (.int .i64 soldDry20) rfl
    have p8 := HZ1w7.out.at 8 (.int .i64 soldDry21) rfl
    have p9 := HZ1w7.out.at 9 (.int .i64 soldWater20) rfl
    have p10 := HZ1w7.out.at 10 (.int .i64 soldWater21) rfl
    have p11 := HZ1w7.out.at 11 (.int .i64 soaked20) rfl
    have p12 := HZ1w7.out.at 12 (.int .i64 soaked21) rfl
    have r0 := HZ2w7.out.at 0 (.slice t2a t2n t2c) rfl
    have r1 := HZ2w7.out.at 1 (.int .i64 vapour20) rfl
    have r2 := HZ2w7.out.at 2 (.int .i64 vapour21) rfl
    have r3 := HZ2w7.out.at 3 (.int .i64 broth20) rfl
    have r4 := HZ2w7.out.at 4 (.int .i64 broth21) rfl
    have r5 := HZ2w7.out.at 5 (.int .i64 dust20) rfl
    have r6 := HZ2w7.out.at 6 (.int .i64 dust21) rfl
    have r7 := HZ2w7.out.at 7 (.int .i64 soldDry20) rfl
    have r8 := HZ2w7.out.at 8 (.int .i64 soldDry21) rfl
    have r9 := HZ2w7.out.at 9 (.int .i64 soldWater20) rfl
    have r10 := HZ2w7.out.at 10 (.int .i64 soldWater21) rfl
    have r11 := HZ2w7.out.at 11 (.int .i64 soaked20) rfl
    have r12 := HZ2w7.out.at 12 (.int .i64 soaked21) rfl
    go_wp2_with (first
      | (go_at_call 20; refine (same_rows HS1w7.out HS2w7.out HR.out.symm).mono ?_; rintro e w8 ⟨rfl, hb8⟩; have HWw8 := Lib.hid (HWw7.out.trans (hb8.mono HWw7.out.size)); clear hb8)
      | (go_at_call 15; refine (stands_calls _).mono ?_; rintro e w9 ⟨rfl, hb9⟩; have HWw9 := Lib.hid (HWw8.out.trans (hb9.mono HWw8.out.size)); clear hb9))
    go_ret
    exact ⟨rfl, HWw9.out⟩

/-- YardMore, whatever comes in. -/
theorem more_calls (bef aft : Int) (v : Value) (ds : List (Deed Code)) (x1 x2 : Int) (w : World) (h : Held w.heap.size w 8 deedCells v ds) (hsz : ∀ d ∈ ds, d.stack.size ≤ maxLen ∧ d.other.size ≤ maxLen) (hx1 : 0 ≤ x1 ∧ x1 ≤ 255) (hx2 : 0 ≤ x2 ∧ x2 ≤ 255) :
    Calls Try.prog 5 #[.agg #[.int .i64 bef, .int .i64 aft, v], .int .u8 x1, .int .u8 x2] w fun e w' => e = .returned (.bool true) ∧ Below w.heap.size w w' := by
  cases hg : greatB ds with
  | true => exact more_stands bef aft v ds x1 x2 w h (.inl hg)
  | false =>
    by_cases hok : errYard bef aft ds = 0
    · exact more_real bef aft v ds x1 x2 w h hsz hg hok hx1 hx2
    · exact more_stands bef aft v ds x1 x2 w h (.inr hok)
end Go.Proofs.Ytcnacegjdmgakaa
