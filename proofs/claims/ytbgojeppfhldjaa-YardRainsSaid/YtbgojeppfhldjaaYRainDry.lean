/- The program's checks of rain, and its Dryness. -/
import Derived.Test.YtbgojeppfhldjaaYRainCalls
import Derived.Test.YtbgojeppfhldjaaYRowed
namespace Go.Proofs.Ytbgojeppfhldjaa
open Go Go.RowKit Go.Shelf Yd
/-- Bounds in memory. -/
def bdCells (b : Bd) : List Value := [.int .i64 b.lo, .int .i64 b.hi]
instance instBd : Inhabited Bd := ⟨⟨0, 0⟩⟩
set_option maxHeartbeats 400000 in
theorem checkB_calls (lo hi high : Int) (ev : Value) (c : Nat) (w : World) (hc : w.cell? ⟨c, 0, none⟩ = some (.int .i64 high)) (hl : c < w.heap.size) (hok : boundsB lo hi 0 high = true) :
    Calls Try.prog 50 #[.agg #[.int .i64 lo, .int .i64 hi], ev, .pointer (some ⟨c, 0, none⟩)] w fun e w' => e = .returned (.int .i64 0) ∧ Below w.heap.size w w' := by
  have h1 : (w.alloc (.cells #[.int .i64 lo, .int .i64 hi] 23)).cell? ⟨c, 0, none⟩ = some (.int .i64 high) := (((Below.refl w.heap.size w).alloc (Nat.le_refl _) (.cells #[.int .i64 lo, .int .i64 hi] 23)).cell (p := ⟨c, 0, none⟩) hl).trans hc
  have HB0 := Lib.hid ((Below.refl w.heap.size w).alloc (Nat.le_refl _) (.cells #[.int .i64 lo, .int .i64 hi] 23))
  have HOK := Lib.hid hok
  clear hc hok
  go_enter Try.func50, Try.ntmps50
  go_wp2_with (go_at_call 48; refine (areBounds_calls _ _ _ _ _).mono ?_; rintro e w2 ⟨rfl, hw2⟩; rw [HOK.out]; have HB2 := Lib.hid (show Below w.heap.size w w2 from HB0.out.trans (by rw [hw2]; exact ((Below.refl _ _).alloc (Nat.le_refl _) _).mono HB0.out.size)); clear hw2)
  go_ret
  exact ⟨rfl, HB2.out⟩

set_option linter.unusedSimpArgs false in
set_option maxRecDepth 100000 in
set_option maxHeartbeats 4000000 in
theorem firstB_calls (v : Value) (l : List Bd) (high : Int) (c : Nat) (w : World) (h : Held w.heap.size w 2 bdCells v l) (h60 : l.length ≤ 60) (hc : w.cell? ⟨c, 0, none⟩ = some (.int .i64 high)) (hl : c < w.heap.size) (hok : ∀ b ∈ l, boundsB b.lo b.hi 0 high = true) :
    Calls Try.prog 49 #[v, .func (.func 50) #[] #[.pointer (some ⟨c, 0, none⟩)]] w fun e w' => e = .returned (.int .i64 0) ∧ Below w.heap.size w w' := by
  have hen : ∀ args w, (callFunc 50 args).run Try.prog w = .ok (.enter 50 args) w := enters_of Try.func50 (by kernel_rfl) rfl
  obtain ⟨a, cp, rfl, _, hcs⟩ := h.slice
  have HCS := Lib.hid hcs; have HC := Lib.hid hc; have HOK := Lib.hid hok
  obtain ⟨n, hn⟩ : ∃ n, n = l.length := ⟨_, rfl⟩
  have HN := Lib.hid hn
  rw [← hn] at h60 ⊢
  clear h hcs hn hc hok
  go_enter Try.func49, Try.ntmps49
  go_wp2
  go_loopw [10] (fun iv wr => ∃ (k : Nat), k ≤ n ∧ iv = .int .i64 k ∧ Hid (Locs w wr [] [])) (fun iv _ => n - (intOf iv).toNat)
  case atStart => exact ⟨0, Nat.zero_le _, rfl, Lib.hid (Locs.start w)⟩
  case round =>
    obtain ⟨k, hk, rfl, HL1⟩ := hrel
    by_cases hlt : k < n
    · obtain ⟨b, off, rfl, hbl, ⟨hnc, hcm⟩, hcells⟩ := HCS.out (by rw [← HN.out]; omega)
      have hkl : k < l.length := by rw [← HN.out]; exact hlt
      rw [← HN.out] at hnc
      obtain ⟨⟨lo, hi⟩, hd⟩ : ∃ d, d = l[k]! := ⟨_, rfl⟩
      have hdo := HOK.out _ (get_in hkl)
      rw [← hd] at hdo
      have HDO := Lib.hid hdo
      have c0 := (show wr.cell? ⟨b, off + k * 2, none⟩ = some (.int .i64 lo) from (HL1.out.low.cell (p := ⟨b, off + k * 2 + 0, none⟩) hbl).trans (hcells k hkl 0 _ (by rw [← hd]; rfl)))
      have c1 := (show wr.cell? ⟨b, off + k * 2 + 1, none⟩ = some (.int .i64 hi) from (HL1.out.low.cell (p := ⟨b, off + k * 2 + 1, none⟩) hbl).trans (hcells k hkl 1 _ (by rw [← hd]; rfl)))
      have HCC := Lib.hid (fun W (hW : Below w.heap.size w W) => checkB_calls lo hi high · c W ((hW.cell (p := ⟨c, 0, none⟩) hl).trans HC.out) (Nat.lt_of_lt_of_le hl hW.size) HDO.out)
      have hkI : (k : Int) < (n : Int) := by omega
      have hb1 : (0 : Int) ≤ (k : Int) := by omega
      have hb2 : (k : Int) ≤ (n : Int) := by omega
      have hb3 : (n : Int) ≤ (cp : Int) := by omega
      have hb5 : (cp : Int) ≤ 9223372036854775807 := by omega
      have hb11 : k ≤ cp := by omega
      have hb8 : k ≤ n := by omega
      clear hcells hd hdo hkl
      go_upto_region 4 with ((with_reducible refine at_store 23 (.tmp 6) (.tmp 14) ?_); go_must (refine wpList_store_mid rfl 23 (.tmp 6) (.tmp 14) rfl wr.heap.size 0 #[.int .i64 lo, .int .i64 hi] rfl rfl ((Blk.new wr 23 #[.int .i64 0, .int .i64 0]).there (o := 0) (n := 2) (Nat.le_of_ble_eq_true rfl)) size_bounds (by simp [Value.oneCell']) ?_))
      clear c0 c1
      have HL2 := Lib.hid (show Locs w ((wr.alloc (.cells #[.int .i64 0, .int .i64 0] 23)).setCells wr.heap.size 0 [.int .i64 lo, .int .i64 hi]) [(wr.heap.size, 23, [.int .i64 lo, .int .i64 hi])] [] from (HL1.out.alloc 23 [.int .i64 0, .int .i64 0] rfl).setLoc 0 [] [.int .i64 0, .int .i64 0] [] [.int .i64 lo, .int .i64 hi] rfl rfl)
      clear HL1
      generalize ((wr.alloc (.cells #[.int .i64 0, .int .i64 0] 23)).setCells wr.heap.size 0 [.int .i64 lo, .int .i64 hi]) = v1 at HL2 ⊢
      generalize wr.heap.size = gb at HL2 ⊢
      try simp only [Act.put]
      have q0 := cell_regrown (show v1.cell? ⟨gb, 0, none⟩ = some (.int .i64 lo) from HL2.out.at 0 0 (v := .int .i64 lo) rfl rfl)
      have q1 := cell_regrown (show v1.cell? ⟨gb, 1, none⟩ = some (.int .i64 hi) from HL2.out.at 0 1 (v := .int .i64 hi) rfl rfl)
      refine region_split_below 5 (by kernel_rfl) (by kernel_rfl) (by kernel_rfl) ?_
      simp only [List.take_succ_cons, List.take_zero, List.drop_succ_cons, List.drop_zero]
      repeat (go_big_quiet_step (fail))
      refine wpQuiet_nil ?_
      intro wq hw'
      have hb8' : Below v1.heap.size v1 wq := by obtain ⟨⟨dq, osq⟩, hw''⟩ := hw'; rw [hw'']; exact below_regrown _ dq osq
      clear hw' q0 q1
      have HL3 := Lib.hid (HL2.out.below hb8')
      clear hb8' HL2
      generalize wq = v2 at HL3 ⊢
      go_wp2_with (go_at_call 50; refine (HCC.out _ _ HL3.out.low).mono ?_; rintro e w5 ⟨rfl, hb⟩; have HL9 := Lib.hid ((HL3.out.below hb).fewer (List.nil_sublist _) (List.Sublist.refl _)); clear hb)
      go_roundw
      case rel => exact ⟨k + 1, by omega, by go_num, HL9⟩
      case measure => simp [intOf]; omega
    · have hkn : k = n := by omega
      subst hkn
      go_wp2
      go_ret
      exact ⟨rfl, HL1.out.low⟩
set_option maxHeartbeats 1000000 in
theorem checkRainB_calls (v : Value) (l : List Bd) (high : Int) (w : World) (h : Held w.heap.size w 2 bdCells v l) (h60 : l.length ≤ 60) (hok : ∀ b ∈ l, boundsB b.lo b.hi 0 high = true) :
    Calls Try.prog 35 #[v, .int .i64 high] w fun e w' => e = .returned (.int .i64 0) ∧ Below w.heap.size w w' := by
  have HB0 := Lib.hid ((Below.refl w.heap.size w).alloc (Nat.le_refl _) (.cells #[.int .i64 high] 3))
  have HFB := Lib.hid (firstB_calls v l high w.heap.size (w.alloc (.cells #[.int .i64 high] 3)) ((h.below HB0.out).mono HB0.out.size) h60 ((Blk.new w 3 #[.int .i64 high]).at 0 _ rfl) (Blk.new w 3 #[.int .i64 high]).lt hok)
  have hmf : ∀ (fn : Fn) (first cap : Array Value) (w : World), (Instr.makeFunc fn first cap).run Try.prog w = .ok (.func fn first cap) w := fun _ _ _ _ => rfl
  obtain ⟨a, cp, rfl, _, _⟩ := h.slice
  clear h hok
  go_enter Try.func35, Try.ntmps35
  go_wp2_with (go_at_call 49; refine HFB.out.mono ?_; rintro e w2 ⟨rfl, hb⟩; have HB2 := Lib.hid (HB0.out.trans (hb.mono HB0.out.size)); clear hb)
  go_ret
  exact ⟨rfl, HB2.out⟩
set_option maxHeartbeats 1000000 in
theorem isDry_calls (lo hi : Int) (w : World) :
    Calls Try.prog 34 #[.agg #[.int .i64 lo, .int .i64 hi]] w fun e w' => e = .returned (.bool (boundsB lo hi 0 9)) ∧ Below w.heap.size w w' := by
  have HB0 := Lib.hid ((Below.refl w.heap.size w).alloc (Nat.le_refl _) (.cells #[.int .i64 lo, .int .i64 hi] 23))
  go_enter Try.func34, Try.ntmps34
  go_wp2_with (go_at_call 48; refine (areBounds_calls _ _ _ _ _).mono ?_; rintro e w2 ⟨rfl, hw2⟩; have HB2 := Lib.hid (show Below w.heap.size w w2 from HB0.out.trans (by rw [hw2]; exact ((Below.refl _ _).alloc (Nat.le_refl _) _).mono HB0.out.size)); clear hw2)
  go_ret
  exact ⟨rfl, HB2.out⟩
set_option maxHeartbeats 1000000 in
theorem checkRain_calls (lo hi : Int) (v : Value) (l : List Bd) (w : World) (h : Held w.heap.size w 2 bdCells v l) (h60 : l.length ≤ 60) (hs : boundsB lo hi 0 9 = true) (hok : ∀ b ∈ l, boundsB b.lo b.hi 0 50 = true) :
    Calls Try.prog 22 #[.agg #[.int .i64 lo, .int .i64 hi], v] w fun e w' => e = .returned (.int .i64 0) ∧ Below w.heap.size w w' := by
  have HB0 := Lib.hid ((Below.refl w.heap.size w).alloc (Nat.le_refl _) (.cells #[.int .i64 lo, .int .i64 hi] 23))
  have HCB := Lib.hid (fun (W : World) (hW : Below w.heap.size w W) => checkRainB_calls v l 50 W ((h.below hW).mono hW.size) h60 hok)
  have HS := Lib.hid hs
  obtain ⟨a, cp, rfl, _, _⟩ := h.slice
  obtain ⟨n, hn⟩ : ∃ n, n = l.length := ⟨_, rfl⟩
  rw [← hn] at h60 HCB ⊢
  have d1 : decide ((60 : Int) < (n : Int)) = false := by simp; omega
  clear h hok hn hs
  go_enter Try.func22, Try.ntmps22
  go_wp2_with (first
    | (go_at_call 34; refine (isDry_calls _ _ _).mono ?_; rintro e w2 ⟨rfl, hb⟩; rw [HS.out]; have HB2 := Lib.hid (HB0.out.trans (hb.mono HB0.out.size)); clear hb)
    | (go_at_call 35; refine (HCB.out _ HB2.out).mono ?_; rintro e w3 ⟨rfl, hb⟩; have HB3 := Lib.hid (HB2.out.trans (hb.mono HB2.out.size)); clear hb))
  go_ret
  exact ⟨rfl, HB3.out⟩
end Go.Proofs.Ytbgojeppfhldjaa
