/- YardExact: the law's walk. -/
import Derived.Test.YtmcmhgpmefelfaaYLocs
import Derived.Test.YtmcmhgpmefelfaaYExactOf
namespace Go.Proofs.Ytmcmhgpmefelfaa
open Go Go.RowKit Go.Shelf Yd
theorem size_account : (Try.prog.info? 34).map (·.size) = some 12 := by kernel_rfl

set_option maxRecDepth 100000 in
set_option maxHeartbeats 8000000 in
/-- A yard that the statements pass over, or that has an error. -/
theorem exact_stands (bef aft : Int) (v : Value) (ds : List (Deed Code)) (x1 : Int) (pa : Option Addr) (pn pc : Nat) (w : World) (h : Held w.heap.size w 8 deedCells v ds) (hno : greatB ds = true ∨ errYard bef aft ds ≠ 0) :
    Calls Try.prog 4 #[.agg #[.int .i64 bef, .int .i64 aft, v], .int .u8 x1, .slice pa pn pc] w (LawDone w) := by
  obtain ⟨a, c, hv, _, _⟩ := h.slice
  have HGR := Lib.hid (fun (W : World) (hW : Below w.heap.size w W) => great_calls bef aft v ds W ((h.below hW).mono hW.size))
  have HCK := Lib.hid (fun (W : World) (hW : Below w.heap.size w W) => refYard_calls bef aft v ds W ((h.below hW).mono hW.size))
  subst hv
  obtain ⟨n, hnn⟩ : ∃ n, n = ds.length := ⟨_, rfl⟩
  rw [← hnn] at HGR HCK ⊢
  have HW0 := Lib.hid ((Below.refl w.heap.size w).alloc (Nat.le_refl _) (.cells #[.int .i64 bef, .int .i64 aft, .slice a n c] 24))
  have HY0 := Lib.hid (Blk.new w 24 #[.int .i64 bef, .int .i64 aft, .slice a n c])
  clear h hnn
  cases hg : greatB ds with
  | true =>
    have HG := Lib.hid hg
    clear hg hno
    go_enter Try.func4, Try.ntmps4
    go_wp2_with (first
      | (go_at_call 13; refine (HGR.out _ HW0.out).mono ?_; rintro e w1 ⟨rfl, hb1⟩; rw [HG.out]; have HW1 := Lib.hid (HW0.out.trans (hb1.mono HW0.out.size)); have HY1 := Lib.hid (HY0.out.below hb1); clear hb1)
      | (go_at_call 15; refine (stands_calls _).mono ?_; rintro e w2 ⟨rfl, hb2⟩; have HW2 := Lib.hid (HW1.out.trans (hb2.mono HW1.out.size)); clear hb2))
    go_ret
    exact lawDone HW2.out
  | false =>
    have HG := Lib.hid hg
    have hno : errYard bef aft ds ≠ 0 := hno.resolve_left (by rw [hg]; simp)
    have d1 : (errYard bef aft ds == 0) = false := by simpa using hno
    have d2 : (errYard bef aft ds != 0) = true := by simpa using hno
    clear hg hno
    generalize errYard bef aft ds = ey at HCK d1 d2
    go_enter Try.func4, Try.ntmps4
    go_wp2_with (first
      | (go_at_call 13; refine (HGR.out _ HW0.out).mono ?_; rintro e w1 ⟨rfl, hb1⟩; rw [HG.out]; have HW1 := Lib.hid (HW0.out.trans (hb1.mono HW0.out.size)); have HY1 := Lib.hid (HY0.out.below hb1); have y0 := HY1.out.at 0 _ rfl; have y1 := HY1.out.at 1 _ rfl; have y2 := HY1.out.at 2 _ rfl; clear hb1)
      | (go_at_call 14; refine (HCK.out _ HW1.out).mono ?_; rintro e w2 ⟨rfl, hb2⟩; have HW2 := Lib.hid (HW1.out.trans (hb2.mono HW1.out.size)); clear hb2)
      | (go_at_call 15; refine (stands_calls _).mono ?_; rintro e w3 ⟨rfl, hb3⟩; have HW3 := Lib.hid (HW2.out.trans (hb3.mono HW2.out.size)); clear hb3))
    go_ret
    exact lawDone HW3.out

set_option maxRecDepth 100000 in
set_option maxHeartbeats 8000000 in
theorem exact_real (bef aft : Int) (v : Value) (ds : List (Deed Code)) (x1 : Int) (pv : Value) (xs : List Int) (w : World) (h : Held w.heap.size w 8 deedCells v ds) (hsz : ∀ d ∈ ds, d.stack.size ≤ maxLen ∧ d.other.size ≤ maxLen) (hg : greatB ds = false) (hok : errYard bef aft ds = 0)
    (hx1 : 0 ≤ x1 ∧ x1 ≤ 255) (hpv : Held w.heap.size w 1 pickCells pv xs) (hxs : ∀ x ∈ xs, 0 ≤ x ∧ x ≤ 65535) :
    Calls Try.prog 4 #[.agg #[.int .i64 bef, .int .i64 aft, v], .int .u8 x1, pv] w (LawDone w) := by
  have h12 := great_few hg hok
  obtain ⟨a, c, hv, _, _⟩ := h.slice
  have HGR := Lib.hid (fun (W : World) (hW : Below w.heap.size w W) => great_calls bef aft v ds W ((h.below hW).mono hW.size))
  have HCK := Lib.hid (fun (W : World) (hW : Below w.heap.size w W) => refYard_calls bef aft v ds W ((h.below hW).mono hW.size))
  have HEX := Lib.hid (fun (W : World) (hW : Below w.heap.size w W) => exact_calls bef aft v pv ds xs W ((h.below hW).mono hW.size) hsz ((hpv.below hW).mono hW.size) hxs hok h12)
  obtain ⟨pa, pc, hpv2, _, _⟩ := hpv.slice
  subst hv hpv2
  obtain ⟨pn, hpn⟩ : ∃ m, m = xs.length := ⟨_, rfl⟩
  rw [← hpn] at HEX ⊢
  obtain ⟨n, hnn⟩ : ∃ n, n = ds.length := ⟨_, rfl⟩
  have HN := Lib.hid hnn
  rw [← hnn] at HGR HCK HEX h12 ⊢
  have HG := Lib.hid hg; have HOK := Lib.hid hok; have HSZ := Lib.hid hsz
  obtain ⟨K, hK1, hK2⟩ := mod_nat (n := n) hx1.1
  obtain ⟨hx10, hx11⟩ := hx1
  clear h hsz hnn hg hok hpv hxs hpn
  have HL0 := Lib.hid (show Locs w (w.alloc (.cells #[.int .i64 bef, .int .i64 aft, .slice a n c] 24)) [(w.heap.size, 24, [.int .i64 bef, .int .i64 aft, .slice a n c])] [] from (Locs.start w).alloc 24 [.int .i64 bef, .int .i64 aft, .slice a n c] rfl)
  go_enter Try.func4, Try.ntmps4
  go_upto_region 3 with (first
    | (go_at_call 13; refine (HGR.out _ HL0.out.low).mono ?_; rintro e w1 ⟨rfl, hb1⟩; rw [HG.out]; have HL1 := Lib.hid (HL0.out.below hb1); have y0 := HL1.out.at 0 0 (v := .int .i64 bef) rfl rfl; have y1 := HL1.out.at 0 1 (v := .int .i64 aft) rfl rfl; have y2 := HL1.out.at 0 2 (v := .slice a n c) rfl rfl; clear hb1)
    | (go_at_call 14; refine (HCK.out _ HL1.out.low).mono ?_; rintro e w2 ⟨rfl, hb2⟩; rw [HOK.out]; have HL2 := Lib.hid (HL1.out.below hb2); clear hb2 y0 y1 y2))
  clear HL0 HL1 HGR HCK
  generalize w.heap.size = gy at HL2 ⊢
  have y0 := (show w2.cell? ⟨gy, 0, none⟩ = some (.int .i64 bef) from HL2.out.at 0 0 (v := .int .i64 bef) rfl rfl)
  have y1 := (show w2.cell? ⟨gy, 1, none⟩ = some (.int .i64 aft) from HL2.out.at 0 1 (v := .int .i64 aft) rfl rfl)
  have y2 := (show w2.cell? ⟨gy, 2, none⟩ = some (.slice a n c) from HL2.out.at 0 2 (v := .slice a n c) rfl rfl)
  go_upto_region 4 with (first
    | (go_at_call 19; refine (HEX.out _ HL2.out.low).mono ?_; rintro e w3 ⟨v3, es, rfl, hb3, hsl, hone, hes⟩; obtain ⟨ea, ec, rfl, _, hecs⟩ := hes.slice; rw [hsl.length_eq, ← HN.out] at hes ⊢; have HECS := Lib.hid hecs; have HSL := Lib.hid hsl; have HONE := Lib.hid hone; have HES := Lib.hid hes; have HL3 := Lib.hid (HL2.out.below hb3); clear hb3 hsl hone hes hecs)
    | ((with_reducible refine at_store 24 (.tmp 7) (.tmp 28) ?_); go_must (refine wpList_store_mid rfl 24 (.tmp 7) (.tmp 28) rfl w3.heap.size 0 #[.int .i64 bef, .int .i64 aft, .slice ea n ec] rfl rfl ((Blk.new w3 24 #[.int .i64 0, .int .i64 0, .slice none 0 0]).there (o := 0) (n := 3) (Nat.le_of_ble_eq_true rfl)) size_yard (yard_ones _ _ _ _ _) ?_)))
  clear y0 y1 y2 HL2 HEX
  have HYO := Lib.hid (fun W (hb : Below w3.heap.size w3 W) => (HL3.out.blk 0 rfl).below hb)
  have HB3 := Lib.hid HL3.out.low
  have HEL := Lib.hid (show es.length = n from by rw [HSL.out.length_eq, ← HN.out])
  have HEOK := Lib.hid (errYard_slim HSL.out HOK.out)
  have HFO := Lib.hid (fun (k0 : Nat) (hk : k0 ≤ n) (W : World) (hW : Below w3.heap.size w3 W) => follow_calls bef aft (.slice ea n ec) es k0 W ((HES.out.below hW).mono hW.size) HEOK.out (slim_sizes HSL.out HSZ.out) (by rw [HEL.out]; exact hk) (Nat.le_trans hk h12))
  have HL4 := Lib.hid (Locs.start w3)
  clear HL3
  have HL5 := Lib.hid (show Locs w3 ((w3.alloc (.cells #[.int .i64 0, .int .i64 0, .slice none 0 0] 24)).setCells w3.heap.size 0 [.int .i64 bef, .int .i64 aft, .slice ea n ec]) [(w3.heap.size, 24, [.int .i64 bef, .int .i64 aft, .slice ea n ec])] [] from (HL4.out.alloc 24 [.int .i64 0, .int .i64 0, .slice none 0 0] rfl).setLoc 0 [] [.int .i64 0, .int .i64 0, .slice none 0 0] [] [.int .i64 bef, .int .i64 aft, .slice ea n ec] rfl rfl)
  clear HL4
  generalize ((w3.alloc (.cells #[.int .i64 0, .int .i64 0, .slice none 0 0] 24)).setCells w3.heap.size 0 [.int .i64 bef, .int .i64 aft, .slice ea n ec]) = v1 at HL5 ⊢
  generalize w3.heap.size = go at HL5 ⊢
  try simp only [Act.put]
  have hwn : IntKind.i64.wrap ((n : Int) + 1) = (n : Int) + 1 := by rw [IntKind.wrap_i64]; omega
  have hwx : IntKind.i64.wrap x1 = x1 := by rw [IntKind.wrap_i64]; omega
  have hn0 : ¬ (n : Int) + 1 = 0 := by omega
  go_cut [8, 9, 10, 11] from 29 to 43 (fun sa sb sc sd wx => ∃ (gs : Nat) (rows1 : List SRow) (t1a : Option Addr) (t1n t1c : Nat) (vapour10 vapour11 broth10 broth11 dust10 dust11 soldDry10 soldDry11 soldWater10 soldWater11 soaked10 soaked11 : Int) (k1 : Nat) (f1 : Int), sa = .pointer (some ⟨gs, 0, none⟩) ∧ sb = .int .i64 k1 ∧ sc = .int .i64 f1 ∧ sd = .int .i64 0 ∧ Hid (Yd.follow bef aft es K = (stOf rows1 (⟨⟨vapour10, vapour11⟩, ⟨broth10, broth11⟩, ⟨dust10, dust11⟩, ⟨soldDry10, soldDry11⟩, ⟨soldWater10, soldWater11⟩, ⟨soaked10, soaked11⟩⟩ : Yd.Acc), k1, f1)) ∧ Hid (SmallSt k1 (stOf rows1 (⟨⟨vapour10, vapour11⟩, ⟨broth10, broth11⟩, ⟨dust10, dust11⟩, ⟨soldDry10, soldDry11⟩, ⟨soldWater10, soldWater11⟩, ⟨soaked10, soaked11⟩⟩ : Yd.Acc))) ∧ Hid (k1 ≤ K) ∧
      Hid (Locs w3 wx [(go, 24, [.int .i64 bef, .int .i64 aft, .slice ea n ec]), (gs, 36, [.slice t1a t1n t1c, .int .i64 vapour10, .int .i64 vapour11, .int .i64 broth10, .int .i64 broth11, .int .i64 dust10, .int .i64 dust11, .int .i64 soldDry10, .int .i64 soldDry11, .int .i64 soldWater10, .int .i64 soldWater11, .int .i64 soaked10, .int .i64 soaked11])] [(rows1, .slice t1a t1n t1c)]))
  case first =>
    have hmix : Try.prog.follows .mixedOrders = true := by kernel_rfl
    refine region_till [] (fun w' => Below v1.heap.size v1 w') 19 [false, false, false, false, false, false, false, false, false, false, false, false, false, false, false, false, false, false, false] hmix rfl rfl ?_
    clear hmix
    have HT := Lib.hid ((Below.refl v1.heap.size v1).drew)
    have HL6 := Lib.hid (HL5.out.drew)
    generalize v1.drew = v2 at HT HL6 ⊢
    refine till_load (i := 0) (v := .agg #[.int .i64 bef, .int .i64 aft, .slice ea n ec]) rfl rfl (by kernel_rfl) (fun _ _ _ h => h) (yields_mid rfl 24 (.tmp 7) rfl (go) 0 rfl [.int .i64 bef, .int .i64 aft, .slice ea n ec] _ (fun w' hw' => HL5.out.rangeB hw' 0 0 _ rfl rfl) Try.underlying24 rfl (by kernel_rfl)) (fun _ => HT.out) ?_
    try simp only [List.setIfInBounds_toArray, List.set_cons_succ, List.set_cons_zero]
    refine till_pure (i := 1) (v := .int .u8 x1) rfl rfl (by kernel_rfl) (fun _ _ _ h => h) (yields_of rfl (fun w' _ => by simp [go_sem])) (fun _ => HT.out) ?_
    try simp only [List.setIfInBounds_toArray, List.set_cons_succ, List.set_cons_zero]
    refine till_pure (i := 2) (v := .int .i64 x1) rfl rfl (by kernel_rfl) (fun _ _ _ h => h) (yields_of rfl (fun w' _ => by simp [go_sem, hwx])) (fun _ => HT.out) ?_
    try simp only [List.setIfInBounds_toArray, List.set_cons_succ, List.set_cons_zero]
    refine till_pure (i := 3) (v := .pointer (some ⟨gy, 2, none⟩)) rfl rfl (by kernel_rfl) (fun _ _ _ h => h) (yields_of rfl (fun w' _ => by simp [go_sem])) (fun _ => HT.out) ?_
    try simp only [List.setIfInBounds_toArray, List.set_cons_succ, List.set_cons_zero]
    refine till_load (i := 4) (v := .slice a n c) rfl rfl (by kernel_rfl) (fun _ _ _ h => h) (yields_of rfl (fun w' hw' => by have hcx : w'.cell? ⟨gy, 2, none⟩ = some (.slice a n c) := (HYO.out w' ((HL5.out.low).trans (hw'.mono HL5.out.low.size))).at 2 _ rfl; simp [go_sem, hcx])) (fun _ => HT.out) ?_
    try simp only [List.setIfInBounds_toArray, List.set_cons_succ, List.set_cons_zero]
    refine till_pure (i := 5) (v := .int .i64 n) rfl rfl (by kernel_rfl) (fun _ _ _ h => h) (yields_of rfl (fun w' _ => by simp [go_sem])) (fun _ => HT.out) ?_
    try simp only [List.setIfInBounds_toArray, List.set_cons_succ, List.set_cons_zero]
    refine till_pure (i := 6) (v := .int .i64 ((n : Int) + 1)) rfl rfl (by kernel_rfl) (fun _ _ _ h => h) (yields_of rfl (fun w' _ => by simp [go_sem, hwn])) (fun _ => HT.out) ?_
    try simp only [List.setIfInBounds_toArray, List.set_cons_succ, List.set_cons_zero]
    refine till_pure (i := 7) (v := .int .i64 K) rfl rfl (by kernel_rfl) (fun _ _ _ h => h) (yields_of rfl (fun w' _ => by simp [go_sem, hn0, hK2])) (fun _ => HT.out) ?_
    try simp only [List.setIfInBounds_toArray, List.set_cons_succ, List.set_cons_zero]
    refine till_two (i := 8) (j := 14) (by kernel_rfl) rfl rfl ?_ ?_
    · go_wp2_with (go_at_call 16; refine (HFO.out K hK1 _ HL6.out.low).mono ?_; rintro e v3 ⟨rows1, tv1, acc1, k1, f1, hfo, hsm, hkk, rfl, hb, hst⟩; obtain ⟨⟨vapour10, vapour11⟩, ⟨broth10, broth11⟩, ⟨dust10, dust11⟩, ⟨soldDry10, soldDry11⟩, ⟨soldWater10, soldWater11⟩, ⟨soaked10, soaked11⟩⟩ := acc1; obtain ⟨t1a, t1n, t1c, rfl⟩ := row_slice hst.things; have HFO1 := Lib.hid hfo; have HSM1 := Lib.hid hsm; have HKK1 := Lib.hid hkk; have HL7 := Lib.hid (HL6.out.stand hb hst rfl); have HO1 := Lib.hid (show (#[.slice t1a t1n t1c, .int .i64 vapour10, .int .i64 vapour11, .int .i64 broth10, .int .i64 broth11, .int .i64 dust10, .int .i64 dust11, .int .i64 soldDry10, .int .i64 soldDry11, .int .i64 soldWater10, .int .i64 soldWater11, .int .i64 soaked10, .int .i64 soaked11] : Array Value).all (·.oneCell') = true from by simp [Value.oneCell']); have HT := Lib.hid (HT.out.trans (hb.mono HT.out.size)); clear hfo hsm hkk hst hb )
      refine ⟨fun _ => HT.out, ?_⟩
      try simp only [List.setIfInBounds_toArray, List.set_cons_succ, List.set_cons_zero]
      refine till_pure (i := 9) (v := .tuple #[.agg #[.slice t1a t1n t1c, .int .i64 vapour10, .int .i64 vapour11, .int .i64 broth10, .int .i64 broth11, .int .i64 dust10, .int .i64 dust11, .int .i64 soldDry10, .int .i64 soldDry11, .int .i64 soldWater10, .int .i64 soldWater11, .int .i64 soaked10, .int .i64 soaked11], .int .i64 k1, .int .i64 f1, .int .i64 0]) rfl rfl (by kernel_rfl) (fun _ _ _ h => h) (yields_of rfl (fun w' _ => by simp [go_sem, accCells])) (fun _ => HT.out) ?_
      try simp only [List.setIfInBounds_toArray, List.set_cons_succ, List.set_cons_zero]
      refine till_pure (i := 10) (v := .agg #[.slice t1a t1n t1c, .int .i64 vapour10, .int .i64 vapour11, .int .i64 broth10, .int .i64 broth11, .int .i64 dust10, .int .i64 dust11, .int .i64 soldDry10, .int .i64 soldDry11, .int .i64 soldWater10, .int .i64 soldWater11, .int .i64 soaked10, .int .i64 soaked11]) rfl rfl (by kernel_rfl) (fun _ _ _ h => h) (yields_of rfl (fun w' _ => by simp [go_sem])) (fun _ => HT.out) ?_
      try simp only [List.setIfInBounds_toArray, List.set_cons_succ, List.set_cons_zero]
      refine till_pure (i := 11) (v := .int .i64 k1) rfl rfl (by kernel_rfl) (fun _ _ _ h => h) (yields_of rfl (fun w' _ => by simp [go_sem])) (fun _ => HT.out) ?_
      try simp only [List.setIfInBounds_toArray, List.set_cons_succ, List.set_cons_zero]
      refine till_pure (i := 12) (v := .int .i64 f1) rfl rfl (by kernel_rfl) (fun _ _ _ h => h) (yields_of rfl (fun w' _ => by simp [go_sem])) (fun _ => HT.out) ?_
      try simp only [List.setIfInBounds_toArray, List.set_cons_succ, List.set_cons_zero]
      refine till_pure (i := 13) (v := .int .i64 0) rfl rfl (by kernel_rfl) (fun _ _ _ h => h) (yields_of rfl (fun w' _ => by simp [go_sem])) (fun _ => HT.out) ?_
      try simp only [List.setIfInBounds_toArray, List.set_cons_succ, List.set_cons_zero]
      refine till_only (j := 14) (by kernel_rfl) rfl ?_
      go_wp2_with fail
      have HGE := Lib.hid (show v1.heap.size ≤ v3.heap.size from HT.out.size)
      have HT2 := Lib.hid (HT.out.alloc HT.out.size (.cells #[.slice none 0 0, .int .i64 0, .int .i64 0, .int .i64 0, .int .i64 0, .int .i64 0, .int .i64 0, .int .i64 0, .int .i64 0, .int .i64 0, .int .i64 0, .int .i64 0, .int .i64 0] 36))
      have HL8 := Lib.hid (show Locs w3 (v3.alloc (.cells #[.slice none 0 0, .int .i64 0, .int .i64 0, .int .i64 0, .int .i64 0, .int .i64 0, .int .i64 0, .int .i64 0, .int .i64 0, .int .i64 0, .int .i64 0, .int .i64 0, .int .i64 0] 36)) [(go, 24, [.int .i64 bef, .int .i64 aft, .slice ea n ec]), (v3.heap.size, 36, [.slice none 0 0, .int .i64 0, .int .i64 0, .int .i64 0, .int .i64 0, .int .i64 0, .int .i64 0, .int .i64 0, .int .i64 0, .int .i64 0, .int .i64 0, .int .i64 0, .int .i64 0])] [(rows1, .slice t1a t1n t1c)] from HL7.out.alloc 36 [.slice none 0 0, .int .i64 0, .int .i64 0, .int .i64 0, .int .i64 0, .int .i64 0, .int .i64 0, .int .i64 0, .int .i64 0, .int .i64 0, .int .i64 0, .int .i64 0, .int .i64 0] rfl)
      clear HL7 HT
      generalize (v3.alloc (.cells #[.slice none 0 0, .int .i64 0, .int .i64 0, .int .i64 0, .int .i64 0, .int .i64 0, .int .i64 0, .int .i64 0, .int .i64 0, .int .i64 0, .int .i64 0, .int .i64 0, .int .i64 0] 36)) = v4 at HL8 HT2 ⊢
      have HT := HT2; clear HT2
      generalize v3.heap.size = gs at HL8 HGE ⊢
      refine ⟨fun _ => HT.out, ?_⟩
      try simp only [List.setIfInBounds_toArray, List.set_cons_succ, List.set_cons_zero]
      refine till_only (j := 15) (by kernel_rfl) rfl ?_
      refine wpList_store_mid rfl 36 (.tmp 8) (.tmp 39) rfl (gs) 0 #[.slice t1a t1n t1c, .int .i64 vapour10, .int .i64 vapour11, .int .i64 broth10, .int .i64 broth11, .int .i64 dust10, .int .i64 dust11, .int .i64 soldDry10, .int .i64 soldDry11, .int .i64 soldWater10, .int .i64 soldWater11, .int .i64 soaked10, .int .i64 soaked11] rfl rfl (HL8.out.there 1 (o := 0) (n := 13) rfl (Nat.le_of_ble_eq_true rfl)) size_standing (HO1.out) ?_
      change wpList _ _ _ _ _ (v4.setCells gs 0 [.slice t1a t1n t1c, .int .i64 vapour10, .int .i64 vapour11, .int .i64 broth10, .int .i64 broth11, .int .i64 dust10, .int .i64 dust11, .int .i64 soldDry10, .int .i64 soldDry11, .int .i64 soldWater10, .int .i64 soldWater11, .int .i64 soaked10, .int .i64 soaked11])
      have HT2 := Lib.hid (below_setCells HT.out (HGE.out) [.slice t1a t1n t1c, .int .i64 vapour10, .int .i64 vapour11, .int .i64 broth10, .int .i64 broth11, .int .i64 dust10, .int .i64 dust11, .int .i64 soldDry10, .int .i64 soldDry11, .int .i64 soldWater10, .int .i64 soldWater11, .int .i64 soaked10, .int .i64 soaked11] 0)
      have HL9 := Lib.hid (show Locs w3 (v4.setCells gs 0 [.slice t1a t1n t1c, .int .i64 vapour10, .int .i64 vapour11, .int .i64 broth10, .int .i64 broth11, .int .i64 dust10, .int .i64 dust11, .int .i64 soldDry10, .int .i64 soldDry11, .int .i64 soldWater10, .int .i64 soldWater11, .int .i64 soaked10, .int .i64 soaked11]) [(go, 24, [.int .i64 bef, .int .i64 aft, .slice ea n ec]), (gs, 36, [.slice t1a t1n t1c, .int .i64 vapour10, .int .i64 vapour11, .int .i64 broth10, .int .i64 broth11, .int .i64 dust10, .int .i64 dust11, .int .i64 soldDry10, .int .i64 soldDry11, .int .i64 soldWater10, .int .i64 soldWater11, .int .i64 soaked10, .int .i64 soaked11])] [(rows1, .slice t1a t1n t1c)] from HL8.out.setLoc 1 [] [.slice none 0 0, .int .i64 0, .int .i64 0, .int .i64 0, .int .i64 0, .int .i64 0, .int .i64 0, .int .i64 0, .int .i64 0, .int .i64 0, .int .i64 0, .int .i64 0, .int .i64 0] [] [.slice t1a t1n t1c, .int .i64 vapour10, .int .i64 vapour11, .int .i64 broth10, .int .i64 broth11, .int .i64 dust10, .int .i64 dust11, .int .i64 soldDry10, .int .i64 soldDry11, .int .i64 soldWater10, .int .i64 soldWater11, .int .i64 soaked10, .int .i64 soaked11] rfl rfl)
      clear HL8 HT
      generalize (v4.setCells gs 0 [.slice t1a t1n t1c, .int .i64 vapour10, .int .i64 vapour11, .int .i64 broth10, .int .i64 broth11, .int .i64 dust10, .int .i64 dust11, .int .i64 soldDry10, .int .i64 soldDry11, .int .i64 soldWater10, .int .i64 soldWater11, .int .i64 soaked10, .int .i64 soaked11]) = v5 at HL9 HT2 ⊢
      have HT := HT2; clear HT2
      change Till _ _ _ _ ∧ wpAnyT _ _ _ _ _ _ _ _ _ _
      refine ⟨fun _ => HT.out, ?_⟩
      try simp only [List.setIfInBounds_toArray, List.set_cons_succ, List.set_cons_zero]
      refine till_pure (i := 16) (v := .int .i64 k1) rfl rfl (by kernel_rfl) (fun _ _ _ h => h) (yields_of rfl (fun w' _ => by simp [go_sem])) (fun _ => HT.out) ?_
      try simp only [List.setIfInBounds_toArray, List.set_cons_succ, List.set_cons_zero]
      refine till_pure (i := 17) (v := .int .i64 f1) rfl rfl (by kernel_rfl) (fun _ _ _ h => h) (yields_of rfl (fun w' _ => by simp [go_sem])) (fun _ => HT.out) ?_
      try simp only [List.setIfInBounds_toArray, List.set_cons_succ, List.set_cons_zero]
      refine till_pure (i := 18) (v := .int .i64 0) rfl rfl (by kernel_rfl) (fun _ _ _ h => h) (yields_of rfl (fun w' _ => by simp [go_sem])) (fun _ => HT.out) ?_
      try simp only [List.setIfInBounds_toArray, List.set_cons_succ, List.set_cons_zero]
      refine till_done (by kernel_rfl) ?_
      go_wp2_with fail
      go_meet
      case rel => exact ⟨_, _, _, _, _, _, _, _, _, _, _, _, _, _, _, _, _, _, _, rfl, rfl, rfl, rfl, HFO1, HSM1, HKK1, HL9⟩
    · go_wp2_with fail
      have HGE := Lib.hid (show v1.heap.size ≤ v2.heap.size from HT.out.size)
      have HT2 := Lib.hid (HT.out.alloc HT.out.size (.cells #[.slice none 0 0, .int .i64 0, .int .i64 0, .int .i64 0, .int .i64 0, .int .i64 0, .int .i64 0, .int .i64 0, .int .i64 0, .int .i64 0, .int .i64 0, .int .i64 0, .int .i64 0] 36))
      have HL7 := Lib.hid (show Locs w3 (v2.alloc (.cells #[.slice none 0 0, .int .i64 0, .int .i64 0, .int .i64 0, .int .i64 0, .int .i64 0, .int .i64 0, .int .i64 0, .int .i64 0, .int .i64 0, .int .i64 0, .int .i64 0, .int .i64 0] 36)) [(go, 24, [.int .i64 bef, .int .i64 aft, .slice ea n ec]), (v2.heap.size, 36, [.slice none 0 0, .int .i64 0, .int .i64 0, .int .i64 0, .int .i64 0, .int .i64 0, .int .i64 0, .int .i64 0, .int .i64 0, .int .i64 0, .int .i64 0, .int .i64 0, .int .i64 0])] [] from HL6.out.alloc 36 [.slice none 0 0, .int .i64 0, .int .i64 0, .int .i64 0, .int .i64 0, .int .i64 0, .int .i64 0, .int .i64 0, .int .i64 0, .int .i64 0, .int .i64 0, .int .i64 0, .int .i64 0] rfl)
      clear HL6 HT
      generalize (v2.alloc (.cells #[.slice none 0 0, .int .i64 0, .int .i64 0, .int .i64 0, .int .i64 0, .int .i64 0, .int .i64 0, .int .i64 0, .int .i64 0, .int .i64 0, .int .i64 0, .int .i64 0, .int .i64 0] 36)) = v6 at HL7 HT2 ⊢
      have HT := HT2; clear HT2
      generalize v2.heap.size = gs at HL7 HGE ⊢
      refine ⟨fun _ => HT.out, ?_⟩
      try simp only [List.setIfInBounds_toArray, List.set_cons_succ, List.set_cons_zero]
      refine till_only (j := 8) (by kernel_rfl) rfl ?_
      go_wp2_with (go_at_call 16; refine (HFO.out K hK1 _ HL7.out.low).mono ?_; rintro e v7 ⟨rows1, tv1, acc1, k1, f1, hfo, hsm, hkk, rfl, hb, hst⟩; obtain ⟨⟨vapour10, vapour11⟩, ⟨broth10, broth11⟩, ⟨dust10, dust11⟩, ⟨soldDry10, soldDry11⟩, ⟨soldWater10, soldWater11⟩, ⟨soaked10, soaked11⟩⟩ := acc1; obtain ⟨t1a, t1n, t1c, rfl⟩ := row_slice hst.things; have HFO1 := Lib.hid hfo; have HSM1 := Lib.hid hsm; have HKK1 := Lib.hid hkk; have HL8 := Lib.hid (HL7.out.stand hb hst rfl); have HO1 := Lib.hid (show (#[.slice t1a t1n t1c, .int .i64 vapour10, .int .i64 vapour11, .int .i64 broth10, .int .i64 broth11, .int .i64 dust10, .int .i64 dust11, .int .i64 soldDry10, .int .i64 soldDry11, .int .i64 soldWater10, .int .i64 soldWater11, .int .i64 soaked10, .int .i64 soaked11] : Array Value).all (·.oneCell') = true from by simp [Value.oneCell']); have HT := Lib.hid (HT.out.trans (hb.mono HT.out.size)); clear hfo hsm hkk hst hb )
      refine ⟨fun _ => HT.out, ?_⟩
      try simp only [List.setIfInBounds_toArray, List.set_cons_succ, List.set_cons_zero]
      refine till_pure (i := 9) (v := .tuple #[.agg #[.slice t1a t1n t1c, .int .i64 vapour10, .int .i64 vapour11, .int .i64 broth10, .int .i64 broth11, .int .i64 dust10, .int .i64 dust11, .int .i64 soldDry10, .int .i64 soldDry11, .int .i64 soldWater10, .int .i64 soldWater11, .int .i64 soaked10, .int .i64 soaked11], .int .i64 k1, .int .i64 f1, .int .i64 0]) rfl rfl (by kernel_rfl) (fun _ _ _ h => h) (yields_of rfl (fun w' _ => by simp [go_sem, accCells])) (fun _ => HT.out) ?_
      try simp only [List.setIfInBounds_toArray, List.set_cons_succ, List.set_cons_zero]
      refine till_pure (i := 10) (v := .agg #[.slice t1a t1n t1c, .int .i64 vapour10, .int .i64 vapour11, .int .i64 broth10, .int .i64 broth11, .int .i64 dust10, .int .i64 dust11, .int .i64 soldDry10, .int .i64 soldDry11, .int .i64 soldWater10, .int .i64 soldWater11, .int .i64 soaked10, .int .i64 soaked11]) rfl rfl (by kernel_rfl) (fun _ _ _ h => h) (yields_of rfl (fun w' _ => by simp [go_sem])) (fun _ => HT.out) ?_
      try simp only [List.setIfInBounds_toArray, List.set_cons_succ, List.set_cons_zero]
      refine till_pure (i := 11) (v := .int .i64 k1) rfl rfl (by kernel_rfl) (fun _ _ _ h => h) (yields_of rfl (fun w' _ => by simp [go_sem])) (fun _ => HT.out) ?_
      try simp only [List.setIfInBounds_toArray, List.set_cons_succ, List.set_cons_zero]
      refine till_pure (i := 12) (v := .int .i64 f1) rfl rfl (by kernel_rfl) (fun _ _ _ h => h) (yields_of rfl (fun w' _ => by simp [go_sem])) (fun _ => HT.out) ?_
      try simp only [List.setIfInBounds_toArray, List.set_cons_succ, List.set_cons_zero]
      refine till_pure (i := 13) (v := .int .i64 0) rfl rfl (by kernel_rfl) (fun _ _ _ h => h) (yields_of rfl (fun w' _ => by simp [go_sem])) (fun _ => HT.out) ?_
      try simp only [List.setIfInBounds_toArray, List.set_cons_succ, List.set_cons_zero]
      refine till_only (j := 15) (by kernel_rfl) rfl ?_
      refine wpList_store_mid rfl 36 (.tmp 8) (.tmp 39) rfl (gs) 0 #[.slice t1a t1n t1c, .int .i64 vapour10, .int .i64 vapour11, .int .i64 broth10, .int .i64 broth11, .int .i64 dust10, .int .i64 dust11, .int .i64 soldDry10, .int .i64 soldDry11, .int .i64 soldWater10, .int .i64 soldWater11, .int .i64 soaked10, .int .i64 soaked11] rfl rfl (HL8.out.there 1 (o := 0) (n := 13) rfl (Nat.le_of_ble_eq_true rfl)) size_standing (HO1.out) ?_
      change wpList _ _ _ _ _ (v7.setCells gs 0 [.slice t1a t1n t1c, .int .i64 vapour10, .int .i64 vapour11, .int .i64 broth10, .int .i64 broth11, .int .i64 dust10, .int .i64 dust11, .int .i64 soldDry10, .int .i64 soldDry11, .int .i64 soldWater10, .int .i64 soldWater11, .int .i64 soaked10, .int .i64 soaked11])
      have HT2 := Lib.hid (below_setCells HT.out (HGE.out) [.slice t1a t1n t1c, .int .i64 vapour10, .int .i64 vapour11, .int .i64 broth10, .int .i64 broth11, .int .i64 dust10, .int .i64 dust11, .int .i64 soldDry10, .int .i64 soldDry11, .int .i64 soldWater10, .int .i64 soldWater11, .int .i64 soaked10, .int .i64 soaked11] 0)
      have HL9 := Lib.hid (show Locs w3 (v7.setCells gs 0 [.slice t1a t1n t1c, .int .i64 vapour10, .int .i64 vapour11, .int .i64 broth10, .int .i64 broth11, .int .i64 dust10, .int .i64 dust11, .int .i64 soldDry10, .int .i64 soldDry11, .int .i64 soldWater10, .int .i64 soldWater11, .int .i64 soaked10, .int .i64 soaked11]) [(go, 24, [.int .i64 bef, .int .i64 aft, .slice ea n ec]), (gs, 36, [.slice t1a t1n t1c, .int .i64 vapour10, .int .i64 vapour11, .int .i64 broth10, .int .i64 broth11, .int .i64 dust10, .int .i64 dust11, .int .i64 soldDry10, .int .i64 soldDry11, .int .i64 soldWater10, .int .i64 soldWater11, .int .i64 soaked10, .int .i64 soaked11])] [(rows1, .slice t1a t1n t1c)] from HL8.out.setLoc 1 [] [.slice none 0 0, .int .i64 0, .int .i64 0, .int .i64 0, .int .i64 0, .int .i64 0, .int .i64 0, .int .i64 0, .int .i64 0, .int .i64 0, .int .i64 0, .int .i64 0, .int .i64 0] [] [.slice t1a t1n t1c, .int .i64 vapour10, .int .i64 vapour11, .int .i64 broth10, .int .i64 broth11, .int .i64 dust10, .int .i64 dust11, .int .i64 soldDry10, .int .i64 soldDry11, .int .i64 soldWater10, .int .i64 soldWater11, .int .i64 soaked10, .int .i64 soaked11] rfl rfl)
      clear HL8 HT
      generalize (v7.setCells gs 0 [.slice t1a t1n t1c, .int .i64 vapour10, .int .i64 vapour11, .int .i64 broth10, .int .i64 broth11, .int .i64 dust10, .int .i64 dust11, .int .i64 soldDry10, .int .i64 soldDry11, .int .i64 soldWater10, .int .i64 soldWater11, .int .i64 soaked10, .int .i64 soaked11]) = v8 at HL9 HT2 ⊢
      have HT := HT2; clear HT2
      change Till _ _ _ _ ∧ wpAnyT _ _ _ _ _ _ _ _ _ _
      refine ⟨fun _ => HT.out, ?_⟩
      try simp only [List.setIfInBounds_toArray, List.set_cons_succ, List.set_cons_zero]
      refine till_pure (i := 16) (v := .int .i64 k1) rfl rfl (by kernel_rfl) (fun _ _ _ h => h) (yields_of rfl (fun w' _ => by simp [go_sem])) (fun _ => HT.out) ?_
      try simp only [List.setIfInBounds_toArray, List.set_cons_succ, List.set_cons_zero]
      refine till_pure (i := 17) (v := .int .i64 f1) rfl rfl (by kernel_rfl) (fun _ _ _ h => h) (yields_of rfl (fun w' _ => by simp [go_sem])) (fun _ => HT.out) ?_
      try simp only [List.setIfInBounds_toArray, List.set_cons_succ, List.set_cons_zero]
      refine till_pure (i := 18) (v := .int .i64 0) rfl rfl (by kernel_rfl) (fun _ _ _ h => h) (yields_of rfl (fun w' _ => by simp [go_sem])) (fun _ => HT.out) ?_
      try simp only [List.setIfInBounds_toArray, List.set_cons_succ, List.set_cons_zero]
      refine till_done (by kernel_rfl) ?_
      go_wp2_with fail
      go_meet
      case rel => exact ⟨_, _, _, _, _, _, _, _, _, _, _, _, _, _, _, _, _, _, _, rfl, rfl, rfl, rfl, HFO1, HSM1, HKK1, HL9⟩
  case rest =>
    obtain ⟨gs, rows1, t1a, t1n, t1c, vapour10, vapour11, broth10, broth11, dust10, dust11, soldDry10, soldDry11, soldWater10, soldWater11, soaked10, soaked11, k1, f1, rfl, rfl, rfl, rfl, HFO1, HSM1, HKK1, HL6⟩ := hcut
    skip
    have hkn : k1 ≤ n := Nat.le_trans HKK1.out hK1
    have d1 : decide ((k1 : Int) < 0) = false := by simp
    have d2 : decide ((n : Int) < (k1 : Int)) = false := by simp; omega
    have hk0 : ¬ (k1 : Int) < 0 := by omega
    have hk2 : ¬ (n : Int) < (k1 : Int) := by omega
    have o0 := (show wc.cell? ⟨go, 2, none⟩ = some (.slice ea n ec) from HL6.out.at 0 2 (v := .slice ea n ec) rfl rfl)
    go_wp2
    clear d1 d2 hk0 hk2 o0
    have HFITS := Lib.hid (show ∀ d ∈ es, Fits d from errDeeds_all (errYard_ok HEOK.out).2.2.2)
    have HEF := Lib.hid (exact_facts HFO1.out (by rw [HEL.out]; exact hK1) (fun d hd => ⟨(HFITS.out d hd).fine, (HONE.out d hd).1, (HONE.out d hd).2⟩))
    clear HFO1
    go_loopw [12, 13, 14] (fun da wa iv wr => ∃ (i : Nat) (D Wt : Int), i ≤ k1 ∧ da = .int .i64 D ∧ wa = .int .i64 Wt ∧ iv = .int .i64 i ∧ Hid (D = piledIn (fun d => d.a.lo) (es.take i)) ∧ Hid (Wt = piledIn (fun d => d.b.lo) (es.take i)) ∧ (0 ≤ D ∧ D ≤ 100000000 * (i : Int)) ∧ (0 ≤ Wt ∧ Wt ≤ 100000000 * (i : Int)) ∧ Hid (Locs w3 wr [(go, 24, [.int .i64 bef, .int .i64 aft, .slice ea n ec]), (gs, 36, [.slice t1a t1n t1c, .int .i64 vapour10, .int .i64 vapour11, .int .i64 broth10, .int .i64 broth11, .int .i64 dust10, .int .i64 dust11, .int .i64 soldDry10, .int .i64 soldDry11, .int .i64 soldWater10, .int .i64 soldWater11, .int .i64 soaked10, .int .i64 soaked11])] [(rows1, .slice t1a t1n t1c)])) (fun _ _ iv _ => k1 - (intOf iv).toNat)
    case atStart => exact ⟨0, 0, 0, Nat.zero_le _, rfl, rfl, rfl, Lib.hid piled_zero.symm, Lib.hid piled_zero.symm, by omega, by omega, HL6⟩
    case round =>
      clear HL6
      obtain ⟨i, D, Wt, hi, rfl, rfl, rfl, HD, HWt, hDb, hWb, HL7⟩ := hrel
      have o0 := (show wr.cell? ⟨go, 2, none⟩ = some (.slice ea n ec) from HL7.out.at 0 2 (v := .slice ea n ec) rfl rfl)
      by_cases hlt : i < k1
      · have hlt' : i < es.length := by rw [HEL.out]; omega
        obtain ⟨b, off, rfl, hbl, ⟨hnc, hcm⟩, hcells⟩ := HECS.out (by omega)
        have hin : i < n := by omega
        have hltI : (i : Int) < (k1 : Int) := by omega
        have hinI : (i : Int) < (n : Int) := by omega
        obtain ⟨⟨kind, dy, code, other, ⟨al, ah⟩, ⟨bl, bh⟩⟩, hd⟩ : ∃ d, d = es[i]! := ⟨_, rfl⟩
        have hd := hd.symm
        have hft := HFITS.out _ (get_in hlt')
        rw [hd] at hft
        have hal : 0 ≤ al ∧ al ≤ 100000000 := by have h1 := hft.fine.a; have h2 := hft.a8; unfold Bd.Ok at h1; simp only at h1 h2; omega
        have hbl2 : 0 ≤ bl ∧ bl ≤ 100000000 := by have h1 := hft.fine.b; have h2 := hft.b8; unfold Bd.Ok at h1; simp only at h1 h2; omega
        have c0 := (show wr.cell? ⟨b, off + i * 8, none⟩ = some (.int .i64 kind) from (HL7.out.low.cell (p := ⟨b, off + i * 8 + 0, none⟩) hbl).trans (hcells i hlt' 0 _ (by rw [hd]; rfl)))
        have c4 := (show wr.cell? ⟨b, off + i * 8 + 4, none⟩ = some (.int .i64 al) from (HL7.out.low.cell (p := ⟨b, off + i * 8 + 4, none⟩) hbl).trans (hcells i hlt' 4 _ (by rw [hd]; rfl)))
        have c6 := (show wr.cell? ⟨b, off + i * 8 + 6, none⟩ = some (.int .i64 bl) from (HL7.out.low.cell (p := ⟨b, off + i * 8 + 6, none⟩) hbl).trans (hcells i hlt' 6 _ (by rw [hd]; rfl)))
        have HD' := Lib.hid (piled_step (f := fun d => d.a.lo) hlt')
        have HW' := Lib.hid (piled_step (f := fun d => d.b.lo) hlt')
        rw [hd] at HD' HW'
        simp only at HD' HW'
        clear hft hcells hd
        by_cases hk1 : kind = 1
        · subst hk1
          rw [if_pos rfl] at HD' HW'
          go_upto_region 12 with (fail)
          have p2 := cell_regrown o0
          have p4 := cell_regrown c4
          have p6 := cell_regrown c6
          clear o0 c0 c4 c6
          refine wp_region_quiet_below (by kernel_rfl) (by kernel_rfl) ?_
          repeat (go_big_quiet_step (fail))
          refine wpQuiet_nil ?_
          intro wq hw'
          have hb8 : Below wr.heap.size wr wq := by obtain ⟨⟨dq, osq⟩, hw''⟩ := hw'; rw [hw'']; exact below_regrown _ dq osq
          clear hw'  p2 p4 p6
          have HL8 := Lib.hid (HL7.out.below hb8)
          clear hb8 HL7
          generalize wq = v9 at HL8 ⊢
          go_wp2
          go_roundw
          case rel => refine ⟨i + 1, D + al, Wt + bl, by omega, by go_num, by go_num, by go_num, Lib.hid (by rw [HD.out]; exact HD'.out.symm), Lib.hid (by rw [HWt.out]; exact HW'.out.symm), by omega, by omega, HL8⟩
          case measure => simp [intOf]; omega
        · rw [if_neg hk1] at HD' HW'
          have hk2 : (kind == 1) = false := by simpa using hk1
          go_wp2
          go_roundw
          case rel => refine ⟨i + 1, D, Wt, by omega, by go_num, by go_num, by go_num, Lib.hid (by rw [HD.out]; have := HD'.out; omega), Lib.hid (by rw [HWt.out]; have := HW'.out; omega), by omega, by omega, HL7⟩
          case measure => simp [intOf]; omega
      · have hik : i = k1 := by omega
        subst hik
        have hac := HSM1.out.acc
        have hcap := cap_le (i := i) (by omega)
        obtain ⟨⟨e1, e2, e3, e4, e5, e6⟩, m1, m2⟩ := (show OneAcc (⟨⟨vapour10, vapour11⟩, ⟨broth10, broth11⟩, ⟨dust10, dust11⟩, ⟨soldDry10, soldDry11⟩, ⟨soldWater10, soldWater11⟩, ⟨soaked10, soaked11⟩⟩ : Yd.Acc) ∧ _ ∧ _ from ⟨HEF.out.1.acc, HEF.out.2.1, HEF.out.2.2⟩)
        have HONES := Lib.hid HEF.out.1
        have hst := HSM1.out.stacks
        have tb1 := total_bounds (f := fun x : Stk Code => x.dry.lo) (B := 2000000000000000) (l := rows1.map (fun p : SRow => p.1)) (fun x hx => ⟨(hst x hx).dry.1, by have := (hst x hx).dry; unfold Bd.Up at this; omega⟩)
        have tb2 := total_bounds (f := fun x : Stk Code => x.water.lo) (B := 2000000000000000) (l := rows1.map (fun p : SRow => p.1)) (fun x hx => ⟨(hst x hx).water.1, by have := (hst x hx).water; unfold Bd.Up at this; omega⟩)
        obtain ⟨u1, u2, u3, u4, u5, u6⟩ := hac
        unfold Bd.Up at u1 u2 u3 u4 u5 u6
        unfold Bd.One at e1 e2 e3 e4 e5 e6
        simp only [stOf] at m1 m2 u1 u2 u3 u4 u5 u6 e1 e2 e3 e4 e5 e6
        rw [← HD.out] at m1
        rw [← HWt.out] at m2
        have hlen := (HL7.out.stood 0 rfl).few
        rw [List.length_map] at tb1 tb2
        have HTD := Lib.hid m1
        have HTW := Lib.hid m2
        generalize hTd : total (fun x : Stk Code => x.dry.lo) (rows1.map (fun p : SRow => p.1)) = Td at m1 tb1 HTD
        generalize hTw : total (fun x : Stk Code => x.water.lo) (rows1.map (fun p : SRow => p.1)) = Tw at m2 tb2 HTW
        have HTd := Lib.hid hTd; have HTw := Lib.hid hTw
        have HST := Lib.hid hst
        have hTd1 : 0 ≤ Td ∧ Td ≤ 16000000000000000 := by omega
        have hTw1 : 0 ≤ Tw ∧ Tw ≤ 16000000000000000 := by omega
        have HEQ := Lib.hid (And.intro e1 (And.intro e2 (And.intro e3 (And.intro e4 (And.intro e5 e6)))))
        have hbvapour10 : 0 ≤ vapour10 ∧ vapour10 ≤ 2000000000000000 := by omega
        have hbbroth10 : 0 ≤ broth10 ∧ broth10 ≤ 2000000000000000 := by omega
        have hbdust10 : 0 ≤ dust10 ∧ dust10 ≤ 2000000000000000 := by omega
        have hbsoldDry10 : 0 ≤ soldDry10 ∧ soldDry10 ≤ 2000000000000000 := by omega
        have hbsoldWater10 : 0 ≤ soldWater10 ∧ soldWater10 ≤ 2000000000000000 := by omega
        have hbsoaked10 : 0 ≤ soaked10 ∧ soaked10 ≤ 2000000000000000 := by omega
        have hD9 : 0 ≤ D ∧ D ≤ 2000000000 := by omega
        have hW9 : 0 ≤ Wt ∧ Wt ≤ 2000000000 := by omega
        clear hst tb1 tb2 hTd hTw HD HWt HEF hcap m1 m2 e1 e2 e3 e4 e5 e6
        clear o0
        have o0 := (show wr.cell? ⟨go, 2, none⟩ = some (.slice ea n ec) from HL7.out.at 0 2 (v := .slice ea n ec) rfl rfl)
        have s0 := (show wr.cell? ⟨gs, 1, none⟩ = some (.int .i64 vapour10) from HL7.out.at 1 1 (v := .int .i64 vapour10) rfl rfl)
        have s1 := (show wr.cell? ⟨gs, 2, none⟩ = some (.int .i64 vapour11) from HL7.out.at 1 2 (v := .int .i64 vapour11) rfl rfl)
        have s2 := (show wr.cell? ⟨gs, 3, none⟩ = some (.int .i64 broth10) from HL7.out.at 1 3 (v := .int .i64 broth10) rfl rfl)
        have s3 := (show wr.cell? ⟨gs, 4, none⟩ = some (.int .i64 broth11) from HL7.out.at 1 4 (v := .int .i64 broth11) rfl rfl)
        have s4 := (show wr.cell? ⟨gs, 5, none⟩ = some (.int .i64 dust10) from HL7.out.at 1 5 (v := .int .i64 dust10) rfl rfl)
        have s5 := (show wr.cell? ⟨gs, 6, none⟩ = some (.int .i64 dust11) from HL7.out.at 1 6 (v := .int .i64 dust11) rfl rfl)
        have s6 := (show wr.cell? ⟨gs, 7, none⟩ = some (.int .i64 soldDry10) from HL7.out.at 1 7 (v := .int .i64 soldDry10) rfl rfl)
        have s7 := (show wr.cell? ⟨gs, 8, none⟩ = some (.int .i64 soldDry11) from HL7.out.at 1 8 (v := .int .i64 soldDry11) rfl rfl)
        have s8 := (show wr.cell? ⟨gs, 9, none⟩ = some (.int .i64 soldWater10) from HL7.out.at 1 9 (v := .int .i64 soldWater10) rfl rfl)
        have s9 := (show wr.cell? ⟨gs, 10, none⟩ = some (.int .i64 soldWater11) from HL7.out.at 1 10 (v := .int .i64 soldWater11) rfl rfl)
        have s10 := (show wr.cell? ⟨gs, 11, none⟩ = some (.int .i64 soaked10) from HL7.out.at 1 11 (v := .int .i64 soaked10) rfl rfl)
        have s11 := (show wr.cell? ⟨gs, 12, none⟩ = some (.int .i64 soaked11) from HL7.out.at 1 12 (v := .int .i64 soaked11) rfl rfl)
        go_upto_region 14 with (((with_reducible refine at_store 34 (.tmp 15) (.tmp 87) ?_); go_must (refine wpList_store_mid rfl 34 (.tmp 15) (.tmp 87) rfl wr.heap.size 0 #[.int .i64 vapour10, .int .i64 vapour11, .int .i64 broth10, .int .i64 broth11, .int .i64 dust10, .int .i64 dust11, .int .i64 soldDry10, .int .i64 soldDry11, .int .i64 soldWater10, .int .i64 soldWater11, .int .i64 soaked10, .int .i64 soaked11] rfl rfl ((Blk.new wr 34 #[.int .i64 0, .int .i64 0, .int .i64 0, .int .i64 0, .int .i64 0, .int .i64 0, .int .i64 0, .int .i64 0, .int .i64 0, .int .i64 0, .int .i64 0, .int .i64 0]).there (o := 0) (n := 12) (Nat.le_of_ble_eq_true rfl)) size_account (by simp [Value.oneCell']) ?_)))
        clear o0 s0 s1 s2 s3 s4 s5 s6 s7 s8 s9 s10 s11
        have HL8 := Lib.hid (show Locs w3 ((wr.alloc (.cells #[.int .i64 0, .int .i64 0, .int .i64 0, .int .i64 0, .int .i64 0, .int .i64 0, .int .i64 0, .int .i64 0, .int .i64 0, .int .i64 0, .int .i64 0, .int .i64 0] 34)).setCells wr.heap.size 0 [.int .i64 vapour10, .int .i64 vapour11, .int .i64 broth10, .int .i64 broth11, .int .i64 dust10, .int .i64 dust11, .int .i64 soldDry10, .int .i64 soldDry11, .int .i64 soldWater10, .int .i64 soldWater11, .int .i64 soaked10, .int .i64 soaked11]) [(go, 24, [.int .i64 bef, .int .i64 aft, .slice ea n ec]), (gs, 36, [.slice t1a t1n t1c, .int .i64 vapour10, .int .i64 vapour11, .int .i64 broth10, .int .i64 broth11, .int .i64 dust10, .int .i64 dust11, .int .i64 soldDry10, .int .i64 soldDry11, .int .i64 soldWater10, .int .i64 soldWater11, .int .i64 soaked10, .int .i64 soaked11]), (wr.heap.size, 34, [.int .i64 vapour10, .int .i64 vapour11, .int .i64 broth10, .int .i64 broth11, .int .i64 dust10, .int .i64 dust11, .int .i64 soldDry10, .int .i64 soldDry11, .int .i64 soldWater10, .int .i64 soldWater11, .int .i64 soaked10, .int .i64 soaked11])] [(rows1, .slice t1a t1n t1c)] from (HL7.out.alloc 34 [.int .i64 0, .int .i64 0, .int .i64 0, .int .i64 0, .int .i64 0, .int .i64 0, .int .i64 0, .int .i64 0, .int .i64 0, .int .i64 0, .int .i64 0, .int .i64 0] rfl).setLoc 2 [] [.int .i64 0, .int .i64 0, .int .i64 0, .int .i64 0, .int .i64 0, .int .i64 0, .int .i64 0, .int .i64 0, .int .i64 0, .int .i64 0, .int .i64 0, .int .i64 0] [] [.int .i64 vapour10, .int .i64 vapour11, .int .i64 broth10, .int .i64 broth11, .int .i64 dust10, .int .i64 dust11, .int .i64 soldDry10, .int .i64 soldDry11, .int .i64 soldWater10, .int .i64 soldWater11, .int .i64 soaked10, .int .i64 soaked11] rfl rfl)
        clear HL7
        generalize ((wr.alloc (.cells #[.int .i64 0, .int .i64 0, .int .i64 0, .int .i64 0, .int .i64 0, .int .i64 0, .int .i64 0, .int .i64 0, .int .i64 0, .int .i64 0, .int .i64 0, .int .i64 0] 34)).setCells wr.heap.size 0 [.int .i64 vapour10, .int .i64 vapour11, .int .i64 broth10, .int .i64 broth11, .int .i64 dust10, .int .i64 dust11, .int .i64 soldDry10, .int .i64 soldDry11, .int .i64 soldWater10, .int .i64 soldWater11, .int .i64 soaked10, .int .i64 soaked11]) = v10 at HL8 ⊢
        generalize wr.heap.size = ga at HL8 ⊢
        try simp only [Act.put]
        have s0 := (show v10.cell? ⟨ga, 0, none⟩ = some (.int .i64 vapour10) from HL8.out.at 2 0 (v := .int .i64 vapour10) rfl rfl)
        have s1 := (show v10.cell? ⟨ga, 2, none⟩ = some (.int .i64 broth10) from HL8.out.at 2 2 (v := .int .i64 broth10) rfl rfl)
        have s2 := (show v10.cell? ⟨ga, 4, none⟩ = some (.int .i64 dust10) from HL8.out.at 2 4 (v := .int .i64 dust10) rfl rfl)
        have s3 := (show v10.cell? ⟨ga, 6, none⟩ = some (.int .i64 soldDry10) from HL8.out.at 2 6 (v := .int .i64 soldDry10) rfl rfl)
        have s4 := (show v10.cell? ⟨ga, 8, none⟩ = some (.int .i64 soldWater10) from HL8.out.at 2 8 (v := .int .i64 soldWater10) rfl rfl)
        have s5 := (show v10.cell? ⟨ga, 10, none⟩ = some (.int .i64 soaked10) from HL8.out.at 2 10 (v := .int .i64 soaked10) rfl rfl)
        go_wp2
        clear s0 s1 s2 s3 s4 s5
        have HLEN := Lib.hid (show t1n = rows1.length from row_len (HL8.out.stood 0 rfl).things)
        have HTd0 := Lib.hid (show D - broth10 - dust10 - soldDry10 = total (fun x : Stk Code => x.dry.lo) ((rows1.map (fun p : SRow => p.1)).drop 0) from by have h1 := HTD.out; have h2 := HTd.out; rw [List.drop_zero]; omega)
        have HTw0 := Lib.hid (show Wt + soaked10 - vapour10 - soldWater10 = total (fun x : Stk Code => x.water.lo) ((rows1.map (fun p : SRow => p.1)).drop 0) from by have h1 := HTW.out; have h2 := HTw.out; rw [List.drop_zero]; omega)
        have hb0 : 0 ≤ D - broth10 - dust10 - soldDry10 ∧ D - broth10 - dust10 - soldDry10 ≤ 16000000000000000 := by have h1 := HTD.out; omega
        have hb1 : 0 ≤ Wt + soaked10 - vapour10 - soldWater10 ∧ Wt + soaked10 - vapour10 - soldWater10 ≤ 16000000000000000 := by have h1 := HTW.out; omega
        have HTdB := Lib.hid (fun q => total_bounds (f := (fun x : Stk Code => x.dry.lo)) (B := 2000000000000000) (l := (rows1.map (fun p : SRow => p.1)).drop q) (fun x hx => ⟨(HST.out x (List.mem_of_mem_drop hx)).dry.1, by have h1 := (HST.out x (List.mem_of_mem_drop hx)).dry; have h2 := cap_le (i := i) (by omega); unfold Bd.Up at h1; omega⟩))
        have HTwB := Lib.hid (fun q => total_bounds (f := (fun x : Stk Code => x.water.lo)) (B := 2000000000000000) (l := (rows1.map (fun p : SRow => p.1)).drop q) (fun x hx => ⟨(HST.out x (List.mem_of_mem_drop hx)).water.1, by have h1 := (HST.out x (List.mem_of_mem_drop hx)).water; have h2 := cap_le (i := i) (by omega); unfold Bd.Up at h1; omega⟩))
        have hm8 : t1n ≤ 8 := by rw [HLEN.out]; exact hlen
        clear HTD HTW HTd HTw hTd1 hTw1 hlen
        go_loopw [12, 13, 16] (fun da wa qv wr => ∃ (q : Nat) (D2 W2 : Int), q ≤ t1n ∧ da = .int .i64 D2 ∧ wa = .int .i64 W2 ∧ qv = .int .i64 q ∧ Hid (D2 = total (fun x : Stk Code => x.dry.lo) ((rows1.map (fun p : SRow => p.1)).drop q)) ∧ Hid (W2 = total (fun x : Stk Code => x.water.lo) ((rows1.map (fun p : SRow => p.1)).drop q)) ∧ (0 ≤ D2 ∧ D2 ≤ 16000000000000000) ∧ (0 ≤ W2 ∧ W2 ≤ 16000000000000000) ∧ Hid (Locs w3 wr [(go, 24, [.int .i64 bef, .int .i64 aft, .slice ea n ec]), (gs, 36, [.slice t1a t1n t1c, .int .i64 vapour10, .int .i64 vapour11, .int .i64 broth10, .int .i64 broth11, .int .i64 dust10, .int .i64 dust11, .int .i64 soldDry10, .int .i64 soldDry11, .int .i64 soldWater10, .int .i64 soldWater11, .int .i64 soaked10, .int .i64 soaked11]), (ga, 34, [.int .i64 vapour10, .int .i64 vapour11, .int .i64 broth10, .int .i64 broth11, .int .i64 dust10, .int .i64 dust11, .int .i64 soldDry10, .int .i64 soldDry11, .int .i64 soldWater10, .int .i64 soldWater11, .int .i64 soaked10, .int .i64 soaked11])] [(rows1, .slice t1a t1n t1c)])) (fun _ _ qv _ => t1n - (intOf qv).toNat)
        case atStart => exact ⟨0, _, _, Nat.zero_le _, rfl, rfl, rfl, HTd0, HTw0, hb0, hb1, HL8⟩
        case round =>
          clear HL8 HTd0 HTw0 hb0 hb1
          obtain ⟨q, D2, W2, hq, rfl, rfl, rfl, HD2, HW2, hD2, hW2, HL9⟩ := hrel
          have s0 := (show wr.cell? ⟨gs, 0, none⟩ = some (.slice t1a t1n t1c) from HL9.out.at 1 0 (v := .slice t1a t1n t1c) rfl rfl)
          by_cases hqt : q < t1n
          · have hqr : q < rows1.length := by rw [← HLEN.out]; exact hqt
            have hqI : (q : Int) < (t1n : Int) := by omega
            obtain ⟨p, hp⟩ : ∃ p, rows1[q]? = some p := ⟨_, List.getElem?_eq_getElem hqr⟩
            have hmem := List.mem_of_getElem? hp
            have hsl : p.1 ∈ (rows1.map (fun p : SRow => p.1)) := List.mem_map_of_mem hmem
            have hget : (rows1.map (fun p : SRow => p.1))[q]? = some p.1 := by rw [List.getElem?_map, hp]; rfl
            have HTDd := total_at (fun x : Stk Code => x.dry.lo) hget
            have HTDw := total_at (fun x : Stk Code => x.water.lo) hget
            obtain ⟨gp, cp, hvp, hgp, hcp⟩ := (HL9.out.stood 0 rfl).row hp
            obtain ⟨fa, fn, fc, hfv⟩ := row_slice ((HL9.out.stood 0 rfl).froms p hmem)
            have hone := one_at HONES.out (x := p.1) hsl
            have hsm := HST.out p.1 hsl
            have hcap := cap_le (i := i) (by omega)
            obtain ⟨⟨code, ⟨dl, dh⟩, ⟨wl, wh⟩, pil, boi, src⟩, pv⟩ := p
            simp only at hfv hone hsm HTDd HTDw
            subst hfv
            have hdl := hsm.dry; have hwl := hsm.water
            have e1 := hone.dry; have e2 := hone.water
            unfold Bd.Up at hdl hwl
            unfold Bd.One at e1 e2
            simp only at hdl hwl e1 e2
            have b1 : (dl != dh) = false := by simp [e1]
            have b2 : (wl != wh) = false := by simp [e2]
            have b3 : decide (dl < 0) = false := by simp; omega
            have b4 : decide (wl < 0) = false := by simp; omega
            have HTDd := Lib.hid HTDd; have HTDw := Lib.hid HTDw
            have hdl1 : 0 ≤ dl ∧ dl ≤ 2000000000000000 := by omega
            have hwl1 : 0 ≤ wl ∧ wl ≤ 2000000000000000 := by omega
            injection hvp with ea2 en2 ec2
            subst ea2 ec2
            have HOx := Lib.hid (show (#[.string code, .int .i64 dl, .int .i64 dh, .int .i64 wl, .int .i64 wh, .int .i64 pil, .int .i64 boi, .slice fa fn fc] : Array Value).all (·.oneCell') = true from by simp [Value.oneCell'])
            have c0 := (show wr.cell? ⟨gp, q * 8, none⟩ = some (.string code) from hcp 0 (by decide))
            have c1 := (show wr.cell? ⟨gp, q * 8 + 1, none⟩ = some (.int .i64 dl) from hcp 1 (by decide))
            have c2 := (show wr.cell? ⟨gp, q * 8 + 2, none⟩ = some (.int .i64 dh) from hcp 2 (by decide))
            have c3 := (show wr.cell? ⟨gp, q * 8 + 3, none⟩ = some (.int .i64 wl) from hcp 3 (by decide))
            have c4 := (show wr.cell? ⟨gp, q * 8 + 4, none⟩ = some (.int .i64 wh) from hcp 4 (by decide))
            have c5 := (show wr.cell? ⟨gp, q * 8 + 5, none⟩ = some (.int .i64 pil) from hcp 5 (by decide))
            have c6 := (show wr.cell? ⟨gp, q * 8 + 6, none⟩ = some (.int .i64 boi) from hcp 6 (by decide))
            have c7 := (show wr.cell? ⟨gp, q * 8 + 7, none⟩ = some (.slice fa fn fc) from hcp 7 (by decide))
            clear hsm hone hmem hsl hget hp hcp hdl hwl e1 e2 en2 hcap
            go_upto_region 20 with (((with_reducible refine at_store 49 (.tmp 17) (.tmp 125) ?_); go_must (refine wpList_store_mid rfl 49 (.tmp 17) (.tmp 125) rfl wr.heap.size 0 #[.string code, .int .i64 dl, .int .i64 dh, .int .i64 wl, .int .i64 wh, .int .i64 pil, .int .i64 boi, .slice fa fn fc] rfl rfl ((Blk.new wr 49 #[.string ⟨#[]⟩, .int .i64 0, .int .i64 0, .int .i64 0, .int .i64 0, .int .i64 0, .int .i64 0, .slice none 0 0]).there (o := 0) (n := 8) (Nat.le_of_ble_eq_true rfl)) size_stack (HOx.out) ?_)))
            clear s0 c0 c1 c2 c3 c4 c5 c6 c7
            have HL10 := Lib.hid (show Locs w3 ((wr.alloc (.cells #[.string ⟨#[]⟩, .int .i64 0, .int .i64 0, .int .i64 0, .int .i64 0, .int .i64 0, .int .i64 0, .slice none 0 0] 49)).setCells wr.heap.size 0 [.string code, .int .i64 dl, .int .i64 dh, .int .i64 wl, .int .i64 wh, .int .i64 pil, .int .i64 boi, .slice fa fn fc]) [(go, 24, [.int .i64 bef, .int .i64 aft, .slice ea n ec]), (gs, 36, [.slice (some ⟨gp, 0, none⟩) t1n t1c, .int .i64 vapour10, .int .i64 vapour11, .int .i64 broth10, .int .i64 broth11, .int .i64 dust10, .int .i64 dust11, .int .i64 soldDry10, .int .i64 soldDry11, .int .i64 soldWater10, .int .i64 soldWater11, .int .i64 soaked10, .int .i64 soaked11]), (ga, 34, [.int .i64 vapour10, .int .i64 vapour11, .int .i64 broth10, .int .i64 broth11, .int .i64 dust10, .int .i64 dust11, .int .i64 soldDry10, .int .i64 soldDry11, .int .i64 soldWater10, .int .i64 soldWater11, .int .i64 soaked10, .int .i64 soaked11]), (wr.heap.size, 49, [.string code, .int .i64 dl, .int .i64 dh, .int .i64 wl, .int .i64 wh, .int .i64 pil, .int .i64 boi, .slice fa fn fc])] [(rows1, .slice (some ⟨gp, 0, none⟩) t1n t1c)] from (HL9.out.alloc 49 [.string ⟨#[]⟩, .int .i64 0, .int .i64 0, .int .i64 0, .int .i64 0, .int .i64 0, .int .i64 0, .slice none 0 0] rfl).setLoc 3 [] [.string ⟨#[]⟩, .int .i64 0, .int .i64 0, .int .i64 0, .int .i64 0, .int .i64 0, .int .i64 0, .slice none 0 0] [] [.string code, .int .i64 dl, .int .i64 dh, .int .i64 wl, .int .i64 wh, .int .i64 pil, .int .i64 boi, .slice fa fn fc] rfl rfl)
            clear HL9
            generalize ((wr.alloc (.cells #[.string ⟨#[]⟩, .int .i64 0, .int .i64 0, .int .i64 0, .int .i64 0, .int .i64 0, .int .i64 0, .slice none 0 0] 49)).setCells wr.heap.size 0 [.string code, .int .i64 dl, .int .i64 dh, .int .i64 wl, .int .i64 wh, .int .i64 pil, .int .i64 boi, .slice fa fn fc]) = v11 at HL10 ⊢
            generalize wr.heap.size = gx at HL10 ⊢
            try simp only [Act.put]
            have z0 := (show v11.cell? ⟨gx, 1, none⟩ = some (.int .i64 dl) from HL10.out.at 3 1 (v := .int .i64 dl) rfl rfl)
            have z1 := (show v11.cell? ⟨gx, 2, none⟩ = some (.int .i64 dh) from HL10.out.at 3 2 (v := .int .i64 dh) rfl rfl)
            have z2 := (show v11.cell? ⟨gx, 3, none⟩ = some (.int .i64 wl) from HL10.out.at 3 3 (v := .int .i64 wl) rfl rfl)
            have z3 := (show v11.cell? ⟨gx, 4, none⟩ = some (.int .i64 wh) from HL10.out.at 3 4 (v := .int .i64 wh) rfl rfl)
            go_upto_region 22 with (fail)
            have r0 := cell_regrown z0
            have r1 := cell_regrown z2
            clear z0 z1 z2 z3
            refine wp_region_quiet_below (by kernel_rfl) (by kernel_rfl) ?_
            repeat (go_big_quiet_step (fail))
            refine wpQuiet_nil ?_
            intro wq hw'
            have hb8 : Below v11.heap.size v11 wq := by obtain ⟨⟨dq, osq⟩, hw''⟩ := hw'; rw [hw'']; exact below_regrown _ dq osq
            clear hw'  r0 r1
            have HL11 := Lib.hid (HL10.out.below hb8)
            clear hb8 HL10
            generalize wq = v12 at HL11 ⊢
            go_wp2
            go_roundw
            case rel => refine ⟨q + 1, D2 - dl, W2 - wl, by omega, by go_num, by go_num, by go_num, Lib.hid (less_of HD2.out HTDd.out), Lib.hid (less_of HW2.out HTDw.out), less_in HD2.out HTDd.out (HTdB.out (q + 1)).1 hD2.2 hdl1.1, less_in HW2.out HTDw.out (HTwB.out (q + 1)).1 hW2.2 hwl1.1, Lib.hid (HL11.out.fewer (List.sublist_append_left ([(go, 24, [.int .i64 bef, .int .i64 aft, .slice ea n ec]), (gs, 36, [.slice (some ⟨gp, 0, none⟩) t1n t1c, .int .i64 vapour10, .int .i64 vapour11, .int .i64 broth10, .int .i64 broth11, .int .i64 dust10, .int .i64 dust11, .int .i64 soldDry10, .int .i64 soldDry11, .int .i64 soldWater10, .int .i64 soldWater11, .int .i64 soaked10, .int .i64 soaked11]), (ga, 34, [.int .i64 vapour10, .int .i64 vapour11, .int .i64 broth10, .int .i64 broth11, .int .i64 dust10, .int .i64 dust11, .int .i64 soldDry10, .int .i64 soldDry11, .int .i64 soldWater10, .int .i64 soldWater11, .int .i64 soaked10, .int .i64 soaked11])] : List (Nat × TypeId × List Value)) ([(gx, 49, [.string code, .int .i64 dl, .int .i64 dh, .int .i64 wl, .int .i64 wh, .int .i64 pil, .int .i64 boi, .slice fa fn fc])] : List (Nat × TypeId × List Value))) (List.sublist_append_left ([(rows1, .slice (some ⟨gp, 0, none⟩) t1n t1c)] : List (List SRow × Value)) ([] : List (List SRow × Value))))⟩
            case measure => simp [intOf]; omega
          · have hqe : q = t1n := by omega
            subst hqe
            obtain rfl : D2 = 0 := by rw [HD2.out, List.drop_of_length_le (by rw [List.length_map, ← HLEN.out]; exact Nat.le_refl _)]; rfl
            obtain rfl : W2 = 0 := by rw [HW2.out, List.drop_of_length_le (by rw [List.length_map, ← HLEN.out]; exact Nat.le_refl _)]; rfl
            obtain ⟨e1, e2, e3, e4, e5, e6⟩ := HEQ.out
            have b1 : (vapour10 != vapour11) = false := by simp [e1]
            have b2 : (broth10 != broth11) = false := by simp [e2]
            have b3 : (dust10 != dust11) = false := by simp [e3]
            have b4 : (soldDry10 != soldDry11) = false := by simp [e4]
            have b5 : (soldWater10 != soldWater11) = false := by simp [e5]
            have b6 : (soaked10 != soaked11) = false := by simp [e6]
            clear e1 e2 e3 e4 e5 e6
            have z0 := (show wr.cell? ⟨ga, 0, none⟩ = some (.int .i64 vapour10) from HL9.out.at 2 0 (v := .int .i64 vapour10) rfl rfl)
            have z1 := (show wr.cell? ⟨ga, 1, none⟩ = some (.int .i64 vapour11) from HL9.out.at 2 1 (v := .int .i64 vapour11) rfl rfl)
            have z2 := (show wr.cell? ⟨ga, 2, none⟩ = some (.int .i64 broth10) from HL9.out.at 2 2 (v := .int .i64 broth10) rfl rfl)
            have z3 := (show wr.cell? ⟨ga, 3, none⟩ = some (.int .i64 broth11) from HL9.out.at 2 3 (v := .int .i64 broth11) rfl rfl)
            have z4 := (show wr.cell? ⟨ga, 4, none⟩ = some (.int .i64 dust10) from HL9.out.at 2 4 (v := .int .i64 dust10) rfl rfl)
            have z5 := (show wr.cell? ⟨ga, 5, none⟩ = some (.int .i64 dust11) from HL9.out.at 2 5 (v := .int .i64 dust11) rfl rfl)
            have z6 := (show wr.cell? ⟨ga, 6, none⟩ = some (.int .i64 soldDry10) from HL9.out.at 2 6 (v := .int .i64 soldDry10) rfl rfl)
            have z7 := (show wr.cell? ⟨ga, 7, none⟩ = some (.int .i64 soldDry11) from HL9.out.at 2 7 (v := .int .i64 soldDry11) rfl rfl)
            have z8 := (show wr.cell? ⟨ga, 8, none⟩ = some (.int .i64 soldWater10) from HL9.out.at 2 8 (v := .int .i64 soldWater10) rfl rfl)
            have z9 := (show wr.cell? ⟨ga, 9, none⟩ = some (.int .i64 soldWater11) from HL9.out.at 2 9 (v := .int .i64 soldWater11) rfl rfl)
            have z10 := (show wr.cell? ⟨ga, 10, none⟩ = some (.int .i64 soaked10) from HL9.out.at 2 10 (v := .int .i64 soaked10) rfl rfl)
            have z11 := (show wr.cell? ⟨ga, 11, none⟩ = some (.int .i64 soaked11) from HL9.out.at 2 11 (v := .int .i64 soaked11) rfl rfl)
            go_wp2_with (go_at_call 15; refine (stands_calls _).mono ?_; rintro e w9 ⟨rfl, hb9⟩; have HL99 := Lib.hid (HL9.out.below hb9); clear hb9)
            go_ret
            exact lawDone (HB3.out.trans (HL99.out.low.mono HB3.out.size))

/-- YardExact, whatever comes in. -/
theorem exact_law (bef aft : Int) (v : Value) (ds : List (Deed Code)) (x1 : Int) (pv : Value) (xs : List Int) (w : World) (h : Held w.heap.size w 8 deedCells v ds) (hsz : ∀ d ∈ ds, d.stack.size ≤ maxLen ∧ d.other.size ≤ maxLen) (hx1 : 0 ≤ x1 ∧ x1 ≤ 255) (hpv : Held w.heap.size w 1 pickCells pv xs) (hxs : ∀ x ∈ xs, 0 ≤ x ∧ x ≤ 65535) :
    Calls Try.prog 4 #[.agg #[.int .i64 bef, .int .i64 aft, v], .int .u8 x1, pv] w (LawDone w) := by
  obtain ⟨pa, pc, hv, _, _⟩ := hpv.slice
  cases hg : greatB ds with
  | true => rw [hv]; exact exact_stands bef aft v ds x1 pa _ pc w h (.inl hg)
  | false =>
    by_cases hok : errYard bef aft ds = 0
    · exact exact_real bef aft v ds x1 pv xs w h hsz hg hok hx1 hpv hxs
    · rw [hv]; exact exact_stands bef aft v ds x1 pa _ pc w h (.inr hok)
end Go.Proofs.Ytmcmhgpmefelfaa
