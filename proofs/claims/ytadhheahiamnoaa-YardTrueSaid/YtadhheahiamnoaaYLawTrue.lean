/- YardTrue: the law's walk. -/
import Derived.Test.YtadhheahiamnoaaYHappens
namespace Go.Proofs.Ytadhheahiamnoaa
open Go Go.RowKit Go.Shelf Yd
open _root_.Go.Value renaming int → Z, string → Zs, slice → Zl
open _root_.Go.IntKind renaming i64 → O
open _root_.Go.Lib renaming hid → Zh
theorem size_account : (Try.prog.info? 34).map (·.size) = some 12 := by kernel_rfl
theorem happens_one {w w' : World} {bef aft : Int} {ds : List (Deed Code)} {K : Nat} {e : Ending} (h : HappensDone w bef aft ds K e w') :
    ∃ (bb : Bool) (a : Option Addr) (n c : Nat) (i1 i2 i3 i4 i5 i6 i7 i8 : Int), e = .returned (.tuple #[.agg #[Zl a n c, Z O i1, Z O i2, Z O i3, Z O i4, Z O i5, Z O i6, Z O i7, Z O i8], .bool bb]) ∧ Below w.heap.size w w' ∧
      (bb = true → ∃ (l : List (Yd.Pile Code)) (s : St Code), Yd.run bef aft .empty 0 (ds.take K) = (s, K, 0) ∧ True_ ⟨l, i1, i2, i3, i4, i5, i6, i7, i8⟩ s ∧ Balance (⟨l, i1, i2, i3, i4, i5, i6, i7, i8⟩ : Yd.Real Code) ∧ Moderate ⟨l, i1, i2, i3, i4, i5, i6, i7, i8⟩ ∧ n = l.length ∧ Held w'.heap.size w' 3 pileCells (Zl a n c) l) := by
  rcases h with ⟨a, n, c, i1, i2, i3, i4, i5, i6, i7, i8, he, hb⟩ | ⟨⟨l, i1, i2, i3, i4, i5, i6, i7, i8⟩, s, a, n, c, h1, h2, h3, _, h5, h6, he, hb, hh⟩
  · exact ⟨false, a, n, c, i1, i2, i3, i4, i5, i6, i7, i8, he, hb, fun h => by cases h⟩
  · exact ⟨true, a, n, c, i1, i2, i3, i4, i5, i6, i7, i8, he, hb, fun _ => ⟨l, s, h1, h2, h3, h5, h6, hh⟩⟩
theorem total_take {f : Yd.Pile Code → Int} {l : List (Yd.Pile Code)} {q : Nat} (h : q < l.length) : total f (l.take (q + 1)) = total f (l.take q) + f l[q]! := by
  have : l.take (q + 1) = l.take q ++ [l[q]!] := by rw [getElem!_pos l q h, ← List.take_append_getElem h]
  rw [this, total_append]
  simp [total]

set_option maxRecDepth 100000 in
set_option maxHeartbeats 8000000 in
/-- A yard that the statements pass over, or that has an error. -/
theorem true_stands (bef aft : Int) (v : Value) (ds : List (Deed Code)) (x1 : Int) (pa : Option Addr) (pn pc : Nat) (w : World) (h : Held w.heap.size w 8 deedCells v ds) (hno : greatB ds = true ∨ errYard bef aft ds ≠ 0) :
    Calls Try.prog 3 #[.agg #[Z O bef, Z O aft, v], .int .u8 x1, Zl pa pn pc] w (LawDone w) := by
  obtain ⟨a, c, hv, _, _⟩ := h.slice
  have HGR := Zh (fun (W : World) (hW : Below w.heap.size w W) => great_calls bef aft v ds W ((h.below hW).mono hW.size))
  have HCK := Zh (fun (W : World) (hW : Below w.heap.size w W) => refYard_calls bef aft v ds W ((h.below hW).mono hW.size))
  subst hv
  obtain ⟨n, hnn⟩ : ∃ n, n = ds.length := ⟨_, rfl⟩
  rw [← hnn] at HGR HCK ⊢
  have HW0 := Zh ((Below.refl w.heap.size w).alloc (Nat.le_refl _) (.cells #[Z O bef, Z O aft, Zl a n c] 24))
  have HY0 := Zh (Blk.new w 24 #[Z O bef, Z O aft, Zl a n c])
  clear h hnn
  cases hg : greatB ds with
  | true =>
    have HG := Zh hg
    clear hg hno
    go_enter Try.func3, Try.ntmps3
    go_wp2_with (first
      | (go_at_call 13; refine (HGR.out _ HW0.out).mono ?_; rintro e w1 ⟨rfl, hb1⟩; rw [HG.out]; have HW1 := Zh (HW0.out.trans (hb1.mono HW0.out.size)); have HY1 := Zh (HY0.out.below hb1); clear hb1)
      | (go_at_call 15; refine (stands_calls _).mono ?_; rintro e w2 ⟨rfl, hb2⟩; have HW2 := Zh (HW1.out.trans (hb2.mono HW1.out.size)); clear hb2))
    go_ret
    exact lawDone HW2.out
  | false =>
    have HG := Zh hg
    have hno : errYard bef aft ds ≠ 0 := hno.resolve_left (by rw [hg]; simp)
    have d1 : (errYard bef aft ds == 0) = false := by simpa using hno
    have d2 : (errYard bef aft ds != 0) = true := by simpa using hno
    clear hg hno
    generalize errYard bef aft ds = ey at HCK d1 d2
    go_enter Try.func3, Try.ntmps3
    go_wp2_with (first
      | (go_at_call 13; refine (HGR.out _ HW0.out).mono ?_; rintro e w1 ⟨rfl, hb1⟩; rw [HG.out]; have HW1 := Zh (HW0.out.trans (hb1.mono HW0.out.size)); have HY1 := Zh (HY0.out.below hb1); have y0 := HY1.out.at 0 _ rfl; have y1 := HY1.out.at 1 _ rfl; have y2 := HY1.out.at 2 _ rfl; clear hb1)
      | (go_at_call 14; refine (HCK.out _ HW1.out).mono ?_; rintro e w2 ⟨rfl, hb2⟩; have HW2 := Zh (HW1.out.trans (hb2.mono HW1.out.size)); clear hb2)
      | (go_at_call 15; refine (stands_calls _).mono ?_; rintro e w3 ⟨rfl, hb3⟩; have HW3 := Zh (HW2.out.trans (hb3.mono HW2.out.size)); clear hb3))
    go_ret
    exact lawDone HW3.out

set_option linter.unusedSimpArgs false in
set_option maxRecDepth 100000 in
set_option maxHeartbeats 8000000 in
theorem true_real (bef aft : Int) (v : Value) (ds : List (Deed Code)) (x1 : Int) (pv : Value) (xs : List Int) (w : World) (h : Held w.heap.size w 8 deedCells v ds) (hsz : ∀ d ∈ ds, d.stack.size ≤ maxLen ∧ d.other.size ≤ maxLen) (hg : greatB ds = false) (hok : errYard bef aft ds = 0)
    (hx1 : 0 ≤ x1 ∧ x1 ≤ 255) (hpv : Held w.heap.size w 1 pickCells pv xs) (hxs : ∀ x ∈ xs, 0 ≤ x ∧ x ≤ 65535) :
    Calls Try.prog 3 #[.agg #[Z O bef, Z O aft, v], .int .u8 x1, pv] w (LawDone w) := by
  have h12 := great_few hg hok
  obtain ⟨a, c, hv, _, _⟩ := h.slice
  have HGR := Zh (fun (W : World) (hW : Below w.heap.size w W) => great_calls bef aft v ds W ((h.below hW).mono hW.size))
  have HCK := Zh (fun (W : World) (hW : Below w.heap.size w W) => refYard_calls bef aft v ds W ((h.below hW).mono hW.size))
  have HFO := Zh (fun (k0 : Nat) (hk : k0 ≤ ds.length) (W : World) (hW : Below w.heap.size w W) => follow_calls bef aft v ds k0 W ((h.below hW).mono hW.size) hok hsz hk (Nat.le_trans hk h12))
  have HHP := Zh (fun (k0 : Nat) (hk : k0 ≤ ds.length) (hz : (Yd.run bef aft .empty 0 (ds.take k0)).2.2 = 0) (W : World) (hW : Below w.heap.size w W) => happens_calls bef aft v pv ds xs k0 W ((h.below hW).mono hW.size) ((hpv.below hW).mono hW.size) hxs hok h12 hk hz)
  obtain ⟨pa, pc, hpv2, _, _⟩ := hpv.slice
  subst hv hpv2
  obtain ⟨pn, hpn⟩ : ∃ m, m = xs.length := ⟨_, rfl⟩
  rw [← hpn] at HHP ⊢
  obtain ⟨n, hnn⟩ : ∃ n, n = ds.length := ⟨_, rfl⟩
  have HN := Zh hnn
  rw [← hnn] at HGR HCK HFO HHP h12 ⊢
  have HG := Zh hg; have HOK := Zh hok
  obtain ⟨K, hK1, hK2⟩ := mod_nat (n := n) hx1.1
  obtain ⟨hx10, hx11⟩ := hx1
  clear h hsz hnn hg hok hpv hxs hpn
  have HL0 := Zh (show Locs w (w.alloc (.cells #[Z O bef, Z O aft, Zl a n c] 24)) [(w.heap.size, 24, [Z O bef, Z O aft, Zl a n c])] [] from (Locs.start w).alloc 24 [Z O bef, Z O aft, Zl a n c] rfl)
  go_enter Try.func3, Try.ntmps3
  go_upto_region 3 with (first
    | (go_at_call 13; refine (HGR.out _ HL0.out.low).mono ?_; rintro e w1 ⟨rfl, hb1⟩; rw [HG.out]; have HL1 := Zh (HL0.out.below hb1); have y0 := HL1.out.at 0 0 (v := Z O bef) rfl rfl; have y1 := HL1.out.at 0 1 (v := Z O aft) rfl rfl; have y2 := HL1.out.at 0 2 (v := Zl a n c) rfl rfl; clear hb1)
    | (go_at_call 14; refine (HCK.out _ HL1.out.low).mono ?_; rintro e w2 ⟨rfl, hb2⟩; rw [HOK.out]; have HL2 := Zh (HL1.out.below hb2); clear hb2 y0 y1 y2))
  clear HL0 HL1 HGR HCK
  generalize w.heap.size = gy at HL2 ⊢
  have hwn : IntKind.i64.wrap ((n : Int) + 1) = (n : Int) + 1 := by rw [IntKind.wrap_i64]; omega
  have hwx : IntKind.i64.wrap x1 = x1 := by rw [IntKind.wrap_i64]; omega
  have hn0 : ¬ (n : Int) + 1 = 0 := by omega
  go_cut [7, 8, 9, 10] from 26 to 39 (fun sa sb sc sd wx => ∃ (gs : Nat) (rows1 : List SRow) (t1a : Option Addr) (t1n t1c : Nat) (vapour10 vapour11 broth10 broth11 dust10 dust11 soldDry10 soldDry11 soldWater10 soldWater11 soaked10 soaked11 : Int) (k1 : Nat) (f1 : Int), sa = .pointer (some ⟨gs, 0, none⟩) ∧ sb = Z O k1 ∧ sc = Z O f1 ∧ sd = Z O 0 ∧ Hid (Yd.follow bef aft ds K = (stOf rows1 (⟨⟨vapour10, vapour11⟩, ⟨broth10, broth11⟩, ⟨dust10, dust11⟩, ⟨soldDry10, soldDry11⟩, ⟨soldWater10, soldWater11⟩, ⟨soaked10, soaked11⟩⟩ : Yd.Acc), k1, f1)) ∧ Hid (SmallSt k1 (stOf rows1 (⟨⟨vapour10, vapour11⟩, ⟨broth10, broth11⟩, ⟨dust10, dust11⟩, ⟨soldDry10, soldDry11⟩, ⟨soldWater10, soldWater11⟩, ⟨soaked10, soaked11⟩⟩ : Yd.Acc))) ∧ Hid (k1 ≤ K) ∧
      Hid (Locs w wx [(gy, 24, [Z O bef, Z O aft, Zl a n c]), (gs, 36, [Zl t1a t1n t1c, Z O vapour10, Z O vapour11, Z O broth10, Z O broth11, Z O dust10, Z O dust11, Z O soldDry10, Z O soldDry11, Z O soldWater10, Z O soldWater11, Z O soaked10, Z O soaked11])] [(rows1, Zl t1a t1n t1c)]))
  case first =>
    have hmix : Try.prog.follows .mixedOrders = true := by kernel_rfl
    refine region_till [] (fun w' => Below w2.heap.size w2 w') 19 [false, false, false, false, false, false, false, false, false, false, false, false, false, false, false, false, false, false, false] hmix rfl rfl ?_
    clear hmix
    have HT := Zh ((Below.refl w2.heap.size w2).drew)
    have HL3 := Zh (HL2.out.drew)
    generalize w2.drew = v1 at HT HL3 ⊢
    refine till_load (i := 0) (v := .agg #[Z O bef, Z O aft, Zl a n c]) rfl rfl (by kernel_rfl) (fun _ _ _ h => h) (yields_mid rfl 24 (.tmp 3) rfl (gy) 0 rfl [Z O bef, Z O aft, Zl a n c] _ (fun w' hw' => HL2.out.rangeB hw' 0 0 _ rfl rfl) Try.underlying24 rfl (by kernel_rfl)) (fun _ => HT.out) ?_
    try simp only [List.setIfInBounds_toArray, List.set_cons_succ, List.set_cons_zero]
    refine till_pure (i := 1) (v := .int .u8 x1) rfl rfl (by kernel_rfl) (fun _ _ _ h => h) (yields_of rfl (fun w' _ => by simp [go_sem])) (fun _ => HT.out) ?_
    try simp only [List.setIfInBounds_toArray, List.set_cons_succ, List.set_cons_zero]
    refine till_pure (i := 2) (v := Z O x1) rfl rfl (by kernel_rfl) (fun _ _ _ h => h) (yields_of rfl (fun w' _ => by simp [go_sem, hwx])) (fun _ => HT.out) ?_
    try simp only [List.setIfInBounds_toArray, List.set_cons_succ, List.set_cons_zero]
    refine till_pure (i := 3) (v := .pointer (some ⟨gy, 2, none⟩)) rfl rfl (by kernel_rfl) (fun _ _ _ h => h) (yields_of rfl (fun w' _ => by simp [go_sem])) (fun _ => HT.out) ?_
    try simp only [List.setIfInBounds_toArray, List.set_cons_succ, List.set_cons_zero]
    refine till_load (i := 4) (v := Zl a n c) rfl rfl (by kernel_rfl) (fun _ _ _ h => h) (yields_of rfl (fun w' hw' => by have hcx : w'.cell? ⟨gy, 2, none⟩ = some (Zl a n c) := HL2.out.atB hw' 0 2 rfl rfl; simp [go_sem, hcx])) (fun _ => HT.out) ?_
    try simp only [List.setIfInBounds_toArray, List.set_cons_succ, List.set_cons_zero]
    refine till_pure (i := 5) (v := Z O n) rfl rfl (by kernel_rfl) (fun _ _ _ h => h) (yields_of rfl (fun w' _ => by simp [go_sem])) (fun _ => HT.out) ?_
    try simp only [List.setIfInBounds_toArray, List.set_cons_succ, List.set_cons_zero]
    refine till_pure (i := 6) (v := Z O ((n : Int) + 1)) rfl rfl (by kernel_rfl) (fun _ _ _ h => h) (yields_of rfl (fun w' _ => by simp [go_sem, hwn])) (fun _ => HT.out) ?_
    try simp only [List.setIfInBounds_toArray, List.set_cons_succ, List.set_cons_zero]
    refine till_pure (i := 7) (v := Z O K) rfl rfl (by kernel_rfl) (fun _ _ _ h => h) (yields_of rfl (fun w' _ => by simp [go_sem, hn0, hK2])) (fun _ => HT.out) ?_
    try simp only [List.setIfInBounds_toArray, List.set_cons_succ, List.set_cons_zero]
    refine till_two (i := 8) (j := 14) (by kernel_rfl) rfl rfl ?_ ?_
    · go_wp2_with (go_at_call 16; refine (HFO.out K hK1 _ HL3.out.low).mono ?_; rintro e v2 ⟨rows1, tv1, acc1, k1, f1, hfo, hsm, hkk, rfl, hb, hst⟩; obtain ⟨⟨vapour10, vapour11⟩, ⟨broth10, broth11⟩, ⟨dust10, dust11⟩, ⟨soldDry10, soldDry11⟩, ⟨soldWater10, soldWater11⟩, ⟨soaked10, soaked11⟩⟩ := acc1; obtain ⟨t1a, t1n, t1c, rfl⟩ := row_slice hst.things; have HFO1 := Zh hfo; have HSM1 := Zh hsm; have HKK1 := Zh hkk; have HL4 := Zh (HL3.out.stand hb hst rfl); have HO1 := Zh (show (#[Zl t1a t1n t1c, Z O vapour10, Z O vapour11, Z O broth10, Z O broth11, Z O dust10, Z O dust11, Z O soldDry10, Z O soldDry11, Z O soldWater10, Z O soldWater11, Z O soaked10, Z O soaked11] : Array Value).all (·.oneCell') = true from by simp [Value.oneCell']); have HT := Zh (HT.out.trans (hb.mono HT.out.size)); clear hfo hsm hkk hst hb )
      refine ⟨(fun _ => HT.out), ?_⟩
      try simp only [List.setIfInBounds_toArray, List.set_cons_succ, List.set_cons_zero]
      refine till_pure (i := 9) (v := .tuple #[.agg #[Zl t1a t1n t1c, Z O vapour10, Z O vapour11, Z O broth10, Z O broth11, Z O dust10, Z O dust11, Z O soldDry10, Z O soldDry11, Z O soldWater10, Z O soldWater11, Z O soaked10, Z O soaked11], Z O k1, Z O f1, Z O 0]) rfl rfl (by kernel_rfl) (fun _ _ _ h => h) (yields_of rfl (fun w' _ => by simp [go_sem, accCells])) (fun _ => HT.out) ?_
      try simp only [List.setIfInBounds_toArray, List.set_cons_succ, List.set_cons_zero]
      refine till_pure (i := 10) (v := .agg #[Zl t1a t1n t1c, Z O vapour10, Z O vapour11, Z O broth10, Z O broth11, Z O dust10, Z O dust11, Z O soldDry10, Z O soldDry11, Z O soldWater10, Z O soldWater11, Z O soaked10, Z O soaked11]) rfl rfl (by kernel_rfl) (fun _ _ _ h => h) (yields_of rfl (fun w' _ => by simp [go_sem])) (fun _ => HT.out) ?_
      try simp only [List.setIfInBounds_toArray, List.set_cons_succ, List.set_cons_zero]
      refine till_pure (i := 11) (v := Z O k1) rfl rfl (by kernel_rfl) (fun _ _ _ h => h) (yields_of rfl (fun w' _ => by simp [go_sem])) (fun _ => HT.out) ?_
      try simp only [List.setIfInBounds_toArray, List.set_cons_succ, List.set_cons_zero]
      refine till_pure (i := 12) (v := Z O f1) rfl rfl (by kernel_rfl) (fun _ _ _ h => h) (yields_of rfl (fun w' _ => by simp [go_sem])) (fun _ => HT.out) ?_
      try simp only [List.setIfInBounds_toArray, List.set_cons_succ, List.set_cons_zero]
      refine till_pure (i := 13) (v := Z O 0) rfl rfl (by kernel_rfl) (fun _ _ _ h => h) (yields_of rfl (fun w' _ => by simp [go_sem])) (fun _ => HT.out) ?_
      try simp only [List.setIfInBounds_toArray, List.set_cons_succ, List.set_cons_zero]
      refine till_only (j := 14) (by kernel_rfl) rfl ?_
      go_wp2_with fail
      have HGE_gs := Zh (show w2.heap.size ≤ v2.heap.size from HT.out.size)
      have HT2 := Zh (HT.out.alloc HT.out.size (.cells #[Zl none 0 0, Z O 0, Z O 0, Z O 0, Z O 0, Z O 0, Z O 0, Z O 0, Z O 0, Z O 0, Z O 0, Z O 0, Z O 0] 36))
      have HL5 := Zh (show Locs w (v2.alloc (.cells #[Zl none 0 0, Z O 0, Z O 0, Z O 0, Z O 0, Z O 0, Z O 0, Z O 0, Z O 0, Z O 0, Z O 0, Z O 0, Z O 0] 36)) [(gy, 24, [Z O bef, Z O aft, Zl a n c]), (v2.heap.size, 36, [Zl none 0 0, Z O 0, Z O 0, Z O 0, Z O 0, Z O 0, Z O 0, Z O 0, Z O 0, Z O 0, Z O 0, Z O 0, Z O 0])] [(rows1, Zl t1a t1n t1c)] from HL4.out.alloc 36 [Zl none 0 0, Z O 0, Z O 0, Z O 0, Z O 0, Z O 0, Z O 0, Z O 0, Z O 0, Z O 0, Z O 0, Z O 0, Z O 0] rfl)
      clear HL4 HT
      generalize (v2.alloc (.cells #[Zl none 0 0, Z O 0, Z O 0, Z O 0, Z O 0, Z O 0, Z O 0, Z O 0, Z O 0, Z O 0, Z O 0, Z O 0, Z O 0] 36)) = v3 at HL5 HT2 ⊢
      have HT := HT2; clear HT2
      generalize v2.heap.size = gs at HL5 HGE_gs ⊢
      refine ⟨(fun _ => HT.out), ?_⟩
      try simp only [List.setIfInBounds_toArray, List.set_cons_succ, List.set_cons_zero]
      refine till_only (j := 15) (by kernel_rfl) rfl ?_
      refine wpList_store_mid rfl 36 (.tmp 7) (.tmp 36) rfl (gs) 0 #[Zl t1a t1n t1c, Z O vapour10, Z O vapour11, Z O broth10, Z O broth11, Z O dust10, Z O dust11, Z O soldDry10, Z O soldDry11, Z O soldWater10, Z O soldWater11, Z O soaked10, Z O soaked11] rfl rfl (HL5.out.there 1 (o := 0) (n := 13) rfl (Nat.le_of_ble_eq_true rfl)) size_standing (HO1.out) ?_
      change wpList _ _ _ _ _ (v3.setCells gs 0 [Zl t1a t1n t1c, Z O vapour10, Z O vapour11, Z O broth10, Z O broth11, Z O dust10, Z O dust11, Z O soldDry10, Z O soldDry11, Z O soldWater10, Z O soldWater11, Z O soaked10, Z O soaked11])
      have HT2 := Zh (below_setCells HT.out (HGE_gs.out) [Zl t1a t1n t1c, Z O vapour10, Z O vapour11, Z O broth10, Z O broth11, Z O dust10, Z O dust11, Z O soldDry10, Z O soldDry11, Z O soldWater10, Z O soldWater11, Z O soaked10, Z O soaked11] 0)
      have HL6 := Zh (show Locs w (v3.setCells gs 0 [Zl t1a t1n t1c, Z O vapour10, Z O vapour11, Z O broth10, Z O broth11, Z O dust10, Z O dust11, Z O soldDry10, Z O soldDry11, Z O soldWater10, Z O soldWater11, Z O soaked10, Z O soaked11]) [(gy, 24, [Z O bef, Z O aft, Zl a n c]), (gs, 36, [Zl t1a t1n t1c, Z O vapour10, Z O vapour11, Z O broth10, Z O broth11, Z O dust10, Z O dust11, Z O soldDry10, Z O soldDry11, Z O soldWater10, Z O soldWater11, Z O soaked10, Z O soaked11])] [(rows1, Zl t1a t1n t1c)] from HL5.out.setLoc 1 [] [Zl none 0 0, Z O 0, Z O 0, Z O 0, Z O 0, Z O 0, Z O 0, Z O 0, Z O 0, Z O 0, Z O 0, Z O 0, Z O 0] [] [Zl t1a t1n t1c, Z O vapour10, Z O vapour11, Z O broth10, Z O broth11, Z O dust10, Z O dust11, Z O soldDry10, Z O soldDry11, Z O soldWater10, Z O soldWater11, Z O soaked10, Z O soaked11] rfl rfl)
      clear HL5 HT
      generalize (v3.setCells gs 0 [Zl t1a t1n t1c, Z O vapour10, Z O vapour11, Z O broth10, Z O broth11, Z O dust10, Z O dust11, Z O soldDry10, Z O soldDry11, Z O soldWater10, Z O soldWater11, Z O soaked10, Z O soaked11]) = v4 at HL6 HT2 ⊢
      have HT := HT2; clear HT2
      change Till _ _ _ _ ∧ wpAnyT _ _ _ _ _ _ _ _ _ _
      refine ⟨(fun _ => HT.out), ?_⟩
      try simp only [List.setIfInBounds_toArray, List.set_cons_succ, List.set_cons_zero]
      refine till_pure (i := 16) (v := Z O k1) rfl rfl (by kernel_rfl) (fun _ _ _ h => h) (yields_of rfl (fun w' _ => by simp [go_sem])) (fun _ => HT.out) ?_
      try simp only [List.setIfInBounds_toArray, List.set_cons_succ, List.set_cons_zero]
      refine till_pure (i := 17) (v := Z O f1) rfl rfl (by kernel_rfl) (fun _ _ _ h => h) (yields_of rfl (fun w' _ => by simp [go_sem])) (fun _ => HT.out) ?_
      try simp only [List.setIfInBounds_toArray, List.set_cons_succ, List.set_cons_zero]
      refine till_pure (i := 18) (v := Z O 0) rfl rfl (by kernel_rfl) (fun _ _ _ h => h) (yields_of rfl (fun w' _ => by simp [go_sem])) (fun _ => HT.out) ?_
      try simp only [List.setIfInBounds_toArray, List.set_cons_succ, List.set_cons_zero]
      refine till_done (by kernel_rfl) ?_
      go_wp2_with fail
      go_meet
      case rel => exact ⟨_, _, _, _, _, _, _, _, _, _, _, _, _, _, _, _, _, _, _, rfl, rfl, rfl, rfl, HFO1, HSM1, HKK1, HL6⟩
    · go_wp2_with fail
      have HGE_gs := Zh (show w2.heap.size ≤ v1.heap.size from HT.out.size)
      have HT2 := Zh (HT.out.alloc HT.out.size (.cells #[Zl none 0 0, Z O 0, Z O 0, Z O 0, Z O 0, Z O 0, Z O 0, Z O 0, Z O 0, Z O 0, Z O 0, Z O 0, Z O 0] 36))
      have HL4 := Zh (show Locs w (v1.alloc (.cells #[Zl none 0 0, Z O 0, Z O 0, Z O 0, Z O 0, Z O 0, Z O 0, Z O 0, Z O 0, Z O 0, Z O 0, Z O 0, Z O 0] 36)) [(gy, 24, [Z O bef, Z O aft, Zl a n c]), (v1.heap.size, 36, [Zl none 0 0, Z O 0, Z O 0, Z O 0, Z O 0, Z O 0, Z O 0, Z O 0, Z O 0, Z O 0, Z O 0, Z O 0, Z O 0])] [] from HL3.out.alloc 36 [Zl none 0 0, Z O 0, Z O 0, Z O 0, Z O 0, Z O 0, Z O 0, Z O 0, Z O 0, Z O 0, Z O 0, Z O 0, Z O 0] rfl)
      clear HL3 HT
      generalize (v1.alloc (.cells #[Zl none 0 0, Z O 0, Z O 0, Z O 0, Z O 0, Z O 0, Z O 0, Z O 0, Z O 0, Z O 0, Z O 0, Z O 0, Z O 0] 36)) = v5 at HL4 HT2 ⊢
      have HT := HT2; clear HT2
      generalize v1.heap.size = gs at HL4 HGE_gs ⊢
      refine ⟨(fun _ => HT.out), ?_⟩
      try simp only [List.setIfInBounds_toArray, List.set_cons_succ, List.set_cons_zero]
      refine till_only (j := 8) (by kernel_rfl) rfl ?_
      go_wp2_with (go_at_call 16; refine (HFO.out K hK1 _ HL4.out.low).mono ?_; rintro e v6 ⟨rows1, tv1, acc1, k1, f1, hfo, hsm, hkk, rfl, hb, hst⟩; obtain ⟨⟨vapour10, vapour11⟩, ⟨broth10, broth11⟩, ⟨dust10, dust11⟩, ⟨soldDry10, soldDry11⟩, ⟨soldWater10, soldWater11⟩, ⟨soaked10, soaked11⟩⟩ := acc1; obtain ⟨t1a, t1n, t1c, rfl⟩ := row_slice hst.things; have HFO1 := Zh hfo; have HSM1 := Zh hsm; have HKK1 := Zh hkk; have HL5 := Zh (HL4.out.stand hb hst rfl); have HO1 := Zh (show (#[Zl t1a t1n t1c, Z O vapour10, Z O vapour11, Z O broth10, Z O broth11, Z O dust10, Z O dust11, Z O soldDry10, Z O soldDry11, Z O soldWater10, Z O soldWater11, Z O soaked10, Z O soaked11] : Array Value).all (·.oneCell') = true from by simp [Value.oneCell']); have HT := Zh (HT.out.trans (hb.mono HT.out.size)); clear hfo hsm hkk hst hb )
      refine ⟨(fun _ => HT.out), ?_⟩
      try simp only [List.setIfInBounds_toArray, List.set_cons_succ, List.set_cons_zero]
      refine till_pure (i := 9) (v := .tuple #[.agg #[Zl t1a t1n t1c, Z O vapour10, Z O vapour11, Z O broth10, Z O broth11, Z O dust10, Z O dust11, Z O soldDry10, Z O soldDry11, Z O soldWater10, Z O soldWater11, Z O soaked10, Z O soaked11], Z O k1, Z O f1, Z O 0]) rfl rfl (by kernel_rfl) (fun _ _ _ h => h) (yields_of rfl (fun w' _ => by simp [go_sem, accCells])) (fun _ => HT.out) ?_
      try simp only [List.setIfInBounds_toArray, List.set_cons_succ, List.set_cons_zero]
      refine till_pure (i := 10) (v := .agg #[Zl t1a t1n t1c, Z O vapour10, Z O vapour11, Z O broth10, Z O broth11, Z O dust10, Z O dust11, Z O soldDry10, Z O soldDry11, Z O soldWater10, Z O soldWater11, Z O soaked10, Z O soaked11]) rfl rfl (by kernel_rfl) (fun _ _ _ h => h) (yields_of rfl (fun w' _ => by simp [go_sem])) (fun _ => HT.out) ?_
      try simp only [List.setIfInBounds_toArray, List.set_cons_succ, List.set_cons_zero]
      refine till_pure (i := 11) (v := Z O k1) rfl rfl (by kernel_rfl) (fun _ _ _ h => h) (yields_of rfl (fun w' _ => by simp [go_sem])) (fun _ => HT.out) ?_
      try simp only [List.setIfInBounds_toArray, List.set_cons_succ, List.set_cons_zero]
      refine till_pure (i := 12) (v := Z O f1) rfl rfl (by kernel_rfl) (fun _ _ _ h => h) (yields_of rfl (fun w' _ => by simp [go_sem])) (fun _ => HT.out) ?_
      try simp only [List.setIfInBounds_toArray, List.set_cons_succ, List.set_cons_zero]
      refine till_pure (i := 13) (v := Z O 0) rfl rfl (by kernel_rfl) (fun _ _ _ h => h) (yields_of rfl (fun w' _ => by simp [go_sem])) (fun _ => HT.out) ?_
      try simp only [List.setIfInBounds_toArray, List.set_cons_succ, List.set_cons_zero]
      refine till_only (j := 15) (by kernel_rfl) rfl ?_
      refine wpList_store_mid rfl 36 (.tmp 7) (.tmp 36) rfl (gs) 0 #[Zl t1a t1n t1c, Z O vapour10, Z O vapour11, Z O broth10, Z O broth11, Z O dust10, Z O dust11, Z O soldDry10, Z O soldDry11, Z O soldWater10, Z O soldWater11, Z O soaked10, Z O soaked11] rfl rfl (HL5.out.there 1 (o := 0) (n := 13) rfl (Nat.le_of_ble_eq_true rfl)) size_standing (HO1.out) ?_
      change wpList _ _ _ _ _ (v6.setCells gs 0 [Zl t1a t1n t1c, Z O vapour10, Z O vapour11, Z O broth10, Z O broth11, Z O dust10, Z O dust11, Z O soldDry10, Z O soldDry11, Z O soldWater10, Z O soldWater11, Z O soaked10, Z O soaked11])
      have HT2 := Zh (below_setCells HT.out (HGE_gs.out) [Zl t1a t1n t1c, Z O vapour10, Z O vapour11, Z O broth10, Z O broth11, Z O dust10, Z O dust11, Z O soldDry10, Z O soldDry11, Z O soldWater10, Z O soldWater11, Z O soaked10, Z O soaked11] 0)
      have HL6 := Zh (show Locs w (v6.setCells gs 0 [Zl t1a t1n t1c, Z O vapour10, Z O vapour11, Z O broth10, Z O broth11, Z O dust10, Z O dust11, Z O soldDry10, Z O soldDry11, Z O soldWater10, Z O soldWater11, Z O soaked10, Z O soaked11]) [(gy, 24, [Z O bef, Z O aft, Zl a n c]), (gs, 36, [Zl t1a t1n t1c, Z O vapour10, Z O vapour11, Z O broth10, Z O broth11, Z O dust10, Z O dust11, Z O soldDry10, Z O soldDry11, Z O soldWater10, Z O soldWater11, Z O soaked10, Z O soaked11])] [(rows1, Zl t1a t1n t1c)] from HL5.out.setLoc 1 [] [Zl none 0 0, Z O 0, Z O 0, Z O 0, Z O 0, Z O 0, Z O 0, Z O 0, Z O 0, Z O 0, Z O 0, Z O 0, Z O 0] [] [Zl t1a t1n t1c, Z O vapour10, Z O vapour11, Z O broth10, Z O broth11, Z O dust10, Z O dust11, Z O soldDry10, Z O soldDry11, Z O soldWater10, Z O soldWater11, Z O soaked10, Z O soaked11] rfl rfl)
      clear HL5 HT
      generalize (v6.setCells gs 0 [Zl t1a t1n t1c, Z O vapour10, Z O vapour11, Z O broth10, Z O broth11, Z O dust10, Z O dust11, Z O soldDry10, Z O soldDry11, Z O soldWater10, Z O soldWater11, Z O soaked10, Z O soaked11]) = v7 at HL6 HT2 ⊢
      have HT := HT2; clear HT2
      change Till _ _ _ _ ∧ wpAnyT _ _ _ _ _ _ _ _ _ _
      refine ⟨(fun _ => HT.out), ?_⟩
      try simp only [List.setIfInBounds_toArray, List.set_cons_succ, List.set_cons_zero]
      refine till_pure (i := 16) (v := Z O k1) rfl rfl (by kernel_rfl) (fun _ _ _ h => h) (yields_of rfl (fun w' _ => by simp [go_sem])) (fun _ => HT.out) ?_
      try simp only [List.setIfInBounds_toArray, List.set_cons_succ, List.set_cons_zero]
      refine till_pure (i := 17) (v := Z O f1) rfl rfl (by kernel_rfl) (fun _ _ _ h => h) (yields_of rfl (fun w' _ => by simp [go_sem])) (fun _ => HT.out) ?_
      try simp only [List.setIfInBounds_toArray, List.set_cons_succ, List.set_cons_zero]
      refine till_pure (i := 18) (v := Z O 0) rfl rfl (by kernel_rfl) (fun _ _ _ h => h) (yields_of rfl (fun w' _ => by simp [go_sem])) (fun _ => HT.out) ?_
      try simp only [List.setIfInBounds_toArray, List.set_cons_succ, List.set_cons_zero]
      refine till_done (by kernel_rfl) ?_
      go_wp2_with fail
      go_meet
      case rel => exact ⟨_, _, _, _, _, _, _, _, _, _, _, _, _, _, _, _, _, _, _, rfl, rfl, rfl, rfl, HFO1, HSM1, HKK1, HL6⟩
  case rest =>
    obtain ⟨gs, rows1, t1a, t1n, t1c, vapour10, vapour11, broth10, broth11, dust10, dust11, soldDry10, soldDry11, soldWater10, soldWater11, soaked10, soaked11, k1, f1, rfl, rfl, rfl, rfl, HFO1, HSM1, HKK1, HL3⟩ := hcut
    clear HL2
    have hkn : k1 ≤ n := Nat.le_trans HKK1.out hK1
    have d1 : decide ((k1 : Int) < 0) = false := by simp
    have d2 : decide ((n : Int) < (k1 : Int)) = false := by simp; omega
    have hk0 : ¬ (k1 : Int) < 0 := by omega
    have hk2 : ¬ (n : Int) < (k1 : Int) := by omega
    have HRK := Zh (made_run HFO1.out (by rw [← HN.out]; exact hK1))
    clear HFO1 HFO
    have o0 := (show wc.cell? ⟨gy, 0, none⟩ = some (Z O bef) from HL3.out.at 0 0 (v := Z O bef) rfl rfl)
    have o1 := (show wc.cell? ⟨gy, 1, none⟩ = some (Z O aft) from HL3.out.at 0 1 (v := Z O aft) rfl rfl)
    have o2 := (show wc.cell? ⟨gy, 2, none⟩ = some (Zl a n c) from HL3.out.at 0 2 (v := Zl a n c) rfl rfl)
    go_upto_region 7 with (first
      | (go_at_call 17; refine (HHP.out k1 hkn (by rw [HRK.out]) _ HL3.out.low).mono ?_; rintro e w5 hdone; obtain ⟨bb, ra, rn, rc, vap, bro, dus, sdr, swa, soa, pdr, pwa, rfl, hb5, hyes⟩ := happens_one hdone; have HYES := Zh hyes; have HB5 := Zh (HL3.out.below hb5).low; have HBASE := Zh (fun W (hW : Below w5.heap.size w5 W) => (HL3.out.below hb5).below hW); clear hdone hb5 hyes)
      | ((with_reducible refine at_store 42 (.tmp 11) (.tmp 58) ?_); go_must (refine wpList_store_mid rfl 42 (.tmp 11) (.tmp 58) rfl w5.heap.size 0 #[Zl ra rn rc, Z O vap, Z O bro, Z O dus, Z O sdr, Z O swa, Z O soa, Z O pdr, Z O pwa] rfl rfl ((Blk.new w5 42 #[Zl none 0 0, Z O 0, Z O 0, Z O 0, Z O 0, Z O 0, Z O 0, Z O 0, Z O 0]).there (o := 0) (n := 9) (Nat.le_of_ble_eq_true rfl)) size_real (by simp [Value.oneCell']) ?_)))
    clear o0 o1 o2 d1 d2 hk0 hk2 HHP HL3
    have HL50 := Zh (Locs.start w5)
    have HL51 := Zh (show Locs w5 ((w5.alloc (.cells #[Zl none 0 0, Z O 0, Z O 0, Z O 0, Z O 0, Z O 0, Z O 0, Z O 0, Z O 0] 42)).setCells w5.heap.size 0 [Zl ra rn rc, Z O vap, Z O bro, Z O dus, Z O sdr, Z O swa, Z O soa, Z O pdr, Z O pwa]) [(w5.heap.size, 42, [Zl ra rn rc, Z O vap, Z O bro, Z O dus, Z O sdr, Z O swa, Z O soa, Z O pdr, Z O pwa])] [] from (HL50.out.alloc 42 [Zl none 0 0, Z O 0, Z O 0, Z O 0, Z O 0, Z O 0, Z O 0, Z O 0, Z O 0] rfl).setLoc 0 [] [Zl none 0 0, Z O 0, Z O 0, Z O 0, Z O 0, Z O 0, Z O 0, Z O 0, Z O 0] [] [Zl ra rn rc, Z O vap, Z O bro, Z O dus, Z O sdr, Z O swa, Z O soa, Z O pdr, Z O pwa] rfl rfl)
    clear HL50
    generalize ((w5.alloc (.cells #[Zl none 0 0, Z O 0, Z O 0, Z O 0, Z O 0, Z O 0, Z O 0, Z O 0, Z O 0] 42)).setCells w5.heap.size 0 [Zl ra rn rc, Z O vap, Z O bro, Z O dus, Z O sdr, Z O swa, Z O soa, Z O pdr, Z O pwa]) = v8 at HL51 ⊢
    generalize w5.heap.size = gq at HL51 ⊢
    try simp only [Act.put]
    cases bb with
    | false =>
      go_wp2_with (go_at_call 15; refine (stands_calls _).mono ?_; rintro e w9 ⟨rfl, hb9⟩; have HL99 := Zh (HL51.out.below hb9); clear hb9)
      go_ret
      exact lawDone (HB5.out.trans (HL99.out.low.mono HB5.out.size))
    | true =>
      obtain ⟨l, s, hr, htr, hba, hmo, hrn, hheld⟩ := HYES.out rfl
      obtain rfl : s = stOf rows1 (⟨⟨vapour10, vapour11⟩, ⟨broth10, broth11⟩, ⟨dust10, dust11⟩, ⟨soldDry10, soldDry11⟩, ⟨soldWater10, soldWater11⟩, ⟨soaked10, soaked11⟩⟩ : Yd.Acc) := by have h1 := hr.symm.trans HRK.out; exact congrArg (fun p => p.1) h1
      clear HYES hr
      obtain ⟨hvap, hbro, hdus, hsdr, hswa, hsoa, hpdr, hpwa, hpiles, hfew⟩ := hmo
      simp only at hvap hbro hdus hsdr hswa hsoa hpdr hpwa hpiles hfew
      have HPILES := Zh hpiles
      have HTR := Zh htr; have HRN := Zh hrn
      have HLEN := Zh (show t1n = rows1.length from row_len ((HBASE.out _ (Below.refl _ _)).stood 0 rfl).things)
      have hlr : l.length = rows1.length := by have := htr.stacks.length_eq; simpa [stOf] using this
      have hrt : rn = t1n := by rw [HLEN.out, ← hlr]; exact hrn
      have hne : ((t1n : Int) != (rn : Int)) = false := by rw [hrt]; simp
      have hr8 : rn ≤ 8 := by have := ((HBASE.out _ (Below.refl _ _)).stood 0 rfl).few; rw [hrt, HLEN.out]; exact this
      have HHS := Zh (show 0 < l.length → ∃ b off, ra = some ⟨b, off, none⟩ ∧ b < w5.heap.size ∧ (l.length ≤ rc ∧ rc ≤ 9223372036854775807) ∧ ∀ j, j < l.length → ∀ i u, (pileCells l[j]!)[i]? = some u → w5.cell? ⟨b, off + j * 3 + i, none⟩ = some u from by
        obtain ⟨a', c', hv, _, hcs⟩ := hheld.slice
        injection hv with e1 e2 e3
        subst e1 e3
        exact hcs)
      have hbd := hba.dry; have hbw := hba.water
      simp only at hbd hbw
      have HBD := Zh hbd; have HBW := Zh hbw
      clear hpiles htr hrn hlr hfew hheld hba hbd hbw HRK
      have o0 := (show v8.cell? ⟨gq, 0, none⟩ = some (Zl ra rn rc) from HL51.out.at 0 0 (v := Zl ra rn rc) rfl rfl)
      have y0 := (show v8.cell? ⟨gs, 0, none⟩ = some (Zl t1a t1n t1c) from (HBASE.out _ HL51.out.low).at 1 0 (v := Zl t1a t1n t1c) rfl rfl)
      go_upto_region 11 with (fail)
      clear o0 y0 hne
      have q0 := cell_regrown (show v8.cell? ⟨gq, 1, none⟩ = some (Z O vap) from HL51.out.at 0 1 (v := Z O vap) rfl rfl)
      have q1 := cell_regrown (show v8.cell? ⟨gq, 2, none⟩ = some (Z O bro) from HL51.out.at 0 2 (v := Z O bro) rfl rfl)
      have q2 := cell_regrown (show v8.cell? ⟨gq, 3, none⟩ = some (Z O dus) from HL51.out.at 0 3 (v := Z O dus) rfl rfl)
      have q3 := cell_regrown (show v8.cell? ⟨gq, 4, none⟩ = some (Z O sdr) from HL51.out.at 0 4 (v := Z O sdr) rfl rfl)
      have q4 := cell_regrown (show v8.cell? ⟨gq, 5, none⟩ = some (Z O swa) from HL51.out.at 0 5 (v := Z O swa) rfl rfl)
      refine wp_region_quiet_below (by kernel_rfl) (by kernel_rfl) ?_
      repeat (go_big_quiet_step (fail))
      refine wpQuiet_nil ?_
      intro wq hw'
      have hb8 : Below v8.heap.size v8 wq := by obtain ⟨⟨dq, osq⟩, hw''⟩ := hw'; rw [hw'']; exact below_regrown _ dq osq
      clear hw' q0 q1 q2 q3 q4 
      have HL52 := Zh (HL51.out.below hb8)
      clear hb8 HL51
      generalize wq = v9 at HL52 ⊢
      have hD0 : 0 ≤ bro + dus + sdr ∧ bro + dus + sdr ≤ 6000000000000000 + 2000000000000000 * ((0 : Nat) : Int) := by omega
      have hW0 : 0 ≤ vap + swa ∧ vap + swa ≤ 6000000000000000 + 2000000000000000 * ((0 : Nat) : Int) := by omega
      go_wp2
      go_loopw [13, 14, 15] (fun da wa qv wr => ∃ (q : Nat) (D2 W2 : Int), q ≤ rn ∧ da = Z O D2 ∧ wa = Z O W2 ∧ qv = Z O q ∧ Hid (D2 = bro + dus + sdr + total Yd.Pile.dry (l.take q)) ∧ Hid (W2 = vap + swa + total Yd.Pile.water (l.take q)) ∧ (0 ≤ D2 ∧ D2 ≤ 6000000000000000 + 2000000000000000 * (q : Int)) ∧ (0 ≤ W2 ∧ W2 ≤ 6000000000000000 + 2000000000000000 * (q : Int)) ∧ Hid (Locs w5 wr [(gq, 42, [Zl ra rn rc, Z O vap, Z O bro, Z O dus, Z O sdr, Z O swa, Z O soa, Z O pdr, Z O pwa])] [])) (fun _ _ qv _ => rn - (intOf qv).toNat)
      case atStart => exact ⟨0, _, _, Nat.zero_le _, rfl, rfl, rfl, Zh (by rw [List.take_zero]; simp [total]), Zh (by rw [List.take_zero]; simp [total]), hD0, hW0, HL52⟩
      case round =>
        clear HL52 hD0 hW0
        obtain ⟨q, D2, W2, hq, rfl, rfl, rfl, HD2, HW2, hD2, hW2, HL53⟩ := hrel
        by_cases hqt : q < rn
        · have hql : q < l.length := by rw [← HRN.out]; exact hqt
          have hqr : q < rows1.length := by rw [← HLEN.out, ← hrt]; exact hqt
          obtain ⟨pb, poff, hra, hpb, ⟨hpc1, hpc2⟩, hpcells⟩ := HHS.out (by omega)
          subst hra
          have hqI : (q : Int) < (rn : Int) := by omega
          have hqI2 : (q : Int) < (t1n : Int) := by omega
          have hqt2 : q < t1n := by omega
          obtain ⟨p, hp⟩ : ∃ p, rows1[q]? = some p := ⟨_, List.getElem?_eq_getElem hqr⟩
          obtain ⟨gp, cp, hvp, hgp, hcp⟩ := ((HBASE.out _ HL53.out.low).stood 0 rfl).row hp
          have hvp2 : Value.slice t1a t1n t1c = Zl (some ⟨gp, 0, none⟩) t1n cp := by rw [hvp, HLEN.out]
          obtain ⟨fa, fn, fc, hfv⟩ := row_slice (((HBASE.out _ HL53.out.low).stood 0 rfl).froms p (List.mem_of_getElem? hp))
          have hcpc : t1n ≤ cp := by
            obtain ⟨g', cap', cur', hv', _, hc', _⟩ := row_block ((HBASE.out _ HL53.out.low).stood 0 rfl).things (by omega)
            rw [hv'] at hvp
            injection hvp with e1 e2 e3
            rw [HLEN.out, ← e3]
            exact hc'
          obtain ⟨⟨xc, xd, xw⟩, hx⟩ : ∃ x, x = l[q]! := ⟨_, rfl⟩
          have hlx : l[q]? = some ⟨xc, xd, xw⟩ := by rw [hx, getElem!_pos l q hql, List.getElem?_eq_getElem hql]
          have hlies := HTR.out.stacks.get hlx (show (rows1.map (fun p : SRow => p.1))[q]? = some p.1 from by rw [List.getElem?_map, hp]; rfl)
          have hpl := HPILES.out _ (List.mem_of_getElem? hlx)
          have HTD := Zh (total_take (f := Yd.Pile.dry) hql)
          have HTW := Zh (total_take (f := Yd.Pile.water) hql)
          rw [← hx] at HTD HTW
          obtain ⟨⟨code, ⟨dl, dh⟩, ⟨wl, wh⟩, pil, boi, src⟩, pv5⟩ := p
          obtain ⟨hl1, hl2, hl3, _⟩ := hlies
          simp only at hl1 hl2 hl3 hpl hfv HTD HTW
          subst hl1
          have HL2_ := Zh hl2; have HL3_ := Zh hl3
          obtain ⟨⟨hxd1, hxd2⟩, ⟨hxw1, hxw2⟩⟩ := hpl
          have HOx := Zh (show (#[Zs xc, Z O xd, Z O xw] : Array Value).all (·.oneCell') = true from by simp [Value.oneCell'])
          have c0 := (show wr.cell? ⟨pb, poff + q * 3, none⟩ = some (Zs xc) from (HL53.out.low.cell (p := ⟨pb, poff + q * 3 + 0, none⟩) hpb).trans (hpcells q hql 0 _ (by rw [← hx]; rfl)))
          have c1 := (show wr.cell? ⟨pb, poff + q * 3 + 1, none⟩ = some (Z O xd) from (HL53.out.low.cell (p := ⟨pb, poff + q * 3 + 1, none⟩) hpb).trans (hpcells q hql 1 _ (by rw [← hx]; rfl)))
          have c2 := (show wr.cell? ⟨pb, poff + q * 3 + 2, none⟩ = some (Z O xw) from (HL53.out.low.cell (p := ⟨pb, poff + q * 3 + 2, none⟩) hpb).trans (hpcells q hql 2 _ (by rw [← hx]; rfl)))
          have z0 := (show wr.cell? ⟨gq, 0, none⟩ = some (Zl (some ⟨pb, poff, none⟩) rn rc) from HL53.out.at 0 0 (v := Zl (some ⟨pb, poff, none⟩) rn rc) rfl rfl)
          have hnc5 : rn ≤ rc := by rw [HRN.out]; exact hpc1
          have HDC := Zh (fun W (hW : Below wr.heap.size wr W) => (⟨(hW.cell (p := ⟨gp, q * 8 + 0, none⟩) hgp).trans (hcp 0 (by decide)), (hW.cell (p := ⟨gp, q * 8 + 1, none⟩) hgp).trans (hcp 1 (by decide)), (hW.cell (p := ⟨gp, q * 8 + 2, none⟩) hgp).trans (hcp 2 (by decide)), (hW.cell (p := ⟨gp, q * 8 + 3, none⟩) hgp).trans (hcp 3 (by decide)), (hW.cell (p := ⟨gp, q * 8 + 4, none⟩) hgp).trans (hcp 4 (by decide))⟩ : W.cell? ⟨gp, q * 8 + 0, none⟩ = some (Zs xc) ∧ W.cell? ⟨gp, q * 8 + 1, none⟩ = some (Z O dl) ∧ W.cell? ⟨gp, q * 8 + 2, none⟩ = some (Z O dh) ∧ W.cell? ⟨gp, q * 8 + 3, none⟩ = some (Z O wl) ∧ W.cell? ⟨gp, q * 8 + 4, none⟩ = some (Z O wh)))
          have HGS := Zh (show ∀ W, Below w5.heap.size w5 W → W.cell? ⟨gs, 0, none⟩ = some (Zl (some ⟨gp, 0, none⟩) t1n cp) from fun W hW => by rw [← hvp2]; exact (HBASE.out _ hW).at 1 0 (v := Zl t1a t1n t1c) rfl rfl)
          clear hpcells hpb hx hlx hp hvp hvp2 hgp hcp hfv hl2 hl3
          have HBQ := Zh (Below.refl wr.heap.size wr)
          go_upto_region 16 with (((with_reducible refine at_store 46 (.tmp 16) (.tmp 94) ?_); go_must (refine wpList_store_mid rfl 46 (.tmp 16) (.tmp 94) rfl wr.heap.size 0 #[Zs xc, Z O xd, Z O xw] rfl rfl ((Blk.new wr 46 #[Zs ⟨#[]⟩, Z O 0, Z O 0]).there (o := 0) (n := 3) (Nat.le_of_ble_eq_true rfl)) size_pile (HOx.out) ?_)))
          clear z0 c0 c1 c2
          have HBX := Zh (show Below wr.heap.size wr ((wr.alloc (.cells #[Zs ⟨#[]⟩, Z O 0, Z O 0] 46)).setCells wr.heap.size 0 [Zs xc, Z O xd, Z O xw]) from below_setCells ((Below.refl wr.heap.size wr).alloc (Nat.le_refl _) _) (Nat.le_refl _) _ _)
          have HL54 := Zh (show Locs w5 ((wr.alloc (.cells #[Zs ⟨#[]⟩, Z O 0, Z O 0] 46)).setCells wr.heap.size 0 [Zs xc, Z O xd, Z O xw]) [(gq, 42, [Zl (some ⟨pb, poff, none⟩) rn rc, Z O vap, Z O bro, Z O dus, Z O sdr, Z O swa, Z O soa, Z O pdr, Z O pwa]), (wr.heap.size, 46, [Zs xc, Z O xd, Z O xw])] [] from (HL53.out.alloc 46 [Zs ⟨#[]⟩, Z O 0, Z O 0] rfl).setLoc 1 [] [Zs ⟨#[]⟩, Z O 0, Z O 0] [] [Zs xc, Z O xd, Z O xw] rfl rfl)
          clear HL53
          generalize ((wr.alloc (.cells #[Zs ⟨#[]⟩, Z O 0, Z O 0] 46)).setCells wr.heap.size 0 [Zs xc, Z O xd, Z O xw]) = v10 at HL54 HBX ⊢
          generalize wr.heap.size = gx at HL54 ⊢
          try simp only [Act.put]
          obtain ⟨k0_, k1_, k2_, k3_, k4_⟩ := HDC.out _ HBX.out
          have p0 := cell_regrown (HGS.out _ HL54.out.low)
          have p1 := cell_regrown (show v10.cell? ⟨gp, q * 8, none⟩ = some (Zs xc) from k0_)
          have p2 := cell_regrown (show v10.cell? ⟨gp, q * 8 + 1, none⟩ = some (Z O dl) from k1_)
          have p3 := cell_regrown (show v10.cell? ⟨gp, q * 8 + 2, none⟩ = some (Z O dh) from k2_)
          have p4 := cell_regrown (show v10.cell? ⟨gp, q * 8 + 3, none⟩ = some (Z O wl) from k3_)
          have p5 := cell_regrown (show v10.cell? ⟨gp, q * 8 + 4, none⟩ = some (Z O wh) from k4_)
          have m1 := regrown_calls (W := v10) (fun W => within_yes xd dl dh W HL2_.out)
          have m2 := regrown_calls (W := v10) (fun W => within_yes xw wl wh W HL3_.out)
          clear k0_ k1_ k2_ k3_ k4_
          have i0 := cell_regrown (show v10.cell? ⟨gx, 0, none⟩ = some (Zs xc) from HL54.out.at 1 0 (v := Zs xc) rfl rfl)
          have i1 := cell_regrown (show v10.cell? ⟨gx, 1, none⟩ = some (Z O xd) from HL54.out.at 1 1 (v := Z O xd) rfl rfl)
          have i2 := cell_regrown (show v10.cell? ⟨gx, 2, none⟩ = some (Z O xw) from HL54.out.at 1 2 (v := Z O xw) rfl rfl)
          refine wp_region_quiet_below (by kernel_rfl) (by kernel_rfl) ?_
          repeat (go_big_quiet_step (first | (with_reducible exact m1 _ _) | (with_reducible exact m2 _ _)))
          refine wpQuiet_nil ?_
          intro wq hw'
          have hb8 : Below v10.heap.size v10 wq := by obtain ⟨⟨dq, osq⟩, hw''⟩ := hw'; rw [hw'']; exact below_regrown _ dq osq
          clear hw' i0 i1 i2 m1 m2 p0 p1 p2 p3 p4 p5
          have HL55 := Zh (HL54.out.below hb8)
          clear hb8 HL54
          generalize wq = v11 at HL55 ⊢
          go_upto_region 18 with (fail)
          have i0 := cell_regrown (show v11.cell? ⟨gx, 1, none⟩ = some (Z O xd) from HL55.out.at 1 1 (v := Z O xd) rfl rfl)
          have i1 := cell_regrown (show v11.cell? ⟨gx, 2, none⟩ = some (Z O xw) from HL55.out.at 1 2 (v := Z O xw) rfl rfl)
          refine wp_region_quiet_below (by kernel_rfl) (by kernel_rfl) ?_
          repeat (go_big_quiet_step (fail))
          refine wpQuiet_nil ?_
          intro wq hw'
          have hb8 : Below v11.heap.size v11 wq := by obtain ⟨⟨dq, osq⟩, hw''⟩ := hw'; rw [hw'']; exact below_regrown _ dq osq
          clear hw' i0 i1 
          have HL56 := Zh (HL55.out.below hb8)
          clear hb8 HL55
          generalize wq = v12 at HL56 ⊢
          go_wp2
          go_roundw
          case rel => refine ⟨q + 1, D2 + xd, W2 + xw, by omega, by go_num, by go_num, by go_num, Zh (by rw [HTD.out, HD2.out]; omega), Zh (by rw [HTW.out, HW2.out]; omega), by omega, by omega, Zh (HL56.out.fewer (List.sublist_append_left ([(gq, 42, [Zl (some ⟨pb, poff, none⟩) rn rc, Z O vap, Z O bro, Z O dus, Z O sdr, Z O swa, Z O soa, Z O pdr, Z O pwa])] : List (Nat × TypeId × List Value)) ([(gx, 46, [Zs xc, Z O xd, Z O xw])] : List (Nat × TypeId × List Value))) (List.sublist_append_left ([] : List (List SRow × Value)) ([] : List (List SRow × Value))))⟩
          case measure => simp [intOf]; omega
        · have hqe : q = rn := by omega
          subst hqe
          have e1 : D2 = pdr := by have h1 := HD2.out; have h2 := HBD.out; rw [List.take_of_length_le (by rw [← HRN.out]; exact Nat.le_refl _)] at h1; omega
          have e2 : W2 = pwa + soa := by have h1 := HW2.out; have h2 := HBW.out; rw [List.take_of_length_le (by rw [← HRN.out]; exact Nat.le_refl _)] at h1; omega
          subst e1 e2
          clear HD2 HW2
          have y0 := (show wr.cell? ⟨gs, 1, none⟩ = some (Z O vapour10) from (HBASE.out _ HL53.out.low).at 1 1 (v := Z O vapour10) rfl rfl)
          have y1 := (show wr.cell? ⟨gs, 2, none⟩ = some (Z O vapour11) from (HBASE.out _ HL53.out.low).at 1 2 (v := Z O vapour11) rfl rfl)
          have y2 := (show wr.cell? ⟨gs, 3, none⟩ = some (Z O broth10) from (HBASE.out _ HL53.out.low).at 1 3 (v := Z O broth10) rfl rfl)
          have y3 := (show wr.cell? ⟨gs, 4, none⟩ = some (Z O broth11) from (HBASE.out _ HL53.out.low).at 1 4 (v := Z O broth11) rfl rfl)
          have y4 := (show wr.cell? ⟨gs, 5, none⟩ = some (Z O dust10) from (HBASE.out _ HL53.out.low).at 1 5 (v := Z O dust10) rfl rfl)
          have y5 := (show wr.cell? ⟨gs, 6, none⟩ = some (Z O dust11) from (HBASE.out _ HL53.out.low).at 1 6 (v := Z O dust11) rfl rfl)
          have y6 := (show wr.cell? ⟨gs, 7, none⟩ = some (Z O soldDry10) from (HBASE.out _ HL53.out.low).at 1 7 (v := Z O soldDry10) rfl rfl)
          have y7 := (show wr.cell? ⟨gs, 8, none⟩ = some (Z O soldDry11) from (HBASE.out _ HL53.out.low).at 1 8 (v := Z O soldDry11) rfl rfl)
          have y8 := (show wr.cell? ⟨gs, 9, none⟩ = some (Z O soldWater10) from (HBASE.out _ HL53.out.low).at 1 9 (v := Z O soldWater10) rfl rfl)
          have y9 := (show wr.cell? ⟨gs, 10, none⟩ = some (Z O soldWater11) from (HBASE.out _ HL53.out.low).at 1 10 (v := Z O soldWater11) rfl rfl)
          have y10 := (show wr.cell? ⟨gs, 11, none⟩ = some (Z O soaked10) from (HBASE.out _ HL53.out.low).at 1 11 (v := Z O soaked10) rfl rfl)
          have y11 := (show wr.cell? ⟨gs, 12, none⟩ = some (Z O soaked11) from (HBASE.out _ HL53.out.low).at 1 12 (v := Z O soaked11) rfl rfl)
          have z0 := (show wr.cell? ⟨gq, 0, none⟩ = some (Zl ra q rc) from HL53.out.at 0 0 (v := Zl ra q rc) rfl rfl)
          go_upto_region 20 with (((with_reducible refine at_store 34 (.tmp 17) (.tmp 137) ?_); go_must (refine wpList_store_mid rfl 34 (.tmp 17) (.tmp 137) rfl wr.heap.size 0 #[Z O vapour10, Z O vapour11, Z O broth10, Z O broth11, Z O dust10, Z O dust11, Z O soldDry10, Z O soldDry11, Z O soldWater10, Z O soldWater11, Z O soaked10, Z O soaked11] rfl rfl ((Blk.new wr 34 #[Z O 0, Z O 0, Z O 0, Z O 0, Z O 0, Z O 0, Z O 0, Z O 0, Z O 0, Z O 0, Z O 0, Z O 0]).there (o := 0) (n := 12) (Nat.le_of_ble_eq_true rfl)) size_account (by simp [Value.oneCell']) ?_)))
          clear y0 y1 y2 y3 y4 y5 y6 y7 y8 y9 y10 y11 z0
          have HL54 := Zh (show Locs w5 ((wr.alloc (.cells #[Z O 0, Z O 0, Z O 0, Z O 0, Z O 0, Z O 0, Z O 0, Z O 0, Z O 0, Z O 0, Z O 0, Z O 0] 34)).setCells wr.heap.size 0 [Z O vapour10, Z O vapour11, Z O broth10, Z O broth11, Z O dust10, Z O dust11, Z O soldDry10, Z O soldDry11, Z O soldWater10, Z O soldWater11, Z O soaked10, Z O soaked11]) [(gq, 42, [Zl ra q rc, Z O vap, Z O bro, Z O dus, Z O sdr, Z O swa, Z O soa, Z O D2, Z O pwa]), (wr.heap.size, 34, [Z O vapour10, Z O vapour11, Z O broth10, Z O broth11, Z O dust10, Z O dust11, Z O soldDry10, Z O soldDry11, Z O soldWater10, Z O soldWater11, Z O soaked10, Z O soaked11])] [] from (HL53.out.alloc 34 [Z O 0, Z O 0, Z O 0, Z O 0, Z O 0, Z O 0, Z O 0, Z O 0, Z O 0, Z O 0, Z O 0, Z O 0] rfl).setLoc 1 [] [Z O 0, Z O 0, Z O 0, Z O 0, Z O 0, Z O 0, Z O 0, Z O 0, Z O 0, Z O 0, Z O 0, Z O 0] [] [Z O vapour10, Z O vapour11, Z O broth10, Z O broth11, Z O dust10, Z O dust11, Z O soldDry10, Z O soldDry11, Z O soldWater10, Z O soldWater11, Z O soaked10, Z O soaked11] rfl rfl)
          clear HL53
          generalize ((wr.alloc (.cells #[Z O 0, Z O 0, Z O 0, Z O 0, Z O 0, Z O 0, Z O 0, Z O 0, Z O 0, Z O 0, Z O 0, Z O 0] 34)).setCells wr.heap.size 0 [Z O vapour10, Z O vapour11, Z O broth10, Z O broth11, Z O dust10, Z O dust11, Z O soldDry10, Z O soldDry11, Z O soldWater10, Z O soldWater11, Z O soaked10, Z O soaked11]) = v13 at HL54 ⊢
          generalize wr.heap.size = ga at HL54 ⊢
          try simp only [Act.put]
          have z0 := (show v13.cell? ⟨gq, 6, none⟩ = some (Z O soa) from HL54.out.at 0 6 (v := Z O soa) rfl rfl)
          have z1 := (show v13.cell? ⟨gq, 7, none⟩ = some (Z O D2) from HL54.out.at 0 7 (v := Z O D2) rfl rfl)
          have z2 := (show v13.cell? ⟨gq, 8, none⟩ = some (Z O pwa) from HL54.out.at 0 8 (v := Z O pwa) rfl rfl)
          go_upto_region 22 with (fail)
          clear z0 z1 z2
          have HWIN1 := Zh (show vapour10 ≤ vap ∧ vap ≤ vapour11 from HTR.out.acc.vapour)
          have HWIN2 := Zh (show broth10 ≤ bro ∧ bro ≤ broth11 from HTR.out.acc.broth)
          have HWIN3 := Zh (show dust10 ≤ dus ∧ dus ≤ dust11 from HTR.out.acc.dust)
          have HWIN4 := Zh (show soldDry10 ≤ sdr ∧ sdr ≤ soldDry11 from HTR.out.acc.soldDry)
          have HWIN5 := Zh (show soldWater10 ≤ swa ∧ swa ≤ soldWater11 from HTR.out.acc.soldWater)
          have HWIN6 := Zh (show soaked10 ≤ soa ∧ soa ≤ soaked11 from HTR.out.acc.soaked)
          have HLw := HL54
          clear HL54
          have bg0 := (show v13.cell? ⟨gq, 1, none⟩ = some (Z O vap) from HLw.out.at 0 1 (v := Z O vap) rfl rfl)
          have ba00 := (show v13.cell? ⟨ga, 0, none⟩ = some (Z O vapour10) from HLw.out.at 1 0 (v := Z O vapour10) rfl rfl)
          have ba01 := (show v13.cell? ⟨ga, 1, none⟩ = some (Z O vapour11) from HLw.out.at 1 1 (v := Z O vapour11) rfl rfl)
          have bg1 := (show v13.cell? ⟨gq, 2, none⟩ = some (Z O bro) from HLw.out.at 0 2 (v := Z O bro) rfl rfl)
          have ba10 := (show v13.cell? ⟨ga, 2, none⟩ = some (Z O broth10) from HLw.out.at 1 2 (v := Z O broth10) rfl rfl)
          have ba11 := (show v13.cell? ⟨ga, 3, none⟩ = some (Z O broth11) from HLw.out.at 1 3 (v := Z O broth11) rfl rfl)
          have bg2 := (show v13.cell? ⟨gq, 3, none⟩ = some (Z O dus) from HLw.out.at 0 3 (v := Z O dus) rfl rfl)
          have ba20 := (show v13.cell? ⟨ga, 4, none⟩ = some (Z O dust10) from HLw.out.at 1 4 (v := Z O dust10) rfl rfl)
          have ba21 := (show v13.cell? ⟨ga, 5, none⟩ = some (Z O dust11) from HLw.out.at 1 5 (v := Z O dust11) rfl rfl)
          have bg3 := (show v13.cell? ⟨gq, 4, none⟩ = some (Z O sdr) from HLw.out.at 0 4 (v := Z O sdr) rfl rfl)
          have ba30 := (show v13.cell? ⟨ga, 6, none⟩ = some (Z O soldDry10) from HLw.out.at 1 6 (v := Z O soldDry10) rfl rfl)
          have ba31 := (show v13.cell? ⟨ga, 7, none⟩ = some (Z O soldDry11) from HLw.out.at 1 7 (v := Z O soldDry11) rfl rfl)
          have bg4 := (show v13.cell? ⟨gq, 5, none⟩ = some (Z O swa) from HLw.out.at 0 5 (v := Z O swa) rfl rfl)
          have ba40 := (show v13.cell? ⟨ga, 8, none⟩ = some (Z O soldWater10) from HLw.out.at 1 8 (v := Z O soldWater10) rfl rfl)
          have ba41 := (show v13.cell? ⟨ga, 9, none⟩ = some (Z O soldWater11) from HLw.out.at 1 9 (v := Z O soldWater11) rfl rfl)
          have bg5 := (show v13.cell? ⟨gq, 6, none⟩ = some (Z O soa) from HLw.out.at 0 6 (v := Z O soa) rfl rfl)
          have ba50 := (show v13.cell? ⟨ga, 10, none⟩ = some (Z O soaked10) from HLw.out.at 1 10 (v := Z O soaked10) rfl rfl)
          have ba51 := (show v13.cell? ⟨ga, 11, none⟩ = some (Z O soaked11) from HLw.out.at 1 11 (v := Z O soaked11) rfl rfl)
          go_wp2_with (first
            | (go_at_call 18; refine (within_yes _ _ _ _ (by first | exact HWIN1.out | exact HWIN2.out | exact HWIN3.out | exact HWIN4.out | exact HWIN5.out | exact HWIN6.out)).mono ?_; rintro e xw5 ⟨rfl, hbw⟩; have HLw := Zh (show Locs w5 xw5 [(gq, 42, [Zl ra q rc, Z O vap, Z O bro, Z O dus, Z O sdr, Z O swa, Z O soa, Z O D2, Z O pwa]), (ga, 34, [Z O vapour10, Z O vapour11, Z O broth10, Z O broth11, Z O dust10, Z O dust11, Z O soldDry10, Z O soldDry11, Z O soldWater10, Z O soldWater11, Z O soaked10, Z O soaked11])] [] from HLw.out.below hbw); clear hbw bg0 ba00 ba01 bg1 ba10 ba11 bg2 ba20 ba21 bg3 ba30 ba31 bg4 ba40 ba41 bg5 ba50 ba51; have bg0 := (show xw5.cell? ⟨gq, 1, none⟩ = some (Z O vap) from HLw.out.at 0 1 (v := Z O vap) rfl rfl); have ba00 := (show xw5.cell? ⟨ga, 0, none⟩ = some (Z O vapour10) from HLw.out.at 1 0 (v := Z O vapour10) rfl rfl); have ba01 := (show xw5.cell? ⟨ga, 1, none⟩ = some (Z O vapour11) from HLw.out.at 1 1 (v := Z O vapour11) rfl rfl); have bg1 := (show xw5.cell? ⟨gq, 2, none⟩ = some (Z O bro) from HLw.out.at 0 2 (v := Z O bro) rfl rfl); have ba10 := (show xw5.cell? ⟨ga, 2, none⟩ = some (Z O broth10) from HLw.out.at 1 2 (v := Z O broth10) rfl rfl); have ba11 := (show xw5.cell? ⟨ga, 3, none⟩ = some (Z O broth11) from HLw.out.at 1 3 (v := Z O broth11) rfl rfl); have bg2 := (show xw5.cell? ⟨gq, 3, none⟩ = some (Z O dus) from HLw.out.at 0 3 (v := Z O dus) rfl rfl); have ba20 := (show xw5.cell? ⟨ga, 4, none⟩ = some (Z O dust10) from HLw.out.at 1 4 (v := Z O dust10) rfl rfl); have ba21 := (show xw5.cell? ⟨ga, 5, none⟩ = some (Z O dust11) from HLw.out.at 1 5 (v := Z O dust11) rfl rfl); have bg3 := (show xw5.cell? ⟨gq, 4, none⟩ = some (Z O sdr) from HLw.out.at 0 4 (v := Z O sdr) rfl rfl); have ba30 := (show xw5.cell? ⟨ga, 6, none⟩ = some (Z O soldDry10) from HLw.out.at 1 6 (v := Z O soldDry10) rfl rfl); have ba31 := (show xw5.cell? ⟨ga, 7, none⟩ = some (Z O soldDry11) from HLw.out.at 1 7 (v := Z O soldDry11) rfl rfl); have bg4 := (show xw5.cell? ⟨gq, 5, none⟩ = some (Z O swa) from HLw.out.at 0 5 (v := Z O swa) rfl rfl); have ba40 := (show xw5.cell? ⟨ga, 8, none⟩ = some (Z O soldWater10) from HLw.out.at 1 8 (v := Z O soldWater10) rfl rfl); have ba41 := (show xw5.cell? ⟨ga, 9, none⟩ = some (Z O soldWater11) from HLw.out.at 1 9 (v := Z O soldWater11) rfl rfl); have bg5 := (show xw5.cell? ⟨gq, 6, none⟩ = some (Z O soa) from HLw.out.at 0 6 (v := Z O soa) rfl rfl); have ba50 := (show xw5.cell? ⟨ga, 10, none⟩ = some (Z O soaked10) from HLw.out.at 1 10 (v := Z O soaked10) rfl rfl); have ba51 := (show xw5.cell? ⟨ga, 11, none⟩ = some (Z O soaked11) from HLw.out.at 1 11 (v := Z O soaked11) rfl rfl))
            | (go_at_call 15; refine (stands_calls _).mono ?_; rintro e w9 ⟨rfl, hb9⟩; have HL99 := Zh (HLw.out.below hb9); clear hb9))
          go_ret
          exact lawDone (HB5.out.trans (HL99.out.low.mono HB5.out.size))

/-- YardTrue, whatever comes in. -/
theorem true_law (bef aft : Int) (v : Value) (ds : List (Deed Code)) (x1 : Int) (pv : Value) (xs : List Int) (w : World) (h : Held w.heap.size w 8 deedCells v ds) (hsz : ∀ d ∈ ds, d.stack.size ≤ maxLen ∧ d.other.size ≤ maxLen) (hx1 : 0 ≤ x1 ∧ x1 ≤ 255) (hpv : Held w.heap.size w 1 pickCells pv xs) (hxs : ∀ x ∈ xs, 0 ≤ x ∧ x ≤ 65535) :
    Calls Try.prog 3 #[.agg #[Z O bef, Z O aft, v], .int .u8 x1, pv] w (LawDone w) := by
  obtain ⟨pa, pc, hv, _, _⟩ := hpv.slice
  cases hg : greatB ds with
  | true => rw [hv]; exact true_stands bef aft v ds x1 pa _ pc w h (.inl hg)
  | false =>
    by_cases hok : errYard bef aft ds = 0
    · exact true_real bef aft v ds x1 pv xs w h hsz hg hok hx1 hpv hxs
    · rw [hv]; exact true_stands bef aft v ds x1 pa _ pc w h (.inr hok)
end Go.Proofs.Ytadhheahiamnoaa
