/- YardSwaps: the law's walk where the yard has no error. -/
import Derived.Test.YtcnacegjdmgakaaYLawSwapsA
import Derived.Test.YtcnacegjdmgakaaYLawMore
namespace Go.Proofs.Ytcnacegjdmgakaa
open Go Go.RowKit Go.Shelf Yd

theorem info_deedz : (Try.prog.info? 55).map (fun i => (i.zero, i.size, i.bytes)) = some (some (.agg #[.int .i64 0, .int .i64 0, .string ⟨#[]⟩, .string ⟨#[]⟩, .int .i64 0, .int .i64 0, .int .i64 0, .int .i64 0]), 8, 80) := by kernel_rfl
theorem owns_emptyD (w : World) : (w.alloc (.cells #[] 55)).ownsRow w.heap.size 55 8 (.slice (some ⟨w.heap.size, 0, none⟩) 0 0) 0 [] :=
  ⟨rfl, .inr ⟨w.heap.size, 0, #[], rfl, Nat.le_refl _, Blk.new w 55 #[], Nat.le_refl _, Nat.zero_le _, rfl, rfl⟩⟩
theorem row_blockD {w : World} {base n : Nat} {v : Value} {xs : List Value} (h : w.ownsRow base 55 8 v n xs) (hne : v ≠ .slice none 0 0) :
    ∃ (g cap : Nat) (cur : Array Value), v = .slice (some ⟨g, 0, none⟩) n cap ∧ Blk w g 55 cur ∧ n ≤ cap ∧ cap ≤ maxLen ∧ base ≤ g ∧ cur.toList.take (n * 8) = xs := by
  obtain ⟨_, ⟨h1, _⟩ | ⟨g, cap, cur, hv, hb, hg, hc, hm, hsz, ht⟩⟩ := h
  · exact absurd h1 hne
  · exact ⟨g, cap, cur, hv, hg, hc, hm, hb, ht⟩
theorem Blk.belowAt {w w' : World} {B g : Nat} {t : TypeId} {cs : Array Value} (h : Blk w g t cs) (hb : Below B w w') (hg : g < B) : Blk w' g t cs := (hb.block g hg).trans h
theorem Stands.same0 {w0 w w' : World} {rows : List SRow} {tv : Value} (h : Stands w rows tv) (hb : Below w0.heap.size w w') (h0 : Stands w0 rows tv) : Stands w' rows tv :=
  ⟨row_same h.things (fun g hg => hb.block g (row_lt h0.things hg)), fun p hp => row_same (h.froms p hp) (fun g hg => hb.block g (row_lt (h0.froms p hp) hg)), h.fromsLen, h.codes, h.sizes, h.few⟩

theorem quiet_of {d : Deed Code} (h : quietB d.kind = true) : Quiet d := by unfold quietB at h; simpa [Quiet] using h
theorem cur_split {cur : Array Value} {ds : List (Deed Code)} {i : Nat} {p q : Deed Code} (h : i + 1 < ds.length) (hp : ds[i]! = p) (hq : ds[i + 1]! = q) (ht : cur.toList.take (ds.length * 8) = flat deedCells ds) :
    ∃ PRE POST : List Value, cur = (PRE ++ deedCells p ++ (deedCells q ++ POST)).toArray ∧ PRE.length = i * 8 ∧ ∃ spare, PRE ++ deedCells q ++ deedCells p ++ POST = flat deedCells (ds.take i ++ q :: p :: ds.drop (i + 2)) ++ spare := by
  have e := congrArg (flat deedCells) (two_of h)
  rw [flat_append, flat_cons, flat_cons, hp, hq] at e
  refine ⟨flat deedCells (ds.take i), flat deedCells (ds.drop (i + 2)) ++ cur.toList.drop (ds.length * 8), ?_, ?_, cur.toList.drop (ds.length * 8), ?_⟩
  · rw [← Array.toArray_toList (xs := cur)]
    congr 1
    conv => lhs; rw [← List.take_append_drop (ds.length * 8) cur.toList, ht, e]
    simp
  · rw [flat_length deed_eight, List.length_take, Nat.min_eq_left (by omega)]
  · rw [flat_append, flat_cons, flat_cons]
    simp
theorem held_of_blk {w : World} {g cap n : Nat} {xs : List (Deed Code)} {spare : List Value} (h : Blk w g 55 (flat deedCells xs ++ spare).toArray) (hn : xs.length = n) (hc : n ≤ cap) (hm : cap ≤ maxLen) (h47 : n ≤ 140737488355328) : Held w.heap.size w 8 deedCells (.slice (some ⟨g, 0, none⟩) n cap) xs := by
  subst hn
  refine .inr ⟨g, 0, cap, rfl, h.lt, ⟨hc, h47, by unfold maxLen at hm; omega⟩, fun j hj i u hu => ?_⟩
  have hi : i < 8 := by have := (List.getElem?_eq_some_iff.1 hu).1; simpa [deedCells] using this
  rw [Nat.zero_add, h.cell, ← hu, ← flat_get deed_eight xs j i hj hi]
  have hl : j * 8 + i < (flat deedCells xs).length := by rw [flat_length deed_eight]; omega
  simp [List.getElem?_append_left hl]

theorem size_deed8 : (Try.prog.info? 55).map (·.size) = some 8 := by kernel_rfl

set_option maxRecDepth 100000 in
set_option maxHeartbeats 8000000 in
theorem swaps_real (bef aft : Int) (v : Value) (ds : List (Deed Code)) (x1 : Int) (w : World) (h : Held w.heap.size w 8 deedCells v ds) (hsz : ∀ d ∈ ds, d.stack.size ≤ maxLen ∧ d.other.size ≤ maxLen) (hg : greatB ds = false) (hok : errYard bef aft ds = 0)
    (hl : 2 ≤ ds.length) (hx1 : 0 ≤ x1 ∧ x1 ≤ 255) :
    Calls Try.prog 6 #[.agg #[.int .i64 bef, .int .i64 aft, v], .int .u8 x1] w fun e w' => e = .returned (.bool true) ∧ Below w.heap.size w w' := by
  have h12 := great_few hg hok
  have hmix : Try.prog.follows .mixedOrders = true := by kernel_rfl
  have HHD := Lib.hid h
  obtain ⟨a, c, hv, _, hcs⟩ := h.slice
  have HGR := Lib.hid (fun (W : World) (hW : Below w.heap.size w W) => great_calls bef aft v ds W ((h.below hW).mono hW.size))
  have HCK := Lib.hid (fun (W : World) (hW : Below w.heap.size w W) => refYard_calls bef aft v ds W ((h.below hW).mono hW.size))
  obtain ⟨i, hi⟩ : ∃ i : Nat, x1 % ((ds.length : Int) - 1) = (i : Int) := ⟨(x1 % ((ds.length : Int) - 1)).toNat, by have := Int.emod_nonneg x1 (show (ds.length : Int) - 1 ≠ 0 by omega); omega⟩
  have hi1 : i + 1 < ds.length := by have := Int.emod_lt_of_pos x1 (show (0 : Int) < (ds.length : Int) - 1 by omega); omega
  have hi2 : x1.tmod ((ds.length : Int) - 1) = (i : Int) := by rw [Int.tmod_eq_emod_of_nonneg hx1.1]; exact hi
  have hcast : ((i + 2 : Nat) : Int) = (i : Int) + 2 := by omega
  have HFO := Lib.hid (fun (W : World) (hW : Below w.heap.size w W) => hcast ▸ follow_calls bef aft v ds (i + 2) W ((h.below hW).mono hW.size) hok hsz (by omega) (by omega))
  subst hv
  obtain ⟨b, off, rfl, hbl, ⟨hnc, hcm⟩, hcells⟩ := hcs (by omega)
  have HBL := Lib.hid hbl
  obtain ⟨⟨kp, dp, cp, op, ⟨pal, pah⟩, ⟨pbl, pbh⟩⟩, hdp⟩ : ∃ d, d = ds[i]! := ⟨_, rfl⟩
  obtain ⟨⟨kq, dq, cq, oq, ⟨qal, qah⟩, ⟨qbl, qbh⟩⟩, hdq⟩ : ∃ d, d = ds[i + 1]! := ⟨_, rfl⟩
  have HRP := Lib.hid (fun (j : Nat) (u : Value) (hu : ([.int .i64 kp, .int .i64 dp, .string cp, .string op, .int .i64 pal, .int .i64 pah, .int .i64 pbl, .int .i64 pbh] : List Value)[j]? = some u) => (hcells i (by omega) j u (by rw [← hdp]; exact hu)))
  have HRQ := Lib.hid (fun (j : Nat) (u : Value) (hu : ([.int .i64 kq, .int .i64 dq, .string cq, .string oq, .int .i64 qal, .int .i64 qah, .int .i64 qbl, .int .i64 qbh] : List Value)[j]? = some u) => (hcells (i + 1) hi1 j u (by rw [← hdq]; exact hu)))
  have HDP := Lib.hid hdp; have HDQ := Lib.hid hdq
  obtain ⟨n, hnn⟩ : ∃ n, n = ds.length := ⟨_, rfl⟩
  have HN := Lib.hid hnn
  rw [← hnn] at HGR HCK HFO HHD h12 hi1 hi2 hl hnc ⊢
  have HW0 := Lib.hid ((Below.refl w.heap.size w).alloc (Nat.le_refl _) (.cells #[.int .i64 bef, .int .i64 aft, .slice (some ⟨b, off, none⟩) n c] 24))
  have HY0 := Lib.hid (Blk.new w 24 #[.int .i64 bef, .int .i64 aft, .slice (some ⟨b, off, none⟩) n c])
  have HG := Lib.hid hg
  have HOK := Lib.hid hok
  have HSZ := Lib.hid hsz
  have HOp := Lib.hid (show (#[.int .i64 kp, .int .i64 dp, .string cp, .string op, .int .i64 pal, .int .i64 pah, .int .i64 pbl, .int .i64 pbh] : Array Value).all (·.oneCell') = true from by simp [Value.oneCell'])
  have HOq := Lib.hid (show (#[.int .i64 kq, .int .i64 dq, .string cq, .string oq, .int .i64 qal, .int .i64 qah, .int .i64 qbl, .int .i64 qbh] : Array Value).all (·.oneCell') = true from by simp [Value.oneCell'])
  have hlI : (2 : Int) ≤ (n : Int) := by omega
  have hiI : (i : Int) + 1 < (n : Int) := by omega
  obtain ⟨hx10, hx11⟩ := hx1
  clear h hsz hnn hg hok hi hcs hcells hdp hdq hbl
  go_enter Try.func6, Try.ntmps6
  go_upto_region 4 with (first
    | (go_at_call 13; refine (HGR.out _ HW0.out).mono ?_; rintro e w1 ⟨rfl, hb1⟩; rw [HG.out]; have HW1 := Lib.hid (HW0.out.trans (hb1.mono HW0.out.size)); have HY1 := Lib.hid (HY0.out.below hb1); have y0 := HY1.out.at 0 _ rfl; have y1 := HY1.out.at 1 _ rfl; have y2 := HY1.out.at 2 _ rfl; clear hb1)
    | (go_at_call 14; refine (HCK.out _ HW1.out).mono ?_; rintro e w2 ⟨rfl, hb2⟩; rw [HOK.out]; have HWw2 := Lib.hid (HW1.out.trans (hb2.mono HW1.out.size)); have HYw2 := Lib.hid (HY1.out.below hb2); clear hb2 y0 y1 y2; have y2 := HYw2.out.at 2 _ rfl))
  clear y2
  have HBL2 := Lib.hid (Nat.lt_of_lt_of_le HBL.out HWw2.out.size)
  have HRP2 := Lib.hid (show ∀ (j : Nat) (u : Value), ([.int .i64 kp, .int .i64 dp, .string cp, .string op, .int .i64 pal, .int .i64 pah, .int .i64 pbl, .int .i64 pbh] : List Value)[j]? = some u → w2.cell? ⟨b, off + i * 8 + j, none⟩ = some u from fun j u hu => (HWw2.out.cell (p := ⟨b, off + i * 8 + j, none⟩) HBL.out).trans (HRP.out j u hu))
  have HRQ2 := Lib.hid (show ∀ (j : Nat) (u : Value), ([.int .i64 kq, .int .i64 dq, .string cq, .string oq, .int .i64 qal, .int .i64 qah, .int .i64 qbl, .int .i64 qbh] : List Value)[j]? = some u → w2.cell? ⟨b, off + (i + 1) * 8 + j, none⟩ = some u from fun j u hu => (HWw2.out.cell (p := ⟨b, off + (i + 1) * 8 + j, none⟩) HBL.out).trans (HRQ.out j u hu))
  obtain ⟨gy, hgy⟩ : ∃ g, g = w.heap.size := ⟨_, rfl⟩
  rw [← hgy] at HYw2 ⊢
  have HGY := Lib.hid hgy
  clear hgy
  have hiI2 : (i : Int) < (n : Int) := by omega
  have hi0 : (0 : Int) ≤ (i : Int) + 1 := by omega
  have hiN : ((i : Int) + 1).toNat = i + 1 := by omega
  have hwrap : IntKind.i64.wrap ((i : Int) + 1) = (i : Int) + 1 := by rw [IntKind.wrap_i64]; omega
  refine region_till [] (fun w' => Below w2.heap.size w2 w') 15 [false, false, false, false, false, false, false, false, false, false, false, false, false, false, false] hmix rfl rfl ?_
  have HBd := Lib.hid ((Below.refl w2.heap.size w2).drew)
  have HT := HBd
  generalize w2.drew = Wd at HBd HT ⊢
  refine till_pure (i := 0) (v := .pointer (some ⟨gy, 2, none⟩)) rfl rfl (by kernel_rfl) (fun _ _ _ h => h) (yields_of rfl (fun w' _ => by simp [go_sem])) (fun _ => HT.out) ?_
  simp only [List.setIfInBounds_toArray, List.set_cons_succ, List.set_cons_zero]
  refine till_load (i := 1) (v := .slice (some ⟨b, off, none⟩) n c) rfl rfl (by kernel_rfl) (fun _ _ _ h => h) (yields_of rfl (fun w' hw' => by have hcx : w'.cell? ⟨gy, 2, none⟩ = some (.slice (some ⟨b, off, none⟩) n c) := (hw'.cell (p := ⟨gy, 2, none⟩) (Blk.lt HYw2.out)).trans (HYw2.out.at 2 _ rfl); simp [go_sem, hcx])) (fun _ => HT.out) ?_
  simp only [List.setIfInBounds_toArray, List.set_cons_succ, List.set_cons_zero]
  refine till_pure (i := 2) (v := .int .i64 i) rfl rfl (by kernel_rfl) (fun _ _ _ h => h) (yields_of rfl (fun w' _ => by simp [go_sem])) (fun _ => HT.out) ?_
  simp only [List.setIfInBounds_toArray, List.set_cons_succ, List.set_cons_zero]
  refine till_pure (i := 3) (v := .pointer (some ⟨b, off + i * 8, none⟩)) rfl rfl (by kernel_rfl) (fun _ _ _ h => h) (yields_of rfl (fun w' _ => by simp [go_sem, hiI2])) (fun _ => HT.out) ?_
  simp only [List.setIfInBounds_toArray, List.set_cons_succ, List.set_cons_zero]
  refine till_load (i := 4) (v := .agg #[.int .i64 kp, .int .i64 dp, .string cp, .string op, .int .i64 pal, .int .i64 pah, .int .i64 pbl, .int .i64 pbh]) rfl rfl (by kernel_rfl) (fun _ _ _ h => h) (yields_mid rfl 55 (.tmp 40) rfl b (off + i * 8) rfl [.int .i64 kp, .int .i64 dp, .string cp, .string op, .int .i64 pal, .int .i64 pah, .int .i64 pbl, .int .i64 pbh] _ (fun w' hw' => fun j v hv => (hw'.cell (p := ⟨b, off + i * 8 + j, none⟩) HBL2.out).trans (HRP2.out j v hv)) Try.underlying55 rfl (by kernel_rfl)) (fun _ => HT.out) ?_
  simp only [List.setIfInBounds_toArray, List.set_cons_succ, List.set_cons_zero]
  refine till_pure (i := 5) (v := .pointer (some ⟨gy, 2, none⟩)) rfl rfl (by kernel_rfl) (fun _ _ _ h => h) (yields_of rfl (fun w' _ => by simp [go_sem])) (fun _ => HT.out) ?_
  simp only [List.setIfInBounds_toArray, List.set_cons_succ, List.set_cons_zero]
  refine till_load (i := 6) (v := .slice (some ⟨b, off, none⟩) n c) rfl rfl (by kernel_rfl) (fun _ _ _ h => h) (yields_of rfl (fun w' hw' => by have hcx : w'.cell? ⟨gy, 2, none⟩ = some (.slice (some ⟨b, off, none⟩) n c) := (hw'.cell (p := ⟨gy, 2, none⟩) (Blk.lt HYw2.out)).trans (HYw2.out.at 2 _ rfl); simp [go_sem, hcx])) (fun _ => HT.out) ?_
  simp only [List.setIfInBounds_toArray, List.set_cons_succ, List.set_cons_zero]
  refine till_pure (i := 7) (v := .int .i64 i) rfl rfl (by kernel_rfl) (fun _ _ _ h => h) (yields_of rfl (fun w' _ => by simp [go_sem])) (fun _ => HT.out) ?_
  simp only [List.setIfInBounds_toArray, List.set_cons_succ, List.set_cons_zero]
  refine till_pure (i := 8) (v := .int .i64 ((i : Int) + 1)) rfl rfl (by kernel_rfl) (fun _ _ _ h => h) (yields_of rfl (fun w' _ => by simp [go_sem, hwrap])) (fun _ => HT.out) ?_
  simp only [List.setIfInBounds_toArray, List.set_cons_succ, List.set_cons_zero]
  refine till_pure (i := 9) (v := .pointer (some ⟨b, off + (i + 1) * 8, none⟩)) rfl rfl (by kernel_rfl) (fun _ _ _ h => h) (yields_of rfl (fun w' _ => by simp [go_sem, hiI, hi0, hiN])) (fun _ => HT.out) ?_
  simp only [List.setIfInBounds_toArray, List.set_cons_succ, List.set_cons_zero]
  refine till_load (i := 10) (v := .agg #[.int .i64 kq, .int .i64 dq, .string cq, .string oq, .int .i64 qal, .int .i64 qah, .int .i64 qbl, .int .i64 qbh]) rfl rfl (by kernel_rfl) (fun _ _ _ h => h) (yields_mid rfl 55 (.tmp 46) rfl b (off + (i + 1) * 8) rfl [.int .i64 kq, .int .i64 dq, .string cq, .string oq, .int .i64 qal, .int .i64 qah, .int .i64 qbl, .int .i64 qbh] _ (fun w' hw' => fun j v hv => (hw'.cell (p := ⟨b, off + (i + 1) * 8 + j, none⟩) HBL2.out).trans (HRQ2.out j v hv)) Try.underlying55 rfl (by kernel_rfl)) (fun _ => HT.out) ?_
  simp only [List.setIfInBounds_toArray, List.set_cons_succ, List.set_cons_zero]
  clear HT
  refine till_two (i := 11) (j := 12) (by kernel_rfl) rfl rfl ?_ ?_
  · go_wp2_with fail
    refine ⟨fun _ => (HBd.out.alloc HBd.out.size _), ?_⟩
    try simp only [List.setIfInBounds_toArray, List.set_cons_succ, List.set_cons_zero]
    refine till_only (j := 12) (by kernel_rfl) rfl ?_
    go_wp2_with fail
    have HT2 := Lib.hid (show Below w2.heap.size w2 ((Wd.alloc (.cells #[.int .i64 0, .int .i64 0, .string ⟨#[]⟩, .string ⟨#[]⟩, .int .i64 0, .int .i64 0, .int .i64 0, .int .i64 0] 55)).alloc (.cells #[.int .i64 0, .int .i64 0, .string ⟨#[]⟩, .string ⟨#[]⟩, .int .i64 0, .int .i64 0, .int .i64 0, .int .i64 0] 55)) from (HBd.out.alloc HBd.out.size _).alloc (HBd.out.alloc HBd.out.size _).size _)
    refine ⟨fun _ => HT2.out, ?_⟩
    try simp only [List.setIfInBounds_toArray, List.set_cons_succ, List.set_cons_zero]
    have HgA := Lib.hid ((Blk.new Wd 55 #[.int .i64 0, .int .i64 0, .string ⟨#[]⟩, .string ⟨#[]⟩, .int .i64 0, .int .i64 0, .int .i64 0, .int .i64 0]).alloc (.cells #[.int .i64 0, .int .i64 0, .string ⟨#[]⟩, .string ⟨#[]⟩, .int .i64 0, .int .i64 0, .int .i64 0, .int .i64 0] 55))
    have HgB := Lib.hid (Blk.new (Wd.alloc (.cells #[.int .i64 0, .int .i64 0, .string ⟨#[]⟩, .string ⟨#[]⟩, .int .i64 0, .int .i64 0, .int .i64 0, .int .i64 0] 55)) 55 #[.int .i64 0, .int .i64 0, .string ⟨#[]⟩, .string ⟨#[]⟩, .int .i64 0, .int .i64 0, .int .i64 0, .int .i64 0])
    rw [World.size_alloc] at HgB
    have HGA := Lib.hid (show w2.heap.size ≤ Wd.heap.size ∧ Wd.heap.size ≠ Wd.heap.size + 1 from ⟨HBd.out.size, by omega⟩)
    generalize (Wd.alloc (.cells #[.int .i64 0, .int .i64 0, .string ⟨#[]⟩, .string ⟨#[]⟩, .int .i64 0, .int .i64 0, .int .i64 0, .int .i64 0] 55)).alloc (.cells #[.int .i64 0, .int .i64 0, .string ⟨#[]⟩, .string ⟨#[]⟩, .int .i64 0, .int .i64 0, .int .i64 0, .int .i64 0] 55) = W2 at HT2 HgA HgB ⊢
    obtain ⟨gB, hgb⟩ : ∃ g, g = Wd.heap.size + 1 := ⟨_, rfl⟩
    rw [← hgb] at HgB HGA ⊢
    obtain ⟨gA, hga⟩ : ∃ g, g = Wd.heap.size := ⟨_, rfl⟩
    rw [← hga] at HgA HGA ⊢
    have HNE := Lib.hid (show gB ≠ gA from HGA.out.2.symm)
    have HGE := Lib.hid (show w2.heap.size ≤ gA ∧ w2.heap.size ≤ gB from by have h1 := HGA.out.1; omega)
    clear hga hgb HGA
    refine till_only (j := 13) (by kernel_rfl) rfl ?_
    refine wpList_store_mid rfl 55 (.tmp 6) (.tmp 41) rfl gA 0 #[.int .i64 kp, .int .i64 dp, .string cp, .string op, .int .i64 pal, .int .i64 pah, .int .i64 pbl, .int .i64 pbh] rfl rfl (HgA.out.there (o := 0) (n := 8) (Nat.le_of_ble_eq_true rfl)) size_deed8 HOp.out ?_
    change wpList _ _ _ _ _ (W2.setCells gA 0 [.int .i64 kp, .int .i64 dp, .string cp, .string op, .int .i64 pal, .int .i64 pah, .int .i64 pbl, .int .i64 pbh])
    have HN1 := Lib.hid (HgA.out.stored (old := [.int .i64 0, .int .i64 0, .string ⟨#[]⟩, .string ⟨#[]⟩, .int .i64 0, .int .i64 0, .int .i64 0, .int .i64 0]) [.int .i64 kp, .int .i64 dp, .string cp, .string op, .int .i64 pal, .int .i64 pah, .int .i64 pbl, .int .i64 pbh] rfl)
    have HN2 := Lib.hid (HgB.out.apart (HNE.out) 0 [.int .i64 kp, .int .i64 dp, .string cp, .string op, .int .i64 pal, .int .i64 pah, .int .i64 pbl, .int .i64 pbh])
    have HT3 := Lib.hid (below_setCells HT2.out HGE.out.1 [.int .i64 kp, .int .i64 dp, .string cp, .string op, .int .i64 pal, .int .i64 pah, .int .i64 pbl, .int .i64 pbh] 0)
    clear HgA HgB HT2
    change Till _ _ _ _ ∧ wpAnyT _ _ _ _ _ _ _ _ _ _
    generalize W2.setCells gA 0 [.int .i64 kp, .int .i64 dp, .string cp, .string op, .int .i64 pal, .int .i64 pah, .int .i64 pbl, .int .i64 pbh] = W3 at HN1 HN2 HT3 ⊢
    refine ⟨fun _ => HT3.out, ?_⟩
    try simp only [List.setIfInBounds_toArray, List.set_cons_succ, List.set_cons_zero]
    have HgA := HN1
    have HgB := HN2
    clear HN1 HN2
    refine till_only (j := 14) (by kernel_rfl) rfl ?_
    refine wpList_store_mid rfl 55 (.tmp 7) (.tmp 47) rfl gB 0 #[.int .i64 kq, .int .i64 dq, .string cq, .string oq, .int .i64 qal, .int .i64 qah, .int .i64 qbl, .int .i64 qbh] rfl rfl (HgB.out.there (o := 0) (n := 8) (Nat.le_of_ble_eq_true rfl)) size_deed8 HOq.out ?_
    change wpList _ _ _ _ _ (W3.setCells gB 0 [.int .i64 kq, .int .i64 dq, .string cq, .string oq, .int .i64 qal, .int .i64 qah, .int .i64 qbl, .int .i64 qbh])
    have HN1 := Lib.hid (HgB.out.stored (old := [.int .i64 0, .int .i64 0, .string ⟨#[]⟩, .string ⟨#[]⟩, .int .i64 0, .int .i64 0, .int .i64 0, .int .i64 0]) [.int .i64 kq, .int .i64 dq, .string cq, .string oq, .int .i64 qal, .int .i64 qah, .int .i64 qbl, .int .i64 qbh] rfl)
    have HN2 := Lib.hid (HgA.out.apart (HNE.out.symm) 0 [.int .i64 kq, .int .i64 dq, .string cq, .string oq, .int .i64 qal, .int .i64 qah, .int .i64 qbl, .int .i64 qbh])
    have HT4 := Lib.hid (below_setCells HT3.out HGE.out.2 [.int .i64 kq, .int .i64 dq, .string cq, .string oq, .int .i64 qal, .int .i64 qah, .int .i64 qbl, .int .i64 qbh] 0)
    clear HgA HgB HT3
    change Till _ _ _ _ ∧ wpAnyT _ _ _ _ _ _ _ _ _ _
    generalize W3.setCells gB 0 [.int .i64 kq, .int .i64 dq, .string cq, .string oq, .int .i64 qal, .int .i64 qah, .int .i64 qbl, .int .i64 qbh] = w3 at HN1 HN2 HT4 ⊢
    refine ⟨fun _ => HT4.out, ?_⟩
    try simp only [List.setIfInBounds_toArray, List.set_cons_succ, List.set_cons_zero]
    have HgB := HN1
    have HgA := HN2
    clear HN1 HN2
    refine till_done (by kernel_rfl) ?_
    have GAw3 := HgA
    have GBw3 := HgB
    have HYw3 := Lib.hid (HYw2.out.below HT4.out)
    have HWw3 := Lib.hid (HWw2.out.trans (HT4.out.mono HWw2.out.size))
    clear HgA HgB HT4 HGE HNE HBd HYw2 HWw2
    have y0 := HYw3.out.at 0 _ rfl
    have y1 := HYw3.out.at 1 _ rfl
    have y2 := HYw3.out.at 2 _ rfl
    go_upto_region 6 with (first
      | (go_at_call 16; refine (HFO.out _ HWw3.out).mono ?_; rintro e w4 ⟨rows1, tv1, acc1, k1, f1, hfo, _, _, rfl, hb, hst⟩; obtain ⟨⟨vapour10, vapour11⟩, ⟨broth10, broth11⟩, ⟨dust10, dust11⟩, ⟨soldDry10, soldDry11⟩, ⟨soldWater10, soldWater11⟩, ⟨soaked10, soaked11⟩⟩ := acc1; obtain ⟨t1a, t1n, t1c, rfl⟩ := row_slice hst.things; have HFO1 := Lib.hid hfo; have HS1w4 := Lib.hid hst; have HYw4 := Lib.hid (HYw3.out.below hb); have GAw4 := Lib.hid (GAw3.out.below hb); have GBw4 := Lib.hid (GBw3.out.below hb); have HWw4 := Lib.hid (HWw3.out.trans (hb.mono HWw3.out.size)); have HZ1w4 := Lib.hid (Blk.new w4 36 #[.slice none 0 0, .int .i64 0, .int .i64 0, .int .i64 0, .int .i64 0, .int .i64 0, .int .i64 0, .int .i64 0, .int .i64 0, .int .i64 0, .int .i64 0, .int .i64 0, .int .i64 0]); have HO1 := Lib.hid (show (#[.slice t1a t1n t1c, .int .i64 vapour10, .int .i64 vapour11, .int .i64 broth10, .int .i64 broth11, .int .i64 dust10, .int .i64 dust11, .int .i64 soldDry10, .int .i64 soldDry11, .int .i64 soldWater10, .int .i64 soldWater11, .int .i64 soaked10, .int .i64 soaked11] : Array Value).all (·.oneCell') = true from by simp [Value.oneCell']); clear hfo hst hb)
      | ((with_reducible refine at_store 36 (.tmp 8) (.tmp 53) ?_); go_must (refine wpList_store_mid rfl 36 (.tmp 8) (.tmp 53) rfl w4.heap.size 0 #[.slice t1a t1n t1c, .int .i64 vapour10, .int .i64 vapour11, .int .i64 broth10, .int .i64 broth11, .int .i64 dust10, .int .i64 dust11, .int .i64 soldDry10, .int .i64 soldDry11, .int .i64 soldWater10, .int .i64 soldWater11, .int .i64 soaked10, .int .i64 soaked11] rfl rfl (HZ1w4.out.there (o := 0) (n := 13) (Nat.le_of_ble_eq_true rfl)) size_standing HO1.out ?_)))
    clear y0 y1 y2
    have HZ1w5 := Lib.hid (HZ1w4.out.stored (old := [.slice none 0 0, .int .i64 0, .int .i64 0, .int .i64 0, .int .i64 0, .int .i64 0, .int .i64 0, .int .i64 0, .int .i64 0, .int .i64 0, .int .i64 0, .int .i64 0, .int .i64 0]) [.slice t1a t1n t1c, .int .i64 vapour10, .int .i64 vapour11, .int .i64 broth10, .int .i64 broth11, .int .i64 dust10, .int .i64 dust11, .int .i64 soldDry10, .int .i64 soldDry11, .int .i64 soldWater10, .int .i64 soldWater11, .int .i64 soaked10, .int .i64 soaked11] rfl)
    have HYw5 := Lib.hid ((HYw4.out.alloc (.cells #[.slice none 0 0, .int .i64 0, .int .i64 0, .int .i64 0, .int .i64 0, .int .i64 0, .int .i64 0, .int .i64 0, .int .i64 0, .int .i64 0, .int .i64 0, .int .i64 0, .int .i64 0] 36)).apart (Nat.ne_of_lt HYw4.out.lt) 0 [.slice t1a t1n t1c, .int .i64 vapour10, .int .i64 vapour11, .int .i64 broth10, .int .i64 broth11, .int .i64 dust10, .int .i64 dust11, .int .i64 soldDry10, .int .i64 soldDry11, .int .i64 soldWater10, .int .i64 soldWater11, .int .i64 soaked10, .int .i64 soaked11])
    have GAw5 := Lib.hid ((GAw4.out.alloc (.cells #[.slice none 0 0, .int .i64 0, .int .i64 0, .int .i64 0, .int .i64 0, .int .i64 0, .int .i64 0, .int .i64 0, .int .i64 0, .int .i64 0, .int .i64 0, .int .i64 0, .int .i64 0] 36)).apart (Nat.ne_of_lt GAw4.out.lt) 0 [.slice t1a t1n t1c, .int .i64 vapour10, .int .i64 vapour11, .int .i64 broth10, .int .i64 broth11, .int .i64 dust10, .int .i64 dust11, .int .i64 soldDry10, .int .i64 soldDry11, .int .i64 soldWater10, .int .i64 soldWater11, .int .i64 soaked10, .int .i64 soaked11])
    have GBw5 := Lib.hid ((GBw4.out.alloc (.cells #[.slice none 0 0, .int .i64 0, .int .i64 0, .int .i64 0, .int .i64 0, .int .i64 0, .int .i64 0, .int .i64 0, .int .i64 0, .int .i64 0, .int .i64 0, .int .i64 0, .int .i64 0] 36)).apart (Nat.ne_of_lt GBw4.out.lt) 0 [.slice t1a t1n t1c, .int .i64 vapour10, .int .i64 vapour11, .int .i64 broth10, .int .i64 broth11, .int .i64 dust10, .int .i64 dust11, .int .i64 soldDry10, .int .i64 soldDry11, .int .i64 soldWater10, .int .i64 soldWater11, .int .i64 soaked10, .int .i64 soaked11])
    have HS1w5 := Lib.hid ((HS1w4.out.same (w' := (w4.alloc (.cells #[.slice none 0 0, .int .i64 0, .int .i64 0, .int .i64 0, .int .i64 0, .int .i64 0, .int .i64 0, .int .i64 0, .int .i64 0, .int .i64 0, .int .i64 0, .int .i64 0, .int .i64 0] 36))) (fun k hk => Below.heap_alloc _ _ k hk)).setCells HZ1w4.out (by decide) (by decide) 0 [.slice t1a t1n t1c, .int .i64 vapour10, .int .i64 vapour11, .int .i64 broth10, .int .i64 broth11, .int .i64 dust10, .int .i64 dust11, .int .i64 soldDry10, .int .i64 soldDry11, .int .i64 soldWater10, .int .i64 soldWater11, .int .i64 soaked10, .int .i64 soaked11])
    have HWw5 := Lib.hid (below_setCells (HWw4.out.alloc HWw4.out.size (.cells #[.slice none 0 0, .int .i64 0, .int .i64 0, .int .i64 0, .int .i64 0, .int .i64 0, .int .i64 0, .int .i64 0, .int .i64 0, .int .i64 0, .int .i64 0, .int .i64 0, .int .i64 0] 36)) HWw4.out.size [.slice t1a t1n t1c, .int .i64 vapour10, .int .i64 vapour11, .int .i64 broth10, .int .i64 broth11, .int .i64 dust10, .int .i64 dust11, .int .i64 soldDry10, .int .i64 soldDry11, .int .i64 soldWater10, .int .i64 soldWater11, .int .i64 soaked10, .int .i64 soaked11] 0)
    generalize (w4.alloc (.cells #[.slice none 0 0, .int .i64 0, .int .i64 0, .int .i64 0, .int .i64 0, .int .i64 0, .int .i64 0, .int .i64 0, .int .i64 0, .int .i64 0, .int .i64 0, .int .i64 0, .int .i64 0] 36)).setCells w4.heap.size 0 [.slice t1a t1n t1c, .int .i64 vapour10, .int .i64 vapour11, .int .i64 broth10, .int .i64 broth11, .int .i64 dust10, .int .i64 dust11, .int .i64 soldDry10, .int .i64 soldDry11, .int .i64 soldWater10, .int .i64 soldWater11, .int .i64 soaked10, .int .i64 soaked11] = w5 at HZ1w5 HYw5 GAw5 GBw5 HS1w5 HWw5 ⊢
    obtain ⟨g1, hg1⟩ : ∃ g, g = w4.heap.size := ⟨_, rfl⟩
    rw [← hg1] at HZ1w5 ⊢
    clear hg1 HZ1w4 HWw4 HYw4 GAw4 GBw4 HS1w4
    have a0 := GAw5.out.at 0 (.int .i64 kp) rfl
    have a1 := GAw5.out.at 1 (.int .i64 dp) rfl
    have a2 := GAw5.out.at 2 (.string cp) rfl
    have a3 := GAw5.out.at 3 (.string op) rfl
    have a4 := GAw5.out.at 4 (.int .i64 pal) rfl
    have a5 := GAw5.out.at 5 (.int .i64 pah) rfl
    have a6 := GAw5.out.at 6 (.int .i64 pbl) rfl
    have a7 := GAw5.out.at 7 (.int .i64 pbh) rfl
    have e0 := GBw5.out.at 0 (.int .i64 kq) rfl
    have e1 := GBw5.out.at 1 (.int .i64 dq) rfl
    have e2 := GBw5.out.at 2 (.string cq) rfl
    have e3 := GBw5.out.at 3 (.string oq) rfl
    have e4 := GBw5.out.at 4 (.int .i64 qal) rfl
    have e5 := GBw5.out.at 5 (.int .i64 qah) rfl
    have e6 := GBw5.out.at 6 (.int .i64 qbl) rfl
    have e7 := GBw5.out.at 7 (.int .i64 qbh) rfl
    have hcnt := follow_count bef aft ds (n := i + 2) (by rw [← HN.out]; omega)
    rw [HFO1.out] at hcnt
    simp only at hcnt
    by_cases hdone : k1 < i + 2
    · have hI : (k1 : Int) < (i : Int) + 2 := by omega
      go_wp2_with ((go_at_call 15; refine (stands_calls _).mono ?_; rintro e w6 ⟨rfl, hb6⟩; have HWw6 := Lib.hid (HWw5.out.trans (hb6.mono HWw5.out.size)); clear hb6))
      go_ret
      exact ⟨rfl, HWw6.out⟩
    · have hk : k1 = i + 2 := by omega
      subst hk
      have hf0 : f1 = 0 := hcnt.2.mpr rfl
      subst hf0
      rw [hcast]
      clear hcnt hdone
      by_cases hday : dp = dq
      · subst hday
        by_cases hcode : cp = cq
        · subst hcode
          go_wp2_with ((go_at_call 15; refine (stands_calls _).mono ?_; rintro e w6 ⟨rfl, hb6⟩; have HWw6 := Lib.hid (HWw5.out.trans (hb6.mono HWw5.out.size)); clear hb6))
          go_ret
          exact ⟨rfl, HWw6.out⟩
        · have hcc : (ByteArray.toList cp == ByteArray.toList cq) = false := by rw [codes_beq]; simpa using hcode
          have HCODE := Lib.hid hcode
          clear hcode
          cases hqa : quietB kp with
          | false =>
            go_wp2_with (first
              | (go_at_call 21; refine (quiet_calls _ _).mono ?_; rintro e w' ⟨rfl, rfl⟩; rw [hqa])
              | (go_at_call 15; refine (stands_calls _).mono ?_; rintro e w6 ⟨rfl, hb6⟩; have HWw6 := Lib.hid (HWw5.out.trans (hb6.mono HWw5.out.size)); clear hb6))
            go_ret
            exact ⟨rfl, HWw6.out⟩
          | true =>
            cases hqb : quietB kq with
            | false =>
              go_wp2_with (first
                | (go_at_call 21; refine (quiet_calls _ _).mono ?_; rintro e w' ⟨rfl, rfl⟩; first | rw [hqa] | rw [hqb])
                | (go_at_call 15; refine (stands_calls _).mono ?_; rintro e w6 ⟨rfl, hb6⟩; have HWw6 := Lib.hid (HWw5.out.trans (hb6.mono HWw5.out.size)); clear hb6))
              go_ret
              exact ⟨rfl, HWw6.out⟩
            | true =>
              have HQA := Lib.hid hqa
              have HQB := Lib.hid hqb
              have y0 := HYw5.out.at 0 _ rfl
              have y1 := HYw5.out.at 1 _ rfl
              have y2 := HYw5.out.at 2 _ rfl
              go_upto_region 11 with (first
                | (go_at_call 21; refine (quiet_calls _ _).mono ?_; rintro e w' ⟨rfl, rfl⟩; first | rw [HQA.out] | rw [HQB.out])
                | ((with_reducible refine at_store 24 (.tmp 12) (.tmp 90) ?_); go_must (refine wpList_store_mid rfl 24 (.tmp 12) (.tmp 90) rfl w5.heap.size 0 #[.int .i64 bef, .int .i64 aft, .slice (some ⟨b, off, none⟩) n c] rfl rfl ((Blk.new w5 24 #[.int .i64 0, .int .i64 0, .slice none 0 0]).there (o := 0) (n := 3) (Nat.le_of_ble_eq_true rfl)) size_yard (show (#[.int .i64 bef, .int .i64 aft, .slice (some ⟨b, off, none⟩) n c] : Array Value).all (·.oneCell') = true from by simp [Value.oneCell']) ?_)))
              clear y0 y1 y2 a0 a1 a2 a3 a4 a5 a6 a7 e0 e1 e2 e3 e4 e5 e6 e7
              have HLw6 := Lib.hid ((Blk.new w5 24 #[.int .i64 0, .int .i64 0, .slice none 0 0]).stored (old := [.int .i64 0, .int .i64 0, .slice none 0 0]) [.int .i64 bef, .int .i64 aft, .slice (some ⟨b, off, none⟩) n c] rfl)
              have HYw6 := Lib.hid ((HYw5.out.alloc (.cells #[.int .i64 0, .int .i64 0, .slice none 0 0] 24)).apart (Nat.ne_of_lt HYw5.out.lt) 0 [.int .i64 bef, .int .i64 aft, .slice (some ⟨b, off, none⟩) n c])
              have GAw6 := Lib.hid ((GAw5.out.alloc (.cells #[.int .i64 0, .int .i64 0, .slice none 0 0] 24)).apart (Nat.ne_of_lt GAw5.out.lt) 0 [.int .i64 bef, .int .i64 aft, .slice (some ⟨b, off, none⟩) n c])
              have GBw6 := Lib.hid ((GBw5.out.alloc (.cells #[.int .i64 0, .int .i64 0, .slice none 0 0] 24)).apart (Nat.ne_of_lt GBw5.out.lt) 0 [.int .i64 bef, .int .i64 aft, .slice (some ⟨b, off, none⟩) n c])
              have HZ1w6 := Lib.hid ((HZ1w5.out.alloc (.cells #[.int .i64 0, .int .i64 0, .slice none 0 0] 24)).apart (Nat.ne_of_lt HZ1w5.out.lt) 0 [.int .i64 bef, .int .i64 aft, .slice (some ⟨b, off, none⟩) n c])
              have HS1w6 := Lib.hid ((HS1w5.out.same (w' := w5.alloc (.cells #[.int .i64 0, .int .i64 0, .slice none 0 0] 24)) (fun k hk => Below.heap_alloc _ _ k hk)).setCells (Blk.new w5 24 #[.int .i64 0, .int .i64 0, .slice none 0 0]) (by decide) (by decide) 0 [.int .i64 bef, .int .i64 aft, .slice (some ⟨b, off, none⟩) n c])
              have HWw6 := Lib.hid (below_setCells (HWw5.out.alloc HWw5.out.size (.cells #[.int .i64 0, .int .i64 0, .slice none 0 0] 24)) HWw5.out.size [.int .i64 bef, .int .i64 aft, .slice (some ⟨b, off, none⟩) n c] 0)
              have HLT := Lib.hid (show gy < w5.heap.size ∧ gA < w5.heap.size ∧ gB < w5.heap.size ∧ g1 < w5.heap.size from ⟨HYw5.out.lt, GAw5.out.lt, GBw5.out.lt, HZ1w5.out.lt⟩)
              have HGE5 := Lib.hid HWw5.out.size
              generalize (w5.alloc (.cells #[.int .i64 0, .int .i64 0, .slice none 0 0] 24)).setCells w5.heap.size 0 [.int .i64 bef, .int .i64 aft, .slice (some ⟨b, off, none⟩) n c] = w6 at HLw6 HYw6 GAw6 GBw6 HZ1w6 HS1w6 HWw6 ⊢
              obtain ⟨gl, hgl⟩ : ∃ g, g = w5.heap.size := ⟨_, rfl⟩
              rw [← hgl] at HLw6 HLT HGE5 ⊢
              clear hgl HYw5 GAw5 GBw5 HZ1w5 HS1w5 HWw5
              obtain ⟨i1, hi1', hi1a, hi1b, hi1c⟩ := info_parts info_deedz
              have HI1 := Lib.hid hi1'; have HI1a := Lib.hid hi1a; have HI1b := Lib.hid hi1b; have HI1c := Lib.hid hi1c
              have HFL := Lib.hid (show (flat deedCells ds).length = n * 8 from by rw [flat_length deed_eight, HN.out])
              have HFO' := Lib.hid (show ∀ u ∈ flat deedCells ds, u.oneCell' = true from flat_ones deed_ones ds)
              have HOWN1 := Lib.hid (show (w6.alloc (.cells #[] 55)).ownsRow w6.heap.size 55 8 (.slice (some ⟨w6.heap.size, 0, none⟩) 0 0) 0 [] from owns_emptyD w6)
              have HBV1 := Lib.hid (show Below w.heap.size w (w6.alloc (.cells #[] 55)) from HWw6.out.alloc HWw6.out.size _)
              have HSZ1 := Lib.hid (show w6.heap.size ≤ (w6.alloc (.cells #[] 55)).heap.size from by rw [World.size_alloc]; omega)
              have HHD6 := Lib.hid (HHD.out.below HBV1.out)
              have y2 := (HYw6.out.alloc (.cells #[] 55)).at 2 _ rfl
              clear hi1' hi1a hi1b hi1c
              go_upto_region 12 with (at_builtin; refine wpList_append_own _ rfl (.tmp 91) (.tmp 93) 22 rfl w6.heap.size 55 i1 (.agg #[.int .i64 0, .int .i64 0, .string ⟨#[]⟩, .string ⟨#[]⟩, .int .i64 0, .int .i64 0, .int .i64 0, .int .i64 0]) 8 80 Try.underlying22 HI1.out HI1a.out HI1b.out HI1c.out rfl (by decide) _ _ _ rfl HOWN1.out ⟨b, off, none⟩ n c (flat deedCells ds) rfl HFL.out (fun j u hu => HHD6.out.flat deed_eight (by decide) j u hu) HFO'.out (by unfold maxLen; omega) (by omega) HSZ1.out ?_; intro v7 w7 hown7 hgrow7 hnil7; have hne7 : v7 ≠ .slice none 0 0 := (fun hh => (by have := (hnil7.1 hh).1; cases this)); simp only [Nat.zero_add, List.nil_append] at hown7; obtain ⟨g, cap, cur, hv7, hcur, hcap, hcapm, hgw, hgtake⟩ := row_blockD hown7 hne7; subst hv7; have hbel7 : Below w6.heap.size (w6.alloc (.cells #[] 55)) w7 := (Below.refl _ _).grown hgrow7 HSZ1.out (fun k e => (by cases e; exact Nat.le_refl _)); have HLw7 := Lib.hid ((HLw6.out.alloc (.cells #[] 55)).belowAt hbel7 HLw6.out.lt); have GAw7 := Lib.hid ((GAw6.out.alloc (.cells #[] 55)).belowAt hbel7 GAw6.out.lt); have GBw7 := Lib.hid ((GBw6.out.alloc (.cells #[] 55)).belowAt hbel7 GBw6.out.lt); have HZ1w7 := Lib.hid ((HZ1w6.out.alloc (.cells #[] 55)).belowAt hbel7 HZ1w6.out.lt); have HS1w7 := Lib.hid ((HS1w6.out.same (w' := w6.alloc (.cells #[] 55)) (fun k hk => Below.heap_alloc _ _ k hk)).same0 hbel7 HS1w6.out); have HWw7 := Lib.hid (HBV1.out.trans (hbel7.mono HWw6.out.size)); have HCUR := Lib.hid hcur; have HCAP := Lib.hid (And.intro hcap (And.intro hcapm (And.intro hgw hgtake))); have HGL6 := Lib.hid HLw6.out.lt; clear hown7 hgrow7 hnil7 hne7 hbel7 hcur hcap hcapm hgw hgtake y2; have l2 := HLw7.out.at 2 _ rfl; have lf := HLw7.out.frozen 2)
              clear l2 lf
              have hnGL : g ≠ gl := by have h8 := HCAP.out.2.2.1; have h9 := HGL6.out; omega
              have HLw8 := Lib.hid (show Blk (w7.setCell ⟨gl, 2, none⟩ (.slice (some ⟨g, 0, none⟩) n cap)) gl 24 #[.int .i64 bef, .int .i64 aft, .slice (some ⟨g, 0, none⟩) n cap] from HLw7.out.set_ 2 (.slice (some ⟨g, 0, none⟩) n cap))
              have GAw8 := Lib.hid (show Blk (w7.setCell ⟨gl, 2, none⟩ (.slice (some ⟨g, 0, none⟩) n cap)) gA 55 #[.int .i64 kp, .int .i64 dp, .string cp, .string op, .int .i64 pal, .int .i64 pah, .int .i64 pbl, .int .i64 pbh] from GAw7.out.apart (Nat.ne_of_lt HLT.out.2.1) 2 [.slice (some ⟨g, 0, none⟩) n cap])
              have GBw8 := Lib.hid (show Blk (w7.setCell ⟨gl, 2, none⟩ (.slice (some ⟨g, 0, none⟩) n cap)) gB 55 #[.int .i64 kq, .int .i64 dp, .string cq, .string oq, .int .i64 qal, .int .i64 qah, .int .i64 qbl, .int .i64 qbh] from GBw7.out.apart (Nat.ne_of_lt HLT.out.2.2.1) 2 [.slice (some ⟨g, 0, none⟩) n cap])
              have HZ1w8 := Lib.hid (show Blk (w7.setCell ⟨gl, 2, none⟩ (.slice (some ⟨g, 0, none⟩) n cap)) g1 36 #[.slice t1a t1n t1c, .int .i64 vapour10, .int .i64 vapour11, .int .i64 broth10, .int .i64 broth11, .int .i64 dust10, .int .i64 dust11, .int .i64 soldDry10, .int .i64 soldDry11, .int .i64 soldWater10, .int .i64 soldWater11, .int .i64 soaked10, .int .i64 soaked11] from HZ1w7.out.apart (Nat.ne_of_lt HLT.out.2.2.2) 2 [.slice (some ⟨g, 0, none⟩) n cap])
              have HC8 := Lib.hid (show Blk (w7.setCell ⟨gl, 2, none⟩ (.slice (some ⟨g, 0, none⟩) n cap)) g 55 cur from HCUR.out.apart hnGL 2 [.slice (some ⟨g, 0, none⟩) n cap])
              have HS1w8 := Lib.hid (show Stands (w7.setCell ⟨gl, 2, none⟩ (.slice (some ⟨g, 0, none⟩) n cap)) rows1 (.slice t1a t1n t1c) from HS1w7.out.setCells HLw7.out (by decide) (by decide) 2 [.slice (some ⟨g, 0, none⟩) n cap])
              have HWw8 := Lib.hid (HWw7.out.setCell (p := ⟨gl, 2, none⟩) HGE5.out (.slice (some ⟨g, 0, none⟩) n cap))
              generalize w7.setCell ⟨gl, 2, none⟩ (.slice (some ⟨g, 0, none⟩) n cap) = w8 at HLw8 GAw8 GBw8 HZ1w8 HC8 HS1w8 HWw8 ⊢
              clear HLw7 GAw7 GBw7 HZ1w7 HCUR HS1w7 HWw7
              have hil : i + 1 < ds.length := by rw [← HN.out]; omega
              obtain ⟨PRE, POST, hcur2, hPL, hXS⟩ := cur_split (cur := cur) hil HDP.out.symm HDQ.out.symm (by rw [← HN.out]; exact HCAP.out.2.2.2)
              have HXS := Lib.hid hXS
              have HPL := Lib.hid hPL
              subst hcur2
              have HOK2 := Lib.hid (show errYard bef aft (ds.take i ++ (⟨kq, dp, cq, oq, ⟨qal, qah⟩, ⟨qbl, qbh⟩⟩ : Deed Code) :: (⟨kp, dp, cp, op, ⟨pal, pah⟩, ⟨pbl, pbh⟩⟩ : Deed Code) :: ds.drop (i + 2)) = 0 from by
                have := errYard_swap hil (by rw [← HDP.out, ← HDQ.out]) HOK.out
                rw [← HDP.out, ← HDQ.out, swapped_of hil] at this
                exact this)
              have HFS := Lib.hid (show Yd.follow bef aft (ds.take i ++ (⟨kq, dp, cq, oq, ⟨qal, qah⟩, ⟨qbl, qbh⟩⟩ : Deed Code) :: (⟨kp, dp, cp, op, ⟨pal, pah⟩, ⟨pbl, pbh⟩⟩ : Deed Code) :: ds.drop (i + 2)) (i + 2) = Yd.follow bef aft ds (i + 2) from by
                have := follow_swap (bef := bef) (aft := aft) hil (by rw [← HDP.out]; exact quiet_of HQA.out) (by rw [← HDQ.out]; exact quiet_of HQB.out) (by rw [← HDP.out, ← HDQ.out]; exact HCODE.out) (by rw [HFO1.out])
                rw [← HDP.out, ← HDQ.out, swapped_of hil] at this
                exact this)
              have HSZ2 := Lib.hid (show ∀ d ∈ (ds.take i ++ (⟨kq, dp, cq, oq, ⟨qal, qah⟩, ⟨qbl, qbh⟩⟩ : Deed Code) :: (⟨kp, dp, cp, op, ⟨pal, pah⟩, ⟨pbl, pbh⟩⟩ : Deed Code) :: ds.drop (i + 2)), d.stack.size ≤ maxLen ∧ d.other.size ≤ maxLen from fun d hd => HSZ.out d (by
                rw [two_of hil, ← HDP.out, ← HDQ.out]
                simp only [List.mem_append, List.mem_cons] at hd ⊢
                rcases hd with h | h | h | h
                · exact .inl h
                · exact .inr (.inr (.inl h))
                · exact .inr (.inl h)
                · exact .inr (.inr (.inr h))))
              have HXL := Lib.hid (show (ds.take i ++ (⟨kq, dp, cq, oq, ⟨qal, qah⟩, ⟨qbl, qbh⟩⟩ : Deed Code) :: (⟨kp, dp, cp, op, ⟨pal, pah⟩, ⟨pbl, pbh⟩⟩ : Deed Code) :: ds.drop (i + 2)).length = n from by simp only [List.length_append, List.length_cons, List.length_take, List.length_drop]; have := HN.out; omega)
              refine region_till [] (fun w' => Blk w' gl 24 #[.int .i64 bef, .int .i64 aft, .slice (some ⟨g, 0, none⟩) n cap] ∧ Blk w' gA 55 #[.int .i64 kp, .int .i64 dp, .string cp, .string op, .int .i64 pal, .int .i64 pah, .int .i64 pbl, .int .i64 pbh] ∧ Blk w' gB 55 #[.int .i64 kq, .int .i64 dp, .string cq, .string oq, .int .i64 qal, .int .i64 qah, .int .i64 qbl, .int .i64 qbh]) 13 [false, false, false, false, false, false, false, false, false, false, false, false, false] hmix rfl rfl ?_
              have HLd := Lib.hid (show Blk w8.drew gl 24 #[.int .i64 bef, .int .i64 aft, .slice (some ⟨g, 0, none⟩) n cap] from HLw8.out)
              have HZ1d := Lib.hid (show Blk w8.drew g1 36 #[.slice t1a t1n t1c, .int .i64 vapour10, .int .i64 vapour11, .int .i64 broth10, .int .i64 broth11, .int .i64 dust10, .int .i64 dust11, .int .i64 soldDry10, .int .i64 soldDry11, .int .i64 soldWater10, .int .i64 soldWater11, .int .i64 soaked10, .int .i64 soaked11] from HZ1w8.out)
              have HCd := Lib.hid (show Blk w8.drew g 55 (PRE ++ ([.int .i64 kp, .int .i64 dp, .string cp, .string op, .int .i64 pal, .int .i64 pah, .int .i64 pbl, .int .i64 pbh] : List Value) ++ (([.int .i64 kq, .int .i64 dp, .string cq, .string oq, .int .i64 qal, .int .i64 qah, .int .i64 qbl, .int .i64 qbh] : List Value) ++ POST)).toArray from HC8.out)
              have HT := Lib.hid (show (fun w' => Blk w' gl 24 #[.int .i64 bef, .int .i64 aft, .slice (some ⟨g, 0, none⟩) n cap] ∧ Blk w' gA 55 #[.int .i64 kp, .int .i64 dp, .string cp, .string op, .int .i64 pal, .int .i64 pah, .int .i64 pbl, .int .i64 pbh] ∧ Blk w' gB 55 #[.int .i64 kq, .int .i64 dp, .string cq, .string oq, .int .i64 qal, .int .i64 qah, .int .i64 qbl, .int .i64 qbh]) w8.drew from ⟨HLw8.out, GAw8.out, GBw8.out⟩)
              have HS1d := Lib.hid (HS1w8.out.below (Below.drew (Below.refl w8.heap.size w8)))
              have HWd := Lib.hid HWw8.out.drew
              clear HLw8 GAw8 GBw8 HZ1w8 HC8 HS1w8 HWw8 hXS hPL
              generalize w8.drew = Wd8 at HLd HZ1d HCd HT HS1d HWd ⊢
              refine till_pure (i := 0) (v := .pointer (some ⟨gl, 2, none⟩)) rfl rfl (by kernel_rfl) (fun _ _ _ h => h) (yields_of rfl (fun w' _ => by simp [go_sem])) (fun _ => HT.out) ?_
              simp only [List.setIfInBounds_toArray, List.set_cons_succ, List.set_cons_zero]
              refine till_load (i := 1) (v := .slice (some ⟨g, 0, none⟩) n cap) rfl rfl (by kernel_rfl) (fun _ _ _ h => h) (yields_of rfl (fun w' hw' => by have hcx := Blk.at hw'.1 2 (.slice (some ⟨g, 0, none⟩) n cap) rfl; simp [go_sem, hcx])) (fun _ => HT.out) ?_
              simp only [List.setIfInBounds_toArray, List.set_cons_succ, List.set_cons_zero]
              refine till_pure (i := 2) (v := .int .i64 i) rfl rfl (by kernel_rfl) (fun _ _ _ h => h) (yields_of rfl (fun w' _ => by simp [go_sem])) (fun _ => HT.out) ?_
              simp only [List.setIfInBounds_toArray, List.set_cons_succ, List.set_cons_zero]
              refine till_pure (i := 3) (v := .pointer (some ⟨gl, 2, none⟩)) rfl rfl (by kernel_rfl) (fun _ _ _ h => h) (yields_of rfl (fun w' _ => by simp [go_sem])) (fun _ => HT.out) ?_
              simp only [List.setIfInBounds_toArray, List.set_cons_succ, List.set_cons_zero]
              refine till_load (i := 4) (v := .slice (some ⟨g, 0, none⟩) n cap) rfl rfl (by kernel_rfl) (fun _ _ _ h => h) (yields_of rfl (fun w' hw' => by have hcx := Blk.at hw'.1 2 (.slice (some ⟨g, 0, none⟩) n cap) rfl; simp [go_sem, hcx])) (fun _ => HT.out) ?_
              simp only [List.setIfInBounds_toArray, List.set_cons_succ, List.set_cons_zero]
              refine till_pure (i := 5) (v := .int .i64 i) rfl rfl (by kernel_rfl) (fun _ _ _ h => h) (yields_of rfl (fun w' _ => by simp [go_sem])) (fun _ => HT.out) ?_
              simp only [List.setIfInBounds_toArray, List.set_cons_succ, List.set_cons_zero]
              refine till_pure (i := 6) (v := .int .i64 ((i : Int) + 1)) rfl rfl (by kernel_rfl) (fun _ _ _ h => h) (yields_of rfl (fun w' _ => by simp [go_sem, hwrap])) (fun _ => HT.out) ?_
              simp only [List.setIfInBounds_toArray, List.set_cons_succ, List.set_cons_zero]
              refine till_load (i := 7) (v := .agg #[.int .i64 kq, .int .i64 dp, .string cq, .string oq, .int .i64 qal, .int .i64 qah, .int .i64 qbl, .int .i64 qbh]) rfl rfl (by kernel_rfl) (fun _ _ _ h => h) (yields_mid rfl 55 (.tmp 7) rfl (gB) 0 rfl [.int .i64 kq, .int .i64 dp, .string cq, .string oq, .int .i64 qal, .int .i64 qah, .int .i64 qbl, .int .i64 qbh] _ (fun w' hw' => Blk.range hw'.2.2 0 _ rfl) Try.underlying55 rfl (by kernel_rfl)) (fun _ => HT.out) ?_
              simp only [List.setIfInBounds_toArray, List.set_cons_succ, List.set_cons_zero]
              refine till_load (i := 8) (v := .agg #[.int .i64 kp, .int .i64 dp, .string cp, .string op, .int .i64 pal, .int .i64 pah, .int .i64 pbl, .int .i64 pbh]) rfl rfl (by kernel_rfl) (fun _ _ _ h => h) (yields_mid rfl 55 (.tmp 6) rfl (gA) 0 rfl [.int .i64 kp, .int .i64 dp, .string cp, .string op, .int .i64 pal, .int .i64 pah, .int .i64 pbl, .int .i64 pbh] _ (fun w' hw' => Blk.range hw'.2.1 0 _ rfl) Try.underlying55 rfl (by kernel_rfl)) (fun _ => HT.out) ?_
              simp only [List.setIfInBounds_toArray, List.set_cons_succ, List.set_cons_zero]
              refine till_pure (i := 9) (v := .pointer (some ⟨g, i * 8, none⟩)) rfl rfl (by kernel_rfl) (fun _ _ _ h => h) (yields_of rfl (fun w' _ => by simp [go_sem, hiI2])) (fun _ => HT.out) ?_
              simp only [List.setIfInBounds_toArray, List.set_cons_succ, List.set_cons_zero]
              refine till_only (j := 10) (by kernel_rfl) rfl ?_
              refine wpList_store_mid rfl 55 (.tmp 105) (.tmp 103) rfl g (i * 8) #[.int .i64 kq, .int .i64 dp, .string cq, .string oq, .int .i64 qal, .int .i64 qah, .int .i64 qbl, .int .i64 qbh] rfl rfl (HCd.out.there (o := i * 8) (n := 8) (by have := HPL.out; simp; omega)) size_deed8 HOq.out ?_
              change wpList _ _ _ _ _ (Wd8.setCells g (i * 8) [.int .i64 kq, .int .i64 dp, .string cq, .string oq, .int .i64 qal, .int .i64 qah, .int .i64 qbl, .int .i64 qbh])
              have HN1 := Lib.hid (show Blk (Wd8.setCells g (i * 8) [.int .i64 kq, .int .i64 dp, .string cq, .string oq, .int .i64 qal, .int .i64 qah, .int .i64 qbl, .int .i64 qbh]) g 55 (PRE ++ ([.int .i64 kq, .int .i64 dp, .string cq, .string oq, .int .i64 qal, .int .i64 qah, .int .i64 qbl, .int .i64 qbh] : List Value) ++ (([.int .i64 kq, .int .i64 dp, .string cq, .string oq, .int .i64 qal, .int .i64 qah, .int .i64 qbl, .int .i64 qbh] : List Value) ++ POST)).toArray from by
                have h7 := HCd.out
                have := Blk.storedMid (PRE) [.int .i64 kp, .int .i64 dp, .string cp, .string op, .int .i64 pal, .int .i64 pah, .int .i64 pbl, .int .i64 pbh] ((([.int .i64 kq, .int .i64 dp, .string cq, .string oq, .int .i64 qal, .int .i64 qah, .int .i64 qbl, .int .i64 qbh] : List Value) ++ POST)) [.int .i64 kq, .int .i64 dp, .string cq, .string oq, .int .i64 qal, .int .i64 qah, .int .i64 qbl, .int .i64 qbh] (by simpa using h7) rfl
                rw [show (PRE).length = i * 8 from by have := HPL.out; (try simp); omega] at this
                exact this)
              have HN2 := Lib.hid (show (fun w' => Blk w' gl 24 #[.int .i64 bef, .int .i64 aft, .slice (some ⟨g, 0, none⟩) n cap] ∧ Blk w' gA 55 #[.int .i64 kp, .int .i64 dp, .string cp, .string op, .int .i64 pal, .int .i64 pah, .int .i64 pbl, .int .i64 pbh] ∧ Blk w' gB 55 #[.int .i64 kq, .int .i64 dp, .string cq, .string oq, .int .i64 qal, .int .i64 qah, .int .i64 qbl, .int .i64 qbh]) (Wd8.setCells g (i * 8) [.int .i64 kq, .int .i64 dp, .string cq, .string oq, .int .i64 qal, .int .i64 qah, .int .i64 qbl, .int .i64 qbh]) from ⟨HT.out.1.apart hnGL.symm _ _, HT.out.2.1.apart (show gA ≠ g from by have h7 := HLT.out.2.1; have h8 := HCAP.out.2.2.1; have h9 := HGL6.out; omega) _ _, HT.out.2.2.apart (show gB ≠ g from by have h7 := HLT.out.2.2.1; have h8 := HCAP.out.2.2.1; have h9 := HGL6.out; omega) _ _⟩)
              have HN3 := Lib.hid (HZ1d.out.apart (show g1 ≠ g from by have h7 := HLT.out.2.2.2; have h8 := HCAP.out.2.2.1; have h9 := HGL6.out; omega) (i * 8) [.int .i64 kq, .int .i64 dp, .string cq, .string oq, .int .i64 qal, .int .i64 qah, .int .i64 qbl, .int .i64 qbh])
              have HN4 := Lib.hid (HS1d.out.setCells HCd.out (by decide) (by decide) (i * 8) [.int .i64 kq, .int .i64 dp, .string cq, .string oq, .int .i64 qal, .int .i64 qah, .int .i64 qbl, .int .i64 qbh])
              have HN5 := Lib.hid (below_setCells HWd.out (show w.heap.size ≤ g from by have h7 := HGE5.out; have h8 := HCAP.out.2.2.1; have h9 := HGL6.out; omega) [.int .i64 kq, .int .i64 dp, .string cq, .string oq, .int .i64 qal, .int .i64 qah, .int .i64 qbl, .int .i64 qbh] (i * 8))
              clear HCd HT HZ1d HS1d HWd
              change Till _ _ _ _ ∧ wpAnyT _ _ _ _ _ _ _ _ _ _
              generalize Wd8.setCells g (i * 8) [.int .i64 kq, .int .i64 dp, .string cq, .string oq, .int .i64 qal, .int .i64 qah, .int .i64 qbl, .int .i64 qbh] = We8 at HN1 HN2 HN3 HN4 HN5 ⊢
              have HCd := HN1; have HT := HN2; have HZ1d := HN3; have HS1d := HN4; have HWd := HN5
              clear HN1 HN2 HN3 HN4 HN5
              refine ⟨fun _ => HT.out, ?_⟩
              try simp only [List.setIfInBounds_toArray, List.set_cons_succ, List.set_cons_zero]
              refine till_pure (i := 11) (v := .pointer (some ⟨g, (i + 1) * 8, none⟩)) rfl rfl (by kernel_rfl) (fun _ _ _ h => h) (yields_of rfl (fun w' _ => by simp [go_sem, hiI, hi0, hiN])) (fun _ => HT.out) ?_
              simp only [List.setIfInBounds_toArray, List.set_cons_succ, List.set_cons_zero]
              refine till_only (j := 12) (by kernel_rfl) rfl ?_
              refine wpList_store_mid rfl 55 (.tmp 106) (.tmp 104) rfl g ((i + 1) * 8) #[.int .i64 kp, .int .i64 dp, .string cp, .string op, .int .i64 pal, .int .i64 pah, .int .i64 pbl, .int .i64 pbh] rfl rfl (HCd.out.there (o := (i + 1) * 8) (n := 8) (by have := HPL.out; simp; omega)) size_deed8 HOp.out ?_
              change wpList _ _ _ _ _ (We8.setCells g ((i + 1) * 8) [.int .i64 kp, .int .i64 dp, .string cp, .string op, .int .i64 pal, .int .i64 pah, .int .i64 pbl, .int .i64 pbh])
              have HN1 := Lib.hid (show Blk (We8.setCells g ((i + 1) * 8) [.int .i64 kp, .int .i64 dp, .string cp, .string op, .int .i64 pal, .int .i64 pah, .int .i64 pbl, .int .i64 pbh]) g 55 ((PRE ++ ([.int .i64 kq, .int .i64 dp, .string cq, .string oq, .int .i64 qal, .int .i64 qah, .int .i64 qbl, .int .i64 qbh] : List Value)) ++ ([.int .i64 kp, .int .i64 dp, .string cp, .string op, .int .i64 pal, .int .i64 pah, .int .i64 pbl, .int .i64 pbh] : List Value) ++ POST).toArray from by
                have h7 := HCd.out
                have := Blk.storedMid ((PRE ++ ([.int .i64 kq, .int .i64 dp, .string cq, .string oq, .int .i64 qal, .int .i64 qah, .int .i64 qbl, .int .i64 qbh] : List Value))) [.int .i64 kq, .int .i64 dp, .string cq, .string oq, .int .i64 qal, .int .i64 qah, .int .i64 qbl, .int .i64 qbh] (POST) [.int .i64 kp, .int .i64 dp, .string cp, .string op, .int .i64 pal, .int .i64 pah, .int .i64 pbl, .int .i64 pbh] (by simpa using h7) rfl
                rw [show ((PRE ++ ([.int .i64 kq, .int .i64 dp, .string cq, .string oq, .int .i64 qal, .int .i64 qah, .int .i64 qbl, .int .i64 qbh] : List Value))).length = (i + 1) * 8 from by have := HPL.out; (try simp); omega] at this
                exact this)
              have HN2 := Lib.hid (show (fun w' => Blk w' gl 24 #[.int .i64 bef, .int .i64 aft, .slice (some ⟨g, 0, none⟩) n cap] ∧ Blk w' gA 55 #[.int .i64 kp, .int .i64 dp, .string cp, .string op, .int .i64 pal, .int .i64 pah, .int .i64 pbl, .int .i64 pbh] ∧ Blk w' gB 55 #[.int .i64 kq, .int .i64 dp, .string cq, .string oq, .int .i64 qal, .int .i64 qah, .int .i64 qbl, .int .i64 qbh]) (We8.setCells g ((i + 1) * 8) [.int .i64 kp, .int .i64 dp, .string cp, .string op, .int .i64 pal, .int .i64 pah, .int .i64 pbl, .int .i64 pbh]) from ⟨HT.out.1.apart hnGL.symm _ _, HT.out.2.1.apart (show gA ≠ g from by have h7 := HLT.out.2.1; have h8 := HCAP.out.2.2.1; have h9 := HGL6.out; omega) _ _, HT.out.2.2.apart (show gB ≠ g from by have h7 := HLT.out.2.2.1; have h8 := HCAP.out.2.2.1; have h9 := HGL6.out; omega) _ _⟩)
              have HN3 := Lib.hid (HZ1d.out.apart (show g1 ≠ g from by have h7 := HLT.out.2.2.2; have h8 := HCAP.out.2.2.1; have h9 := HGL6.out; omega) ((i + 1) * 8) [.int .i64 kp, .int .i64 dp, .string cp, .string op, .int .i64 pal, .int .i64 pah, .int .i64 pbl, .int .i64 pbh])
              have HN4 := Lib.hid (HS1d.out.setCells HCd.out (by decide) (by decide) ((i + 1) * 8) [.int .i64 kp, .int .i64 dp, .string cp, .string op, .int .i64 pal, .int .i64 pah, .int .i64 pbl, .int .i64 pbh])
              have HN5 := Lib.hid (below_setCells HWd.out (show w.heap.size ≤ g from by have h7 := HGE5.out; have h8 := HCAP.out.2.2.1; have h9 := HGL6.out; omega) [.int .i64 kp, .int .i64 dp, .string cp, .string op, .int .i64 pal, .int .i64 pah, .int .i64 pbl, .int .i64 pbh] ((i + 1) * 8))
              clear HCd HT HZ1d HS1d HWd
              change Till _ _ _ _ ∧ wpAnyT _ _ _ _ _ _ _ _ _ _
              generalize We8.setCells g ((i + 1) * 8) [.int .i64 kp, .int .i64 dp, .string cp, .string op, .int .i64 pal, .int .i64 pah, .int .i64 pbl, .int .i64 pbh] = w9 at HN1 HN2 HN3 HN4 HN5 ⊢
              have HCd := HN1; have HT := HN2; have HZ1d := HN3; have HS1d := HN4; have HWd := HN5
              clear HN1 HN2 HN3 HN4 HN5
              refine ⟨fun _ => HT.out, ?_⟩
              try simp only [List.setIfInBounds_toArray, List.set_cons_succ, List.set_cons_zero]
              refine till_done (by kernel_rfl) ?_
              obtain ⟨spare, esp⟩ := HXS.out
              have e2 : PRE ++ ([.int .i64 kq, .int .i64 dp, .string cq, .string oq, .int .i64 qal, .int .i64 qah, .int .i64 qbl, .int .i64 qbh] : List Value) ++ ([.int .i64 kp, .int .i64 dp, .string cp, .string op, .int .i64 pal, .int .i64 pah, .int .i64 pbl, .int .i64 pbh] : List Value) ++ POST = flat deedCells (ds.take i ++ (⟨kq, dp, cq, oq, ⟨qal, qah⟩, ⟨qbl, qbh⟩⟩ : Deed Code) :: (⟨kp, dp, cp, op, ⟨pal, pah⟩, ⟨pbl, pbh⟩⟩ : Deed Code) :: ds.drop (i + 2)) ++ spare := by rw [← esp]; simp [deedCells]
              have HHX := Lib.hid (show Held w9.heap.size w9 8 deedCells (.slice (some ⟨g, 0, none⟩) n cap) (ds.take i ++ (⟨kq, dp, cq, oq, ⟨qal, qah⟩, ⟨qbl, qbh⟩⟩ : Deed Code) :: (⟨kp, dp, cp, op, ⟨pal, pah⟩, ⟨pbl, pbh⟩⟩ : Deed Code) :: ds.drop (i + 2)) from held_of_blk (spare := spare) (by have h7 := HCd.out; rw [e2] at h7; exact h7) HXL.out HCAP.out.1 HCAP.out.2.1 (by omega))
              have HF2 := Lib.hid (hcast ▸ follow_calls bef aft (.slice (some ⟨g, 0, none⟩) n cap) (ds.take i ++ (⟨kq, dp, cq, oq, ⟨qal, qah⟩, ⟨qbl, qbh⟩⟩ : Deed Code) :: (⟨kp, dp, cp, op, ⟨pal, pah⟩, ⟨pbl, pbh⟩⟩ : Deed Code) :: ds.drop (i + 2)) (i + 2) w9 HHX.out HOK2.out HSZ2.out (by rw [HXL.out]; omega) (by omega))
              have l0 := HT.out.1.at 0 (.int .i64 bef) rfl
              have l1 := HT.out.1.at 1 (.int .i64 aft) rfl
              have l2 := HT.out.1.at 2 (.slice (some ⟨g, 0, none⟩) n cap) rfl
              have HWw9 := HWd; have HZ1w9 := HZ1d; have HS1w9 := HS1d
              clear HWd HZ1d HS1d HT HCd HHX e2 esp
              go_upto_region 14 with (first
                | (go_at_call 16; refine (HF2.out).mono ?_; rintro e w10 ⟨rows3, tv3, acc3, k3, f3, hfo, _, _, rfl, hb, hst⟩; obtain ⟨⟨vapour30, vapour31⟩, ⟨broth30, broth31⟩, ⟨dust30, dust31⟩, ⟨soldDry30, soldDry31⟩, ⟨soldWater30, soldWater31⟩, ⟨soaked30, soaked31⟩⟩ := acc3; obtain ⟨t3a, t3n, t3c, rfl⟩ := row_slice hst.things; have HFO3 := Lib.hid hfo; have HS3w10 := Lib.hid hst; have HZ1w10 := Lib.hid (HZ1w9.out.below hb); have HS1w10 := Lib.hid (HS1w9.out.below hb); have HWw10 := Lib.hid (HWw9.out.trans (hb.mono HWw9.out.size)); have HZ3w10 := Lib.hid (Blk.new w10 36 #[.slice none 0 0, .int .i64 0, .int .i64 0, .int .i64 0, .int .i64 0, .int .i64 0, .int .i64 0, .int .i64 0, .int .i64 0, .int .i64 0, .int .i64 0, .int .i64 0, .int .i64 0]); have HO3 := Lib.hid (show (#[.slice t3a t3n t3c, .int .i64 vapour30, .int .i64 vapour31, .int .i64 broth30, .int .i64 broth31, .int .i64 dust30, .int .i64 dust31, .int .i64 soldDry30, .int .i64 soldDry31, .int .i64 soldWater30, .int .i64 soldWater31, .int .i64 soaked30, .int .i64 soaked31] : Array Value).all (·.oneCell') = true from by simp [Value.oneCell']); clear hfo hst hb)
                | ((with_reducible refine at_store 36 (.tmp 13) (.tmp 112) ?_); go_must (refine wpList_store_mid rfl 36 (.tmp 13) (.tmp 112) rfl w10.heap.size 0 #[.slice t3a t3n t3c, .int .i64 vapour30, .int .i64 vapour31, .int .i64 broth30, .int .i64 broth31, .int .i64 dust30, .int .i64 dust31, .int .i64 soldDry30, .int .i64 soldDry31, .int .i64 soldWater30, .int .i64 soldWater31, .int .i64 soaked30, .int .i64 soaked31] rfl rfl (HZ3w10.out.there (o := 0) (n := 13) (Nat.le_of_ble_eq_true rfl)) size_standing HO3.out ?_)))
              clear l0 l1 l2
              have HZ3w11 := Lib.hid (HZ3w10.out.stored (old := [.slice none 0 0, .int .i64 0, .int .i64 0, .int .i64 0, .int .i64 0, .int .i64 0, .int .i64 0, .int .i64 0, .int .i64 0, .int .i64 0, .int .i64 0, .int .i64 0, .int .i64 0]) [.slice t3a t3n t3c, .int .i64 vapour30, .int .i64 vapour31, .int .i64 broth30, .int .i64 broth31, .int .i64 dust30, .int .i64 dust31, .int .i64 soldDry30, .int .i64 soldDry31, .int .i64 soldWater30, .int .i64 soldWater31, .int .i64 soaked30, .int .i64 soaked31] rfl)
              have HZ1w11 := Lib.hid ((HZ1w10.out.alloc (.cells #[.slice none 0 0, .int .i64 0, .int .i64 0, .int .i64 0, .int .i64 0, .int .i64 0, .int .i64 0, .int .i64 0, .int .i64 0, .int .i64 0, .int .i64 0, .int .i64 0, .int .i64 0] 36)).apart (Nat.ne_of_lt HZ1w10.out.lt) 0 [.slice t3a t3n t3c, .int .i64 vapour30, .int .i64 vapour31, .int .i64 broth30, .int .i64 broth31, .int .i64 dust30, .int .i64 dust31, .int .i64 soldDry30, .int .i64 soldDry31, .int .i64 soldWater30, .int .i64 soldWater31, .int .i64 soaked30, .int .i64 soaked31])
              have HS1w11 := Lib.hid ((HS1w10.out.same (w' := (w10.alloc (.cells #[.slice none 0 0, .int .i64 0, .int .i64 0, .int .i64 0, .int .i64 0, .int .i64 0, .int .i64 0, .int .i64 0, .int .i64 0, .int .i64 0, .int .i64 0, .int .i64 0, .int .i64 0] 36))) (fun k hk => Below.heap_alloc _ _ k hk)).setCells HZ3w10.out (by decide) (by decide) 0 [.slice t3a t3n t3c, .int .i64 vapour30, .int .i64 vapour31, .int .i64 broth30, .int .i64 broth31, .int .i64 dust30, .int .i64 dust31, .int .i64 soldDry30, .int .i64 soldDry31, .int .i64 soldWater30, .int .i64 soldWater31, .int .i64 soaked30, .int .i64 soaked31])
              have HS3w11 := Lib.hid ((HS3w10.out.same (w' := (w10.alloc (.cells #[.slice none 0 0, .int .i64 0, .int .i64 0, .int .i64 0, .int .i64 0, .int .i64 0, .int .i64 0, .int .i64 0, .int .i64 0, .int .i64 0, .int .i64 0, .int .i64 0, .int .i64 0] 36))) (fun k hk => Below.heap_alloc _ _ k hk)).setCells HZ3w10.out (by decide) (by decide) 0 [.slice t3a t3n t3c, .int .i64 vapour30, .int .i64 vapour31, .int .i64 broth30, .int .i64 broth31, .int .i64 dust30, .int .i64 dust31, .int .i64 soldDry30, .int .i64 soldDry31, .int .i64 soldWater30, .int .i64 soldWater31, .int .i64 soaked30, .int .i64 soaked31])
              have HWw11 := Lib.hid (below_setCells (HWw10.out.alloc HWw10.out.size (.cells #[.slice none 0 0, .int .i64 0, .int .i64 0, .int .i64 0, .int .i64 0, .int .i64 0, .int .i64 0, .int .i64 0, .int .i64 0, .int .i64 0, .int .i64 0, .int .i64 0, .int .i64 0] 36)) HWw10.out.size [.slice t3a t3n t3c, .int .i64 vapour30, .int .i64 vapour31, .int .i64 broth30, .int .i64 broth31, .int .i64 dust30, .int .i64 dust31, .int .i64 soldDry30, .int .i64 soldDry31, .int .i64 soldWater30, .int .i64 soldWater31, .int .i64 soaked30, .int .i64 soaked31] 0)
              generalize (w10.alloc (.cells #[.slice none 0 0, .int .i64 0, .int .i64 0, .int .i64 0, .int .i64 0, .int .i64 0, .int .i64 0, .int .i64 0, .int .i64 0, .int .i64 0, .int .i64 0, .int .i64 0, .int .i64 0] 36)).setCells w10.heap.size 0 [.slice t3a t3n t3c, .int .i64 vapour30, .int .i64 vapour31, .int .i64 broth30, .int .i64 broth31, .int .i64 dust30, .int .i64 dust31, .int .i64 soldDry30, .int .i64 soldDry31, .int .i64 soldWater30, .int .i64 soldWater31, .int .i64 soaked30, .int .i64 soaked31] = w11 at HZ3w11 HZ1w11 HS1w11 HS3w11 HWw11 ⊢
              obtain ⟨g3, hg3⟩ : ∃ g, g = w10.heap.size := ⟨_, rfl⟩
              rw [← hg3] at HZ3w11 ⊢
              clear hg3 HZ3w10 HWw10 HZ1w10 HS1w10 HS3w10
              have hbb := HFS.out
              rw [HFO3.out, HFO1.out] at hbb
              simp only [Prod.mk.injEq, stOf, St.mk.injEq, Acc.mk.injEq, Bd.mk.injEq] at hbb
              obtain ⟨⟨hr, ⟨rfl, rfl⟩, ⟨rfl, rfl⟩, ⟨rfl, rfl⟩, ⟨rfl, rfl⟩, ⟨rfl, rfl⟩, ⟨rfl, rfl⟩⟩, rfl, rfl⟩ := hbb
              obtain rfl : t1n = t3n := by rw [row_len HS1w11.out.things, row_len HS3w11.out.things]; have := congrArg List.length hr; simpa using this.symm
              have HR := Lib.hid hr
              rw [hcast]
              have p0 := HZ1w11.out.at 0 (.slice t1a t1n t1c) rfl
              have p1 := HZ1w11.out.at 1 (.int .i64 vapour30) rfl
              have p2 := HZ1w11.out.at 2 (.int .i64 vapour31) rfl
              have p3 := HZ1w11.out.at 3 (.int .i64 broth30) rfl
              have p4 := HZ1w11.out.at 4 (.int .i64 broth31) rfl
              have p5 := HZ1w11.out.at 5 (.int .i64 dust30) rfl
              have p6 := HZ1w11.out.at 6 (.int .i64 dust31) rfl
              have p7 := HZ1w11.out.at 7 (.int .i64 soldDry30) rfl
              have p8 := HZ1w11.out.at 8 (.int .i64 soldDry31) rfl
              have p9 := HZ1w11.out.at 9 (.int .i64 soldWater30) rfl
              have p10 := HZ1w11.out.at 10 (.int .i64 soldWater31) rfl
              have p11 := HZ1w11.out.at 11 (.int .i64 soaked30) rfl
              have p12 := HZ1w11.out.at 12 (.int .i64 soaked31) rfl
              have r0 := HZ3w11.out.at 0 (.slice t3a t1n t3c) rfl
              have r1 := HZ3w11.out.at 1 (.int .i64 vapour30) rfl
              have r2 := HZ3w11.out.at 2 (.int .i64 vapour31) rfl
              have r3 := HZ3w11.out.at 3 (.int .i64 broth30) rfl
              have r4 := HZ3w11.out.at 4 (.int .i64 broth31) rfl
              have r5 := HZ3w11.out.at 5 (.int .i64 dust30) rfl
              have r6 := HZ3w11.out.at 6 (.int .i64 dust31) rfl
              have r7 := HZ3w11.out.at 7 (.int .i64 soldDry30) rfl
              have r8 := HZ3w11.out.at 8 (.int .i64 soldDry31) rfl
              have r9 := HZ3w11.out.at 9 (.int .i64 soldWater30) rfl
              have r10 := HZ3w11.out.at 10 (.int .i64 soldWater31) rfl
              have r11 := HZ3w11.out.at 11 (.int .i64 soaked30) rfl
              have r12 := HZ3w11.out.at 12 (.int .i64 soaked31) rfl
              go_wp2_with (first
                | (go_at_call 20; refine (same_rows HS1w11.out HS3w11.out HR.out.symm).mono ?_; rintro e w12 ⟨rfl, hb12⟩; have HWw12 := Lib.hid (HWw11.out.trans (hb12.mono HWw11.out.size)); clear hb12)
                | (go_at_call 15; refine (stands_calls _).mono ?_; rintro e w13 ⟨rfl, hb13⟩; have HWw13 := Lib.hid (HWw12.out.trans (hb13.mono HWw12.out.size)); clear hb13))
              go_ret
              exact ⟨rfl, HWw13.out⟩
      · have hdd : (dp == dq) = false := by simpa using hday
        have hdd2 : (dp != dq) = true := by simpa using hday
        go_wp2_with ((go_at_call 15; refine (stands_calls _).mono ?_; rintro e w6 ⟨rfl, hb6⟩; have HWw6 := Lib.hid (HWw5.out.trans (hb6.mono HWw5.out.size)); clear hb6))
        go_ret
        exact ⟨rfl, HWw6.out⟩
  · go_wp2_with fail
    refine ⟨fun _ => (HBd.out.alloc HBd.out.size _), ?_⟩
    try simp only [List.setIfInBounds_toArray, List.set_cons_succ, List.set_cons_zero]
    refine till_only (j := 11) (by kernel_rfl) rfl ?_
    go_wp2_with fail
    have HT2 := Lib.hid (show Below w2.heap.size w2 ((Wd.alloc (.cells #[.int .i64 0, .int .i64 0, .string ⟨#[]⟩, .string ⟨#[]⟩, .int .i64 0, .int .i64 0, .int .i64 0, .int .i64 0] 55)).alloc (.cells #[.int .i64 0, .int .i64 0, .string ⟨#[]⟩, .string ⟨#[]⟩, .int .i64 0, .int .i64 0, .int .i64 0, .int .i64 0] 55)) from (HBd.out.alloc HBd.out.size _).alloc (HBd.out.alloc HBd.out.size _).size _)
    refine ⟨fun _ => HT2.out, ?_⟩
    try simp only [List.setIfInBounds_toArray, List.set_cons_succ, List.set_cons_zero]
    have HgB := Lib.hid ((Blk.new Wd 55 #[.int .i64 0, .int .i64 0, .string ⟨#[]⟩, .string ⟨#[]⟩, .int .i64 0, .int .i64 0, .int .i64 0, .int .i64 0]).alloc (.cells #[.int .i64 0, .int .i64 0, .string ⟨#[]⟩, .string ⟨#[]⟩, .int .i64 0, .int .i64 0, .int .i64 0, .int .i64 0] 55))
    have HgA := Lib.hid (Blk.new (Wd.alloc (.cells #[.int .i64 0, .int .i64 0, .string ⟨#[]⟩, .string ⟨#[]⟩, .int .i64 0, .int .i64 0, .int .i64 0, .int .i64 0] 55)) 55 #[.int .i64 0, .int .i64 0, .string ⟨#[]⟩, .string ⟨#[]⟩, .int .i64 0, .int .i64 0, .int .i64 0, .int .i64 0])
    rw [World.size_alloc] at HgA
    have HGA := Lib.hid (show w2.heap.size ≤ Wd.heap.size ∧ Wd.heap.size ≠ Wd.heap.size + 1 from ⟨HBd.out.size, by omega⟩)
    generalize (Wd.alloc (.cells #[.int .i64 0, .int .i64 0, .string ⟨#[]⟩, .string ⟨#[]⟩, .int .i64 0, .int .i64 0, .int .i64 0, .int .i64 0] 55)).alloc (.cells #[.int .i64 0, .int .i64 0, .string ⟨#[]⟩, .string ⟨#[]⟩, .int .i64 0, .int .i64 0, .int .i64 0, .int .i64 0] 55) = W2 at HT2 HgA HgB ⊢
    obtain ⟨gA, hgb⟩ : ∃ g, g = Wd.heap.size + 1 := ⟨_, rfl⟩
    rw [← hgb] at HgA HGA ⊢
    obtain ⟨gB, hga⟩ : ∃ g, g = Wd.heap.size := ⟨_, rfl⟩
    rw [← hga] at HgB HGA ⊢
    have HNE := Lib.hid (show gB ≠ gA from HGA.out.2)
    have HGE := Lib.hid (show w2.heap.size ≤ gA ∧ w2.heap.size ≤ gB from by have h1 := HGA.out.1; omega)
    clear hga hgb HGA
    refine till_only (j := 13) (by kernel_rfl) rfl ?_
    refine wpList_store_mid rfl 55 (.tmp 6) (.tmp 41) rfl gA 0 #[.int .i64 kp, .int .i64 dp, .string cp, .string op, .int .i64 pal, .int .i64 pah, .int .i64 pbl, .int .i64 pbh] rfl rfl (HgA.out.there (o := 0) (n := 8) (Nat.le_of_ble_eq_true rfl)) size_deed8 HOp.out ?_
    change wpList _ _ _ _ _ (W2.setCells gA 0 [.int .i64 kp, .int .i64 dp, .string cp, .string op, .int .i64 pal, .int .i64 pah, .int .i64 pbl, .int .i64 pbh])
    have HN1 := Lib.hid (HgA.out.stored (old := [.int .i64 0, .int .i64 0, .string ⟨#[]⟩, .string ⟨#[]⟩, .int .i64 0, .int .i64 0, .int .i64 0, .int .i64 0]) [.int .i64 kp, .int .i64 dp, .string cp, .string op, .int .i64 pal, .int .i64 pah, .int .i64 pbl, .int .i64 pbh] rfl)
    have HN2 := Lib.hid (HgB.out.apart (HNE.out) 0 [.int .i64 kp, .int .i64 dp, .string cp, .string op, .int .i64 pal, .int .i64 pah, .int .i64 pbl, .int .i64 pbh])
    have HT3 := Lib.hid (below_setCells HT2.out HGE.out.1 [.int .i64 kp, .int .i64 dp, .string cp, .string op, .int .i64 pal, .int .i64 pah, .int .i64 pbl, .int .i64 pbh] 0)
    clear HgA HgB HT2
    change Till _ _ _ _ ∧ wpAnyT _ _ _ _ _ _ _ _ _ _
    generalize W2.setCells gA 0 [.int .i64 kp, .int .i64 dp, .string cp, .string op, .int .i64 pal, .int .i64 pah, .int .i64 pbl, .int .i64 pbh] = W3 at HN1 HN2 HT3 ⊢
    refine ⟨fun _ => HT3.out, ?_⟩
    try simp only [List.setIfInBounds_toArray, List.set_cons_succ, List.set_cons_zero]
    have HgA := HN1
    have HgB := HN2
    clear HN1 HN2
    refine till_only (j := 14) (by kernel_rfl) rfl ?_
    refine wpList_store_mid rfl 55 (.tmp 7) (.tmp 47) rfl gB 0 #[.int .i64 kq, .int .i64 dq, .string cq, .string oq, .int .i64 qal, .int .i64 qah, .int .i64 qbl, .int .i64 qbh] rfl rfl (HgB.out.there (o := 0) (n := 8) (Nat.le_of_ble_eq_true rfl)) size_deed8 HOq.out ?_
    change wpList _ _ _ _ _ (W3.setCells gB 0 [.int .i64 kq, .int .i64 dq, .string cq, .string oq, .int .i64 qal, .int .i64 qah, .int .i64 qbl, .int .i64 qbh])
    have HN1 := Lib.hid (HgB.out.stored (old := [.int .i64 0, .int .i64 0, .string ⟨#[]⟩, .string ⟨#[]⟩, .int .i64 0, .int .i64 0, .int .i64 0, .int .i64 0]) [.int .i64 kq, .int .i64 dq, .string cq, .string oq, .int .i64 qal, .int .i64 qah, .int .i64 qbl, .int .i64 qbh] rfl)
    have HN2 := Lib.hid (HgA.out.apart (HNE.out.symm) 0 [.int .i64 kq, .int .i64 dq, .string cq, .string oq, .int .i64 qal, .int .i64 qah, .int .i64 qbl, .int .i64 qbh])
    have HT4 := Lib.hid (below_setCells HT3.out HGE.out.2 [.int .i64 kq, .int .i64 dq, .string cq, .string oq, .int .i64 qal, .int .i64 qah, .int .i64 qbl, .int .i64 qbh] 0)
    clear HgA HgB HT3
    change Till _ _ _ _ ∧ wpAnyT _ _ _ _ _ _ _ _ _ _
    generalize W3.setCells gB 0 [.int .i64 kq, .int .i64 dq, .string cq, .string oq, .int .i64 qal, .int .i64 qah, .int .i64 qbl, .int .i64 qbh] = w3 at HN1 HN2 HT4 ⊢
    refine ⟨fun _ => HT4.out, ?_⟩
    try simp only [List.setIfInBounds_toArray, List.set_cons_succ, List.set_cons_zero]
    have HgB := HN1
    have HgA := HN2
    clear HN1 HN2
    refine till_done (by kernel_rfl) ?_
    have GAw3 := HgA
    have GBw3 := HgB
    have HYw3 := Lib.hid (HYw2.out.below HT4.out)
    have HWw3 := Lib.hid (HWw2.out.trans (HT4.out.mono HWw2.out.size))
    clear HgA HgB HT4 HGE HNE HBd HYw2 HWw2
    have y0 := HYw3.out.at 0 _ rfl
    have y1 := HYw3.out.at 1 _ rfl
    have y2 := HYw3.out.at 2 _ rfl
    go_upto_region 6 with (first
      | (go_at_call 16; refine (HFO.out _ HWw3.out).mono ?_; rintro e w4 ⟨rows1, tv1, acc1, k1, f1, hfo, _, _, rfl, hb, hst⟩; obtain ⟨⟨vapour10, vapour11⟩, ⟨broth10, broth11⟩, ⟨dust10, dust11⟩, ⟨soldDry10, soldDry11⟩, ⟨soldWater10, soldWater11⟩, ⟨soaked10, soaked11⟩⟩ := acc1; obtain ⟨t1a, t1n, t1c, rfl⟩ := row_slice hst.things; have HFO1 := Lib.hid hfo; have HS1w4 := Lib.hid hst; have HYw4 := Lib.hid (HYw3.out.below hb); have GAw4 := Lib.hid (GAw3.out.below hb); have GBw4 := Lib.hid (GBw3.out.below hb); have HWw4 := Lib.hid (HWw3.out.trans (hb.mono HWw3.out.size)); have HZ1w4 := Lib.hid (Blk.new w4 36 #[.slice none 0 0, .int .i64 0, .int .i64 0, .int .i64 0, .int .i64 0, .int .i64 0, .int .i64 0, .int .i64 0, .int .i64 0, .int .i64 0, .int .i64 0, .int .i64 0, .int .i64 0]); have HO1 := Lib.hid (show (#[.slice t1a t1n t1c, .int .i64 vapour10, .int .i64 vapour11, .int .i64 broth10, .int .i64 broth11, .int .i64 dust10, .int .i64 dust11, .int .i64 soldDry10, .int .i64 soldDry11, .int .i64 soldWater10, .int .i64 soldWater11, .int .i64 soaked10, .int .i64 soaked11] : Array Value).all (·.oneCell') = true from by simp [Value.oneCell']); clear hfo hst hb)
      | ((with_reducible refine at_store 36 (.tmp 8) (.tmp 53) ?_); go_must (refine wpList_store_mid rfl 36 (.tmp 8) (.tmp 53) rfl w4.heap.size 0 #[.slice t1a t1n t1c, .int .i64 vapour10, .int .i64 vapour11, .int .i64 broth10, .int .i64 broth11, .int .i64 dust10, .int .i64 dust11, .int .i64 soldDry10, .int .i64 soldDry11, .int .i64 soldWater10, .int .i64 soldWater11, .int .i64 soaked10, .int .i64 soaked11] rfl rfl (HZ1w4.out.there (o := 0) (n := 13) (Nat.le_of_ble_eq_true rfl)) size_standing HO1.out ?_)))
    clear y0 y1 y2
    have HZ1w5 := Lib.hid (HZ1w4.out.stored (old := [.slice none 0 0, .int .i64 0, .int .i64 0, .int .i64 0, .int .i64 0, .int .i64 0, .int .i64 0, .int .i64 0, .int .i64 0, .int .i64 0, .int .i64 0, .int .i64 0, .int .i64 0]) [.slice t1a t1n t1c, .int .i64 vapour10, .int .i64 vapour11, .int .i64 broth10, .int .i64 broth11, .int .i64 dust10, .int .i64 dust11, .int .i64 soldDry10, .int .i64 soldDry11, .int .i64 soldWater10, .int .i64 soldWater11, .int .i64 soaked10, .int .i64 soaked11] rfl)
    have HYw5 := Lib.hid ((HYw4.out.alloc (.cells #[.slice none 0 0, .int .i64 0, .int .i64 0, .int .i64 0, .int .i64 0, .int .i64 0, .int .i64 0, .int .i64 0, .int .i64 0, .int .i64 0, .int .i64 0, .int .i64 0, .int .i64 0] 36)).apart (Nat.ne_of_lt HYw4.out.lt) 0 [.slice t1a t1n t1c, .int .i64 vapour10, .int .i64 vapour11, .int .i64 broth10, .int .i64 broth11, .int .i64 dust10, .int .i64 dust11, .int .i64 soldDry10, .int .i64 soldDry11, .int .i64 soldWater10, .int .i64 soldWater11, .int .i64 soaked10, .int .i64 soaked11])
    have GAw5 := Lib.hid ((GAw4.out.alloc (.cells #[.slice none 0 0, .int .i64 0, .int .i64 0, .int .i64 0, .int .i64 0, .int .i64 0, .int .i64 0, .int .i64 0, .int .i64 0, .int .i64 0, .int .i64 0, .int .i64 0, .int .i64 0] 36)).apart (Nat.ne_of_lt GAw4.out.lt) 0 [.slice t1a t1n t1c, .int .i64 vapour10, .int .i64 vapour11, .int .i64 broth10, .int .i64 broth11, .int .i64 dust10, .int .i64 dust11, .int .i64 soldDry10, .int .i64 soldDry11, .int .i64 soldWater10, .int .i64 soldWater11, .int .i64 soaked10, .int .i64 soaked11])
    have GBw5 := Lib.hid ((GBw4.out.alloc (.cells #[.slice none 0 0, .int .i64 0, .int .i64 0, .int .i64 0, .int .i64 0, .int .i64 0, .int .i64 0, .int .i64 0, .int .i64 0, .int .i64 0, .int .i64 0, .int .i64 0, .int .i64 0] 36)).apart (Nat.ne_of_lt GBw4.out.lt) 0 [.slice t1a t1n t1c, .int .i64 vapour10, .int .i64 vapour11, .int .i64 broth10, .int .i64 broth11, .int .i64 dust10, .int .i64 dust11, .int .i64 soldDry10, .int .i64 soldDry11, .int .i64 soldWater10, .int .i64 soldWater11, .int .i64 soaked10, .int .i64 soaked11])
    have HS1w5 := Lib.hid ((HS1w4.out.same (w' := (w4.alloc (.cells #[.slice none 0 0, .int .i64 0, .int .i64 0, .int .i64 0, .int .i64 0, .int .i64 0, .int .i64 0, .int .i64 0, .int .i64 0, .int .i64 0, .int .i64 0, .int .i64 0, .int .i64 0] 36))) (fun k hk => Below.heap_alloc _ _ k hk)).setCells HZ1w4.out (by decide) (by decide) 0 [.slice t1a t1n t1c, .int .i64 vapour10, .int .i64 vapour11, .int .i64 broth10, .int .i64 broth11, .int .i64 dust10, .int .i64 dust11, .int .i64 soldDry10, .int .i64 soldDry11, .int .i64 soldWater10, .int .i64 soldWater11, .int .i64 soaked10, .int .i64 soaked11])
    have HWw5 := Lib.hid (below_setCells (HWw4.out.alloc HWw4.out.size (.cells #[.slice none 0 0, .int .i64 0, .int .i64 0, .int .i64 0, .int .i64 0, .int .i64 0, .int .i64 0, .int .i64 0, .int .i64 0, .int .i64 0, .int .i64 0, .int .i64 0, .int .i64 0] 36)) HWw4.out.size [.slice t1a t1n t1c, .int .i64 vapour10, .int .i64 vapour11, .int .i64 broth10, .int .i64 broth11, .int .i64 dust10, .int .i64 dust11, .int .i64 soldDry10, .int .i64 soldDry11, .int .i64 soldWater10, .int .i64 soldWater11, .int .i64 soaked10, .int .i64 soaked11] 0)
    generalize (w4.alloc (.cells #[.slice none 0 0, .int .i64 0, .int .i64 0, .int .i64 0, .int .i64 0, .int .i64 0, .int .i64 0, .int .i64 0, .int .i64 0, .int .i64 0, .int .i64 0, .int .i64 0, .int .i64 0] 36)).setCells w4.heap.size 0 [.slice t1a t1n t1c, .int .i64 vapour10, .int .i64 vapour11, .int .i64 broth10, .int .i64 broth11, .int .i64 dust10, .int .i64 dust11, .int .i64 soldDry10, .int .i64 soldDry11, .int .i64 soldWater10, .int .i64 soldWater11, .int .i64 soaked10, .int .i64 soaked11] = w5 at HZ1w5 HYw5 GAw5 GBw5 HS1w5 HWw5 ⊢
    obtain ⟨g1, hg1⟩ : ∃ g, g = w4.heap.size := ⟨_, rfl⟩
    rw [← hg1] at HZ1w5 ⊢
    clear hg1 HZ1w4 HWw4 HYw4 GAw4 GBw4 HS1w4
    have a0 := GAw5.out.at 0 (.int .i64 kp) rfl
    have a1 := GAw5.out.at 1 (.int .i64 dp) rfl
    have a2 := GAw5.out.at 2 (.string cp) rfl
    have a3 := GAw5.out.at 3 (.string op) rfl
    have a4 := GAw5.out.at 4 (.int .i64 pal) rfl
    have a5 := GAw5.out.at 5 (.int .i64 pah) rfl
    have a6 := GAw5.out.at 6 (.int .i64 pbl) rfl
    have a7 := GAw5.out.at 7 (.int .i64 pbh) rfl
    have e0 := GBw5.out.at 0 (.int .i64 kq) rfl
    have e1 := GBw5.out.at 1 (.int .i64 dq) rfl
    have e2 := GBw5.out.at 2 (.string cq) rfl
    have e3 := GBw5.out.at 3 (.string oq) rfl
    have e4 := GBw5.out.at 4 (.int .i64 qal) rfl
    have e5 := GBw5.out.at 5 (.int .i64 qah) rfl
    have e6 := GBw5.out.at 6 (.int .i64 qbl) rfl
    have e7 := GBw5.out.at 7 (.int .i64 qbh) rfl
    have hcnt := follow_count bef aft ds (n := i + 2) (by rw [← HN.out]; omega)
    rw [HFO1.out] at hcnt
    simp only at hcnt
    by_cases hdone : k1 < i + 2
    · have hI : (k1 : Int) < (i : Int) + 2 := by omega
      go_wp2_with ((go_at_call 15; refine (stands_calls _).mono ?_; rintro e w6 ⟨rfl, hb6⟩; have HWw6 := Lib.hid (HWw5.out.trans (hb6.mono HWw5.out.size)); clear hb6))
      go_ret
      exact ⟨rfl, HWw6.out⟩
    · have hk : k1 = i + 2 := by omega
      subst hk
      have hf0 : f1 = 0 := hcnt.2.mpr rfl
      subst hf0
      rw [hcast]
      clear hcnt hdone
      by_cases hday : dp = dq
      · subst hday
        by_cases hcode : cp = cq
        · subst hcode
          go_wp2_with ((go_at_call 15; refine (stands_calls _).mono ?_; rintro e w6 ⟨rfl, hb6⟩; have HWw6 := Lib.hid (HWw5.out.trans (hb6.mono HWw5.out.size)); clear hb6))
          go_ret
          exact ⟨rfl, HWw6.out⟩
        · have hcc : (ByteArray.toList cp == ByteArray.toList cq) = false := by rw [codes_beq]; simpa using hcode
          have HCODE := Lib.hid hcode
          clear hcode
          cases hqa : quietB kp with
          | false =>
            go_wp2_with (first
              | (go_at_call 21; refine (quiet_calls _ _).mono ?_; rintro e w' ⟨rfl, rfl⟩; rw [hqa])
              | (go_at_call 15; refine (stands_calls _).mono ?_; rintro e w6 ⟨rfl, hb6⟩; have HWw6 := Lib.hid (HWw5.out.trans (hb6.mono HWw5.out.size)); clear hb6))
            go_ret
            exact ⟨rfl, HWw6.out⟩
          | true =>
            cases hqb : quietB kq with
            | false =>
              go_wp2_with (first
                | (go_at_call 21; refine (quiet_calls _ _).mono ?_; rintro e w' ⟨rfl, rfl⟩; first | rw [hqa] | rw [hqb])
                | (go_at_call 15; refine (stands_calls _).mono ?_; rintro e w6 ⟨rfl, hb6⟩; have HWw6 := Lib.hid (HWw5.out.trans (hb6.mono HWw5.out.size)); clear hb6))
              go_ret
              exact ⟨rfl, HWw6.out⟩
            | true =>
              have HQA := Lib.hid hqa
              have HQB := Lib.hid hqb
              have y0 := HYw5.out.at 0 _ rfl
              have y1 := HYw5.out.at 1 _ rfl
              have y2 := HYw5.out.at 2 _ rfl
              go_upto_region 11 with (first
                | (go_at_call 21; refine (quiet_calls _ _).mono ?_; rintro e w' ⟨rfl, rfl⟩; first | rw [HQA.out] | rw [HQB.out])
                | ((with_reducible refine at_store 24 (.tmp 12) (.tmp 90) ?_); go_must (refine wpList_store_mid rfl 24 (.tmp 12) (.tmp 90) rfl w5.heap.size 0 #[.int .i64 bef, .int .i64 aft, .slice (some ⟨b, off, none⟩) n c] rfl rfl ((Blk.new w5 24 #[.int .i64 0, .int .i64 0, .slice none 0 0]).there (o := 0) (n := 3) (Nat.le_of_ble_eq_true rfl)) size_yard (show (#[.int .i64 bef, .int .i64 aft, .slice (some ⟨b, off, none⟩) n c] : Array Value).all (·.oneCell') = true from by simp [Value.oneCell']) ?_)))
              clear y0 y1 y2 a0 a1 a2 a3 a4 a5 a6 a7 e0 e1 e2 e3 e4 e5 e6 e7
              have HLw6 := Lib.hid ((Blk.new w5 24 #[.int .i64 0, .int .i64 0, .slice none 0 0]).stored (old := [.int .i64 0, .int .i64 0, .slice none 0 0]) [.int .i64 bef, .int .i64 aft, .slice (some ⟨b, off, none⟩) n c] rfl)
              have HYw6 := Lib.hid ((HYw5.out.alloc (.cells #[.int .i64 0, .int .i64 0, .slice none 0 0] 24)).apart (Nat.ne_of_lt HYw5.out.lt) 0 [.int .i64 bef, .int .i64 aft, .slice (some ⟨b, off, none⟩) n c])
              have GAw6 := Lib.hid ((GAw5.out.alloc (.cells #[.int .i64 0, .int .i64 0, .slice none 0 0] 24)).apart (Nat.ne_of_lt GAw5.out.lt) 0 [.int .i64 bef, .int .i64 aft, .slice (some ⟨b, off, none⟩) n c])
              have GBw6 := Lib.hid ((GBw5.out.alloc (.cells #[.int .i64 0, .int .i64 0, .slice none 0 0] 24)).apart (Nat.ne_of_lt GBw5.out.lt) 0 [.int .i64 bef, .int .i64 aft, .slice (some ⟨b, off, none⟩) n c])
              have HZ1w6 := Lib.hid ((HZ1w5.out.alloc (.cells #[.int .i64 0, .int .i64 0, .slice none 0 0] 24)).apart (Nat.ne_of_lt HZ1w5.out.lt) 0 [.int .i64 bef, .int .i64 aft, .slice (some ⟨b, off, none⟩) n c])
              have HS1w6 := Lib.hid ((HS1w5.out.same (w' := w5.alloc (.cells #[.int .i64 0, .int .i64 0, .slice none 0 0] 24)) (fun k hk => Below.heap_alloc _ _ k hk)).setCells (Blk.new w5 24 #[.int .i64 0, .int .i64 0, .slice none 0 0]) (by decide) (by decide) 0 [.int .i64 bef, .int .i64 aft, .slice (some ⟨b, off, none⟩) n c])
              have HWw6 := Lib.hid (below_setCells (HWw5.out.alloc HWw5.out.size (.cells #[.int .i64 0, .int .i64 0, .slice none 0 0] 24)) HWw5.out.size [.int .i64 bef, .int .i64 aft, .slice (some ⟨b, off, none⟩) n c] 0)
              have HLT := Lib.hid (show gy < w5.heap.size ∧ gA < w5.heap.size ∧ gB < w5.heap.size ∧ g1 < w5.heap.size from ⟨HYw5.out.lt, GAw5.out.lt, GBw5.out.lt, HZ1w5.out.lt⟩)
              have HGE5 := Lib.hid HWw5.out.size
              generalize (w5.alloc (.cells #[.int .i64 0, .int .i64 0, .slice none 0 0] 24)).setCells w5.heap.size 0 [.int .i64 bef, .int .i64 aft, .slice (some ⟨b, off, none⟩) n c] = w6 at HLw6 HYw6 GAw6 GBw6 HZ1w6 HS1w6 HWw6 ⊢
              obtain ⟨gl, hgl⟩ : ∃ g, g = w5.heap.size := ⟨_, rfl⟩
              rw [← hgl] at HLw6 HLT HGE5 ⊢
              clear hgl HYw5 GAw5 GBw5 HZ1w5 HS1w5 HWw5
              obtain ⟨i1, hi1', hi1a, hi1b, hi1c⟩ := info_parts info_deedz
              have HI1 := Lib.hid hi1'; have HI1a := Lib.hid hi1a; have HI1b := Lib.hid hi1b; have HI1c := Lib.hid hi1c
              have HFL := Lib.hid (show (flat deedCells ds).length = n * 8 from by rw [flat_length deed_eight, HN.out])
              have HFO' := Lib.hid (show ∀ u ∈ flat deedCells ds, u.oneCell' = true from flat_ones deed_ones ds)
              have HOWN1 := Lib.hid (show (w6.alloc (.cells #[] 55)).ownsRow w6.heap.size 55 8 (.slice (some ⟨w6.heap.size, 0, none⟩) 0 0) 0 [] from owns_emptyD w6)
              have HBV1 := Lib.hid (show Below w.heap.size w (w6.alloc (.cells #[] 55)) from HWw6.out.alloc HWw6.out.size _)
              have HSZ1 := Lib.hid (show w6.heap.size ≤ (w6.alloc (.cells #[] 55)).heap.size from by rw [World.size_alloc]; omega)
              have HHD6 := Lib.hid (HHD.out.below HBV1.out)
              have y2 := (HYw6.out.alloc (.cells #[] 55)).at 2 _ rfl
              clear hi1' hi1a hi1b hi1c
              go_upto_region 12 with (at_builtin; refine wpList_append_own _ rfl (.tmp 91) (.tmp 93) 22 rfl w6.heap.size 55 i1 (.agg #[.int .i64 0, .int .i64 0, .string ⟨#[]⟩, .string ⟨#[]⟩, .int .i64 0, .int .i64 0, .int .i64 0, .int .i64 0]) 8 80 Try.underlying22 HI1.out HI1a.out HI1b.out HI1c.out rfl (by decide) _ _ _ rfl HOWN1.out ⟨b, off, none⟩ n c (flat deedCells ds) rfl HFL.out (fun j u hu => HHD6.out.flat deed_eight (by decide) j u hu) HFO'.out (by unfold maxLen; omega) (by omega) HSZ1.out ?_; intro v7 w7 hown7 hgrow7 hnil7; have hne7 : v7 ≠ .slice none 0 0 := (fun hh => (by have := (hnil7.1 hh).1; cases this)); simp only [Nat.zero_add, List.nil_append] at hown7; obtain ⟨g, cap, cur, hv7, hcur, hcap, hcapm, hgw, hgtake⟩ := row_blockD hown7 hne7; subst hv7; have hbel7 : Below w6.heap.size (w6.alloc (.cells #[] 55)) w7 := (Below.refl _ _).grown hgrow7 HSZ1.out (fun k e => (by cases e; exact Nat.le_refl _)); have HLw7 := Lib.hid ((HLw6.out.alloc (.cells #[] 55)).belowAt hbel7 HLw6.out.lt); have GAw7 := Lib.hid ((GAw6.out.alloc (.cells #[] 55)).belowAt hbel7 GAw6.out.lt); have GBw7 := Lib.hid ((GBw6.out.alloc (.cells #[] 55)).belowAt hbel7 GBw6.out.lt); have HZ1w7 := Lib.hid ((HZ1w6.out.alloc (.cells #[] 55)).belowAt hbel7 HZ1w6.out.lt); have HS1w7 := Lib.hid ((HS1w6.out.same (w' := w6.alloc (.cells #[] 55)) (fun k hk => Below.heap_alloc _ _ k hk)).same0 hbel7 HS1w6.out); have HWw7 := Lib.hid (HBV1.out.trans (hbel7.mono HWw6.out.size)); have HCUR := Lib.hid hcur; have HCAP := Lib.hid (And.intro hcap (And.intro hcapm (And.intro hgw hgtake))); have HGL6 := Lib.hid HLw6.out.lt; clear hown7 hgrow7 hnil7 hne7 hbel7 hcur hcap hcapm hgw hgtake y2; have l2 := HLw7.out.at 2 _ rfl; have lf := HLw7.out.frozen 2)
              clear l2 lf
              have hnGL : g ≠ gl := by have h8 := HCAP.out.2.2.1; have h9 := HGL6.out; omega
              have HLw8 := Lib.hid (show Blk (w7.setCell ⟨gl, 2, none⟩ (.slice (some ⟨g, 0, none⟩) n cap)) gl 24 #[.int .i64 bef, .int .i64 aft, .slice (some ⟨g, 0, none⟩) n cap] from HLw7.out.set_ 2 (.slice (some ⟨g, 0, none⟩) n cap))
              have GAw8 := Lib.hid (show Blk (w7.setCell ⟨gl, 2, none⟩ (.slice (some ⟨g, 0, none⟩) n cap)) gA 55 #[.int .i64 kp, .int .i64 dp, .string cp, .string op, .int .i64 pal, .int .i64 pah, .int .i64 pbl, .int .i64 pbh] from GAw7.out.apart (Nat.ne_of_lt HLT.out.2.1) 2 [.slice (some ⟨g, 0, none⟩) n cap])
              have GBw8 := Lib.hid (show Blk (w7.setCell ⟨gl, 2, none⟩ (.slice (some ⟨g, 0, none⟩) n cap)) gB 55 #[.int .i64 kq, .int .i64 dp, .string cq, .string oq, .int .i64 qal, .int .i64 qah, .int .i64 qbl, .int .i64 qbh] from GBw7.out.apart (Nat.ne_of_lt HLT.out.2.2.1) 2 [.slice (some ⟨g, 0, none⟩) n cap])
              have HZ1w8 := Lib.hid (show Blk (w7.setCell ⟨gl, 2, none⟩ (.slice (some ⟨g, 0, none⟩) n cap)) g1 36 #[.slice t1a t1n t1c, .int .i64 vapour10, .int .i64 vapour11, .int .i64 broth10, .int .i64 broth11, .int .i64 dust10, .int .i64 dust11, .int .i64 soldDry10, .int .i64 soldDry11, .int .i64 soldWater10, .int .i64 soldWater11, .int .i64 soaked10, .int .i64 soaked11] from HZ1w7.out.apart (Nat.ne_of_lt HLT.out.2.2.2) 2 [.slice (some ⟨g, 0, none⟩) n cap])
              have HC8 := Lib.hid (show Blk (w7.setCell ⟨gl, 2, none⟩ (.slice (some ⟨g, 0, none⟩) n cap)) g 55 cur from HCUR.out.apart hnGL 2 [.slice (some ⟨g, 0, none⟩) n cap])
              have HS1w8 := Lib.hid (show Stands (w7.setCell ⟨gl, 2, none⟩ (.slice (some ⟨g, 0, none⟩) n cap)) rows1 (.slice t1a t1n t1c) from HS1w7.out.setCells HLw7.out (by decide) (by decide) 2 [.slice (some ⟨g, 0, none⟩) n cap])
              have HWw8 := Lib.hid (HWw7.out.setCell (p := ⟨gl, 2, none⟩) HGE5.out (.slice (some ⟨g, 0, none⟩) n cap))
              generalize w7.setCell ⟨gl, 2, none⟩ (.slice (some ⟨g, 0, none⟩) n cap) = w8 at HLw8 GAw8 GBw8 HZ1w8 HC8 HS1w8 HWw8 ⊢
              clear HLw7 GAw7 GBw7 HZ1w7 HCUR HS1w7 HWw7
              have hil : i + 1 < ds.length := by rw [← HN.out]; omega
              obtain ⟨PRE, POST, hcur2, hPL, hXS⟩ := cur_split (cur := cur) hil HDP.out.symm HDQ.out.symm (by rw [← HN.out]; exact HCAP.out.2.2.2)
              have HXS := Lib.hid hXS
              have HPL := Lib.hid hPL
              subst hcur2
              have HOK2 := Lib.hid (show errYard bef aft (ds.take i ++ (⟨kq, dp, cq, oq, ⟨qal, qah⟩, ⟨qbl, qbh⟩⟩ : Deed Code) :: (⟨kp, dp, cp, op, ⟨pal, pah⟩, ⟨pbl, pbh⟩⟩ : Deed Code) :: ds.drop (i + 2)) = 0 from by
                have := errYard_swap hil (by rw [← HDP.out, ← HDQ.out]) HOK.out
                rw [← HDP.out, ← HDQ.out, swapped_of hil] at this
                exact this)
              have HFS := Lib.hid (show Yd.follow bef aft (ds.take i ++ (⟨kq, dp, cq, oq, ⟨qal, qah⟩, ⟨qbl, qbh⟩⟩ : Deed Code) :: (⟨kp, dp, cp, op, ⟨pal, pah⟩, ⟨pbl, pbh⟩⟩ : Deed Code) :: ds.drop (i + 2)) (i + 2) = Yd.follow bef aft ds (i + 2) from by
                have := follow_swap (bef := bef) (aft := aft) hil (by rw [← HDP.out]; exact quiet_of HQA.out) (by rw [← HDQ.out]; exact quiet_of HQB.out) (by rw [← HDP.out, ← HDQ.out]; exact HCODE.out) (by rw [HFO1.out])
                rw [← HDP.out, ← HDQ.out, swapped_of hil] at this
                exact this)
              have HSZ2 := Lib.hid (show ∀ d ∈ (ds.take i ++ (⟨kq, dp, cq, oq, ⟨qal, qah⟩, ⟨qbl, qbh⟩⟩ : Deed Code) :: (⟨kp, dp, cp, op, ⟨pal, pah⟩, ⟨pbl, pbh⟩⟩ : Deed Code) :: ds.drop (i + 2)), d.stack.size ≤ maxLen ∧ d.other.size ≤ maxLen from fun d hd => HSZ.out d (by
                rw [two_of hil, ← HDP.out, ← HDQ.out]
                simp only [List.mem_append, List.mem_cons] at hd ⊢
                rcases hd with h | h | h | h
                · exact .inl h
                · exact .inr (.inr (.inl h))
                · exact .inr (.inl h)
                · exact .inr (.inr (.inr h))))
              have HXL := Lib.hid (show (ds.take i ++ (⟨kq, dp, cq, oq, ⟨qal, qah⟩, ⟨qbl, qbh⟩⟩ : Deed Code) :: (⟨kp, dp, cp, op, ⟨pal, pah⟩, ⟨pbl, pbh⟩⟩ : Deed Code) :: ds.drop (i + 2)).length = n from by simp only [List.length_append, List.length_cons, List.length_take, List.length_drop]; have := HN.out; omega)
              refine region_till [] (fun w' => Blk w' gl 24 #[.int .i64 bef, .int .i64 aft, .slice (some ⟨g, 0, none⟩) n cap] ∧ Blk w' gA 55 #[.int .i64 kp, .int .i64 dp, .string cp, .string op, .int .i64 pal, .int .i64 pah, .int .i64 pbl, .int .i64 pbh] ∧ Blk w' gB 55 #[.int .i64 kq, .int .i64 dp, .string cq, .string oq, .int .i64 qal, .int .i64 qah, .int .i64 qbl, .int .i64 qbh]) 13 [false, false, false, false, false, false, false, false, false, false, false, false, false] hmix rfl rfl ?_
              have HLd := Lib.hid (show Blk w8.drew gl 24 #[.int .i64 bef, .int .i64 aft, .slice (some ⟨g, 0, none⟩) n cap] from HLw8.out)
              have HZ1d := Lib.hid (show Blk w8.drew g1 36 #[.slice t1a t1n t1c, .int .i64 vapour10, .int .i64 vapour11, .int .i64 broth10, .int .i64 broth11, .int .i64 dust10, .int .i64 dust11, .int .i64 soldDry10, .int .i64 soldDry11, .int .i64 soldWater10, .int .i64 soldWater11, .int .i64 soaked10, .int .i64 soaked11] from HZ1w8.out)
              have HCd := Lib.hid (show Blk w8.drew g 55 (PRE ++ ([.int .i64 kp, .int .i64 dp, .string cp, .string op, .int .i64 pal, .int .i64 pah, .int .i64 pbl, .int .i64 pbh] : List Value) ++ (([.int .i64 kq, .int .i64 dp, .string cq, .string oq, .int .i64 qal, .int .i64 qah, .int .i64 qbl, .int .i64 qbh] : List Value) ++ POST)).toArray from HC8.out)
              have HT := Lib.hid (show (fun w' => Blk w' gl 24 #[.int .i64 bef, .int .i64 aft, .slice (some ⟨g, 0, none⟩) n cap] ∧ Blk w' gA 55 #[.int .i64 kp, .int .i64 dp, .string cp, .string op, .int .i64 pal, .int .i64 pah, .int .i64 pbl, .int .i64 pbh] ∧ Blk w' gB 55 #[.int .i64 kq, .int .i64 dp, .string cq, .string oq, .int .i64 qal, .int .i64 qah, .int .i64 qbl, .int .i64 qbh]) w8.drew from ⟨HLw8.out, GAw8.out, GBw8.out⟩)
              have HS1d := Lib.hid (HS1w8.out.below (Below.drew (Below.refl w8.heap.size w8)))
              have HWd := Lib.hid HWw8.out.drew
              clear HLw8 GAw8 GBw8 HZ1w8 HC8 HS1w8 HWw8 hXS hPL
              generalize w8.drew = Wd8 at HLd HZ1d HCd HT HS1d HWd ⊢
              refine till_pure (i := 0) (v := .pointer (some ⟨gl, 2, none⟩)) rfl rfl (by kernel_rfl) (fun _ _ _ h => h) (yields_of rfl (fun w' _ => by simp [go_sem])) (fun _ => HT.out) ?_
              simp only [List.setIfInBounds_toArray, List.set_cons_succ, List.set_cons_zero]
              refine till_load (i := 1) (v := .slice (some ⟨g, 0, none⟩) n cap) rfl rfl (by kernel_rfl) (fun _ _ _ h => h) (yields_of rfl (fun w' hw' => by have hcx := Blk.at hw'.1 2 (.slice (some ⟨g, 0, none⟩) n cap) rfl; simp [go_sem, hcx])) (fun _ => HT.out) ?_
              simp only [List.setIfInBounds_toArray, List.set_cons_succ, List.set_cons_zero]
              refine till_pure (i := 2) (v := .int .i64 i) rfl rfl (by kernel_rfl) (fun _ _ _ h => h) (yields_of rfl (fun w' _ => by simp [go_sem])) (fun _ => HT.out) ?_
              simp only [List.setIfInBounds_toArray, List.set_cons_succ, List.set_cons_zero]
              refine till_pure (i := 3) (v := .pointer (some ⟨gl, 2, none⟩)) rfl rfl (by kernel_rfl) (fun _ _ _ h => h) (yields_of rfl (fun w' _ => by simp [go_sem])) (fun _ => HT.out) ?_
              simp only [List.setIfInBounds_toArray, List.set_cons_succ, List.set_cons_zero]
              refine till_load (i := 4) (v := .slice (some ⟨g, 0, none⟩) n cap) rfl rfl (by kernel_rfl) (fun _ _ _ h => h) (yields_of rfl (fun w' hw' => by have hcx := Blk.at hw'.1 2 (.slice (some ⟨g, 0, none⟩) n cap) rfl; simp [go_sem, hcx])) (fun _ => HT.out) ?_
              simp only [List.setIfInBounds_toArray, List.set_cons_succ, List.set_cons_zero]
              refine till_pure (i := 5) (v := .int .i64 i) rfl rfl (by kernel_rfl) (fun _ _ _ h => h) (yields_of rfl (fun w' _ => by simp [go_sem])) (fun _ => HT.out) ?_
              simp only [List.setIfInBounds_toArray, List.set_cons_succ, List.set_cons_zero]
              refine till_pure (i := 6) (v := .int .i64 ((i : Int) + 1)) rfl rfl (by kernel_rfl) (fun _ _ _ h => h) (yields_of rfl (fun w' _ => by simp [go_sem, hwrap])) (fun _ => HT.out) ?_
              simp only [List.setIfInBounds_toArray, List.set_cons_succ, List.set_cons_zero]
              refine till_load (i := 7) (v := .agg #[.int .i64 kq, .int .i64 dp, .string cq, .string oq, .int .i64 qal, .int .i64 qah, .int .i64 qbl, .int .i64 qbh]) rfl rfl (by kernel_rfl) (fun _ _ _ h => h) (yields_mid rfl 55 (.tmp 7) rfl (gB) 0 rfl [.int .i64 kq, .int .i64 dp, .string cq, .string oq, .int .i64 qal, .int .i64 qah, .int .i64 qbl, .int .i64 qbh] _ (fun w' hw' => Blk.range hw'.2.2 0 _ rfl) Try.underlying55 rfl (by kernel_rfl)) (fun _ => HT.out) ?_
              simp only [List.setIfInBounds_toArray, List.set_cons_succ, List.set_cons_zero]
              refine till_load (i := 8) (v := .agg #[.int .i64 kp, .int .i64 dp, .string cp, .string op, .int .i64 pal, .int .i64 pah, .int .i64 pbl, .int .i64 pbh]) rfl rfl (by kernel_rfl) (fun _ _ _ h => h) (yields_mid rfl 55 (.tmp 6) rfl (gA) 0 rfl [.int .i64 kp, .int .i64 dp, .string cp, .string op, .int .i64 pal, .int .i64 pah, .int .i64 pbl, .int .i64 pbh] _ (fun w' hw' => Blk.range hw'.2.1 0 _ rfl) Try.underlying55 rfl (by kernel_rfl)) (fun _ => HT.out) ?_
              simp only [List.setIfInBounds_toArray, List.set_cons_succ, List.set_cons_zero]
              refine till_pure (i := 9) (v := .pointer (some ⟨g, i * 8, none⟩)) rfl rfl (by kernel_rfl) (fun _ _ _ h => h) (yields_of rfl (fun w' _ => by simp [go_sem, hiI2])) (fun _ => HT.out) ?_
              simp only [List.setIfInBounds_toArray, List.set_cons_succ, List.set_cons_zero]
              refine till_only (j := 10) (by kernel_rfl) rfl ?_
              refine wpList_store_mid rfl 55 (.tmp 105) (.tmp 103) rfl g (i * 8) #[.int .i64 kq, .int .i64 dp, .string cq, .string oq, .int .i64 qal, .int .i64 qah, .int .i64 qbl, .int .i64 qbh] rfl rfl (HCd.out.there (o := i * 8) (n := 8) (by have := HPL.out; simp; omega)) size_deed8 HOq.out ?_
              change wpList _ _ _ _ _ (Wd8.setCells g (i * 8) [.int .i64 kq, .int .i64 dp, .string cq, .string oq, .int .i64 qal, .int .i64 qah, .int .i64 qbl, .int .i64 qbh])
              have HN1 := Lib.hid (show Blk (Wd8.setCells g (i * 8) [.int .i64 kq, .int .i64 dp, .string cq, .string oq, .int .i64 qal, .int .i64 qah, .int .i64 qbl, .int .i64 qbh]) g 55 (PRE ++ ([.int .i64 kq, .int .i64 dp, .string cq, .string oq, .int .i64 qal, .int .i64 qah, .int .i64 qbl, .int .i64 qbh] : List Value) ++ (([.int .i64 kq, .int .i64 dp, .string cq, .string oq, .int .i64 qal, .int .i64 qah, .int .i64 qbl, .int .i64 qbh] : List Value) ++ POST)).toArray from by
                have h7 := HCd.out
                have := Blk.storedMid (PRE) [.int .i64 kp, .int .i64 dp, .string cp, .string op, .int .i64 pal, .int .i64 pah, .int .i64 pbl, .int .i64 pbh] ((([.int .i64 kq, .int .i64 dp, .string cq, .string oq, .int .i64 qal, .int .i64 qah, .int .i64 qbl, .int .i64 qbh] : List Value) ++ POST)) [.int .i64 kq, .int .i64 dp, .string cq, .string oq, .int .i64 qal, .int .i64 qah, .int .i64 qbl, .int .i64 qbh] (by simpa using h7) rfl
                rw [show (PRE).length = i * 8 from by have := HPL.out; (try simp); omega] at this
                exact this)
              have HN2 := Lib.hid (show (fun w' => Blk w' gl 24 #[.int .i64 bef, .int .i64 aft, .slice (some ⟨g, 0, none⟩) n cap] ∧ Blk w' gA 55 #[.int .i64 kp, .int .i64 dp, .string cp, .string op, .int .i64 pal, .int .i64 pah, .int .i64 pbl, .int .i64 pbh] ∧ Blk w' gB 55 #[.int .i64 kq, .int .i64 dp, .string cq, .string oq, .int .i64 qal, .int .i64 qah, .int .i64 qbl, .int .i64 qbh]) (Wd8.setCells g (i * 8) [.int .i64 kq, .int .i64 dp, .string cq, .string oq, .int .i64 qal, .int .i64 qah, .int .i64 qbl, .int .i64 qbh]) from ⟨HT.out.1.apart hnGL.symm _ _, HT.out.2.1.apart (show gA ≠ g from by have h7 := HLT.out.2.1; have h8 := HCAP.out.2.2.1; have h9 := HGL6.out; omega) _ _, HT.out.2.2.apart (show gB ≠ g from by have h7 := HLT.out.2.2.1; have h8 := HCAP.out.2.2.1; have h9 := HGL6.out; omega) _ _⟩)
              have HN3 := Lib.hid (HZ1d.out.apart (show g1 ≠ g from by have h7 := HLT.out.2.2.2; have h8 := HCAP.out.2.2.1; have h9 := HGL6.out; omega) (i * 8) [.int .i64 kq, .int .i64 dp, .string cq, .string oq, .int .i64 qal, .int .i64 qah, .int .i64 qbl, .int .i64 qbh])
              have HN4 := Lib.hid (HS1d.out.setCells HCd.out (by decide) (by decide) (i * 8) [.int .i64 kq, .int .i64 dp, .string cq, .string oq, .int .i64 qal, .int .i64 qah, .int .i64 qbl, .int .i64 qbh])
              have HN5 := Lib.hid (below_setCells HWd.out (show w.heap.size ≤ g from by have h7 := HGE5.out; have h8 := HCAP.out.2.2.1; have h9 := HGL6.out; omega) [.int .i64 kq, .int .i64 dp, .string cq, .string oq, .int .i64 qal, .int .i64 qah, .int .i64 qbl, .int .i64 qbh] (i * 8))
              clear HCd HT HZ1d HS1d HWd
              change Till _ _ _ _ ∧ wpAnyT _ _ _ _ _ _ _ _ _ _
              generalize Wd8.setCells g (i * 8) [.int .i64 kq, .int .i64 dp, .string cq, .string oq, .int .i64 qal, .int .i64 qah, .int .i64 qbl, .int .i64 qbh] = We8 at HN1 HN2 HN3 HN4 HN5 ⊢
              have HCd := HN1; have HT := HN2; have HZ1d := HN3; have HS1d := HN4; have HWd := HN5
              clear HN1 HN2 HN3 HN4 HN5
              refine ⟨fun _ => HT.out, ?_⟩
              try simp only [List.setIfInBounds_toArray, List.set_cons_succ, List.set_cons_zero]
              refine till_pure (i := 11) (v := .pointer (some ⟨g, (i + 1) * 8, none⟩)) rfl rfl (by kernel_rfl) (fun _ _ _ h => h) (yields_of rfl (fun w' _ => by simp [go_sem, hiI, hi0, hiN])) (fun _ => HT.out) ?_
              simp only [List.setIfInBounds_toArray, List.set_cons_succ, List.set_cons_zero]
              refine till_only (j := 12) (by kernel_rfl) rfl ?_
              refine wpList_store_mid rfl 55 (.tmp 106) (.tmp 104) rfl g ((i + 1) * 8) #[.int .i64 kp, .int .i64 dp, .string cp, .string op, .int .i64 pal, .int .i64 pah, .int .i64 pbl, .int .i64 pbh] rfl rfl (HCd.out.there (o := (i + 1) * 8) (n := 8) (by have := HPL.out; simp; omega)) size_deed8 HOp.out ?_
              change wpList _ _ _ _ _ (We8.setCells g ((i + 1) * 8) [.int .i64 kp, .int .i64 dp, .string cp, .string op, .int .i64 pal, .int .i64 pah, .int .i64 pbl, .int .i64 pbh])
              have HN1 := Lib.hid (show Blk (We8.setCells g ((i + 1) * 8) [.int .i64 kp, .int .i64 dp, .string cp, .string op, .int .i64 pal, .int .i64 pah, .int .i64 pbl, .int .i64 pbh]) g 55 ((PRE ++ ([.int .i64 kq, .int .i64 dp, .string cq, .string oq, .int .i64 qal, .int .i64 qah, .int .i64 qbl, .int .i64 qbh] : List Value)) ++ ([.int .i64 kp, .int .i64 dp, .string cp, .string op, .int .i64 pal, .int .i64 pah, .int .i64 pbl, .int .i64 pbh] : List Value) ++ POST).toArray from by
                have h7 := HCd.out
                have := Blk.storedMid ((PRE ++ ([.int .i64 kq, .int .i64 dp, .string cq, .string oq, .int .i64 qal, .int .i64 qah, .int .i64 qbl, .int .i64 qbh] : List Value))) [.int .i64 kq, .int .i64 dp, .string cq, .string oq, .int .i64 qal, .int .i64 qah, .int .i64 qbl, .int .i64 qbh] (POST) [.int .i64 kp, .int .i64 dp, .string cp, .string op, .int .i64 pal, .int .i64 pah, .int .i64 pbl, .int .i64 pbh] (by simpa using h7) rfl
                rw [show ((PRE ++ ([.int .i64 kq, .int .i64 dp, .string cq, .string oq, .int .i64 qal, .int .i64 qah, .int .i64 qbl, .int .i64 qbh] : List Value))).length = (i + 1) * 8 from by have := HPL.out; (try simp); omega] at this
                exact this)
              have HN2 := Lib.hid (show (fun w' => Blk w' gl 24 #[.int .i64 bef, .int .i64 aft, .slice (some ⟨g, 0, none⟩) n cap] ∧ Blk w' gA 55 #[.int .i64 kp, .int .i64 dp, .string cp, .string op, .int .i64 pal, .int .i64 pah, .int .i64 pbl, .int .i64 pbh] ∧ Blk w' gB 55 #[.int .i64 kq, .int .i64 dp, .string cq, .string oq, .int .i64 qal, .int .i64 qah, .int .i64 qbl, .int .i64 qbh]) (We8.setCells g ((i + 1) * 8) [.int .i64 kp, .int .i64 dp, .string cp, .string op, .int .i64 pal, .int .i64 pah, .int .i64 pbl, .int .i64 pbh]) from ⟨HT.out.1.apart hnGL.symm _ _, HT.out.2.1.apart (show gA ≠ g from by have h7 := HLT.out.2.1; have h8 := HCAP.out.2.2.1; have h9 := HGL6.out; omega) _ _, HT.out.2.2.apart (show gB ≠ g from by have h7 := HLT.out.2.2.1; have h8 := HCAP.out.2.2.1; have h9 := HGL6.out; omega) _ _⟩)
              have HN3 := Lib.hid (HZ1d.out.apart (show g1 ≠ g from by have h7 := HLT.out.2.2.2; have h8 := HCAP.out.2.2.1; have h9 := HGL6.out; omega) ((i + 1) * 8) [.int .i64 kp, .int .i64 dp, .string cp, .string op, .int .i64 pal, .int .i64 pah, .int .i64 pbl, .int .i64 pbh])
              have HN4 := Lib.hid (HS1d.out.setCells HCd.out (by decide) (by decide) ((i + 1) * 8) [.int .i64 kp, .int .i64 dp, .string cp, .string op, .int .i64 pal, .int .i64 pah, .int .i64 pbl, .int .i64 pbh])
              have HN5 := Lib.hid (below_setCells HWd.out (show w.heap.size ≤ g from by have h7 := HGE5.out; have h8 := HCAP.out.2.2.1; have h9 := HGL6.out; omega) [.int .i64 kp, .int .i64 dp, .string cp, .string op, .int .i64 pal, .int .i64 pah, .int .i64 pbl, .int .i64 pbh] ((i + 1) * 8))
              clear HCd HT HZ1d HS1d HWd
              change Till _ _ _ _ ∧ wpAnyT _ _ _ _ _ _ _ _ _ _
              generalize We8.setCells g ((i + 1) * 8) [.int .i64 kp, .int .i64 dp, .string cp, .string op, .int .i64 pal, .int .i64 pah, .int .i64 pbl, .int .i64 pbh] = w9 at HN1 HN2 HN3 HN4 HN5 ⊢
              have HCd := HN1; have HT := HN2; have HZ1d := HN3; have HS1d := HN4; have HWd := HN5
              clear HN1 HN2 HN3 HN4 HN5
              refine ⟨fun _ => HT.out, ?_⟩
              try simp only [List.setIfInBounds_toArray, List.set_cons_succ, List.set_cons_zero]
              refine till_done (by kernel_rfl) ?_
              obtain ⟨spare, esp⟩ := HXS.out
              have e2 : PRE ++ ([.int .i64 kq, .int .i64 dp, .string cq, .string oq, .int .i64 qal, .int .i64 qah, .int .i64 qbl, .int .i64 qbh] : List Value) ++ ([.int .i64 kp, .int .i64 dp, .string cp, .string op, .int .i64 pal, .int .i64 pah, .int .i64 pbl, .int .i64 pbh] : List Value) ++ POST = flat deedCells (ds.take i ++ (⟨kq, dp, cq, oq, ⟨qal, qah⟩, ⟨qbl, qbh⟩⟩ : Deed Code) :: (⟨kp, dp, cp, op, ⟨pal, pah⟩, ⟨pbl, pbh⟩⟩ : Deed Code) :: ds.drop (i + 2)) ++ spare := by rw [← esp]; simp [deedCells]
              have HHX := Lib.hid (show Held w9.heap.size w9 8 deedCells (.slice (some ⟨g, 0, none⟩) n cap) (ds.take i ++ (⟨kq, dp, cq, oq, ⟨qal, qah⟩, ⟨qbl, qbh⟩⟩ : Deed Code) :: (⟨kp, dp, cp, op, ⟨pal, pah⟩, ⟨pbl, pbh⟩⟩ : Deed Code) :: ds.drop (i + 2)) from held_of_blk (spare := spare) (by have h7 := HCd.out; rw [e2] at h7; exact h7) HXL.out HCAP.out.1 HCAP.out.2.1 (by omega))
              have HF2 := Lib.hid (hcast ▸ follow_calls bef aft (.slice (some ⟨g, 0, none⟩) n cap) (ds.take i ++ (⟨kq, dp, cq, oq, ⟨qal, qah⟩, ⟨qbl, qbh⟩⟩ : Deed Code) :: (⟨kp, dp, cp, op, ⟨pal, pah⟩, ⟨pbl, pbh⟩⟩ : Deed Code) :: ds.drop (i + 2)) (i + 2) w9 HHX.out HOK2.out HSZ2.out (by rw [HXL.out]; omega) (by omega))
              have l0 := HT.out.1.at 0 (.int .i64 bef) rfl
              have l1 := HT.out.1.at 1 (.int .i64 aft) rfl
              have l2 := HT.out.1.at 2 (.slice (some ⟨g, 0, none⟩) n cap) rfl
              have HWw9 := HWd; have HZ1w9 := HZ1d; have HS1w9 := HS1d
              clear HWd HZ1d HS1d HT HCd HHX e2 esp
              go_upto_region 14 with (first
                | (go_at_call 16; refine (HF2.out).mono ?_; rintro e w10 ⟨rows3, tv3, acc3, k3, f3, hfo, _, _, rfl, hb, hst⟩; obtain ⟨⟨vapour30, vapour31⟩, ⟨broth30, broth31⟩, ⟨dust30, dust31⟩, ⟨soldDry30, soldDry31⟩, ⟨soldWater30, soldWater31⟩, ⟨soaked30, soaked31⟩⟩ := acc3; obtain ⟨t3a, t3n, t3c, rfl⟩ := row_slice hst.things; have HFO3 := Lib.hid hfo; have HS3w10 := Lib.hid hst; have HZ1w10 := Lib.hid (HZ1w9.out.below hb); have HS1w10 := Lib.hid (HS1w9.out.below hb); have HWw10 := Lib.hid (HWw9.out.trans (hb.mono HWw9.out.size)); have HZ3w10 := Lib.hid (Blk.new w10 36 #[.slice none 0 0, .int .i64 0, .int .i64 0, .int .i64 0, .int .i64 0, .int .i64 0, .int .i64 0, .int .i64 0, .int .i64 0, .int .i64 0, .int .i64 0, .int .i64 0, .int .i64 0]); have HO3 := Lib.hid (show (#[.slice t3a t3n t3c, .int .i64 vapour30, .int .i64 vapour31, .int .i64 broth30, .int .i64 broth31, .int .i64 dust30, .int .i64 dust31, .int .i64 soldDry30, .int .i64 soldDry31, .int .i64 soldWater30, .int .i64 soldWater31, .int .i64 soaked30, .int .i64 soaked31] : Array Value).all (·.oneCell') = true from by simp [Value.oneCell']); clear hfo hst hb)
                | ((with_reducible refine at_store 36 (.tmp 13) (.tmp 112) ?_); go_must (refine wpList_store_mid rfl 36 (.tmp 13) (.tmp 112) rfl w10.heap.size 0 #[.slice t3a t3n t3c, .int .i64 vapour30, .int .i64 vapour31, .int .i64 broth30, .int .i64 broth31, .int .i64 dust30, .int .i64 dust31, .int .i64 soldDry30, .int .i64 soldDry31, .int .i64 soldWater30, .int .i64 soldWater31, .int .i64 soaked30, .int .i64 soaked31] rfl rfl (HZ3w10.out.there (o := 0) (n := 13) (Nat.le_of_ble_eq_true rfl)) size_standing HO3.out ?_)))
              clear l0 l1 l2
              have HZ3w11 := Lib.hid (HZ3w10.out.stored (old := [.slice none 0 0, .int .i64 0, .int .i64 0, .int .i64 0, .int .i64 0, .int .i64 0, .int .i64 0, .int .i64 0, .int .i64 0, .int .i64 0, .int .i64 0, .int .i64 0, .int .i64 0]) [.slice t3a t3n t3c, .int .i64 vapour30, .int .i64 vapour31, .int .i64 broth30, .int .i64 broth31, .int .i64 dust30, .int .i64 dust31, .int .i64 soldDry30, .int .i64 soldDry31, .int .i64 soldWater30, .int .i64 soldWater31, .int .i64 soaked30, .int .i64 soaked31] rfl)
              have HZ1w11 := Lib.hid ((HZ1w10.out.alloc (.cells #[.slice none 0 0, .int .i64 0, .int .i64 0, .int .i64 0, .int .i64 0, .int .i64 0, .int .i64 0, .int .i64 0, .int .i64 0, .int .i64 0, .int .i64 0, .int .i64 0, .int .i64 0] 36)).apart (Nat.ne_of_lt HZ1w10.out.lt) 0 [.slice t3a t3n t3c, .int .i64 vapour30, .int .i64 vapour31, .int .i64 broth30, .int .i64 broth31, .int .i64 dust30, .int .i64 dust31, .int .i64 soldDry30, .int .i64 soldDry31, .int .i64 soldWater30, .int .i64 soldWater31, .int .i64 soaked30, .int .i64 soaked31])
              have HS1w11 := Lib.hid ((HS1w10.out.same (w' := (w10.alloc (.cells #[.slice none 0 0, .int .i64 0, .int .i64 0, .int .i64 0, .int .i64 0, .int .i64 0, .int .i64 0, .int .i64 0, .int .i64 0, .int .i64 0, .int .i64 0, .int .i64 0, .int .i64 0] 36))) (fun k hk => Below.heap_alloc _ _ k hk)).setCells HZ3w10.out (by decide) (by decide) 0 [.slice t3a t3n t3c, .int .i64 vapour30, .int .i64 vapour31, .int .i64 broth30, .int .i64 broth31, .int .i64 dust30, .int .i64 dust31, .int .i64 soldDry30, .int .i64 soldDry31, .int .i64 soldWater30, .int .i64 soldWater31, .int .i64 soaked30, .int .i64 soaked31])
              have HS3w11 := Lib.hid ((HS3w10.out.same (w' := (w10.alloc (.cells #[.slice none 0 0, .int .i64 0, .int .i64 0, .int .i64 0, .int .i64 0, .int .i64 0, .int .i64 0, .int .i64 0, .int .i64 0, .int .i64 0, .int .i64 0, .int .i64 0, .int .i64 0] 36))) (fun k hk => Below.heap_alloc _ _ k hk)).setCells HZ3w10.out (by decide) (by decide) 0 [.slice t3a t3n t3c, .int .i64 vapour30, .int .i64 vapour31, .int .i64 broth30, .int .i64 broth31, .int .i64 dust30, .int .i64 dust31, .int .i64 soldDry30, .int .i64 soldDry31, .int .i64 soldWater30, .int .i64 soldWater31, .int .i64 soaked30, .int .i64 soaked31])
              have HWw11 := Lib.hid (below_setCells (HWw10.out.alloc HWw10.out.size (.cells #[.slice none 0 0, .int .i64 0, .int .i64 0, .int .i64 0, .int .i64 0, .int .i64 0, .int .i64 0, .int .i64 0, .int .i64 0, .int .i64 0, .int .i64 0, .int .i64 0, .int .i64 0] 36)) HWw10.out.size [.slice t3a t3n t3c, .int .i64 vapour30, .int .i64 vapour31, .int .i64 broth30, .int .i64 broth31, .int .i64 dust30, .int .i64 dust31, .int .i64 soldDry30, .int .i64 soldDry31, .int .i64 soldWater30, .int .i64 soldWater31, .int .i64 soaked30, .int .i64 soaked31] 0)
              generalize (w10.alloc (.cells #[.slice none 0 0, .int .i64 0, .int .i64 0, .int .i64 0, .int .i64 0, .int .i64 0, .int .i64 0, .int .i64 0, .int .i64 0, .int .i64 0, .int .i64 0, .int .i64 0, .int .i64 0] 36)).setCells w10.heap.size 0 [.slice t3a t3n t3c, .int .i64 vapour30, .int .i64 vapour31, .int .i64 broth30, .int .i64 broth31, .int .i64 dust30, .int .i64 dust31, .int .i64 soldDry30, .int .i64 soldDry31, .int .i64 soldWater30, .int .i64 soldWater31, .int .i64 soaked30, .int .i64 soaked31] = w11 at HZ3w11 HZ1w11 HS1w11 HS3w11 HWw11 ⊢
              obtain ⟨g3, hg3⟩ : ∃ g, g = w10.heap.size := ⟨_, rfl⟩
              rw [← hg3] at HZ3w11 ⊢
              clear hg3 HZ3w10 HWw10 HZ1w10 HS1w10 HS3w10
              have hbb := HFS.out
              rw [HFO3.out, HFO1.out] at hbb
              simp only [Prod.mk.injEq, stOf, St.mk.injEq, Acc.mk.injEq, Bd.mk.injEq] at hbb
              obtain ⟨⟨hr, ⟨rfl, rfl⟩, ⟨rfl, rfl⟩, ⟨rfl, rfl⟩, ⟨rfl, rfl⟩, ⟨rfl, rfl⟩, ⟨rfl, rfl⟩⟩, rfl, rfl⟩ := hbb
              obtain rfl : t1n = t3n := by rw [row_len HS1w11.out.things, row_len HS3w11.out.things]; have := congrArg List.length hr; simpa using this.symm
              have HR := Lib.hid hr
              rw [hcast]
              have p0 := HZ1w11.out.at 0 (.slice t1a t1n t1c) rfl
              have p1 := HZ1w11.out.at 1 (.int .i64 vapour30) rfl
              have p2 := HZ1w11.out.at 2 (.int .i64 vapour31) rfl
              have p3 := HZ1w11.out.at 3 (.int .i64 broth30) rfl
              have p4 := HZ1w11.out.at 4 (.int .i64 broth31) rfl
              have p5 := HZ1w11.out.at 5 (.int .i64 dust30) rfl
              have p6 := HZ1w11.out.at 6 (.int .i64 dust31) rfl
              have p7 := HZ1w11.out.at 7 (.int .i64 soldDry30) rfl
              have p8 := HZ1w11.out.at 8 (.int .i64 soldDry31) rfl
              have p9 := HZ1w11.out.at 9 (.int .i64 soldWater30) rfl
              have p10 := HZ1w11.out.at 10 (.int .i64 soldWater31) rfl
              have p11 := HZ1w11.out.at 11 (.int .i64 soaked30) rfl
              have p12 := HZ1w11.out.at 12 (.int .i64 soaked31) rfl
              have r0 := HZ3w11.out.at 0 (.slice t3a t1n t3c) rfl
              have r1 := HZ3w11.out.at 1 (.int .i64 vapour30) rfl
              have r2 := HZ3w11.out.at 2 (.int .i64 vapour31) rfl
              have r3 := HZ3w11.out.at 3 (.int .i64 broth30) rfl
              have r4 := HZ3w11.out.at 4 (.int .i64 broth31) rfl
              have r5 := HZ3w11.out.at 5 (.int .i64 dust30) rfl
              have r6 := HZ3w11.out.at 6 (.int .i64 dust31) rfl
              have r7 := HZ3w11.out.at 7 (.int .i64 soldDry30) rfl
              have r8 := HZ3w11.out.at 8 (.int .i64 soldDry31) rfl
              have r9 := HZ3w11.out.at 9 (.int .i64 soldWater30) rfl
              have r10 := HZ3w11.out.at 10 (.int .i64 soldWater31) rfl
              have r11 := HZ3w11.out.at 11 (.int .i64 soaked30) rfl
              have r12 := HZ3w11.out.at 12 (.int .i64 soaked31) rfl
              go_wp2_with (first
                | (go_at_call 20; refine (same_rows HS1w11.out HS3w11.out HR.out.symm).mono ?_; rintro e w12 ⟨rfl, hb12⟩; have HWw12 := Lib.hid (HWw11.out.trans (hb12.mono HWw11.out.size)); clear hb12)
                | (go_at_call 15; refine (stands_calls _).mono ?_; rintro e w13 ⟨rfl, hb13⟩; have HWw13 := Lib.hid (HWw12.out.trans (hb13.mono HWw12.out.size)); clear hb13))
              go_ret
              exact ⟨rfl, HWw13.out⟩
      · have hdd : (dp == dq) = false := by simpa using hday
        have hdd2 : (dp != dq) = true := by simpa using hday
        go_wp2_with ((go_at_call 15; refine (stands_calls _).mono ?_; rintro e w6 ⟨rfl, hb6⟩; have HWw6 := Lib.hid (HWw5.out.trans (hb6.mono HWw5.out.size)); clear hb6))
        go_ret
        exact ⟨rfl, HWw6.out⟩

/-- YardSwaps, whatever comes in. -/
theorem swaps_calls (bef aft : Int) (v : Value) (ds : List (Deed Code)) (x1 : Int) (w : World) (h : Held w.heap.size w 8 deedCells v ds) (hsz : ∀ d ∈ ds, d.stack.size ≤ maxLen ∧ d.other.size ≤ maxLen) (hx1 : 0 ≤ x1 ∧ x1 ≤ 255) :
    Calls Try.prog 6 #[.agg #[.int .i64 bef, .int .i64 aft, v], .int .u8 x1] w fun e w' => e = .returned (.bool true) ∧ Below w.heap.size w w' := by
  cases hg : greatB ds with
  | true => exact swaps_stands bef aft v ds x1 w h (.inl hg)
  | false =>
    by_cases hok : errYard bef aft ds = 0
    · rcases Nat.lt_or_ge ds.length 2 with hl | hl
      · exact swaps_less bef aft v ds x1 w h hg hok hl
      · exact swaps_real bef aft v ds x1 w h hsz hg hok hl hx1
    · exact swaps_stands bef aft v ds x1 w h (.inr hok)
end Go.Proofs.Ytcnacegjdmgakaa
