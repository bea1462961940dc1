/- The reader's Strip line. The reader's Wound line. The reader's tree line. -/
import Derived.Test.YtnoofdjlocadbaaGreatDoorReadingMore
import Derived.Test.YtnoofdjlocadbaaGreatDoorHoldT
namespace Go.Proofs.YtnoofdjlocadbaaGreatDoor
open Go Go.RowKit Go.Lib Go.Deep

theorem readStrip_info : (Tryz.prog.info? 69).map (fun i => (i.zero, i.size, i.bytes)) = some (some (.agg #[.int .i64 0, .int .i64 0]), 2, 16) := by kernel_rfl
theorem readStrip_parts : ∃ i, Tryz.prog.info? 69 = some i ∧ i.zero = some (.agg #[.int .i64 0, .int .i64 0]) ∧ i.size = 2 ∧ i.bytes = 16 := by
  have h := readStrip_info
  cases hi : Tryz.prog.info? 69 with
  | none => rw [hi] at h; cases h
  | some i => rw [hi] at h; simp at h; exact ⟨i, rfl, h.1, h.2.1, h.2.2⟩

/-- How such a line is read. -/
def StripRead (w0 w : World) (B : Nat) (law : Law) (tv : Value) (ts : List Tree) (ln : Int) (last : List UInt8) (fs : List (List UInt8)) (e : Ending) (w' : World) : Prop :=
  (∃ ts0 t n0 n1 g cap, ts = ts0 ++ [t] ∧ last ∈ [wTree, wStrip] ∧ numbersL fs = some [n0, n1] ∧ e = .returned (.tuple #[]) ∧ Reading w0 w' B law tv (ts0 ++ [{ t with sv := .slice (some ⟨g, 0, none⟩) (t.strips.length + 1) cap, strips := t.strips ++ [(n0, n1)] }]) ln last ∧ Calm w w') ∨
  (¬ (last ∈ [wTree, wStrip] ∧ ∃ ns, numbersL fs = some ns ∧ ns.length = 2) ∧ e = .panicked (lineChain ln) ∧ Below w.heap.size w w')

set_option linter.unusedSimpArgs false in
set_option maxRecDepth 100000 in
set_option maxHeartbeats 4000000 in
theorem readStrip_calls (w0 : World) (B : Nat) (law : Law) (tv : Value) (ts : List Tree) (ln : Int) (last : List UInt8) (fs : List (List UInt8)) (p off c : Nat) (hfl : ∀ f ∈ fs, f.length < 1000000000) (hn : fs.length < 1000000000) (w : World) (hL : Libs w)
    (h : Reading w0 w B law tv ts ln last) (hts : ts.length < 1000000000) (hst : ∀ t ∈ ts, t.strips.length < 1000000000) (hne : last ∈ [wTree, wStrip] → ts ≠ [])
    (hc : ∀ j f, fs[j]? = some f → w.cell? ⟨p, off + j, none⟩ = some (.string (str f))) :
    Calls Tryz.prog 50 #[.pointer (some ⟨B, 0, none⟩), .slice (some ⟨p, off, none⟩) fs.length c] w (StripRead w0 w B law tv ts ln last fs) := by
  have k8 := h.line
  have k9 := h.word
  have hbl := block_lt_of_cell k8
  have hb0 : Below w.heap.size w (w.alloc (.cells #[.string ⟨#[116, 114, 101, 101]⟩, .string ⟨#[115, 116, 114, 105, 112]⟩] 9)) := (Below.refl _ w).alloc (Nat.le_refl _) _
  have HA := Lib.hid (needAfter_calls B ln last [wTree, wStrip] w.heap.size 0 2 (by decide) (w.alloc (.cells #[.string ⟨#[116, 114, 101, 101]⟩, .string ⟨#[115, 116, 114, 105, 112]⟩] 9)) ((hb0.cell hbl).trans k8) ((hb0.cell (p := ⟨B, 9, none⟩) hbl).trans k9) (by
    intro j f hj
    have hB := Bkt.new w 9 #[.string ⟨#[116, 114, 101, 101]⟩, .string ⟨#[115, 116, 114, 105, 112]⟩]
    rw [Nat.zero_add, hB.cell]
    match j, hj with
    | 0, hj => cases hj; rfl
    | 1, hj => cases hj; rfl
    | _ + 2, hj => simp at hj))
  have HN := Lib.hid (readNumbers_calls B ln fs p off c 2 hfl hn (w.alloc (.cells #[.string ⟨#[116, 114, 101, 101]⟩, .string ⟨#[115, 116, 114, 105, 112]⟩] 9)) (hL.below hb0) ((hb0.cell hbl).trans k8) (fun j f hj => (hb0.cell (block_lt_of_cell (hc j f hj))).trans (hc j f hj)))
  have HR := Lib.hid h
  have HB0 := Lib.hid hb0
  have HTS := Lib.hid hts; have HST := Lib.hid hst; have HNE := Lib.hid hne
  clear hc hL hfl h hb0 hts hst hne k8 k9 hbl
  go_enter Tryz.func50, Tryz.ntmps50
  go_upto_region 2 with (first
    | (go_at_call 83; refine HA.out.mono ?_; rintro e w' ⟨rfl, ⟨hm, rfl⟩ | ⟨hm, rfl⟩⟩)
    | (go_at_call 84; refine HN.out.mono ?_; rintro e w2 ⟨hb2, h⟩; rcases h with ⟨ns, v, hns, hlen, hrow, rfl⟩ | ⟨hbad, rfl⟩))
  · have hv : ∃ g cap, v = .slice (some ⟨g, 0, none⟩) 2 cap := by
      rcases hrow.2 with ⟨_, h1⟩ | ⟨g, cap, cur, h1, _⟩
      · omega
      · exact ⟨g, cap, h1⟩
    obtain ⟨gn, capn, rfl⟩ := hv
    obtain ⟨n0, n1, rfl⟩ : ∃ n0 n1, ns = [n0, n1] := by
      match ns, hlen with
      | [n0, n1], _ => exact ⟨n0, n1, rfl⟩
    have hb02 : Below w.heap.size w w2 := HB0.out.trans (hb2.mono HB0.out.size)
    have HR2 := Lib.hid (HR.out.below hb02)
    have HBW2 := Lib.hid hb02
    have HROW := Lib.hid hrow
    have HNS := Lib.hid hns
    have hm' := hm
    have HM := Lib.hid hm'
    obtain ⟨ts0, t, rfl⟩ : ∃ ts0 t, ts = ts0 ++ [t] := ⟨ts.dropLast, ts.getLast (HNE.out hm), (List.dropLast_concat_getLast (HNE.out hm)).symm⟩
    obtain ⟨gT, cT, curT, rfl, hcT1, hcT2, hblkT, hT0, _⟩ := HR2.out.sliced
    have HLT := Lib.hid (HST.out t (by simp))
    have hts0 : ts0.length < 1000000000 := by have := HTS.out; rw [List.length_append] at this; omega
    have HOLD := Lib.hid (show ∀ r ∈ (readerOf B law (.slice (some ⟨gT, 0, none⟩) (ts0.length + 1) cT) ln last :: treesOf (.slice (some ⟨gT, 0, none⟩) (ts0.length + 1) cT) (ts0 ++ [t]) :: (ts0 ++ [t]).flatMap Tree.mrows), ∀ g, r.v.ownBlock = some g → g < (w.alloc (.cells #[.string ⟨#[116, 114, 101, 101]⟩, .string ⟨#[115, 116, 114, 105, 112]⟩] 9)).heap.size from fun r hr g hg => Nat.lt_of_lt_of_le (HR.out.lt hr hg) HB0.out.size)
    have HTC := Lib.hid (fun (W : World) (hW : Below w2.heap.size w2 W) => tree_calls (HR2.out.below hW) hts0)
    have HB2 := Lib.hid (Below.refl w2.heap.size w2)
    clear hrow hns hm hm' hlen hb2 hb02 hts0 hcT1 hcT2 hblkT hT0 HA HN HR HNE HST HB0
    go_upto_region 3 with (go_at_call 86; refine (HTC.out _ HB2.out).mono ?_; rintro e w3 ⟨rfl, hb⟩; have HB3 := Lib.hid (HB2.out.trans (hb.mono HB2.out.size)); clear hb)
    have HR3 := Lib.hid (HR2.out.below HB3.out)
    have HROW3 := Lib.hid (row_below HROW.out HB3.out)
    have HBW3 := Lib.hid (HBW2.out.trans (HB3.out.mono HBW2.out.size))
    clear HTC HB2 HR2 HROW HB3
    obtain ⟨i1_, hi1, hi1a, hi1b, hi1c⟩ := readStrip_parts
    have HI1 := Lib.hid hi1; have HI1a := Lib.hid hi1a; have HI1b := Lib.hid hi1b; have HI1c := Lib.hid hi1c
    clear hi1 hi1a hi1b hi1c
    obtain ⟨M, hM⟩ : ∃ M, M = ts0.length * 11 := ⟨_, rfl⟩
    have HM1 := Lib.hid hM
    rw [← hM]
    clear hM
    have hmix : Tryz.prog.follows .mixedOrders = true := by kernel_rfl
    refine region_till [16] (fun w' => w'.cell? ⟨gT, M + 8, none⟩ = some (t.sv) ∧ w'.cell? ⟨gn, 0, none⟩ = some (.int .i64 n0) ∧ w'.cell? ⟨gn, 1, none⟩ = some (.int .i64 n1)) 17 [false, false, false, false, false, false, false, false, false, false, false, false, false, false, false, false, false] hmix rfl rfl ?_
    clear hmix
    have HRd := Lib.hid (HR3.out.below (Below.refl w3.heap.size w3).drew)
    have HNd := Lib.hid (row_below HROW3.out (Below.refl w3.heap.size w3).drew)
    have HBWd := Lib.hid HBW3.out.drew
    generalize w3.drew = wd at HRd HNd HBWd ⊢
    clear HR3 HROW3 HBW3
    have HT := Lib.hid (show (fun w' => w'.cell? ⟨gT, M + 8, none⟩ = some (t.sv) ∧ w'.cell? ⟨gn, 0, none⟩ = some (.int .i64 n0) ∧ w'.cell? ⟨gn, 1, none⟩ = some (.int .i64 n1)) wd from ⟨(by have := HRd.out.lastCell rfl 8 (by decide); rw [← HM1.out] at this; exact this), (World.ownsRow.cellAt HNd.out 0 (by decide)), (World.ownsRow.cellAt HNd.out 1 (by decide))⟩)
    refine till_pure (i := 0) (v := .pointer (some ⟨gT, M, none⟩)) rfl rfl (by kernel_rfl) (fun _ _ _ h => h) (yields_of rfl (fun w' _ => by simp [go_sem])) (fun _ => HT.out) ?_
    try simp only [List.setIfInBounds_toArray, List.set_cons_succ, List.set_cons_zero]
    refine till_pure (i := 1) (v := .pointer (some ⟨gT, M, none⟩)) rfl rfl (by kernel_rfl) (fun _ _ _ h => h) (yields_of rfl (fun w' _ => by simp [go_sem])) (fun _ => HT.out) ?_
    try simp only [List.setIfInBounds_toArray, List.set_cons_succ, List.set_cons_zero]
    refine till_pure (i := 2) (v := .pointer (some ⟨gT, M, none⟩)) rfl rfl (by kernel_rfl) (fun _ _ _ h => h) (yields_of rfl (fun w' _ => by simp [go_sem])) (fun _ => HT.out) ?_
    try simp only [List.setIfInBounds_toArray, List.set_cons_succ, List.set_cons_zero]
    refine till_pure (i := 3) (v := .pointer (some ⟨gT, M + 8, none⟩)) rfl rfl (by kernel_rfl) (fun _ _ _ h => h) (yields_of rfl (fun w' _ => by simp [go_sem])) (fun _ => HT.out) ?_
    try simp only [List.setIfInBounds_toArray, List.set_cons_succ, List.set_cons_zero]
    refine till_load (i := 4) (v := t.sv) rfl rfl (by kernel_rfl) (fun _ _ _ h => h) (yields_of rfl (fun w' hw' => by have hcx : w'.cell? ⟨gT, M + 8, none⟩ = some (t.sv) := hw'.1; simp [go_sem, hcx])) (fun _ => HT.out) ?_
    try simp only [List.setIfInBounds_toArray, List.set_cons_succ, List.set_cons_zero]
    refine till_pure (i := 5) (v := .slice (some ⟨gn, 0, none⟩) 2 capn) rfl rfl (by kernel_rfl) (fun _ _ _ h => h) (yields_of rfl (fun w' _ => by simp [go_sem])) (fun _ => HT.out) ?_
    try simp only [List.setIfInBounds_toArray, List.set_cons_succ, List.set_cons_zero]
    refine till_pure (i := 6) (v := .pointer (some ⟨gn, 0, none⟩)) rfl rfl (by kernel_rfl) (fun _ _ _ h => h) (yields_of rfl (fun w' _ => by simp [go_sem, Tryz.underlying43])) (fun _ => HT.out) ?_
    try simp only [List.setIfInBounds_toArray, List.set_cons_succ, List.set_cons_zero]
    refine till_load (i := 7) (v := .int .i64 n0) rfl rfl (by kernel_rfl) (fun _ _ _ h => h) (yields_of rfl (fun w' hw' => by have hcx : w'.cell? ⟨gn, 0, none⟩ = some (.int .i64 n0) := hw'.2.1; simp [go_sem, hcx])) (fun _ => HT.out) ?_
    try simp only [List.setIfInBounds_toArray, List.set_cons_succ, List.set_cons_zero]
    refine till_pure (i := 8) (v := .slice (some ⟨gn, 0, none⟩) 2 capn) rfl rfl (by kernel_rfl) (fun _ _ _ h => h) (yields_of rfl (fun w' _ => by simp [go_sem])) (fun _ => HT.out) ?_
    try simp only [List.setIfInBounds_toArray, List.set_cons_succ, List.set_cons_zero]
    refine till_pure (i := 9) (v := .pointer (some ⟨gn, 1, none⟩)) rfl rfl (by kernel_rfl) (fun _ _ _ h => h) (yields_of rfl (fun w' _ => by simp [go_sem, Tryz.underlying43])) (fun _ => HT.out) ?_
    try simp only [List.setIfInBounds_toArray, List.set_cons_succ, List.set_cons_zero]
    refine till_load (i := 10) (v := .int .i64 n1) rfl rfl (by kernel_rfl) (fun _ _ _ h => h) (yields_of rfl (fun w' hw' => by have hcx : w'.cell? ⟨gn, 1, none⟩ = some (.int .i64 n1) := hw'.2.2; simp [go_sem, hcx])) (fun _ => HT.out) ?_
    try simp only [List.setIfInBounds_toArray, List.set_cons_succ, List.set_cons_zero]
    refine till_pure (i := 11) (v := .agg #[.int .i64 n0, .int .i64 n1]) rfl rfl (by kernel_rfl) (fun _ _ _ h => h) (yields_of rfl (fun w' _ => by simp [go_sem])) (fun _ => HT.out) ?_
    try simp only [List.setIfInBounds_toArray, List.set_cons_succ, List.set_cons_zero]
    refine till_only (j := 12) (by kernel_rfl) rfl ?_
    go_wp2_with fail
    have HRa := Lib.hid (HRd.out.below ((Below.refl _ wd).alloc (Nat.le_refl _) (.cells #[.int .i64 n0, .int .i64 n1] 69)))
    have HNa := Lib.hid (row_below HNd.out ((Below.refl _ wd).alloc (Nat.le_refl _) (.cells #[.int .i64 n0, .int .i64 n1] 69)))
    have HT := Lib.hid (show (fun w' => w'.cell? ⟨gT, M + 8, none⟩ = some (t.sv) ∧ w'.cell? ⟨gn, 0, none⟩ = some (.int .i64 n0) ∧ w'.cell? ⟨gn, 1, none⟩ = some (.int .i64 n1)) (wd.alloc (.cells #[.int .i64 n0, .int .i64 n1] 69)) from ⟨(by have := HRa.out.lastCell rfl 8 (by decide); rw [← HM1.out] at this; exact this), (World.ownsRow.cellAt HNa.out 0 (by decide)), (World.ownsRow.cellAt HNa.out 1 (by decide))⟩)
    refine ⟨(fun _ => HT.out), ?_⟩
    try simp only [List.setIfInBounds_toArray, List.set_cons_succ, List.set_cons_zero]
    refine till_only (j := 13) (by kernel_rfl) rfl ?_
    refine wpList_append_lies _ rfl (.tmp 18) (.tmp 26) 42 rfl w0.heap.size 69 i1_ (.agg #[.int .i64 0, .int .i64 0]) 2 16 Tryz.underlying42 HI1.out HI1a.out HI1b.out HI1c.out rfl (by decide) (t.sv) (t.strips.length) (flat stripCells t.strips) rfl (HRa.out.lastRows.row (stripsOf t.sv t.strips) (by simp)) ⟨wd.heap.size, 0, none⟩ 1 1 [.int .i64 n0, .int .i64 n1] rfl rfl (World.news_of_block (heap_alloc_new wd _)) (by simp [Value.oneCell']) (by decide) (by have := HLT.out; unfold maxLen; omega) (by have := HLT.out; omega) HRa.out.low.size (wd.heap.size + 1) (World.size_alloc _ _) ?_
    intro g cap w7 hown7 hg7 hat7 hlt7
    have HG7 := Lib.hid hg7; have HO7 := Lib.hid hown7; have HAT7 := Lib.hid (show t.sv.ownBlock = some g ∨ g = (wd.alloc (.cells #[.int .i64 n0, .int .i64 n1] 69)).heap.size from by rw [World.size_alloc]; exact hat7)
    have hT7 : w7.cell? ⟨gT, M + 8, none⟩ = some (t.sv) := by
      have h1 := HRa.out.trees
      obtain ⟨_, _, _, e1, _, _, hbT, _, _⟩ := HRa.out.sliced
      cases e1
      have h2 := HG7.out.block gT hbT.lt (fun e => by
        have h3 := row_apart (HRa.out.lastRows.row (stripsOf t.sv t.strips) (by simp)) h1 (show 69 ≠ 45 from by decide)
        rcases h3 with h3 | h3
        · rw [show (stripsOf t.sv t.strips).v = t.sv from rfl] at h3; rw [h3] at e; cases e
        · exact h3 e.symm)
      refine (World.cell?_of_block h2).trans ?_
      have := HRa.out.lastCell rfl 8 (by decide)
      rw [← HM1.out] at this
      exact this
    have hf7 : w7.frozen? ⟨gT, M + 8, none⟩ = false := by
      have h1 := HRa.out.trees
      obtain ⟨_, _, _, e1, _, _, hbT, _, _⟩ := HRa.out.sliced
      cases e1
      have h2 := HG7.out.block gT hbT.lt (fun e => by
        have h3 := row_apart (HRa.out.lastRows.row (stripsOf t.sv t.strips) (by simp)) h1 (show 69 ≠ 45 from by decide)
        rcases h3 with h3 | h3
        · rw [show (stripsOf t.sv t.strips).v = t.sv from rfl] at h3; rw [h3] at e; cases e
        · exact h3 e.symm)
      exact (World.frozen?_of_block h2).trans (hbT.frozen _)
    have HN7 := Lib.hid (show w7.ownsRow (w.alloc (.cells #[.string ⟨#[116, 114, 101, 101]⟩, .string ⟨#[115, 116, 114, 105, 112]⟩] 9)).heap.size 3 1 (.slice (some ⟨gn, 0, none⟩) 2 capn) 2 ([n0, n1].map (Value.int .i64)) from row_same HNa.out (fun g' hg' => by
      have e1 : gn = g' := by injection hg'
      subst e1
      refine HG7.out.block gn (row_lt HNa.out rfl) (fun e => ?_)
      have h4 := HOLD.out (stripsOf t.sv t.strips) (by rw [last_mrows]; simp) gn e.symm
      have h5 := (HNa.out.lt gn rfl).1
      omega))
    obtain ⟨curS, hT8⟩ : ∃ cur, Bkt w7 gT 45 cur := by
      obtain ⟨_, _, _, e1, _, _, hbT, _, _⟩ := HRa.out.sliced
      cases e1
      refine ⟨_, (HG7.out.block gT hbT.lt (fun e => ?_)).trans hbT⟩
      obtain ⟨cs', hb'⟩ := row_type (HRa.out.lastRows.row (stripsOf t.sv t.strips) (by simp)) e.symm
      exact absurd (blk_type hbT hb') (show 45 ≠ 69 from by decide)
    have HT7 := Lib.hid hT8
    clear hT8
    have HS7 := Lib.hid (((Calm.of_below HBWd.out).trans (Calm.of_below ((Below.refl _ wd).alloc (Nat.le_refl _) (.cells #[.int .i64 n0, .int .i64 n1] 69)))).grown (HRa.out.lastRows.row (stripsOf t.sv t.strips) (by simp)) HG7.out (show 69 = 105 ∨ 69 = 45 ∨ 69 = 69 ∨ 69 = 3 from by decide))
    clear hown7 hg7 hat7 hlt7
    change Till _ _ _ _ ∧ wpAnyT _ _ _ _ _ _ _ _ _ _
    try simp only [Act.put, List.setIfInBounds_toArray, List.set_cons_succ, List.set_cons_zero]
    have HT := Lib.hid (show (fun w' => w'.cell? ⟨gT, M + 8, none⟩ = some (t.sv) ∧ w'.cell? ⟨gn, 0, none⟩ = some (.int .i64 n0) ∧ w'.cell? ⟨gn, 1, none⟩ = some (.int .i64 n1)) w7 from ⟨hT7, (World.ownsRow.cellAt HN7.out 0 (by decide)), (World.ownsRow.cellAt HN7.out 1 (by decide))⟩)
    refine ⟨(fun _ => HT.out), ?_⟩
    try simp only [List.setIfInBounds_toArray, List.set_cons_succ, List.set_cons_zero]
    refine till_pure (i := 14) (v := .pointer (some ⟨gT, M, none⟩)) rfl rfl (by kernel_rfl) (fun _ _ _ h => h) (yields_of rfl (fun w' _ => by simp [go_sem])) (fun _ => HT.out) ?_
    try simp only [List.setIfInBounds_toArray, List.set_cons_succ, List.set_cons_zero]
    refine till_pure (i := 15) (v := .pointer (some ⟨gT, M + 8, none⟩)) rfl rfl (by kernel_rfl) (fun _ _ _ h => h) (yields_of rfl (fun w' _ => by simp [go_sem])) (fun _ => HT.out) ?_
    try simp only [List.setIfInBounds_toArray, List.set_cons_succ, List.set_cons_zero]
    refine till_only (j := 16) (by kernel_rfl) rfl ?_
    go_wp2_with fail
    clear hT7 hf7
    have HF := Lib.hid (show Reading w0 (w7.setCell ⟨gT, M + 8, none⟩ (.slice (some ⟨g, 0, none⟩) (t.strips.length + 1) cap)) B law (.slice (some ⟨gT, 0, none⟩) (ts0.length + 1) cT) (ts0 ++ [{ t with sv := .slice (some ⟨g, 0, none⟩) (t.strips.length + 1) cap, strips := t.strips ++ [(n0, n1)] }]) ln last from by
      have := HRa.out.addStrip rfl rfl (n0, n1) HG7.out HO7.out HAT7.out
      rw [← HM1.out] at this
      exact this)
    have HS8 := Lib.hid (HS7.out.setCell HT7.out (by decide) (M + 8) (.slice (some ⟨g, 0, none⟩) (t.strips.length + 1) cap))
    generalize w7.setCell ⟨gT, M + 8, none⟩ (.slice (some ⟨g, 0, none⟩) (t.strips.length + 1) cap) = w8 at HF HS8 ⊢
    refine ⟨(fun h => by simp at h), ?_⟩
    try simp only [List.setIfInBounds_toArray, List.set_cons_succ, List.set_cons_zero]
    refine till_done (by kernel_rfl) ?_
    try simp only [Act.put]
    go_wp2
    go_end0
    exact .inl ⟨ts0, t, n0, n1, g, cap, rfl, HM.out, HNS.out, rfl, HF.out, HS8.out⟩
  · refine ⟨rfl, Or.inr ⟨?_, rfl, HB0.out.trans (hb2.mono HB0.out.size)⟩⟩
    rintro ⟨_, ms, h1, h2⟩
    exact hbad ms h1 h2
  · refine ⟨rfl, Or.inr ⟨?_, rfl, HB0.out⟩⟩
    rintro ⟨h1, _⟩
    exact hm h1
end Go.Proofs.YtnoofdjlocadbaaGreatDoor
namespace Go.Proofs.YtnoofdjlocadbaaGreatDoor
open Go Go.RowKit Go.Lib Go.Deep

theorem readWound_info : (Tryz.prog.info? 3).map (fun i => (i.zero, i.size, i.bytes)) = some (some (.int .i64 0), 1, 8) := by kernel_rfl
theorem readWound_parts : ∃ i, Tryz.prog.info? 3 = some i ∧ i.zero = some (.int .i64 0) ∧ i.size = 1 ∧ i.bytes = 8 := by
  have h := readWound_info
  cases hi : Tryz.prog.info? 3 with
  | none => rw [hi] at h; cases h
  | some i => rw [hi] at h; simp at h; exact ⟨i, rfl, h.1, h.2.1, h.2.2⟩

/-- How such a line is read. -/
def WoundRead (w0 w : World) (B : Nat) (law : Law) (tv : Value) (ts : List Tree) (ln : Int) (last : List UInt8) (fs : List (List UInt8)) (e : Ending) (w' : World) : Prop :=
  (∃ ts0 t n0 g cap, ts = ts0 ++ [t] ∧ last ∈ [wTree, wStrip, wWound] ∧ numbersL fs = some [n0] ∧ e = .returned (.tuple #[]) ∧ Reading w0 w' B law tv (ts0 ++ [{ t with wv := .slice (some ⟨g, 0, none⟩) (t.wounds.length + 1) cap, wounds := t.wounds ++ [n0] }]) ln last ∧ Calm w w') ∨
  (¬ (last ∈ [wTree, wStrip, wWound] ∧ ∃ ns, numbersL fs = some ns ∧ ns.length = 1) ∧ e = .panicked (lineChain ln) ∧ Below w.heap.size w w')

set_option linter.unusedSimpArgs false in
set_option maxRecDepth 100000 in
set_option maxHeartbeats 4000000 in
theorem readWound_calls (w0 : World) (B : Nat) (law : Law) (tv : Value) (ts : List Tree) (ln : Int) (last : List UInt8) (fs : List (List UInt8)) (p off c : Nat) (hfl : ∀ f ∈ fs, f.length < 1000000000) (hn : fs.length < 1000000000) (w : World) (hL : Libs w)
    (h : Reading w0 w B law tv ts ln last) (hts : ts.length < 1000000000) (hst : ∀ t ∈ ts, t.wounds.length < 1000000000) (hne : last ∈ [wTree, wStrip, wWound] → ts ≠ [])
    (hc : ∀ j f, fs[j]? = some f → w.cell? ⟨p, off + j, none⟩ = some (.string (str f))) :
    Calls Tryz.prog 51 #[.pointer (some ⟨B, 0, none⟩), .slice (some ⟨p, off, none⟩) fs.length c] w (WoundRead w0 w B law tv ts ln last fs) := by
  have k8 := h.line
  have k9 := h.word
  have hbl := block_lt_of_cell k8
  have hb0 : Below w.heap.size w (w.alloc (.cells #[.string ⟨#[116, 114, 101, 101]⟩, .string ⟨#[115, 116, 114, 105, 112]⟩, .string ⟨#[119, 111, 117, 110, 100]⟩] 9)) := (Below.refl _ w).alloc (Nat.le_refl _) _
  have HA := Lib.hid (needAfter_calls B ln last [wTree, wStrip, wWound] w.heap.size 0 3 (by decide) (w.alloc (.cells #[.string ⟨#[116, 114, 101, 101]⟩, .string ⟨#[115, 116, 114, 105, 112]⟩, .string ⟨#[119, 111, 117, 110, 100]⟩] 9)) ((hb0.cell hbl).trans k8) ((hb0.cell (p := ⟨B, 9, none⟩) hbl).trans k9) (by
    intro j f hj
    have hB := Bkt.new w 9 #[.string ⟨#[116, 114, 101, 101]⟩, .string ⟨#[115, 116, 114, 105, 112]⟩, .string ⟨#[119, 111, 117, 110, 100]⟩]
    rw [Nat.zero_add, hB.cell]
    match j, hj with
    | 0, hj => cases hj; rfl
    | 1, hj => cases hj; rfl
    | 2, hj => cases hj; rfl
    | _ + 3, hj => simp at hj))
  have HN := Lib.hid (readNumbers_calls B ln fs p off c 1 hfl hn (w.alloc (.cells #[.string ⟨#[116, 114, 101, 101]⟩, .string ⟨#[115, 116, 114, 105, 112]⟩, .string ⟨#[119, 111, 117, 110, 100]⟩] 9)) (hL.below hb0) ((hb0.cell hbl).trans k8) (fun j f hj => (hb0.cell (block_lt_of_cell (hc j f hj))).trans (hc j f hj)))
  have HR := Lib.hid h
  have HB0 := Lib.hid hb0
  have HTS := Lib.hid hts; have HST := Lib.hid hst; have HNE := Lib.hid hne
  clear hc hL hfl h hb0 hts hst hne k8 k9 hbl
  go_enter Tryz.func51, Tryz.ntmps51
  go_upto_region 2 with (first
    | (go_at_call 83; refine HA.out.mono ?_; rintro e w' ⟨rfl, ⟨hm, rfl⟩ | ⟨hm, rfl⟩⟩)
    | (go_at_call 84; refine HN.out.mono ?_; rintro e w2 ⟨hb2, h⟩; rcases h with ⟨ns, v, hns, hlen, hrow, rfl⟩ | ⟨hbad, rfl⟩))
  · have hv : ∃ g cap, v = .slice (some ⟨g, 0, none⟩) 1 cap := by
      rcases hrow.2 with ⟨_, h1⟩ | ⟨g, cap, cur, h1, _⟩
      · omega
      · exact ⟨g, cap, h1⟩
    obtain ⟨gn, capn, rfl⟩ := hv
    obtain ⟨n0, rfl⟩ : ∃ n0, ns = [n0] := by
      match ns, hlen with
      | [n0], _ => exact ⟨n0, rfl⟩
    have hb02 : Below w.heap.size w w2 := HB0.out.trans (hb2.mono HB0.out.size)
    have HR2 := Lib.hid (HR.out.below hb02)
    have HBW2 := Lib.hid hb02
    have HROW := Lib.hid hrow
    have HNS := Lib.hid hns
    have hm' := hm
    have HM := Lib.hid hm'
    obtain ⟨ts0, t, rfl⟩ : ∃ ts0 t, ts = ts0 ++ [t] := ⟨ts.dropLast, ts.getLast (HNE.out hm), (List.dropLast_concat_getLast (HNE.out hm)).symm⟩
    obtain ⟨gT, cT, curT, rfl, hcT1, hcT2, hblkT, hT0, _⟩ := HR2.out.sliced
    have HLT := Lib.hid (HST.out t (by simp))
    have hts0 : ts0.length < 1000000000 := by have := HTS.out; rw [List.length_append] at this; omega
    have HOLD := Lib.hid (show ∀ r ∈ (readerOf B law (.slice (some ⟨gT, 0, none⟩) (ts0.length + 1) cT) ln last :: treesOf (.slice (some ⟨gT, 0, none⟩) (ts0.length + 1) cT) (ts0 ++ [t]) :: (ts0 ++ [t]).flatMap Tree.mrows), ∀ g, r.v.ownBlock = some g → g < (w.alloc (.cells #[.string ⟨#[116, 114, 101, 101]⟩, .string ⟨#[115, 116, 114, 105, 112]⟩, .string ⟨#[119, 111, 117, 110, 100]⟩] 9)).heap.size from fun r hr g hg => Nat.lt_of_lt_of_le (HR.out.lt hr hg) HB0.out.size)
    have HTC := Lib.hid (fun (W : World) (hW : Below w2.heap.size w2 W) => tree_calls (HR2.out.below hW) hts0)
    have HB2 := Lib.hid (Below.refl w2.heap.size w2)
    clear hrow hns hm hm' hlen hb2 hb02 hts0 hcT1 hcT2 hblkT hT0 HA HN HR HNE HST HB0
    go_upto_region 3 with (go_at_call 86; refine (HTC.out _ HB2.out).mono ?_; rintro e w3 ⟨rfl, hb⟩; have HB3 := Lib.hid (HB2.out.trans (hb.mono HB2.out.size)); clear hb)
    have HR3 := Lib.hid (HR2.out.below HB3.out)
    have HROW3 := Lib.hid (row_below HROW.out HB3.out)
    have HBW3 := Lib.hid (HBW2.out.trans (HB3.out.mono HBW2.out.size))
    clear HTC HB2 HR2 HROW HB3
    obtain ⟨i1_, hi1, hi1a, hi1b, hi1c⟩ := readWound_parts
    have HI1 := Lib.hid hi1; have HI1a := Lib.hid hi1a; have HI1b := Lib.hid hi1b; have HI1c := Lib.hid hi1c
    clear hi1 hi1a hi1b hi1c
    obtain ⟨M, hM⟩ : ∃ M, M = ts0.length * 11 := ⟨_, rfl⟩
    have HM1 := Lib.hid hM
    rw [← hM]
    clear hM
    have hmix : Tryz.prog.follows .mixedOrders = true := by kernel_rfl
    refine region_till [12] (fun w' => w'.cell? ⟨gT, M + 9, none⟩ = some (t.wv) ∧ w'.cell? ⟨gn, 0, none⟩ = some (.int .i64 n0)) 13 [false, false, false, false, false, false, false, false, false, false, false, false, false] hmix rfl rfl ?_
    clear hmix
    have HRd := Lib.hid (HR3.out.below (Below.refl w3.heap.size w3).drew)
    have HNd := Lib.hid (row_below HROW3.out (Below.refl w3.heap.size w3).drew)
    have HBWd := Lib.hid HBW3.out.drew
    generalize w3.drew = wd at HRd HNd HBWd ⊢
    clear HR3 HROW3 HBW3
    have HT := Lib.hid (show (fun w' => w'.cell? ⟨gT, M + 9, none⟩ = some (t.wv) ∧ w'.cell? ⟨gn, 0, none⟩ = some (.int .i64 n0)) wd from ⟨(by have := HRd.out.lastCell rfl 9 (by decide); rw [← HM1.out] at this; exact this), (World.ownsRow.cellAt HNd.out 0 (by decide))⟩)
    refine till_pure (i := 0) (v := .pointer (some ⟨gT, M, none⟩)) rfl rfl (by kernel_rfl) (fun _ _ _ h => h) (yields_of rfl (fun w' _ => by simp [go_sem])) (fun _ => HT.out) ?_
    try simp only [List.setIfInBounds_toArray, List.set_cons_succ, List.set_cons_zero]
    refine till_pure (i := 1) (v := .pointer (some ⟨gT, M, none⟩)) rfl rfl (by kernel_rfl) (fun _ _ _ h => h) (yields_of rfl (fun w' _ => by simp [go_sem])) (fun _ => HT.out) ?_
    try simp only [List.setIfInBounds_toArray, List.set_cons_succ, List.set_cons_zero]
    refine till_pure (i := 2) (v := .pointer (some ⟨gT, M, none⟩)) rfl rfl (by kernel_rfl) (fun _ _ _ h => h) (yields_of rfl (fun w' _ => by simp [go_sem])) (fun _ => HT.out) ?_
    try simp only [List.setIfInBounds_toArray, List.set_cons_succ, List.set_cons_zero]
    refine till_pure (i := 3) (v := .pointer (some ⟨gT, M + 9, none⟩)) rfl rfl (by kernel_rfl) (fun _ _ _ h => h) (yields_of rfl (fun w' _ => by simp [go_sem])) (fun _ => HT.out) ?_
    try simp only [List.setIfInBounds_toArray, List.set_cons_succ, List.set_cons_zero]
    refine till_load (i := 4) (v := t.wv) rfl rfl (by kernel_rfl) (fun _ _ _ h => h) (yields_of rfl (fun w' hw' => by have hcx : w'.cell? ⟨gT, M + 9, none⟩ = some (t.wv) := hw'.1; simp [go_sem, hcx])) (fun _ => HT.out) ?_
    try simp only [List.setIfInBounds_toArray, List.set_cons_succ, List.set_cons_zero]
    refine till_pure (i := 5) (v := .slice (some ⟨gn, 0, none⟩) 1 capn) rfl rfl (by kernel_rfl) (fun _ _ _ h => h) (yields_of rfl (fun w' _ => by simp [go_sem])) (fun _ => HT.out) ?_
    try simp only [List.setIfInBounds_toArray, List.set_cons_succ, List.set_cons_zero]
    refine till_pure (i := 6) (v := .pointer (some ⟨gn, 0, none⟩)) rfl rfl (by kernel_rfl) (fun _ _ _ h => h) (yields_of rfl (fun w' _ => by simp [go_sem, Tryz.underlying43])) (fun _ => HT.out) ?_
    try simp only [List.setIfInBounds_toArray, List.set_cons_succ, List.set_cons_zero]
    refine till_load (i := 7) (v := .int .i64 n0) rfl rfl (by kernel_rfl) (fun _ _ _ h => h) (yields_of rfl (fun w' hw' => by have hcx : w'.cell? ⟨gn, 0, none⟩ = some (.int .i64 n0) := hw'.2; simp [go_sem, hcx])) (fun _ => HT.out) ?_
    try simp only [List.setIfInBounds_toArray, List.set_cons_succ, List.set_cons_zero]
    refine till_only (j := 8) (by kernel_rfl) rfl ?_
    go_wp2_with fail
    have HRa := Lib.hid (HRd.out.below ((Below.refl _ wd).alloc (Nat.le_refl _) (.cells #[.int .i64 n0] 3)))
    have HNa := Lib.hid (row_below HNd.out ((Below.refl _ wd).alloc (Nat.le_refl _) (.cells #[.int .i64 n0] 3)))
    have HT := Lib.hid (show (fun w' => w'.cell? ⟨gT, M + 9, none⟩ = some (t.wv) ∧ w'.cell? ⟨gn, 0, none⟩ = some (.int .i64 n0)) (wd.alloc (.cells #[.int .i64 n0] 3)) from ⟨(by have := HRa.out.lastCell rfl 9 (by decide); rw [← HM1.out] at this; exact this), (World.ownsRow.cellAt HNa.out 0 (by decide))⟩)
    refine ⟨(fun _ => HT.out), ?_⟩
    try simp only [List.setIfInBounds_toArray, List.set_cons_succ, List.set_cons_zero]
    refine till_only (j := 9) (by kernel_rfl) rfl ?_
    refine wpList_append_lies _ rfl (.tmp 18) (.tmp 22) 43 rfl w0.heap.size 3 i1_ (.int .i64 0) 1 8 Tryz.underlying43 HI1.out HI1a.out HI1b.out HI1c.out rfl (by decide) (t.wv) (t.wounds.length) (flat intCells t.wounds) rfl (HRa.out.lastRows2.row (woundsOf t.wv t.wounds) (by simp)) ⟨wd.heap.size, 0, none⟩ 1 1 [.int .i64 n0] rfl rfl (World.news_of_block (heap_alloc_new wd _)) (by simp [Value.oneCell']) (by decide) (by have := HLT.out; unfold maxLen; omega) (by have := HLT.out; omega) HRa.out.low.size (wd.heap.size + 1) (World.size_alloc _ _) ?_
    intro g cap w7 hown7 hg7 hat7 hlt7
    have HG7 := Lib.hid hg7; have HO7 := Lib.hid hown7; have HAT7 := Lib.hid (show t.wv.ownBlock = some g ∨ g = (wd.alloc (.cells #[.int .i64 n0] 3)).heap.size from by rw [World.size_alloc]; exact hat7)
    have hT7 : w7.cell? ⟨gT, M + 9, none⟩ = some (t.wv) := by
      have h1 := HRa.out.trees
      obtain ⟨_, _, _, e1, _, _, hbT, _, _⟩ := HRa.out.sliced
      cases e1
      have h2 := HG7.out.block gT hbT.lt (fun e => by
        have h3 := row_apart (HRa.out.lastRows2.row (woundsOf t.wv t.wounds) (by simp)) h1 (show 3 ≠ 45 from by decide)
        rcases h3 with h3 | h3
        · rw [show (woundsOf t.wv t.wounds).v = t.wv from rfl] at h3; rw [h3] at e; cases e
        · exact h3 e.symm)
      refine (World.cell?_of_block h2).trans ?_
      have := HRa.out.lastCell rfl 9 (by decide)
      rw [← HM1.out] at this
      exact this
    have hf7 : w7.frozen? ⟨gT, M + 9, none⟩ = false := by
      have h1 := HRa.out.trees
      obtain ⟨_, _, _, e1, _, _, hbT, _, _⟩ := HRa.out.sliced
      cases e1
      have h2 := HG7.out.block gT hbT.lt (fun e => by
        have h3 := row_apart (HRa.out.lastRows2.row (woundsOf t.wv t.wounds) (by simp)) h1 (show 3 ≠ 45 from by decide)
        rcases h3 with h3 | h3
        · rw [show (woundsOf t.wv t.wounds).v = t.wv from rfl] at h3; rw [h3] at e; cases e
        · exact h3 e.symm)
      exact (World.frozen?_of_block h2).trans (hbT.frozen _)
    have HN7 := Lib.hid (show w7.ownsRow (w.alloc (.cells #[.string ⟨#[116, 114, 101, 101]⟩, .string ⟨#[115, 116, 114, 105, 112]⟩, .string ⟨#[119, 111, 117, 110, 100]⟩] 9)).heap.size 3 1 (.slice (some ⟨gn, 0, none⟩) 1 capn) 1 ([n0].map (Value.int .i64)) from row_same HNa.out (fun g' hg' => by
      have e1 : gn = g' := by injection hg'
      subst e1
      refine HG7.out.block gn (row_lt HNa.out rfl) (fun e => ?_)
      have h4 := HOLD.out (woundsOf t.wv t.wounds) (by rw [last_mrows]; simp) gn e.symm
      have h5 := (HNa.out.lt gn rfl).1
      omega))
    obtain ⟨curS, hT8⟩ : ∃ cur, Bkt w7 gT 45 cur := by
      obtain ⟨_, _, _, e1, _, _, hbT, _, _⟩ := HRa.out.sliced
      cases e1
      refine ⟨_, (HG7.out.block gT hbT.lt (fun e => ?_)).trans hbT⟩
      obtain ⟨cs', hb'⟩ := row_type (HRa.out.lastRows2.row (woundsOf t.wv t.wounds) (by simp)) e.symm
      exact absurd (blk_type hbT hb') (show 45 ≠ 3 from by decide)
    have HT7 := Lib.hid hT8
    clear hT8
    have HS7 := Lib.hid (((Calm.of_below HBWd.out).trans (Calm.of_below ((Below.refl _ wd).alloc (Nat.le_refl _) (.cells #[.int .i64 n0] 3)))).grown (HRa.out.lastRows2.row (woundsOf t.wv t.wounds) (by simp)) HG7.out (show 3 = 105 ∨ 3 = 45 ∨ 3 = 69 ∨ 3 = 3 from by decide))
    clear hown7 hg7 hat7 hlt7
    change Till _ _ _ _ ∧ wpAnyT _ _ _ _ _ _ _ _ _ _
    try simp only [Act.put, List.setIfInBounds_toArray, List.set_cons_succ, List.set_cons_zero]
    have HT := Lib.hid (show (fun w' => w'.cell? ⟨gT, M + 9, none⟩ = some (t.wv) ∧ w'.cell? ⟨gn, 0, none⟩ = some (.int .i64 n0)) w7 from ⟨hT7, (World.ownsRow.cellAt HN7.out 0 (by decide))⟩)
    refine ⟨(fun _ => HT.out), ?_⟩
    try simp only [List.setIfInBounds_toArray, List.set_cons_succ, List.set_cons_zero]
    refine till_pure (i := 10) (v := .pointer (some ⟨gT, M, none⟩)) rfl rfl (by kernel_rfl) (fun _ _ _ h => h) (yields_of rfl (fun w' _ => by simp [go_sem])) (fun _ => HT.out) ?_
    try simp only [List.setIfInBounds_toArray, List.set_cons_succ, List.set_cons_zero]
    refine till_pure (i := 11) (v := .pointer (some ⟨gT, M + 9, none⟩)) rfl rfl (by kernel_rfl) (fun _ _ _ h => h) (yields_of rfl (fun w' _ => by simp [go_sem])) (fun _ => HT.out) ?_
    try simp only [List.setIfInBounds_toArray, List.set_cons_succ, List.set_cons_zero]
    refine till_only (j := 12) (by kernel_rfl) rfl ?_
    go_wp2_with fail
    clear hT7 hf7
    have HF := Lib.hid (show Reading w0 (w7.setCell ⟨gT, M + 9, none⟩ (.slice (some ⟨g, 0, none⟩) (t.wounds.length + 1) cap)) B law (.slice (some ⟨gT, 0, none⟩) (ts0.length + 1) cT) (ts0 ++ [{ t with wv := .slice (some ⟨g, 0, none⟩) (t.wounds.length + 1) cap, wounds := t.wounds ++ [n0] }]) ln last from by
      have := HRa.out.addWound rfl rfl n0 HG7.out HO7.out HAT7.out
      rw [← HM1.out] at this
      exact this)
    have HS8 := Lib.hid (HS7.out.setCell HT7.out (by decide) (M + 9) (.slice (some ⟨g, 0, none⟩) (t.wounds.length + 1) cap))
    generalize w7.setCell ⟨gT, M + 9, none⟩ (.slice (some ⟨g, 0, none⟩) (t.wounds.length + 1) cap) = w8 at HF HS8 ⊢
    refine ⟨(fun h => by simp at h), ?_⟩
    try simp only [List.setIfInBounds_toArray, List.set_cons_succ, List.set_cons_zero]
    refine till_done (by kernel_rfl) ?_
    try simp only [Act.put]
    go_wp2
    go_end0
    exact .inl ⟨ts0, t, n0, g, cap, rfl, HM.out, HNS.out, rfl, HF.out, HS8.out⟩
  · refine ⟨rfl, Or.inr ⟨?_, rfl, HB0.out.trans (hb2.mono HB0.out.size)⟩⟩
    rintro ⟨_, ms, h1, h2⟩
    exact hbad ms h1 h2
  · refine ⟨rfl, Or.inr ⟨?_, rfl, HB0.out⟩⟩
    rintro ⟨h1, _⟩
    exact hm h1
end Go.Proofs.YtnoofdjlocadbaaGreatDoor
namespace Go.Proofs.YtnoofdjlocadbaaGreatDoor
open Go Go.RowKit Go.Lib Go.Deep

theorem readTree_info : (Tryz.prog.info? 45).map (fun i => (i.zero, i.size, i.bytes)) = some (some (.agg #[.string ⟨#[]⟩, .int .i64 0, .int .i64 0, .int .i64 0, .int .i64 0, .int .i64 0, .int .i64 0, .int .i64 0, .slice none 0 0, .slice none 0 0, .int .i64 0]), 11, 128) := by kernel_rfl
theorem readTree_parts : ∃ i, Tryz.prog.info? 45 = some i ∧ i.zero = some (.agg #[.string ⟨#[]⟩, .int .i64 0, .int .i64 0, .int .i64 0, .int .i64 0, .int .i64 0, .int .i64 0, .int .i64 0, .slice none 0 0, .slice none 0 0, .int .i64 0]) ∧ i.size = 11 ∧ i.bytes = 128 := by
  have h := readTree_info
  cases hi : Tryz.prog.info? 45 with
  | none => rw [hi] at h; cases h
  | some i => rw [hi] at h; simp at h; exact ⟨i, rfl, by simpa using h.1, h.2.1, h.2.2⟩

set_option maxHeartbeats 400000 in
theorem clone_calls (s : ByteArray) (w : World) (hlim : s.size ≤ 281474976710656) : Calls Tryz.prog 85 #[.string s] w fun e w' => e = .returned (.string s) ∧ Below w.heap.size w w' := by
  have HC := Lib.hid (Tryz.stringslite_Clone s w hlim)
  clear hlim
  go_enter Tryz.func85, Tryz.ntmps85
  go_wp2_with (go_at_call 109; refine HC.out.mono ?_; rintro e w' ⟨rfl, hb⟩; have HB := Lib.hid hb; clear hb)
  go_ret
  exact ⟨rfl, HB.out⟩

/-- How such a line is read. -/
def TreeRead (w0 w : World) (B : Nat) (law : Law) (ts : List Tree) (ln : Int) (last : List UInt8) (fs : List (List UInt8)) (e : Ending) (w' : World) : Prop :=
  (∃ code r n0 n1 n2 n3 n4 n5 n6 n7 g cap, last ∈ [wLaw, wTree, wStrip, wWound] ∧ fs = code :: r ∧ numbersL r = some [n0, n1, n2, n3, n4, n5, n6, n7] ∧ e = .returned (.tuple #[]) ∧ Reading w0 w' B law (.slice (some ⟨g, 0, none⟩) (ts.length + 1) cap) (ts ++ [⟨str code, n0, n1, n2, n3, n4, n5, n6, .slice none 0 0, .slice none 0 0, n7, [], []⟩]) ln last ∧ Calm w w') ∨
  (¬ (last ∈ [wLaw, wTree, wStrip, wWound] ∧ ∃ code r ns, fs = code :: r ∧ numbersL r = some ns ∧ ns.length = 8) ∧ e = .panicked (lineChain ln) ∧ Below w.heap.size w w')

set_option linter.unusedSimpArgs false in
set_option maxRecDepth 100000 in
set_option maxHeartbeats 4000000 in
theorem readTree_calls (w0 : World) (B : Nat) (law : Law) (tv : Value) (ts : List Tree) (ln : Int) (last : List UInt8) (fs : List (List UInt8)) (p off c : Nat) (hfl : ∀ f ∈ fs, f.length < 1000000000) (hn : fs.length < 1000000000) (hcap : fs.length ≤ c) (w : World) (hL : Libs w)
    (h : Reading w0 w B law tv ts ln last) (hts : ts.length < 1000000000)
    (hc : ∀ j f, fs[j]? = some f → w.cell? ⟨p, off + j, none⟩ = some (.string (str f))) (hp : ∃ cs, Bkt w p 9 cs) :
    Calls Tryz.prog 49 #[.pointer (some ⟨B, 0, none⟩), .slice (some ⟨p, off, none⟩) fs.length c] w (TreeRead w0 w B law ts ln last fs) := by
  obtain ⟨csp, hp⟩ := hp
  have HPB := Lib.hid hp
  clear hp
  have k8 := h.line
  have k9 := h.word
  have hbl := block_lt_of_cell k8
  have hb0 : Below w.heap.size w (w.alloc (.cells #[.string ⟨#[108, 97, 119]⟩, .string ⟨#[116, 114, 101, 101]⟩, .string ⟨#[115, 116, 114, 105, 112]⟩, .string ⟨#[119, 111, 117, 110, 100]⟩] 9)) := (Below.refl _ w).alloc (Nat.le_refl _) _
  have HA := Lib.hid (needAfter_calls B ln last [wLaw, wTree, wStrip, wWound] w.heap.size 0 4 (by decide) (w.alloc (.cells #[.string ⟨#[108, 97, 119]⟩, .string ⟨#[116, 114, 101, 101]⟩, .string ⟨#[115, 116, 114, 105, 112]⟩, .string ⟨#[119, 111, 117, 110, 100]⟩] 9)) ((hb0.cell hbl).trans k8) ((hb0.cell (p := ⟨B, 9, none⟩) hbl).trans k9) (by
    intro j f hj
    have hB := Bkt.new w 9 #[.string ⟨#[108, 97, 119]⟩, .string ⟨#[116, 114, 101, 101]⟩, .string ⟨#[115, 116, 114, 105, 112]⟩, .string ⟨#[119, 111, 117, 110, 100]⟩]
    rw [Nat.zero_add, hB.cell]
    match j, hj with
    | 0, hj => cases hj; rfl
    | 1, hj => cases hj; rfl
    | 2, hj => cases hj; rfl
    | 3, hj => cases hj; rfl
    | _ + 4, hj => simp at hj))
  have HR := Lib.hid h
  have HB0 := Lib.hid hb0
  have HTS := Lib.hid hts
  have HK8 := Lib.hid ((hb0.cell hbl).trans k8)
  cases fs with
  | nil =>
    clear hc hL hfl h hb0 hts k8 k9 hbl HR HTS hn hcap
    go_enter Tryz.func49, Tryz.ntmps49
    go_wp2_with (first
      | (go_at_call 83; refine HA.out.mono ?_; rintro e w' ⟨rfl, ⟨hm, rfl⟩ | ⟨hm, rfl⟩⟩)
      | (go_at_call 53; refine (need_false B ln _ HK8.out).mono ?_; rintro e w' ⟨rfl, rfl⟩))
    all_goals refine ⟨rfl, Or.inr ⟨?_, rfl, HB0.out⟩⟩
    all_goals (rintro ⟨_, _, _, _, h1, _⟩; cases h1)
  | cons code r =>
    have hcr : ∀ j f, r[j]? = some f → (w.alloc (.cells #[.string ⟨#[108, 97, 119]⟩, .string ⟨#[116, 114, 101, 101]⟩, .string ⟨#[115, 116, 114, 105, 112]⟩, .string ⟨#[119, 111, 117, 110, 100]⟩] 9)).cell? ⟨p, off + 1 + j, none⟩ = some (.string (str f)) := fun j f hj => by
      have := hc (j + 1) f (by simpa using hj)
      rw [show off + (j + 1) = off + 1 + j from by omega] at this
      exact (hb0.cell (block_lt_of_cell this)).trans this
    have HCODE := Lib.hid ((hb0.cell (block_lt_of_cell (hc 0 code rfl))).trans (hc 0 code rfl))
    have HCL := Lib.hid (hfl code (by simp))
    rw [List.length_cons] at hn hcap
    have HN := Lib.hid (fun (o : Nat) (ho : r ≠ [] → o = off + 1) => readNumbers_calls B ln r p o (c - 1) 8 (fun f hf => hfl f (by simp [hf])) (by omega) (w.alloc (.cells #[.string ⟨#[108, 97, 119]⟩, .string ⟨#[116, 114, 101, 101]⟩, .string ⟨#[115, 116, 114, 105, 112]⟩, .string ⟨#[119, 111, 117, 110, 100]⟩] 9)) (hL.below hb0) ((hb0.cell hbl).trans k8) (fun j f hj => by rw [ho (fun e => by rw [e] at hj; simp at hj)]; exact hcr j f hj))
    have HRN := Lib.hid (show r = [] ∨ r ≠ [] from Classical.em _)
    rw [List.length_cons]
    obtain ⟨o2, ho2, hval⟩ : ∃ o2, (r ≠ [] → o2 = off + 1) ∧ (if c = 1 then some (⟨p, off, none⟩ : Addr) else some ⟨p, off + 1, none⟩) = some ⟨p, o2, none⟩ := by
      by_cases h1 : c = 1
      · exact ⟨off, fun h2 => absurd (List.length_eq_zero_iff.1 (by omega)) h2, by rw [if_pos h1]⟩
      · exact ⟨off + 1, fun _ => rfl, by rw [if_neg h1]⟩
    have HO2 := Lib.hid ho2; have HAD := Lib.hid hval
    generalize hmr : r.length = m at hn hcap HN ⊢
    have HMR := Lib.hid hmr
    clear hc hL hfl h hb0 hts k8 k9 hbl hcr hmr ho2 hval
    go_enter Tryz.func49, Tryz.ntmps49
    go_upto_region 2 with (first
      | (go_at_call 83; refine HA.out.mono ?_; rintro e w' ⟨rfl, ⟨hm, rfl⟩ | ⟨hm, rfl⟩⟩)
      | (go_at_call 53; refine (need_true _ _).mono ?_; rintro e w' ⟨rfl, rfl⟩))
    · go_upto_region 3 with (go_at_call 84; rw [HAD.out]; refine (HN.out o2 HO2.out).mono ?_; rintro e w2 ⟨hb2, h⟩; rcases h with ⟨ns, v, hns, hlen, hrow, rfl⟩ | ⟨hbad, rfl⟩)
      · have hv : ∃ g cap, v = .slice (some ⟨g, 0, none⟩) 8 cap := by
          rcases hrow.2 with ⟨_, h1⟩ | ⟨g, cap, cur, h1, _⟩
          · omega
          · exact ⟨g, cap, h1⟩
        obtain ⟨gn, capn, rfl⟩ := hv
        obtain ⟨n0, n1, n2, n3, n4, n5, n6, n7, rfl⟩ : ∃ n0 n1 n2 n3 n4 n5 n6 n7, ns = [n0, n1, n2, n3, n4, n5, n6, n7] := by
          match ns, hlen with
          | [n0, n1, n2, n3, n4, n5, n6, n7], _ => exact ⟨n0, n1, n2, n3, n4, n5, n6, n7, rfl⟩
        have HR3 := Lib.hid (HR.out.below (HB0.out.trans (hb2.mono HB0.out.size)))
        have HBW2 := Lib.hid (HB0.out.trans (hb2.mono HB0.out.size))
        have HROW3 := Lib.hid hrow
        have HNS := Lib.hid hns
        have HM := Lib.hid hm
        have HP3 := Lib.hid (HPB.out.below (HB0.out.trans (hb2.mono HB0.out.size)))
        have HCD3 := Lib.hid (show w2.cell? ⟨p, off, none⟩ = some (.string (str code)) from (hb2.cell (block_lt_of_cell HCODE.out)).trans HCODE.out)
        have HOLD := Lib.hid (show ∀ r ∈ (readerOf B law tv ln last :: treesOf tv ts :: ts.flatMap Tree.mrows), ∀ g, r.v.ownBlock = some g → g < (w.alloc (.cells #[.string ⟨#[108, 97, 119]⟩, .string ⟨#[116, 114, 101, 101]⟩, .string ⟨#[115, 116, 114, 105, 112]⟩, .string ⟨#[119, 111, 117, 110, 100]⟩] 9)).heap.size from fun r hr g hg => Nat.lt_of_lt_of_le (HR.out.lt hr hg) HB0.out.size)
        have HPO := Lib.hid (show ∀ g, tv.ownBlock = some g → g ≠ p ∨ True from fun _ _ => .inr trivial)
        clear hrow hns hm hlen hb2 HA HN HR HB0 HCODE HK8 HPO
        obtain ⟨i1_, hi1, hi1a, hi1b, hi1c⟩ := readTree_parts
        have HI1 := Lib.hid hi1; have HI1a := Lib.hid hi1a; have HI1b := Lib.hid hi1b; have HI1c := Lib.hid hi1c
        clear hi1 hi1a hi1b hi1c
        have hm1 : (0 : Int) < ((m + 1 : Nat) : Int) := by omega
        have hmix : Tryz.prog.follows .mixedOrders = true := by kernel_rfl
        refine region_till [43] (fun w' => w'.cell? ⟨B, 7, none⟩ = some (tv) ∧ w'.cell? ⟨p, off, none⟩ = some (.string (str code)) ∧ w'.cell? ⟨gn, 0, none⟩ = some (.int .i64 n0) ∧ w'.cell? ⟨gn, 1, none⟩ = some (.int .i64 n1) ∧ w'.cell? ⟨gn, 2, none⟩ = some (.int .i64 n2) ∧ w'.cell? ⟨gn, 3, none⟩ = some (.int .i64 n3) ∧ w'.cell? ⟨gn, 4, none⟩ = some (.int .i64 n4) ∧ w'.cell? ⟨gn, 5, none⟩ = some (.int .i64 n5) ∧ w'.cell? ⟨gn, 6, none⟩ = some (.int .i64 n6) ∧ w'.cell? ⟨gn, 7, none⟩ = some (.int .i64 n7)) 44 [false, false, false, false, false, false, false, false, false, false, false, false, false, false, false, false, false, false, false, false, false, false, false, false, false, false, false, false, false, false, false, false, false, false, false, false, false, false, false, false, false, false, false, false] hmix rfl rfl ?_
        clear hmix
        have HRd := Lib.hid (HR3.out.below (Below.refl w2.heap.size w2).drew)
        have HNd := Lib.hid (row_below HROW3.out (Below.refl w2.heap.size w2).drew)
        have HCd := Lib.hid (show w2.drew.cell? ⟨p, off, none⟩ = some (.string (str code)) from HCD3.out)
        have HPd := Lib.hid HP3.out.drew
        have HBWd := Lib.hid HBW2.out.drew
        generalize w2.drew = wd at HRd HNd HCd HPd HBWd ⊢
        clear HR3 HROW3 HCD3 HP3 HBW2
        have HT := Lib.hid (show (fun w' => w'.cell? ⟨B, 7, none⟩ = some (tv) ∧ w'.cell? ⟨p, off, none⟩ = some (.string (str code)) ∧ w'.cell? ⟨gn, 0, none⟩ = some (.int .i64 n0) ∧ w'.cell? ⟨gn, 1, none⟩ = some (.int .i64 n1) ∧ w'.cell? ⟨gn, 2, none⟩ = some (.int .i64 n2) ∧ w'.cell? ⟨gn, 3, none⟩ = some (.int .i64 n3) ∧ w'.cell? ⟨gn, 4, none⟩ = some (.int .i64 n4) ∧ w'.cell? ⟨gn, 5, none⟩ = some (.int .i64 n5) ∧ w'.cell? ⟨gn, 6, none⟩ = some (.int .i64 n6) ∧ w'.cell? ⟨gn, 7, none⟩ = some (.int .i64 n7)) wd from ⟨HRd.out.slice, HCd.out, (World.ownsRow.cellAt HNd.out 0 (by decide)), (World.ownsRow.cellAt HNd.out 1 (by decide)), (World.ownsRow.cellAt HNd.out 2 (by decide)), (World.ownsRow.cellAt HNd.out 3 (by decide)), (World.ownsRow.cellAt HNd.out 4 (by decide)), (World.ownsRow.cellAt HNd.out 5 (by decide)), (World.ownsRow.cellAt HNd.out 6 (by decide)), (World.ownsRow.cellAt HNd.out 7 (by decide))⟩)
        refine till_pure (i := 0) (v := .pointer (some ⟨B, 0, none⟩)) rfl rfl (by kernel_rfl) (fun _ _ _ h => h) (yields_of rfl (fun w' _ => by simp [go_sem])) (fun _ => HT.out) ?_
        try simp only [List.setIfInBounds_toArray, List.set_cons_succ, List.set_cons_zero]
        refine till_pure (i := 1) (v := .pointer (some ⟨B, 0, none⟩)) rfl rfl (by kernel_rfl) (fun _ _ _ h => h) (yields_of rfl (fun w' _ => by simp [go_sem])) (fun _ => HT.out) ?_
        try simp only [List.setIfInBounds_toArray, List.set_cons_succ, List.set_cons_zero]
        refine till_pure (i := 2) (v := .pointer (some ⟨B, 0, none⟩)) rfl rfl (by kernel_rfl) (fun _ _ _ h => h) (yields_of rfl (fun w' _ => by simp [go_sem])) (fun _ => HT.out) ?_
        try simp only [List.setIfInBounds_toArray, List.set_cons_succ, List.set_cons_zero]
        refine till_pure (i := 3) (v := .pointer (some ⟨B, 0, none⟩)) rfl rfl (by kernel_rfl) (fun _ _ _ h => h) (yields_of rfl (fun w' _ => by simp [go_sem])) (fun _ => HT.out) ?_
        try simp only [List.setIfInBounds_toArray, List.set_cons_succ, List.set_cons_zero]
        refine till_pure (i := 4) (v := .pointer (some ⟨B, 7, none⟩)) rfl rfl (by kernel_rfl) (fun _ _ _ h => h) (yields_of rfl (fun w' _ => by simp [go_sem])) (fun _ => HT.out) ?_
        try simp only [List.setIfInBounds_toArray, List.set_cons_succ, List.set_cons_zero]
        refine till_load (i := 5) (v := tv) rfl rfl (by kernel_rfl) (fun _ _ _ h => h) (yields_of rfl (fun w' hw' => by have hcx : w'.cell? ⟨B, 7, none⟩ = some (tv) := hw'.1; simp [go_sem, hcx])) (fun _ => HT.out) ?_
        try simp only [List.setIfInBounds_toArray, List.set_cons_succ, List.set_cons_zero]
        refine till_pure (i := 6) (v := .slice (some ⟨p, off, none⟩) (m + 1) c) rfl rfl (by kernel_rfl) (fun _ _ _ h => h) (yields_of rfl (fun w' _ => by simp [go_sem])) (fun _ => HT.out) ?_
        try simp only [List.setIfInBounds_toArray, List.set_cons_succ, List.set_cons_zero]
        refine till_pure (i := 7) (v := .pointer (some ⟨p, off, none⟩)) rfl rfl (by kernel_rfl) (fun _ _ _ h => h) (yields_of rfl (fun w' _ => by simp [go_sem, Tryz.underlying38, hm1])) (fun _ => HT.out) ?_
        try simp only [List.setIfInBounds_toArray, List.set_cons_succ, List.set_cons_zero]
        refine till_load (i := 8) (v := .string (str code)) rfl rfl (by kernel_rfl) (fun _ _ _ h => h) (yields_of rfl (fun w' hw' => by have hcx : w'.cell? ⟨p, off, none⟩ = some (.string (str code)) := hw'.2.1; simp [go_sem, hcx])) (fun _ => HT.out) ?_
        try simp only [List.setIfInBounds_toArray, List.set_cons_succ, List.set_cons_zero]
        refine till_pure (i := 10) (v := .slice (some ⟨gn, 0, none⟩) 8 capn) rfl rfl (by kernel_rfl) (fun _ _ _ h => h) (yields_of rfl (fun w' _ => by simp [go_sem])) (fun _ => HT.out) ?_
        try simp only [List.setIfInBounds_toArray, List.set_cons_succ, List.set_cons_zero]
        refine till_pure (i := 11) (v := .pointer (some ⟨gn, 0, none⟩)) rfl rfl (by kernel_rfl) (fun _ _ _ h => h) (yields_of rfl (fun w' _ => by simp [go_sem, Tryz.underlying43, hm1])) (fun _ => HT.out) ?_
        try simp only [List.setIfInBounds_toArray, List.set_cons_succ, List.set_cons_zero]
        refine till_load (i := 12) (v := .int .i64 n0) rfl rfl (by kernel_rfl) (fun _ _ _ h => h) (yields_of rfl (fun w' hw' => by have hcx : w'.cell? ⟨gn, 0, none⟩ = some (.int .i64 n0) := hw'.2.2.1; simp [go_sem, hcx])) (fun _ => HT.out) ?_
        try simp only [List.setIfInBounds_toArray, List.set_cons_succ, List.set_cons_zero]
        refine till_pure (i := 13) (v := .slice (some ⟨gn, 0, none⟩) 8 capn) rfl rfl (by kernel_rfl) (fun _ _ _ h => h) (yields_of rfl (fun w' _ => by simp [go_sem])) (fun _ => HT.out) ?_
        try simp only [List.setIfInBounds_toArray, List.set_cons_succ, List.set_cons_zero]
        refine till_pure (i := 14) (v := .pointer (some ⟨gn, 1, none⟩)) rfl rfl (by kernel_rfl) (fun _ _ _ h => h) (yields_of rfl (fun w' _ => by simp [go_sem, Tryz.underlying43, hm1])) (fun _ => HT.out) ?_
        try simp only [List.setIfInBounds_toArray, List.set_cons_succ, List.set_cons_zero]
        refine till_load (i := 15) (v := .int .i64 n1) rfl rfl (by kernel_rfl) (fun _ _ _ h => h) (yields_of rfl (fun w' hw' => by have hcx : w'.cell? ⟨gn, 1, none⟩ = some (.int .i64 n1) := hw'.2.2.2.1; simp [go_sem, hcx])) (fun _ => HT.out) ?_
        try simp only [List.setIfInBounds_toArray, List.set_cons_succ, List.set_cons_zero]
        refine till_pure (i := 16) (v := .agg #[.int .i64 n0, .int .i64 n1]) rfl rfl (by kernel_rfl) (fun _ _ _ h => h) (yields_of rfl (fun w' _ => by simp [go_sem])) (fun _ => HT.out) ?_
        try simp only [List.setIfInBounds_toArray, List.set_cons_succ, List.set_cons_zero]
        refine till_pure (i := 17) (v := .slice (some ⟨gn, 0, none⟩) 8 capn) rfl rfl (by kernel_rfl) (fun _ _ _ h => h) (yields_of rfl (fun w' _ => by simp [go_sem])) (fun _ => HT.out) ?_
        try simp only [List.setIfInBounds_toArray, List.set_cons_succ, List.set_cons_zero]
        refine till_pure (i := 18) (v := .pointer (some ⟨gn, 2, none⟩)) rfl rfl (by kernel_rfl) (fun _ _ _ h => h) (yields_of rfl (fun w' _ => by simp [go_sem, Tryz.underlying43, hm1])) (fun _ => HT.out) ?_
        try simp only [List.setIfInBounds_toArray, List.set_cons_succ, List.set_cons_zero]
        refine till_load (i := 19) (v := .int .i64 n2) rfl rfl (by kernel_rfl) (fun _ _ _ h => h) (yields_of rfl (fun w' hw' => by have hcx : w'.cell? ⟨gn, 2, none⟩ = some (.int .i64 n2) := hw'.2.2.2.2.1; simp [go_sem, hcx])) (fun _ => HT.out) ?_
        try simp only [List.setIfInBounds_toArray, List.set_cons_succ, List.set_cons_zero]
        refine till_pure (i := 20) (v := .slice (some ⟨gn, 0, none⟩) 8 capn) rfl rfl (by kernel_rfl) (fun _ _ _ h => h) (yields_of rfl (fun w' _ => by simp [go_sem])) (fun _ => HT.out) ?_
        try simp only [List.setIfInBounds_toArray, List.set_cons_succ, List.set_cons_zero]
        refine till_pure (i := 21) (v := .pointer (some ⟨gn, 3, none⟩)) rfl rfl (by kernel_rfl) (fun _ _ _ h => h) (yields_of rfl (fun w' _ => by simp [go_sem, Tryz.underlying43, hm1])) (fun _ => HT.out) ?_
        try simp only [List.setIfInBounds_toArray, List.set_cons_succ, List.set_cons_zero]
        refine till_load (i := 22) (v := .int .i64 n3) rfl rfl (by kernel_rfl) (fun _ _ _ h => h) (yields_of rfl (fun w' hw' => by have hcx : w'.cell? ⟨gn, 3, none⟩ = some (.int .i64 n3) := hw'.2.2.2.2.2.1; simp [go_sem, hcx])) (fun _ => HT.out) ?_
        try simp only [List.setIfInBounds_toArray, List.set_cons_succ, List.set_cons_zero]
        refine till_pure (i := 23) (v := .slice (some ⟨gn, 0, none⟩) 8 capn) rfl rfl (by kernel_rfl) (fun _ _ _ h => h) (yields_of rfl (fun w' _ => by simp [go_sem])) (fun _ => HT.out) ?_
        try simp only [List.setIfInBounds_toArray, List.set_cons_succ, List.set_cons_zero]
        refine till_pure (i := 24) (v := .pointer (some ⟨gn, 4, none⟩)) rfl rfl (by kernel_rfl) (fun _ _ _ h => h) (yields_of rfl (fun w' _ => by simp [go_sem, Tryz.underlying43, hm1])) (fun _ => HT.out) ?_
        try simp only [List.setIfInBounds_toArray, List.set_cons_succ, List.set_cons_zero]
        refine till_load (i := 25) (v := .int .i64 n4) rfl rfl (by kernel_rfl) (fun _ _ _ h => h) (yields_of rfl (fun w' hw' => by have hcx : w'.cell? ⟨gn, 4, none⟩ = some (.int .i64 n4) := hw'.2.2.2.2.2.2.1; simp [go_sem, hcx])) (fun _ => HT.out) ?_
        try simp only [List.setIfInBounds_toArray, List.set_cons_succ, List.set_cons_zero]
        refine till_pure (i := 26) (v := .agg #[.int .i64 n3, .int .i64 n4]) rfl rfl (by kernel_rfl) (fun _ _ _ h => h) (yields_of rfl (fun w' _ => by simp [go_sem])) (fun _ => HT.out) ?_
        try simp only [List.setIfInBounds_toArray, List.set_cons_succ, List.set_cons_zero]
        refine till_pure (i := 27) (v := .slice (some ⟨gn, 0, none⟩) 8 capn) rfl rfl (by kernel_rfl) (fun _ _ _ h => h) (yields_of rfl (fun w' _ => by simp [go_sem])) (fun _ => HT.out) ?_
        try simp only [List.setIfInBounds_toArray, List.set_cons_succ, List.set_cons_zero]
        refine till_pure (i := 28) (v := .pointer (some ⟨gn, 5, none⟩)) rfl rfl (by kernel_rfl) (fun _ _ _ h => h) (yields_of rfl (fun w' _ => by simp [go_sem, Tryz.underlying43, hm1])) (fun _ => HT.out) ?_
        try simp only [List.setIfInBounds_toArray, List.set_cons_succ, List.set_cons_zero]
        refine till_load (i := 29) (v := .int .i64 n5) rfl rfl (by kernel_rfl) (fun _ _ _ h => h) (yields_of rfl (fun w' hw' => by have hcx : w'.cell? ⟨gn, 5, none⟩ = some (.int .i64 n5) := hw'.2.2.2.2.2.2.2.1; simp [go_sem, hcx])) (fun _ => HT.out) ?_
        try simp only [List.setIfInBounds_toArray, List.set_cons_succ, List.set_cons_zero]
        refine till_pure (i := 30) (v := .slice (some ⟨gn, 0, none⟩) 8 capn) rfl rfl (by kernel_rfl) (fun _ _ _ h => h) (yields_of rfl (fun w' _ => by simp [go_sem])) (fun _ => HT.out) ?_
        try simp only [List.setIfInBounds_toArray, List.set_cons_succ, List.set_cons_zero]
        refine till_pure (i := 31) (v := .pointer (some ⟨gn, 6, none⟩)) rfl rfl (by kernel_rfl) (fun _ _ _ h => h) (yields_of rfl (fun w' _ => by simp [go_sem, Tryz.underlying43, hm1])) (fun _ => HT.out) ?_
        try simp only [List.setIfInBounds_toArray, List.set_cons_succ, List.set_cons_zero]
        refine till_load (i := 32) (v := .int .i64 n6) rfl rfl (by kernel_rfl) (fun _ _ _ h => h) (yields_of rfl (fun w' hw' => by have hcx : w'.cell? ⟨gn, 6, none⟩ = some (.int .i64 n6) := hw'.2.2.2.2.2.2.2.2.1; simp [go_sem, hcx])) (fun _ => HT.out) ?_
        try simp only [List.setIfInBounds_toArray, List.set_cons_succ, List.set_cons_zero]
        refine till_pure (i := 33) (v := .agg #[.int .i64 n5, .int .i64 n6]) rfl rfl (by kernel_rfl) (fun _ _ _ h => h) (yields_of rfl (fun w' _ => by simp [go_sem])) (fun _ => HT.out) ?_
        try simp only [List.setIfInBounds_toArray, List.set_cons_succ, List.set_cons_zero]
        refine till_pure (i := 34) (v := .slice (some ⟨gn, 0, none⟩) 8 capn) rfl rfl (by kernel_rfl) (fun _ _ _ h => h) (yields_of rfl (fun w' _ => by simp [go_sem])) (fun _ => HT.out) ?_
        try simp only [List.setIfInBounds_toArray, List.set_cons_succ, List.set_cons_zero]
        refine till_pure (i := 35) (v := .pointer (some ⟨gn, 7, none⟩)) rfl rfl (by kernel_rfl) (fun _ _ _ h => h) (yields_of rfl (fun w' _ => by simp [go_sem, Tryz.underlying43, hm1])) (fun _ => HT.out) ?_
        try simp only [List.setIfInBounds_toArray, List.set_cons_succ, List.set_cons_zero]
        refine till_load (i := 36) (v := .int .i64 n7) rfl rfl (by kernel_rfl) (fun _ _ _ h => h) (yields_of rfl (fun w' hw' => by have hcx : w'.cell? ⟨gn, 7, none⟩ = some (.int .i64 n7) := hw'.2.2.2.2.2.2.2.2.2; simp [go_sem, hcx])) (fun _ => HT.out) ?_
        try simp only [List.setIfInBounds_toArray, List.set_cons_succ, List.set_cons_zero]
        refine till_only (j := 9) (by kernel_rfl) rfl ?_
        go_wp2_with (go_at_call 85; refine (clone_calls _ _ (by have := HCL.out; show code.toArray.size ≤ _; simp; omega)).mono ?_; rintro e w4 ⟨rfl, hb⟩; have HRe := Lib.hid (HRd.out.below hb); have HNe := Lib.hid (row_below HNd.out hb); have HCe := Lib.hid ((hb.cell (block_lt_of_cell HCd.out)).trans HCd.out); have HPe := Lib.hid (HPd.out.below hb); have HBWe := Lib.hid (HBWd.out.trans (hb.mono HBWd.out.size)); clear hb)
        have HT := Lib.hid (show (fun w' => w'.cell? ⟨B, 7, none⟩ = some (tv) ∧ w'.cell? ⟨p, off, none⟩ = some (.string (str code)) ∧ w'.cell? ⟨gn, 0, none⟩ = some (.int .i64 n0) ∧ w'.cell? ⟨gn, 1, none⟩ = some (.int .i64 n1) ∧ w'.cell? ⟨gn, 2, none⟩ = some (.int .i64 n2) ∧ w'.cell? ⟨gn, 3, none⟩ = some (.int .i64 n3) ∧ w'.cell? ⟨gn, 4, none⟩ = some (.int .i64 n4) ∧ w'.cell? ⟨gn, 5, none⟩ = some (.int .i64 n5) ∧ w'.cell? ⟨gn, 6, none⟩ = some (.int .i64 n6) ∧ w'.cell? ⟨gn, 7, none⟩ = some (.int .i64 n7)) w4 from ⟨HRe.out.slice, HCe.out, (World.ownsRow.cellAt HNe.out 0 (by decide)), (World.ownsRow.cellAt HNe.out 1 (by decide)), (World.ownsRow.cellAt HNe.out 2 (by decide)), (World.ownsRow.cellAt HNe.out 3 (by decide)), (World.ownsRow.cellAt HNe.out 4 (by decide)), (World.ownsRow.cellAt HNe.out 5 (by decide)), (World.ownsRow.cellAt HNe.out 6 (by decide)), (World.ownsRow.cellAt HNe.out 7 (by decide))⟩)
        refine ⟨(fun _ => HT.out), ?_⟩
        try simp only [List.setIfInBounds_toArray, List.set_cons_succ, List.set_cons_zero]
        refine till_pure (i := 37) (v := .agg #[.string (str code), .int .i64 n0, .int .i64 n1, .int .i64 n2, .int .i64 n3, .int .i64 n4, .int .i64 n5, .int .i64 n6, .slice none 0 0, .slice none 0 0, .int .i64 n7]) rfl rfl (by kernel_rfl) (fun _ _ _ h => h) (yields_of rfl (fun w' _ => by simp [go_sem])) (fun _ => HT.out) ?_
        try simp only [List.setIfInBounds_toArray, List.set_cons_succ, List.set_cons_zero]
        refine till_only (j := 38) (by kernel_rfl) rfl ?_
        go_wp2_with fail
        have HRa := Lib.hid (HRe.out.below ((Below.refl _ w4).alloc (Nat.le_refl _) (.cells #[.string (str code), .int .i64 n0, .int .i64 n1, .int .i64 n2, .int .i64 n3, .int .i64 n4, .int .i64 n5, .int .i64 n6, .slice none 0 0, .slice none 0 0, .int .i64 n7] 45)))
        have HNa := Lib.hid (row_below HNe.out ((Below.refl _ w4).alloc (Nat.le_refl _) (.cells #[.string (str code), .int .i64 n0, .int .i64 n1, .int .i64 n2, .int .i64 n3, .int .i64 n4, .int .i64 n5, .int .i64 n6, .slice none 0 0, .slice none 0 0, .int .i64 n7] 45)))
        have HCa := Lib.hid ((((Below.refl _ w4).alloc (Nat.le_refl _) (.cells #[.string (str code), .int .i64 n0, .int .i64 n1, .int .i64 n2, .int .i64 n3, .int .i64 n4, .int .i64 n5, .int .i64 n6, .slice none 0 0, .slice none 0 0, .int .i64 n7] 45)).cell (block_lt_of_cell HCe.out)).trans HCe.out)
        have HPa := Lib.hid (HPe.out.below ((Below.refl _ w4).alloc (Nat.le_refl _) (.cells #[.string (str code), .int .i64 n0, .int .i64 n1, .int .i64 n2, .int .i64 n3, .int .i64 n4, .int .i64 n5, .int .i64 n6, .slice none 0 0, .slice none 0 0, .int .i64 n7] 45)))
        have HT := Lib.hid (show (fun w' => w'.cell? ⟨B, 7, none⟩ = some (tv) ∧ w'.cell? ⟨p, off, none⟩ = some (.string (str code)) ∧ w'.cell? ⟨gn, 0, none⟩ = some (.int .i64 n0) ∧ w'.cell? ⟨gn, 1, none⟩ = some (.int .i64 n1) ∧ w'.cell? ⟨gn, 2, none⟩ = some (.int .i64 n2) ∧ w'.cell? ⟨gn, 3, none⟩ = some (.int .i64 n3) ∧ w'.cell? ⟨gn, 4, none⟩ = some (.int .i64 n4) ∧ w'.cell? ⟨gn, 5, none⟩ = some (.int .i64 n5) ∧ w'.cell? ⟨gn, 6, none⟩ = some (.int .i64 n6) ∧ w'.cell? ⟨gn, 7, none⟩ = some (.int .i64 n7)) (w4.alloc (.cells #[.string (str code), .int .i64 n0, .int .i64 n1, .int .i64 n2, .int .i64 n3, .int .i64 n4, .int .i64 n5, .int .i64 n6, .slice none 0 0, .slice none 0 0, .int .i64 n7] 45)) from ⟨HRa.out.slice, HCa.out, (World.ownsRow.cellAt HNa.out 0 (by decide)), (World.ownsRow.cellAt HNa.out 1 (by decide)), (World.ownsRow.cellAt HNa.out 2 (by decide)), (World.ownsRow.cellAt HNa.out 3 (by decide)), (World.ownsRow.cellAt HNa.out 4 (by decide)), (World.ownsRow.cellAt HNa.out 5 (by decide)), (World.ownsRow.cellAt HNa.out 6 (by decide)), (World.ownsRow.cellAt HNa.out 7 (by decide))⟩)
        refine ⟨(fun _ => HT.out), ?_⟩
        try simp only [List.setIfInBounds_toArray, List.set_cons_succ, List.set_cons_zero]
        refine till_only (j := 39) (by kernel_rfl) rfl ?_
        refine wpList_append_lies _ rfl (.tmp 22) (.tmp 55) 25 rfl w0.heap.size 45 i1_ (.agg #[.string ⟨#[]⟩, .int .i64 0, .int .i64 0, .int .i64 0, .int .i64 0, .int .i64 0, .int .i64 0, .int .i64 0, .slice none 0 0, .slice none 0 0, .int .i64 0]) 11 128 Tryz.underlying25 HI1.out HI1a.out HI1b.out HI1c.out rfl (by decide) tv ts.length (flat Tree.cells ts) rfl HRa.out.trees ⟨w4.heap.size, 0, none⟩ 1 1 [.string (str code), .int .i64 n0, .int .i64 n1, .int .i64 n2, .int .i64 n3, .int .i64 n4, .int .i64 n5, .int .i64 n6, .slice none 0 0, .slice none 0 0, .int .i64 n7] rfl rfl (World.news_of_block (heap_alloc_new w4 _)) (by simp [Value.oneCell']) (by decide) (by have := HTS.out; unfold maxLen; omega) (by have := HTS.out; omega) HRa.out.low.size (w4.heap.size + 1) (World.size_alloc _ _) ?_
        intro g cap w7 hown7 hg7 hat7 hlt7
        have HG7 := Lib.hid hg7; have HO7 := Lib.hid hown7; have HAT7 := Lib.hid (show tv.ownBlock = some g ∨ g = (w4.alloc (.cells #[.string (str code), .int .i64 n0, .int .i64 n1, .int .i64 n2, .int .i64 n3, .int .i64 n4, .int .i64 n5, .int .i64 n6, .slice none 0 0, .slice none 0 0, .int .i64 n7] 45)).heap.size from by rw [World.size_alloc]; exact hat7)
        have hty : ∀ (b : Nat) (t : TypeId) (cs : Array Value), t ≠ 45 → Bkt (w4.alloc (.cells #[.string (str code), .int .i64 n0, .int .i64 n1, .int .i64 n2, .int .i64 n3, .int .i64 n4, .int .i64 n5, .int .i64 n6, .slice none 0 0, .slice none 0 0, .int .i64 n7] 45)) b t cs → w7.heap[b]? = (w4.alloc (.cells #[.string (str code), .int .i64 n0, .int .i64 n1, .int .i64 n2, .int .i64 n3, .int .i64 n4, .int .i64 n5, .int .i64 n6, .slice none 0 0, .slice none 0 0, .int .i64 n7] 45)).heap[b]? := fun b t cs hne hb => HG7.out.block b hb.lt (fun e => by
          obtain ⟨cs', hb'⟩ := row_type HRa.out.trees e.symm
          exact hne (blk_type hb hb'))
        have HB7 : w7.cell? ⟨B, 7, none⟩ = some tv := (World.cell?_of_block (a := ⟨B, 7, none⟩) (hty B _ _ (by decide) HRa.out.blk)).trans HRa.out.slice
        have HF7 : w7.frozen? ⟨B, 7, none⟩ = false := (World.frozen?_of_block (a := ⟨B, 7, none⟩) (hty B _ _ (by decide) HRa.out.blk)).trans (HRa.out.blk.frozen 7)
        have HC7 := Lib.hid (show w7.cell? ⟨p, off, none⟩ = some (.string (str code)) from (World.cell?_of_block (a := ⟨p, off, none⟩) (hty p _ _ (by decide) HPa.out)).trans HCa.out)
        have HN7 := Lib.hid (show w7.ownsRow (w.alloc (.cells #[.string ⟨#[108, 97, 119]⟩, .string ⟨#[116, 114, 101, 101]⟩, .string ⟨#[115, 116, 114, 105, 112]⟩, .string ⟨#[119, 111, 117, 110, 100]⟩] 9)).heap.size 3 1 (.slice (some ⟨gn, 0, none⟩) 8 capn) 8 ([n0, n1, n2, n3, n4, n5, n6, n7].map (Value.int .i64)) from row_same HNa.out (fun g' hg' => by
          have e1 : gn = g' := by injection hg'
          subst e1
          refine HG7.out.block gn (row_lt HNa.out rfl) (fun e => ?_)
          have h4 := HOLD.out (treesOf tv ts) (by simp) gn e.symm
          have h5 := (HNa.out.lt gn rfl).1
          omega))
        have HBB7 := Lib.hid (show Bkt w7 B 105 _ from (hty B _ _ (by decide) HRa.out.blk).trans HRa.out.blk)
        have HS7 := Lib.hid (((Calm.of_below HBWe.out).trans (Calm.of_below ((Below.refl _ w4).alloc (Nat.le_refl _) (.cells #[.string (str code), .int .i64 n0, .int .i64 n1, .int .i64 n2, .int .i64 n3, .int .i64 n4, .int .i64 n5, .int .i64 n6, .slice none 0 0, .slice none 0 0, .int .i64 n7] 45)))).grown HRa.out.trees HG7.out (by decide))
        clear hown7 hg7 hat7 hlt7 hty
        change Till _ _ _ _ ∧ wpAnyT _ _ _ _ _ _ _ _ _ _
        try simp only [Act.put, List.setIfInBounds_toArray, List.set_cons_succ, List.set_cons_zero]
        have HT := Lib.hid (show (fun w' => w'.cell? ⟨B, 7, none⟩ = some (tv) ∧ w'.cell? ⟨p, off, none⟩ = some (.string (str code)) ∧ w'.cell? ⟨gn, 0, none⟩ = some (.int .i64 n0) ∧ w'.cell? ⟨gn, 1, none⟩ = some (.int .i64 n1) ∧ w'.cell? ⟨gn, 2, none⟩ = some (.int .i64 n2) ∧ w'.cell? ⟨gn, 3, none⟩ = some (.int .i64 n3) ∧ w'.cell? ⟨gn, 4, none⟩ = some (.int .i64 n4) ∧ w'.cell? ⟨gn, 5, none⟩ = some (.int .i64 n5) ∧ w'.cell? ⟨gn, 6, none⟩ = some (.int .i64 n6) ∧ w'.cell? ⟨gn, 7, none⟩ = some (.int .i64 n7)) w7 from ⟨HB7, HC7.out, (World.ownsRow.cellAt HN7.out 0 (by decide)), (World.ownsRow.cellAt HN7.out 1 (by decide)), (World.ownsRow.cellAt HN7.out 2 (by decide)), (World.ownsRow.cellAt HN7.out 3 (by decide)), (World.ownsRow.cellAt HN7.out 4 (by decide)), (World.ownsRow.cellAt HN7.out 5 (by decide)), (World.ownsRow.cellAt HN7.out 6 (by decide)), (World.ownsRow.cellAt HN7.out 7 (by decide))⟩)
        refine ⟨(fun _ => HT.out), ?_⟩
        try simp only [List.setIfInBounds_toArray, List.set_cons_succ, List.set_cons_zero]
        refine till_pure (i := 40) (v := .pointer (some ⟨B, 0, none⟩)) rfl rfl (by kernel_rfl) (fun _ _ _ h => h) (yields_of rfl (fun w' _ => by simp [go_sem])) (fun _ => HT.out) ?_
        try simp only [List.setIfInBounds_toArray, List.set_cons_succ, List.set_cons_zero]
        refine till_pure (i := 41) (v := .pointer (some ⟨B, 0, none⟩)) rfl rfl (by kernel_rfl) (fun _ _ _ h => h) (yields_of rfl (fun w' _ => by simp [go_sem])) (fun _ => HT.out) ?_
        try simp only [List.setIfInBounds_toArray, List.set_cons_succ, List.set_cons_zero]
        refine till_pure (i := 42) (v := .pointer (some ⟨B, 7, none⟩)) rfl rfl (by kernel_rfl) (fun _ _ _ h => h) (yields_of rfl (fun w' _ => by simp [go_sem])) (fun _ => HT.out) ?_
        try simp only [List.setIfInBounds_toArray, List.set_cons_succ, List.set_cons_zero]
        refine till_only (j := 43) (by kernel_rfl) rfl ?_
        go_wp2_with fail
        clear HB7 HF7
        have HF := Lib.hid (show Reading w0 (w7.setCell ⟨B, 7, none⟩ (.slice (some ⟨g, 0, none⟩) (ts.length + 1) cap)) B law (.slice (some ⟨g, 0, none⟩) (ts.length + 1) cap) (ts ++ [⟨str code, n0, n1, n2, n3, n4, n5, n6, .slice none 0 0, .slice none 0 0, n7, [], []⟩]) ln last from HRa.out.addTree (t := ⟨str code, n0, n1, n2, n3, n4, n5, n6, .slice none 0 0, .slice none 0 0, n7, [], []⟩) ⟨rfl, rfl, rfl, rfl⟩ HG7.out HO7.out HAT7.out)
        have HS8 := Lib.hid (HS7.out.setCell HBB7.out (by decide) 7 (.slice (some ⟨g, 0, none⟩) (ts.length + 1) cap))
        generalize w7.setCell ⟨B, 7, none⟩ (.slice (some ⟨g, 0, none⟩) (ts.length + 1) cap) = w8 at HF HS8 ⊢
        refine ⟨(fun h => by simp at h), ?_⟩
        try simp only [List.setIfInBounds_toArray, List.set_cons_succ, List.set_cons_zero]
        refine till_done (by kernel_rfl) ?_
        try simp only [Act.put]
        go_wp2
        go_end0
        exact .inl ⟨code, r, n0, n1, n2, n3, n4, n5, n6, n7, g, cap, HM.out, rfl, HNS.out, rfl, HF.out, HS8.out⟩
      · refine ⟨rfl, Or.inr ⟨?_, rfl, HB0.out.trans (hb2.mono HB0.out.size)⟩⟩
        rintro ⟨_, code', r', ms, h0, h1, h2⟩
        injection h0 with h3 h4
        subst h4
        exact hbad ms h1 h2
    · refine ⟨rfl, Or.inr ⟨?_, rfl, HB0.out⟩⟩
      rintro ⟨h1, _⟩
      exact hm h1
end Go.Proofs.YtnoofdjlocadbaaGreatDoor
