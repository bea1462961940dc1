/- The shelf: a new thing is put behind all others. -/
import Derived.Test.YtcnacegjdmgakaaYPutOld
import Derived.Test.YtcnacegjdmgakaaYHold
namespace Go.Proofs.Ytcnacegjdmgakaa
open Go Go.RowKit Yd

theorem info_string : (Try.prog.info? 9).map (fun i => (i.zero, i.size, i.bytes)) = some (some (.string ⟨#[]⟩), 1, 16) := by kernel_rfl
theorem info_stack : (Try.prog.info? 49).map (fun i => (i.zero, i.size, i.bytes)) = some (some (.agg #[.string ⟨#[]⟩, .int .i64 0, .int .i64 0, .int .i64 0, .int .i64 0, .int .i64 0, .int .i64 0, .slice none 0 0]), 8, 88) := by kernel_rfl

/-- A new place is put in. -/
def PutDone (w : World) (C : Nat → Prop) (B : Nat) (bef aft : Int) (l : List SRow) (c : Yd.Acc) (made : Int) (N m : Nat) (e : Ending) (w' : World) : Prop :=
  e = .returned (.tuple #[]) ∧ Beside C w w' ∧ ∃ kv' tv', Book w' (Wide C w) B bef aft l c made N kv' tv' m

set_option maxRecDepth 100000 in
set_option maxHeartbeats 1000000 in
theorem put_new {w : World} {C : Nat → Prop} {B : Nat} {bef aft : Int} {l : List SRow} {c : Yd.Acc} {made : Int} {N : Nat} {kv tv : Value} {m : Nat} (h : Book w C B bef aft l c made N kv tv m)
    (x : Stk Code) (fa : Option Addr) (fn fc : Nat) (hs : x.code.size ≤ maxLen) (hn : ixOf l x.code = none) (h8 : l.length < 8) (hq : w.ownsRow 0 3 1 (.slice fa fn fc) x.src.length (intCells x.src)) (hl : x.src.length ≤ 1000) (hN : N < 1000000) :
    Calls Try.prog 107 #[.pointer (some ⟨B, 2, none⟩), .string x.code, .agg #[.string x.code, .int .i64 x.dry.lo, .int .i64 x.dry.hi, .int .i64 x.water.lo, .int .i64 x.water.hi, .int .i64 x.piled, .int .i64 x.boiled, .slice fa fn fc]] w (PutDone w C B bef aft (l ++ [(x, .slice fa fn fc)]) c made (N + 1) m) := by
  have h0 := h.alloc (.cells #[.string x.code, .int .i64 x.dry.lo, .int .i64 x.dry.hi, .int .i64 x.water.lo, .int .i64 x.water.hi, .int .i64 x.piled, .int .i64 x.boiled, .slice fa fn fc] 49)
  have k4 := h.blk.at 4 (.map (some m)) rfl
  have hB := h.blk.lt
  have HS := Lib.hid (Blk.new w 49 #[.string x.code, .int .i64 x.dry.lo, .int .i64 x.dry.hi, .int .i64 x.water.lo, .int .i64 x.water.hi, .int .i64 x.piled, .int .i64 x.boiled, .slice fa fn fc])
  obtain ⟨i, hlk, _⟩ := h0.places.look hs (T := 87) Try.underlying87
  rw [hn] at hlk
  simp only [Option.isSome_none] at hlk
  have HB0 := Lib.hid (show Beside C w (w.alloc (.cells #[.string x.code, .int .i64 x.dry.lo, .int .i64 x.dry.hi, .int .i64 x.water.lo, .int .i64 x.water.hi, .int .i64 x.piled, .int .i64 x.boiled, .slice fa fn fc] 49)) from (Beside.refl C w).alloc _)
  have HQ := Lib.hid (hq.alloc (.cells #[.string x.code, .int .i64 x.dry.lo, .int .i64 x.dry.hi, .int .i64 x.water.lo, .int .i64 x.water.hi, .int .i64 x.piled, .int .i64 x.boiled, .slice fa fn fc] 49))
  have H := Lib.hid h
  have H0 := Lib.hid h0
  have HN := Lib.hid hn
  have H8 := Lib.hid h8
  have HSS := Lib.hid hs
  have HL := Lib.hid hl
  have HNN := Lib.hid hN
  have HO := Lib.hid (show ∀ u ∈ ([.string x.code, .int .i64 x.dry.lo, .int .i64 x.dry.hi, .int .i64 x.water.lo, .int .i64 x.water.hi, .int .i64 x.piled, .int .i64 x.boiled, .slice fa fn fc] : List Value), u.oneCell' = true from by simp [Value.oneCell'])
  obtain ⟨ka, kn, kc, hkv⟩ := row_slice h.keys
  obtain ⟨ta, tn, tc, htv⟩ := row_slice h.things
  have hkn : kn = l.length := by
    rcases h.keys.2 with ⟨h1, h0⟩ | ⟨g, cap, cur, h1, _⟩
    · rw [hkv] at h1; cases h1; omega
    · rw [hkv] at h1; cases h1; rfl
  subst hkv htv
  have HKN := Lib.hid hkn
  clear h h0 hn h8 hq hl hN hs hkn
  go_enter Try.func107, Try.ntmps107
  go_wp2
  have hW : (w.alloc (.cells #[.string x.code, .int .i64 x.dry.lo, .int .i64 x.dry.hi, .int .i64 x.water.lo, .int .i64 x.water.hi, .int .i64 x.piled, .int .i64 x.boiled, .slice fa fn fc] 49)).heap.size = w.heap.size + 1 := World.size_alloc _ _
  generalize w.alloc (.cells #[.string x.code, .int .i64 x.dry.lo, .int .i64 x.dry.hi, .int .i64 x.water.lo, .int .i64 x.water.hi, .int .i64 x.piled, .int .i64 x.boiled, .slice fa fn fc] 49) = W at *
  have c2 := cell_regrown (H0.out.blk.at 2 (.slice ka kn kc) rfl)
  have c4 := cell_regrown (H0.out.blk.at 4 (.map (some m)) rfl)
  clear hlk k4
  refine region_split_below 10 (by kernel_rfl) (by kernel_rfl) (by kernel_rfl) ?_
  simp only [List.take_succ_cons, List.take_zero, List.drop_succ_cons, List.drop_zero]
  repeat (go_big_quiet_step (fail))
  refine wpQuiet_nil ?_
  intro w8 hw'
  have hb8 : Below W.heap.size W w8 := by obtain ⟨⟨dq, osq⟩, hw''⟩ := hw'; rw [hw'']; exact below_regrown W dq osq
  clear hw' c2 c4
  have H1 := Lib.hid (H0.out.below hb8)
  have HB1 := Lib.hid (HB0.out.thenBelow hb8)
  have HS1 := Lib.hid (HS.out.below hb8)
  have HQ1 := Lib.hid (row_same HQ.out (fun j hj => hb8.block j (row_lt HQ.out hj)))
  have hz8 := hb8.size
  clear hb8 H0 HB0 HS HQ
  refine wpList_places_put rfl (.tmp 28) (.tmp 29) (.tmp 34) 87 rfl Try.underlying87 rfl H1.out.places rfl HSS.out (by have := H1.out.room; unfold maxLen; omega) (k := kn) rfl (by have := H1.out.few; have := HKN.out; omega) ?_
  intro w9 hp9 hg9
  have HP9 := Lib.hid hp9
  have hB9 : B ≠ m := fun e => by subst e; exact H1.out.places.noBlk H1.out.blk
  have HK9 := Lib.hid (H1.out.blk.grown hg9 (fun e => hB9 (by cases e; rfl)))
  have HR9 := Lib.hid (row_grown H1.out.keys hg9 (row_notMap H1.out.keys H1.out.places))
  have HT9 := Lib.hid (row_grown H1.out.things hg9 (row_notMap H1.out.things H1.out.places))
  have HF9 := Lib.hid (fun p hp => row_grown (H1.out.froms p hp) hg9 (row_notMap (H1.out.froms p hp) H1.out.places))
  have HQ9 := Lib.hid (row_grown HQ1.out hg9 (row_notMap HQ1.out H1.out.places))
  have HB9 := Lib.hid (HB1.out.grown hg9 (fun r e => by cases e; exact .inl H1.out.inM))
  have HS9 := Lib.hid (HS1.out.grown hg9 (fun e => H1.out.places.noBlk (by cases e; exact HS1.out)))
  have hz9 := hg9.size
  clear hp9 hg9 hB9 HS1 HQ1 HB1 H1
  have k2 := HK9.out.at 2 (.slice ka kn kc) rfl
  have hB9 := HK9.out.lt
  have HRA := Lib.hid (HR9.out.alloc (.cells #[.string x.code] 9))
  have HKA := Lib.hid (HK9.out.alloc (.cells #[.string x.code] 9))
  have HA1 := Lib.hid (show l.length + 1 ≤ maxLen ∧ (l.length + 1) * 16 ≤ 140737488355328 by have := H8.out; unfold maxLen; omega)
  obtain ⟨i1, hi1, hi1a, hi1b, hi1c⟩ := info_parts info_string
  have HI1 := Lib.hid hi1
  have HI1a := Lib.hid hi1a
  have HI1b := Lib.hid hi1b
  have HI1c := Lib.hid hi1c
  clear hi1 hi1a hi1b hi1c
  go_wp2_with (at_builtin; refine wpList_append_lies _ rfl (.tmp 39) (.tmp 41) 65 rfl 0 9 i1 (.string ⟨#[]⟩) 1 16 Try.underlying65 HI1.out HI1a.out HI1b.out HI1c.out rfl (by decide) (.slice ka kn kc) l.length (codeCells l) rfl HRA.out ⟨w9.heap.size, 0, none⟩ 1 1 [.string x.code] rfl rfl (World.news_of_block (heap_alloc_new w9 _)) (by simp [Value.oneCell']) (by decide) HA1.out.1 HA1.out.2 (Nat.zero_le _) (w9.heap.size + 1) (World.size_alloc _ _) ?_; intro g cap w10 hown10 hg10 hat10 hlt10; have HR10 := Lib.hid hown10; have HG10 := Lib.hid hg10; have HAT := Lib.hid hat10; have HK10 := Lib.hid (HKA.out.grown hg10 (HKA.out.notRow HRA.out (by decide))); have k2 := HK10.out.at 2 (.slice ka kn kc) rfl; have f2 := HK10.out.frozen 2; have hB10 := HK10.out.lt; clear hown10 hg10 hat10)
  clear k2 f2
  have HT10 := Lib.hid (row_grown (HT9.out.alloc (.cells #[.string x.code] 9)) HG10.out (row_notRow (HT9.out.alloc (.cells #[.string x.code] 9)) HRA.out (by decide)))
  have HF10 := Lib.hid (fun p hp => row_grown ((HF9.out p hp).alloc (.cells #[.string x.code] 9)) HG10.out (row_notRow ((HF9.out p hp).alloc (.cells #[.string x.code] 9)) HRA.out (by decide)))
  have HQ10 := Lib.hid (row_grown (HQ9.out.alloc (.cells #[.string x.code] 9)) HG10.out (row_notRow (HQ9.out.alloc (.cells #[.string x.code] 9)) HRA.out (by decide)))
  have HP10 := Lib.hid ((HP9.out.same (w' := w9.alloc (.cells #[.string x.code] 9)) (Below.heap_alloc w9 _ _ HP9.out.lt)).grown HG10.out ((HP9.out.same (w' := w9.alloc (.cells #[.string x.code] 9)) (Below.heap_alloc w9 _ _ HP9.out.lt)).notRow HRA.out))
  have HS10 := Lib.hid ((HS9.out.alloc (.cells #[.string x.code] 9)).grown HG10.out ((HS9.out.alloc (.cells #[.string x.code] 9)).notRow HRA.out (by decide)))
  have HCK := Lib.hid (show ∀ r, Value.ownBlock (.slice ka kn kc) = some r → Wide C w r from fun r hr => .inl (H.out.inK r hr))
  have HB10 := Lib.hid ((HB9.out.alloc (.cells #[.string x.code] 9)).grown HG10.out HCK.out)
  have HCG := Lib.hid (show Wide C w g from by
    rcases HAT.out with h1 | h1
    · exact HCK.out g h1
    · refine .inr ?_
      have := HB9.out.size
      omega)
  clear HR9 HRA HKA HT9 HF9 HQ9 HP9 HS9 HB9 HK9 HG10 HAT hz9 hz8
  have HK11 := Lib.hid (show Blk (w10.setCell ⟨B, 2, none⟩ (.slice (some ⟨g, 0, none⟩) (l.length + 1) cap)) B 91 (bookCells bef aft (.slice (some ⟨g, 0, none⟩) (l.length + 1) cap) (.slice ta tn tc) m c made).toArray from HK10.out.set_ 2 _)
  have HR11 := Lib.hid (row_setCell HR10.out HK10.out (by decide) 2 (.slice (some ⟨g, 0, none⟩) (l.length + 1) cap))
  have HT11 := Lib.hid (row_setCell HT10.out HK10.out (by decide) 2 (.slice (some ⟨g, 0, none⟩) (l.length + 1) cap))
  have HF11 := Lib.hid (fun p hp => row_setCell (HF10.out p hp) HK10.out (by decide) 2 (.slice (some ⟨g, 0, none⟩) (l.length + 1) cap))
  have HQ11 := Lib.hid (row_setCell HQ10.out HK10.out (by decide) 2 (.slice (some ⟨g, 0, none⟩) (l.length + 1) cap))
  have HP11 := Lib.hid (HP10.out.setCell HK10.out 2 (.slice (some ⟨g, 0, none⟩) (l.length + 1) cap))
  have hBS : w.heap.size ≠ B := by omega
  have HS11 := Lib.hid (HS10.out.far (p := ⟨B, 2, none⟩) hBS (.slice (some ⟨g, 0, none⟩) (l.length + 1) cap))
  have HB11 := Lib.hid (HB10.out.setCell (p := ⟨B, 2, none⟩) (.inl H.out.inB) (.slice (some ⟨g, 0, none⟩) (l.length + 1) cap))
  clear HK10 HR10 HT10 HF10 HQ10 HP10 HS10 HB10 HCK
  generalize w10.setCell ⟨B, 2, none⟩ (.slice (some ⟨g, 0, none⟩) (l.length + 1) cap) = w11 at *
  have HTL := Lib.hid (show ∀ r, Value.ownBlock (.slice ta tn tc) = some r → r < w.heap.size from fun r hr => row_lt H.out.things hr)
  have HZ := Lib.hid HB11.out.size
  obtain ⟨i2, hi2, hi2a, hi2b, hi2c⟩ := info_parts info_stack
  have HI2 := Lib.hid hi2
  have HI2a := Lib.hid hi2a
  have HI2b := Lib.hid hi2b
  have HI2c := Lib.hid hi2c
  have HA2 := Lib.hid (show l.length + 1 ≤ maxLen ∧ (l.length + 1) * 88 ≤ 140737488355328 by have := H8.out; unfold maxLen; omega)
  clear hi2 hi2a hi2b hi2c k2 hB9 hB10 hlt10 hB
  have HGS := Lib.hid (show ∃ gS, gS = w.heap.size from ⟨_, rfl⟩)
  obtain ⟨gS, hgS⟩ := HGS.out
  rw [← hgS] at HS11 hBS ⊢
  have HGE := Lib.hid hgS
  have s0 := HS11.out.at 0 (.string x.code) rfl
  have s1 := HS11.out.at 1 (.int .i64 x.dry.lo) rfl
  have s2 := HS11.out.at 2 (.int .i64 x.dry.hi) rfl
  have s3 := HS11.out.at 3 (.int .i64 x.water.lo) rfl
  have s4 := HS11.out.at 4 (.int .i64 x.water.hi) rfl
  have s5 := HS11.out.at 5 (.int .i64 x.piled) rfl
  have s6 := HS11.out.at 6 (.int .i64 x.boiled) rfl
  have s7 := HS11.out.at 7 (.slice fa fn fc) rfl
  have k3 := HK11.out.at 3 (.slice ta tn tc) rfl
  have hBl := HK11.out.lt
  clear HGS hgS
  have HT := Lib.hid (StillAt.drew [B, gS] w11)
  refine region_till [10] (StillAt [B, gS] w11) 11 [false, false, false, false, false, false, false, false, false, false, false] (by kernel_rfl) rfl rfl ?_
  refine till_pure (i := 0) (v := .pointer (some ⟨B, 2, none⟩)) rfl rfl (by kernel_rfl) (fun _ _ _ h => h) (yields_of rfl (fun w' _ => by simp [go_sem])) (fun _ => HT.out) ?_
  simp only [List.setIfInBounds_toArray, List.set_cons_succ, List.set_cons_zero]
  refine till_pure (i := 1) (v := .pointer (some ⟨B, 2, none⟩)) rfl rfl (by kernel_rfl) (fun _ _ _ h => h) (yields_of rfl (fun w' _ => by simp [go_sem])) (fun _ => HT.out) ?_
  simp only [List.setIfInBounds_toArray, List.set_cons_succ, List.set_cons_zero]
  refine till_pure (i := 2) (v := .pointer (some ⟨B, 2, none⟩)) rfl rfl (by kernel_rfl) (fun _ _ _ h => h) (yields_of rfl (fun w' _ => by simp [go_sem])) (fun _ => HT.out) ?_
  simp only [List.setIfInBounds_toArray, List.set_cons_succ, List.set_cons_zero]
  refine till_pure (i := 3) (v := .pointer (some ⟨B, 3, none⟩)) rfl rfl (by kernel_rfl) (fun _ _ _ h => h) (yields_of rfl (fun w' _ => by simp [go_sem])) (fun _ => HT.out) ?_
  simp only [List.setIfInBounds_toArray, List.set_cons_succ, List.set_cons_zero]
  refine till_load (i := 4) (v := .slice ta tn tc) rfl rfl (by kernel_rfl) (fun _ _ _ h => h) (yields_of rfl (fun w' hw' => by have hcx := cell_in (HK11.out) (by simp) hw' 3 (.slice ta tn tc) rfl; simp [go_sem, hcx])) (fun _ => HT.out) ?_
  simp only [List.setIfInBounds_toArray, List.set_cons_succ, List.set_cons_zero]
  refine till_load (i := 5) (v := .agg #[.string x.code, .int .i64 x.dry.lo, .int .i64 x.dry.hi, .int .i64 x.water.lo, .int .i64 x.water.hi, .int .i64 x.piled, .int .i64 x.boiled, .slice fa fn fc]) rfl rfl (by kernel_rfl) (fun _ _ _ h => h) (yields_mid rfl 49 (.tmp 5) rfl (gS) 0 rfl [.string x.code, .int .i64 x.dry.lo, .int .i64 x.dry.hi, .int .i64 x.water.lo, .int .i64 x.water.hi, .int .i64 x.piled, .int .i64 x.boiled, .slice fa fn fc] _ (fun w' hw' => range_in (HS11.out) (by simp) hw' 0 _ rfl) Try.underlying49 rfl (by kernel_rfl)) (fun _ => HT.out) ?_
  simp only [List.setIfInBounds_toArray, List.set_cons_succ, List.set_cons_zero]
  refine till_only (j := 6) (by kernel_rfl) rfl ?_
  go_wp2_with fail
  have HT1 := Lib.hid (show StillAt [B, gS] w11 (w11.alloc (.cells #[.string x.code, .int .i64 x.dry.lo, .int .i64 x.dry.hi, .int .i64 x.water.lo, .int .i64 x.water.hi, .int .i64 x.piled, .int .i64 x.boiled, .slice fa fn fc] 49)).drew from (StillAt.refl _ _).alloc (Nat.le_refl _) _)
  clear HT
  refine ⟨fun _ => HT1.out, ?_⟩
  simp only [List.setIfInBounds_toArray, List.set_cons_succ, List.set_cons_zero]
  refine till_only (j := 7) (by kernel_rfl) rfl ?_
  have HRD := Lib.hid ((HT11.out.alloc (.cells #[.string x.code, .int .i64 x.dry.lo, .int .i64 x.dry.hi, .int .i64 x.water.lo, .int .i64 x.water.hi, .int .i64 x.piled, .int .i64 x.boiled, .slice fa fn fc] 49)).drew)
  have HKD := Lib.hid ((HK11.out.alloc (.cells #[.string x.code, .int .i64 x.dry.lo, .int .i64 x.dry.hi, .int .i64 x.water.lo, .int .i64 x.water.hi, .int .i64 x.piled, .int .i64 x.boiled, .slice fa fn fc] 49)).drew)
  have HNB := Lib.hid (HKD.out.notRow HRD.out (by decide))
  refine wpList_append_lies _ rfl (.tmp 49) (.tmp 51) 30 rfl 0 49 i2 (.agg #[.string ⟨#[]⟩, .int .i64 0, .int .i64 0, .int .i64 0, .int .i64 0, .int .i64 0, .int .i64 0, .slice none 0 0]) 8 88 Try.underlying30 HI2.out HI2a.out HI2b.out HI2c.out rfl (by decide) (.slice ta tn tc) l.length (rowsCells l) rfl HRD.out ⟨w11.heap.size, 0, none⟩ 1 1 [.string x.code, .int .i64 x.dry.lo, .int .i64 x.dry.hi, .int .i64 x.water.lo, .int .i64 x.water.hi, .int .i64 x.piled, .int .i64 x.boiled, .slice fa fn fc] rfl rfl (World.news_of_block (cs := #[.string x.code, .int .i64 x.dry.lo, .int .i64 x.dry.hi, .int .i64 x.water.lo, .int .i64 x.water.hi, .int .i64 x.piled, .int .i64 x.boiled, .slice fa fn fc]) (t := 49) (fr := (0, 0)) (heap_alloc_new w11 _)) HO.out (by decide) HA2.out.1 HA2.out.2 (Nat.zero_le _) (w11.heap.size + 1) (World.size_alloc _ _) ?_
  intro gg cap2 w12 hown12 hg12 hat12 hlt12
  have HT := Lib.hid (HT1.out.grown (by show _ ≤ (w11.alloc _).heap.size; rw [World.size_alloc]; exact Nat.le_succ _) hg12 (fun k hk => by
    rcases List.mem_cons.1 hk with rfl | hk
    · exact HNB.out
    · rw [List.mem_singleton.1 hk]
      intro e
      have := HTL.out gS e.symm
      rw [HGE.out] at this
      exact absurd this (Nat.lt_irrefl _)))
  clear HT1
  change Till _ _ _ _ ∧ wpAnyT _ _ _ _ _ _ _ _ _ _
  refine ⟨fun _ => HT.out, ?_⟩
  simp only [Act.put, List.setIfInBounds_toArray, List.set_cons_succ, List.set_cons_zero]
  have HK12 := Lib.hid (HKD.out.grown hg12 HNB.out)
  have HG12 := Lib.hid hg12
  have HOW := Lib.hid hown12
  have HAT := Lib.hid hat12
  have kb3 := HK12.out.at 3 (.slice ta tn tc) rfl
  have fb3 := HK12.out.frozen 3
  have hB12 := HK12.out.lt
  clear hg12 hown12 hat12
  refine till_pure (i := 8) (v := .pointer (some ⟨B, 2, none⟩)) rfl rfl (by kernel_rfl) (fun _ _ _ h => h) (yields_of rfl (fun w' _ => by simp [go_sem])) (fun _ => HT.out) ?_
  simp only [List.setIfInBounds_toArray, List.set_cons_succ, List.set_cons_zero]
  refine till_pure (i := 9) (v := .pointer (some ⟨B, 3, none⟩)) rfl rfl (by kernel_rfl) (fun _ _ _ h => h) (yields_of rfl (fun w' _ => by simp [go_sem])) (fun _ => HT.out) ?_
  simp only [List.setIfInBounds_toArray, List.set_cons_succ, List.set_cons_zero]
  refine till_only (j := 10) (by kernel_rfl) rfl ?_
  go_wp2_with fail
  refine ⟨fun h => by simp at h, ?_⟩
  simp only [List.setIfInBounds_toArray, List.set_cons_succ, List.set_cons_zero]
  refine till_done (by kernel_rfl) ?_
  go_end0
  have HR12 := Lib.hid (row_grown ((HR11.out.alloc (.cells #[.string x.code, .int .i64 x.dry.lo, .int .i64 x.dry.hi, .int .i64 x.water.lo, .int .i64 x.water.hi, .int .i64 x.piled, .int .i64 x.boiled, .slice fa fn fc] 49)).drew) HG12.out (row_notRow ((HR11.out.alloc (.cells #[.string x.code, .int .i64 x.dry.lo, .int .i64 x.dry.hi, .int .i64 x.water.lo, .int .i64 x.water.hi, .int .i64 x.piled, .int .i64 x.boiled, .slice fa fn fc] 49)).drew) HRD.out (by decide)))
  have HF12 := Lib.hid (fun p hp => row_grown (((HF11.out p hp).alloc (.cells #[.string x.code, .int .i64 x.dry.lo, .int .i64 x.dry.hi, .int .i64 x.water.lo, .int .i64 x.water.hi, .int .i64 x.piled, .int .i64 x.boiled, .slice fa fn fc] 49)).drew) HG12.out (row_notRow (((HF11.out p hp).alloc (.cells #[.string x.code, .int .i64 x.dry.lo, .int .i64 x.dry.hi, .int .i64 x.water.lo, .int .i64 x.water.hi, .int .i64 x.piled, .int .i64 x.boiled, .slice fa fn fc] 49)).drew) HRD.out (by decide)))
  have HQ12 := Lib.hid (row_grown ((HQ11.out.alloc (.cells #[.string x.code, .int .i64 x.dry.lo, .int .i64 x.dry.hi, .int .i64 x.water.lo, .int .i64 x.water.hi, .int .i64 x.piled, .int .i64 x.boiled, .slice fa fn fc] 49)).drew) HG12.out (row_notRow ((HQ11.out.alloc (.cells #[.string x.code, .int .i64 x.dry.lo, .int .i64 x.dry.hi, .int .i64 x.water.lo, .int .i64 x.water.hi, .int .i64 x.piled, .int .i64 x.boiled, .slice fa fn fc] 49)).drew) HRD.out (by decide)))
  have HPD := Lib.hid (HP11.out.same (w' := (w11.alloc (.cells #[.string x.code, .int .i64 x.dry.lo, .int .i64 x.dry.hi, .int .i64 x.water.lo, .int .i64 x.water.hi, .int .i64 x.piled, .int .i64 x.boiled, .slice fa fn fc] 49)).drew) (Below.heap_alloc w11 _ _ HP11.out.lt))
  have HP12 := Lib.hid (HPD.out.grown HG12.out (HPD.out.notRow HRD.out))
  have HB12 := Lib.hid (((HB11.out.alloc (.cells #[.string x.code, .int .i64 x.dry.lo, .int .i64 x.dry.hi, .int .i64 x.water.lo, .int .i64 x.water.hi, .int .i64 x.piled, .int .i64 x.boiled, .slice fa fn fc] 49)).drew).grown HG12.out (fun r hr => .inl (H.out.inT r hr)))
  have HK13 := Lib.hid (show Blk (w12.setCell ⟨B, 3, none⟩ (.slice (some ⟨gg, 0, none⟩) (l.length + 1) cap2)) B 91 (bookCells bef aft (.slice (some ⟨g, 0, none⟩) (l.length + 1) cap) (.slice (some ⟨gg, 0, none⟩) (l.length + 1) cap2) m c made).toArray from HK12.out.set_ 3 _)
  refine ⟨rfl, HB12.out.setCell (p := ⟨B, 3, none⟩) (.inl H.out.inB) _, .slice (some ⟨g, 0, none⟩) (l.length + 1) cap, .slice (some ⟨gg, 0, none⟩) (l.length + 1) cap2, ?_⟩
  refine H.out.putNew (q := (x, .slice fa fn fc)) HN.out HSS.out HL.out H8.out (by have := HNN.out; omega) HK13.out (row_setCell HR12.out HK12.out (by decide) 3 _) (row_setCell HOW.out HK12.out (by decide) 3 _) (((HP12.out.setCell HK12.out 3 _)).ext (fun cd => by rw [HKN.out])) (.inl H.out.inB) (fun r hr => by cases hr; exact HCG.out) (fun r hr => by
    cases hr
    rcases HAT.out with h1 | h1
    · exact .inl (H.out.inT _ h1)
    · refine .inr ?_
      have := HZ.out
      show w.heap.size ≤ gg
      omega) (.inl H.out.inM) (fun p hp => row_setCell (HF12.out p hp) HK12.out (by decide) 3 _) (row_setCell HQ12.out HK12.out (by decide) 3 _)
end Go.Proofs.Ytcnacegjdmgakaa
