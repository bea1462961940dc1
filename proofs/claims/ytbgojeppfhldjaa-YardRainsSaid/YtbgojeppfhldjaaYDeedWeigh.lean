/- A deed: weigh. -/
import Derived.Test.YtbgojeppfhldjaaYTill
namespace Go.Proofs.Ytbgojeppfhldjaa
open Go Go.RowKit Yd

set_option maxRecDepth 100000 in
set_option maxHeartbeats 1000000 in
theorem weigh_no {w : World} {C : Nat → Prop} {B : Nat} {bef aft : Int} {l : List SRow} {c : Yd.Acc} {made : Int} {N : Nat} {kv tv : Value} {m : Nat} (h : Book w C B bef aft l c made N kv tv m)
    (kind day : Int) (code other : Code) (al ah bl bh : Int) (hs : code.size ≤ maxLen) (hC : ∀ k, C k → k < w.heap.size) (hn : ixOf l code = none) :
    Calls Try.prog 67 #[.pointer (some ⟨B, 0, none⟩), .agg #[.int .i64 kind, .int .i64 day, .string code, .string other, .int .i64 al, .int .i64 ah, .int .i64 bl, .int .i64 bh]] w fun e w' => e = .panicked (faulty 1) ∧ Below w.heap.size w w' := by
  have DK1 := Lib.hid (boxed_deed h hC [.int .i64 kind, .int .i64 day, .string code, .string other, .int .i64 al, .int .i64 ah, .int .i64 bl, .int .i64 bh])
  have HS := Lib.hid hs; have HN := Lib.hid hn
  clear h hs hn hC
  go_enter Try.func67, Try.ntmps67
  go_wp2_with (go_at_call 71; refine (stack_no DK1.out.book code HS.out HN.out).mono ?_; rintro e w1 ⟨rfl, hb1⟩; have DK2 := Lib.hid (DK1.out.below hb1); clear hb1)
  exact ⟨rfl, rfl, DK2.out.quiet⟩

set_option maxRecDepth 100000 in
set_option maxHeartbeats 1000000 in
theorem weigh_ok {w : World} {C : Nat → Prop} {B : Nat} {bef aft : Int} {l : List SRow} {c : Yd.Acc} {made : Int} {N : Nat} {kv tv : Value} {m : Nat} (h : Book w C B bef aft l c made N kv tv m)
    (kind day : Int) (code other : Code) (al ah bl bh : Int) (hs : code.size ≤ maxLen) (hC : ∀ k, C k → k < w.heap.size) (dl dh wl wh pil boi : Int) (src : List Int) (fa : Option Addr) (fn fc : Nat) (V : Int) (hV : V ≤ 2000000000000000) {k : Nat} (hk : ixOf l code = some k) (hp : l[k]? = some (⟨code, ⟨dl, dh⟩, ⟨wl, wh⟩, pil, boi, src⟩, .slice fa fn fc)) (ud : Bd.Up ⟨dl, dh⟩ V) (uw : Bd.Up ⟨wl, wh⟩ V) (ua : Bd.Up ⟨al, ah⟩ 100000000) (h1 : (Bd.weighed ⟨dl, dh⟩ ⟨wl, wh⟩ ⟨al, ah⟩).lo ≤ (Bd.weighed ⟨dl, dh⟩ ⟨wl, wh⟩ ⟨al, ah⟩).hi) (h2 : (Bd.weighed ⟨wl, wh⟩ ⟨dl, dh⟩ ⟨al, ah⟩).lo ≤ (Bd.weighed ⟨wl, wh⟩ ⟨dl, dh⟩ ⟨al, ah⟩).hi) :
    Calls Try.prog 67 #[.pointer (some ⟨B, 0, none⟩), .agg #[.int .i64 kind, .int .i64 day, .string code, .string other, .int .i64 al, .int .i64 ah, .int .i64 bl, .int .i64 bh]] w fun e w' => e = .returned (.tuple #[]) ∧ Beside C w w' ∧ Book w' C B bef aft (l.set k (⟨code, Bd.weighed ⟨dl, dh⟩ ⟨wl, wh⟩ ⟨al, ah⟩, Bd.weighed ⟨wl, wh⟩ ⟨dl, dh⟩ ⟨al, ah⟩, pil, boi, src⟩, .slice fa fn fc)) c made N kv tv m := by
  have HUD := Lib.hid ud; have HUW := Lib.hid uw; have HUA := Lib.hid ua
  have HV8 := Lib.hid (show V ≤ 8000000000000000 from Int.le_trans hV (by decide))
  have HF1 := Lib.hid (sub_fit ua (by decide) uw HV8.out); have HF2 := Lib.hid (sub_fit ua (by decide) ud HV8.out)
  have HFD := Lib.hid (fit_of_up ud (show V ≤ 4000000000000000000 from Int.le_trans hV (by decide))); have HFW := Lib.hid (fit_of_up uw (show V ≤ 4000000000000000000 from Int.le_trans hV (by decide)))
  clear ud uw ua
  obtain ⟨d1, hd1⟩ : ∃ b : Bd, b = Bd.sub ⟨al, ah⟩ ⟨wl, wh⟩ := ⟨_, rfl⟩
  have Ed1 := Lib.hid hd1; clear hd1
  obtain ⟨m1, hm1⟩ : ∃ b : Bd, b = Bd.meet ⟨dl, dh⟩ d1 := ⟨_, rfl⟩
  have Em1 := Lib.hid hm1; clear hm1
  obtain ⟨d2, hd2⟩ : ∃ b : Bd, b = Bd.sub ⟨al, ah⟩ ⟨dl, dh⟩ := ⟨_, rfl⟩
  have Ed2 := Lib.hid hd2; clear hd2
  obtain ⟨m2, hm2⟩ : ∃ b : Bd, b = Bd.meet ⟨wl, wh⟩ d2 := ⟨_, rfl⟩
  have Em2 := Lib.hid hm2; clear hm2
  rw [← Ed1.out] at HF1
  rw [← Ed2.out] at HF2
  have b1 : decide (m1.lo ≤ m1.hi) = true := by rw [Em1.out, Ed1.out]; exact decide_eq_true h1
  have b2 : decide (m2.lo ≤ m2.hi) = true := by rw [Em2.out, Ed2.out]; exact decide_eq_true h2
  clear h1 h2
  have DK1 := Lib.hid (boxed_deed h hC [.int .i64 kind, .int .i64 day, .string code, .string other, .int .i64 al, .int .i64 ah, .int .i64 bl, .int .i64 bh])
  have hz1 : (w.alloc (.cells #[.int .i64 kind, .int .i64 day, .string code, .string other, .int .i64 al, .int .i64 ah, .int .i64 bl, .int .i64 bh] 57)).heap.size = w.heap.size + 1 := World.size_alloc _ _
  have HO0 := Lib.hid (show (#[.string code, .int .i64 dl, .int .i64 dh, .int .i64 wl, .int .i64 wh, .int .i64 pil, .int .i64 boi, .slice fa fn fc] : Array Value).all (·.oneCell') = true from by simp [Value.oneCell'])
  have HS := Lib.hid hs; have HK := Lib.hid hk; have HP := Lib.hid hp; have HC := Lib.hid hC
  clear h hs hk hp hC
  go_enter Try.func67, Try.ntmps67
  go_upto_region 2 with (first
    | (go_at_call 71; refine (stack_yes DK1.out.book code HS.out HK.out HP.out).mono ?_; rintro e w1 ⟨rfl, hb1⟩; have DK2 := Lib.hid ((DK1.out.below hb1).alloc 48 [.string ⟨#[]⟩, .int .i64 0, .int .i64 0, .int .i64 0, .int .i64 0, .int .i64 0, .int .i64 0, .slice none 0 0] rfl); clear hb1)
    | ((with_reducible refine at_store 48 (.tmp 4) (.tmp 10) ?_); go_must (refine wpList_store_mid rfl 48 (.tmp 4) (.tmp 10) rfl w1.heap.size 0 #[.string code, .int .i64 dl, .int .i64 dh, .int .i64 wl, .int .i64 wh, .int .i64 pil, .int .i64 boi, .slice fa fn fc] rfl rfl ((DK2.out.loc 1 _ _ _ rfl).1.there (o := 0) (n := 8) (Nat.le_of_ble_eq_true rfl)) size_stack HO0.out ?_)))
  have hgS := (DK2.out.far 1 rfl).1
  have DK3 := Lib.hid (show Desk w ((w1.alloc (.cells #[.string ⟨#[]⟩, .int .i64 0, .int .i64 0, .int .i64 0, .int .i64 0, .int .i64 0, .int .i64 0, .slice none 0 0] 48)).setCells w1.heap.size 0 [.string code, .int .i64 dl, .int .i64 dh, .int .i64 wl, .int .i64 wh, .int .i64 pil, .int .i64 boi, .slice fa fn fc]) (fun _ => False) C B bef aft l c made N kv tv m [(w.heap.size, 57, [.int .i64 kind, .int .i64 day, .string code, .string other, .int .i64 al, .int .i64 ah, .int .i64 bl, .int .i64 bh]), (w1.heap.size, 48, [.string code, .int .i64 dl, .int .i64 dh, .int .i64 wl, .int .i64 wh, .int .i64 pil, .int .i64 boi, .slice fa fn fc])] from DK2.out.setLoc 1 [] [.string ⟨#[]⟩, .int .i64 0, .int .i64 0, .int .i64 0, .int .i64 0, .int .i64 0, .int .i64 0, .slice none 0 0] [] [.string code, .int .i64 dl, .int .i64 dh, .int .i64 wl, .int .i64 wh, .int .i64 pil, .int .i64 boi, .slice fa fn fc] rfl rfl (by decide))
  clear DK2
  generalize ((w1.alloc (.cells #[.string ⟨#[]⟩, .int .i64 0, .int .i64 0, .int .i64 0, .int .i64 0, .int .i64 0, .int .i64 0, .slice none 0 0] 48)).setCells w1.heap.size 0 [.string code, .int .i64 dl, .int .i64 dh, .int .i64 wl, .int .i64 wh, .int .i64 pil, .int .i64 boi, .slice fa fn fc]) = W3 at DK3 ⊢
  obtain ⟨gD, hgD⟩ : ∃ g, g = w.heap.size := ⟨_, rfl⟩
  obtain ⟨gS, hgS2⟩ : ∃ g, g = w1.heap.size := ⟨_, rfl⟩
  rw [← hgD, ← hgS2] at DK3 ⊢
  have HZ := Lib.hid (And.intro hgD hgS2)
  clear hgD hgS2 hgS hz1
  simp only [Act.put]
  go_cut [5] from 11 to 18 (fun u wx => ∃ gX : Nat, u = .pointer (some ⟨gX, 0, none⟩) ∧ Hid (Desk w wx (fun _ => False) C B bef aft l c made N kv tv m [(gD, 57, [.int .i64 kind, .int .i64 day, .string code, .string other, .int .i64 al, .int .i64 ah, .int .i64 bl, .int .i64 bh]), (gS, 48, [.string code, .int .i64 dl, .int .i64 dh, .int .i64 wl, .int .i64 wh, .int .i64 pil, .int .i64 boi, .slice fa fn fc]), (gX, 23, [.int .i64 m1.lo, .int .i64 m1.hi])]))
  case first =>
    have hmix : Try.prog.follows .mixedOrders = true := by kernel_rfl
    refine region_till [9] (fun w' => Blk w' gD 57 #[.int .i64 kind, .int .i64 day, .string code, .string other, .int .i64 al, .int .i64 ah, .int .i64 bl, .int .i64 bh] ∧ Blk w' gS 48 #[.string code, .int .i64 dl, .int .i64 dh, .int .i64 wl, .int .i64 wh, .int .i64 pil, .int .i64 boi, .slice fa fn fc]) 10 [false, false, false, false, false, false, false, false, false, false] hmix rfl rfl ?_
    have DK4 := Lib.hid (DK3.out.drew)
    clear DK3 hmix
    generalize W3.drew = v0 at DK4 ⊢
    have HT := Lib.hid (show (fun w' => Blk w' gD 57 #[.int .i64 kind, .int .i64 day, .string code, .string other, .int .i64 al, .int .i64 ah, .int .i64 bl, .int .i64 bh] ∧ Blk w' gS 48 #[.string code, .int .i64 dl, .int .i64 dh, .int .i64 wl, .int .i64 wh, .int .i64 pil, .int .i64 boi, .slice fa fn fc]) v0 from ⟨(DK4.out.loc 0 _ _ _ rfl).1, (DK4.out.loc 1 _ _ _ rfl).1⟩)
    refine till_pure (i := 0) (v := .pointer (some ⟨gS, 1, none⟩)) rfl rfl (by kernel_rfl) (fun _ _ _ h => h) (yields_of rfl (fun w' _ => by simp [go_sem])) (fun _ => HT.out) ?_
    simp only [List.setIfInBounds_toArray, List.set_cons_succ, List.set_cons_zero]
    refine till_load (i := 1) (v := .agg #[.int .i64 dl, .int .i64 dh]) rfl rfl (by kernel_rfl) (fun _ _ _ h => h) (yields_mid rfl 23 (.tmp 11) rfl (gS) 1 rfl [.int .i64 dl, .int .i64 dh] _ (fun w' hw' => Blk.range hw'.2 1 _ rfl) Try.underlying23 rfl (by kernel_rfl)) (fun _ => HT.out) ?_
    simp only [List.setIfInBounds_toArray, List.set_cons_succ, List.set_cons_zero]
    refine till_pure (i := 2) (v := .pointer (some ⟨gD, 4, none⟩)) rfl rfl (by kernel_rfl) (fun _ _ _ h => h) (yields_of rfl (fun w' _ => by simp [go_sem])) (fun _ => HT.out) ?_
    simp only [List.setIfInBounds_toArray, List.set_cons_succ, List.set_cons_zero]
    refine till_load (i := 3) (v := .agg #[.int .i64 al, .int .i64 ah]) rfl rfl (by kernel_rfl) (fun _ _ _ h => h) (yields_mid rfl 23 (.tmp 13) rfl (gD) 4 rfl [.int .i64 al, .int .i64 ah] _ (fun w' hw' => Blk.range hw'.1 4 _ rfl) Try.underlying23 rfl (by kernel_rfl)) (fun _ => HT.out) ?_
    simp only [List.setIfInBounds_toArray, List.set_cons_succ, List.set_cons_zero]
    refine till_pure (i := 4) (v := .pointer (some ⟨gS, 3, none⟩)) rfl rfl (by kernel_rfl) (fun _ _ _ h => h) (yields_of rfl (fun w' _ => by simp [go_sem])) (fun _ => HT.out) ?_
    simp only [List.setIfInBounds_toArray, List.set_cons_succ, List.set_cons_zero]
    refine till_load (i := 5) (v := .agg #[.int .i64 wl, .int .i64 wh]) rfl rfl (by kernel_rfl) (fun _ _ _ h => h) (yields_mid rfl 23 (.tmp 15) rfl (gS) 3 rfl [.int .i64 wl, .int .i64 wh] _ (fun w' hw' => Blk.range hw'.2 3 _ rfl) Try.underlying23 rfl (by kernel_rfl)) (fun _ => HT.out) ?_
    simp only [List.setIfInBounds_toArray, List.set_cons_succ, List.set_cons_zero]
    refine till_two (i := 6) (j := 8) (by kernel_rfl) rfl rfl ?_ ?_
    · go_wp2_with (go_at_call 77; refine (difference_up HUA.out (by decide) HUW.out HV8.out Ed1.out _).mono ?_; rintro e v1 ⟨rfl, hb⟩; have DK5 := Lib.hid (DK4.out.below hb); clear hb)
      have HT := Lib.hid (show (fun w' => Blk w' gD 57 #[.int .i64 kind, .int .i64 day, .string code, .string other, .int .i64 al, .int .i64 ah, .int .i64 bl, .int .i64 bh] ∧ Blk w' gS 48 #[.string code, .int .i64 dl, .int .i64 dh, .int .i64 wl, .int .i64 wh, .int .i64 pil, .int .i64 boi, .slice fa fn fc]) v1 from ⟨(DK5.out.loc 0 _ _ _ rfl).1, (DK5.out.loc 1 _ _ _ rfl).1⟩)
      refine ⟨fun _ => HT.out, ?_⟩
      try simp only [List.setIfInBounds_toArray, List.set_cons_succ, List.set_cons_zero]
      refine till_two (i := 7) (j := 8) (by kernel_rfl) rfl rfl ?_ ?_
      · go_wp2_with (go_at_call 82; refine (common_fit HFD.out HF1.out Em1.out _).mono ?_; rintro e v2 ⟨rfl, hb⟩; have DK6 := Lib.hid (DK5.out.below hb); clear hb)
        have HT := Lib.hid (show (fun w' => Blk w' gD 57 #[.int .i64 kind, .int .i64 day, .string code, .string other, .int .i64 al, .int .i64 ah, .int .i64 bl, .int .i64 bh] ∧ Blk w' gS 48 #[.string code, .int .i64 dl, .int .i64 dh, .int .i64 wl, .int .i64 wh, .int .i64 pil, .int .i64 boi, .slice fa fn fc]) v2 from ⟨(DK6.out.loc 0 _ _ _ rfl).1, (DK6.out.loc 1 _ _ _ rfl).1⟩)
        refine ⟨fun _ => HT.out, ?_⟩
        try simp only [List.setIfInBounds_toArray, List.set_cons_succ, List.set_cons_zero]
        refine till_only (j := 8) (by kernel_rfl) rfl ?_
        go_wp2_with fail
        have DK7 := Lib.hid (show Desk w (v2.alloc (.cells #[.int .i64 0, .int .i64 0] 23)) (fun _ => False) C B bef aft l c made N kv tv m [(gD, 57, [.int .i64 kind, .int .i64 day, .string code, .string other, .int .i64 al, .int .i64 ah, .int .i64 bl, .int .i64 bh]), (gS, 48, [.string code, .int .i64 dl, .int .i64 dh, .int .i64 wl, .int .i64 wh, .int .i64 pil, .int .i64 boi, .slice fa fn fc]), (v2.heap.size, 23, [.int .i64 0, .int .i64 0])] from DK6.out.alloc 23 [.int .i64 0, .int .i64 0] rfl)
        generalize (v2.alloc (.cells #[.int .i64 0, .int .i64 0] 23)) = v3 at DK7 ⊢
        generalize v2.heap.size = gX at DK7 ⊢
        have HT := Lib.hid (show (fun w' => Blk w' gD 57 #[.int .i64 kind, .int .i64 day, .string code, .string other, .int .i64 al, .int .i64 ah, .int .i64 bl, .int .i64 bh] ∧ Blk w' gS 48 #[.string code, .int .i64 dl, .int .i64 dh, .int .i64 wl, .int .i64 wh, .int .i64 pil, .int .i64 boi, .slice fa fn fc]) v3 from ⟨(DK7.out.loc 0 _ _ _ rfl).1, (DK7.out.loc 1 _ _ _ rfl).1⟩)
        refine ⟨fun _ => HT.out, ?_⟩
        try simp only [List.setIfInBounds_toArray, List.set_cons_succ, List.set_cons_zero]
        refine till_only (j := 9) (by kernel_rfl) rfl ?_
        have HE := Lib.hid (show v3.there gX 0 2 from (DK7.out.loc 2 _ _ _ rfl).1.there (o := 0) (n := 2) (Nat.le_of_ble_eq_true rfl))
        have HO := Lib.hid (show (#[.int .i64 m1.lo, .int .i64 m1.hi] : Array Value).all (·.oneCell') = true from by simp [Value.oneCell'])
        refine wpList_store_mid rfl 23 (.tmp 5) (.tmp 18) rfl gX 0 #[.int .i64 m1.lo, .int .i64 m1.hi] rfl rfl HE.out size_bounds HO.out ?_
        change wpList _ _ _ _ _ (v3.setCells gX 0 [.int .i64 m1.lo, .int .i64 m1.hi])
        clear HE HO
        have DK8 := Lib.hid (show Desk w (v3.setCells gX 0 [.int .i64 m1.lo, .int .i64 m1.hi]) (fun _ => False) C B bef aft l c made N kv tv m [(gD, 57, [.int .i64 kind, .int .i64 day, .string code, .string other, .int .i64 al, .int .i64 ah, .int .i64 bl, .int .i64 bh]), (gS, 48, [.string code, .int .i64 dl, .int .i64 dh, .int .i64 wl, .int .i64 wh, .int .i64 pil, .int .i64 boi, .slice fa fn fc]), (gX, 23, [.int .i64 m1.lo, .int .i64 m1.hi])] from DK7.out.setLoc 2 [] [.int .i64 0, .int .i64 0] [] [.int .i64 m1.lo, .int .i64 m1.hi] rfl rfl (by decide))
        clear DK7
        generalize (v3.setCells gX 0 [.int .i64 m1.lo, .int .i64 m1.hi]) = v4 at DK8 ⊢
        change Till _ _ _ _ ∧ wpAnyT _ _ _ _ _ _ _ _ _ _
        refine ⟨fun h => by simp at h, ?_⟩
        try simp only [List.setIfInBounds_toArray, List.set_cons_succ, List.set_cons_zero]
        refine till_done (by kernel_rfl) ?_
        go_wp2_with fail
        go_meet
        case rel => exact ⟨_, rfl, DK8⟩
      · go_wp2_with fail
        have DK6 := Lib.hid (show Desk w (v1.alloc (.cells #[.int .i64 0, .int .i64 0] 23)) (fun _ => False) C B bef aft l c made N kv tv m [(gD, 57, [.int .i64 kind, .int .i64 day, .string code, .string other, .int .i64 al, .int .i64 ah, .int .i64 bl, .int .i64 bh]), (gS, 48, [.string code, .int .i64 dl, .int .i64 dh, .int .i64 wl, .int .i64 wh, .int .i64 pil, .int .i64 boi, .slice fa fn fc]), (v1.heap.size, 23, [.int .i64 0, .int .i64 0])] from DK5.out.alloc 23 [.int .i64 0, .int .i64 0] rfl)
        generalize (v1.alloc (.cells #[.int .i64 0, .int .i64 0] 23)) = v2 at DK6 ⊢
        generalize v1.heap.size = gX at DK6 ⊢
        have HT := Lib.hid (show (fun w' => Blk w' gD 57 #[.int .i64 kind, .int .i64 day, .string code, .string other, .int .i64 al, .int .i64 ah, .int .i64 bl, .int .i64 bh] ∧ Blk w' gS 48 #[.string code, .int .i64 dl, .int .i64 dh, .int .i64 wl, .int .i64 wh, .int .i64 pil, .int .i64 boi, .slice fa fn fc]) v2 from ⟨(DK6.out.loc 0 _ _ _ rfl).1, (DK6.out.loc 1 _ _ _ rfl).1⟩)
        refine ⟨fun _ => HT.out, ?_⟩
        try simp only [List.setIfInBounds_toArray, List.set_cons_succ, List.set_cons_zero]
        refine till_only (j := 7) (by kernel_rfl) rfl ?_
        go_wp2_with (go_at_call 82; refine (common_fit HFD.out HF1.out Em1.out _).mono ?_; rintro e v3 ⟨rfl, hb⟩; have DK7 := Lib.hid (DK6.out.below hb); clear hb)
        have HT := Lib.hid (show (fun w' => Blk w' gD 57 #[.int .i64 kind, .int .i64 day, .string code, .string other, .int .i64 al, .int .i64 ah, .int .i64 bl, .int .i64 bh] ∧ Blk w' gS 48 #[.string code, .int .i64 dl, .int .i64 dh, .int .i64 wl, .int .i64 wh, .int .i64 pil, .int .i64 boi, .slice fa fn fc]) v3 from ⟨(DK7.out.loc 0 _ _ _ rfl).1, (DK7.out.loc 1 _ _ _ rfl).1⟩)
        refine ⟨fun _ => HT.out, ?_⟩
        try simp only [List.setIfInBounds_toArray, List.set_cons_succ, List.set_cons_zero]
        refine till_only (j := 9) (by kernel_rfl) rfl ?_
        have HE := Lib.hid (show v3.there gX 0 2 from (DK7.out.loc 2 _ _ _ rfl).1.there (o := 0) (n := 2) (Nat.le_of_ble_eq_true rfl))
        have HO := Lib.hid (show (#[.int .i64 m1.lo, .int .i64 m1.hi] : Array Value).all (·.oneCell') = true from by simp [Value.oneCell'])
        refine wpList_store_mid rfl 23 (.tmp 5) (.tmp 18) rfl gX 0 #[.int .i64 m1.lo, .int .i64 m1.hi] rfl rfl HE.out size_bounds HO.out ?_
        change wpList _ _ _ _ _ (v3.setCells gX 0 [.int .i64 m1.lo, .int .i64 m1.hi])
        clear HE HO
        have DK8 := Lib.hid (show Desk w (v3.setCells gX 0 [.int .i64 m1.lo, .int .i64 m1.hi]) (fun _ => False) C B bef aft l c made N kv tv m [(gD, 57, [.int .i64 kind, .int .i64 day, .string code, .string other, .int .i64 al, .int .i64 ah, .int .i64 bl, .int .i64 bh]), (gS, 48, [.string code, .int .i64 dl, .int .i64 dh, .int .i64 wl, .int .i64 wh, .int .i64 pil, .int .i64 boi, .slice fa fn fc]), (gX, 23, [.int .i64 m1.lo, .int .i64 m1.hi])] from DK7.out.setLoc 2 [] [.int .i64 0, .int .i64 0] [] [.int .i64 m1.lo, .int .i64 m1.hi] rfl rfl (by decide))
        clear DK7
        generalize (v3.setCells gX 0 [.int .i64 m1.lo, .int .i64 m1.hi]) = v4 at DK8 ⊢
        change Till _ _ _ _ ∧ wpAnyT _ _ _ _ _ _ _ _ _ _
        refine ⟨fun h => by simp at h, ?_⟩
        try simp only [List.setIfInBounds_toArray, List.set_cons_succ, List.set_cons_zero]
        refine till_done (by kernel_rfl) ?_
        go_wp2_with fail
        go_meet
        case rel => exact ⟨_, rfl, DK8⟩
    · go_wp2_with fail
      have DK5 := Lib.hid (show Desk w (v0.alloc (.cells #[.int .i64 0, .int .i64 0] 23)) (fun _ => False) C B bef aft l c made N kv tv m [(gD, 57, [.int .i64 kind, .int .i64 day, .string code, .string other, .int .i64 al, .int .i64 ah, .int .i64 bl, .int .i64 bh]), (gS, 48, [.string code, .int .i64 dl, .int .i64 dh, .int .i64 wl, .int .i64 wh, .int .i64 pil, .int .i64 boi, .slice fa fn fc]), (v0.heap.size, 23, [.int .i64 0, .int .i64 0])] from DK4.out.alloc 23 [.int .i64 0, .int .i64 0] rfl)
      generalize (v0.alloc (.cells #[.int .i64 0, .int .i64 0] 23)) = v1 at DK5 ⊢
      generalize v0.heap.size = gX at DK5 ⊢
      have HT := Lib.hid (show (fun w' => Blk w' gD 57 #[.int .i64 kind, .int .i64 day, .string code, .string other, .int .i64 al, .int .i64 ah, .int .i64 bl, .int .i64 bh] ∧ Blk w' gS 48 #[.string code, .int .i64 dl, .int .i64 dh, .int .i64 wl, .int .i64 wh, .int .i64 pil, .int .i64 boi, .slice fa fn fc]) v1 from ⟨(DK5.out.loc 0 _ _ _ rfl).1, (DK5.out.loc 1 _ _ _ rfl).1⟩)
      refine ⟨fun _ => HT.out, ?_⟩
      try simp only [List.setIfInBounds_toArray, List.set_cons_succ, List.set_cons_zero]
      refine till_only (j := 6) (by kernel_rfl) rfl ?_
      go_wp2_with (go_at_call 77; refine (difference_up HUA.out (by decide) HUW.out HV8.out Ed1.out _).mono ?_; rintro e v2 ⟨rfl, hb⟩; have DK6 := Lib.hid (DK5.out.below hb); clear hb)
      have HT := Lib.hid (show (fun w' => Blk w' gD 57 #[.int .i64 kind, .int .i64 day, .string code, .string other, .int .i64 al, .int .i64 ah, .int .i64 bl, .int .i64 bh] ∧ Blk w' gS 48 #[.string code, .int .i64 dl, .int .i64 dh, .int .i64 wl, .int .i64 wh, .int .i64 pil, .int .i64 boi, .slice fa fn fc]) v2 from ⟨(DK6.out.loc 0 _ _ _ rfl).1, (DK6.out.loc 1 _ _ _ rfl).1⟩)
      refine ⟨fun _ => HT.out, ?_⟩
      try simp only [List.setIfInBounds_toArray, List.set_cons_succ, List.set_cons_zero]
      refine till_only (j := 7) (by kernel_rfl) rfl ?_
      go_wp2_with (go_at_call 82; refine (common_fit HFD.out HF1.out Em1.out _).mono ?_; rintro e v3 ⟨rfl, hb⟩; have DK7 := Lib.hid (DK6.out.below hb); clear hb)
      have HT := Lib.hid (show (fun w' => Blk w' gD 57 #[.int .i64 kind, .int .i64 day, .string code, .string other, .int .i64 al, .int .i64 ah, .int .i64 bl, .int .i64 bh] ∧ Blk w' gS 48 #[.string code, .int .i64 dl, .int .i64 dh, .int .i64 wl, .int .i64 wh, .int .i64 pil, .int .i64 boi, .slice fa fn fc]) v3 from ⟨(DK7.out.loc 0 _ _ _ rfl).1, (DK7.out.loc 1 _ _ _ rfl).1⟩)
      refine ⟨fun _ => HT.out, ?_⟩
      try simp only [List.setIfInBounds_toArray, List.set_cons_succ, List.set_cons_zero]
      refine till_only (j := 9) (by kernel_rfl) rfl ?_
      have HE := Lib.hid (show v3.there gX 0 2 from (DK7.out.loc 2 _ _ _ rfl).1.there (o := 0) (n := 2) (Nat.le_of_ble_eq_true rfl))
      have HO := Lib.hid (show (#[.int .i64 m1.lo, .int .i64 m1.hi] : Array Value).all (·.oneCell') = true from by simp [Value.oneCell'])
      refine wpList_store_mid rfl 23 (.tmp 5) (.tmp 18) rfl gX 0 #[.int .i64 m1.lo, .int .i64 m1.hi] rfl rfl HE.out size_bounds HO.out ?_
      change wpList _ _ _ _ _ (v3.setCells gX 0 [.int .i64 m1.lo, .int .i64 m1.hi])
      clear HE HO
      have DK8 := Lib.hid (show Desk w (v3.setCells gX 0 [.int .i64 m1.lo, .int .i64 m1.hi]) (fun _ => False) C B bef aft l c made N kv tv m [(gD, 57, [.int .i64 kind, .int .i64 day, .string code, .string other, .int .i64 al, .int .i64 ah, .int .i64 bl, .int .i64 bh]), (gS, 48, [.string code, .int .i64 dl, .int .i64 dh, .int .i64 wl, .int .i64 wh, .int .i64 pil, .int .i64 boi, .slice fa fn fc]), (gX, 23, [.int .i64 m1.lo, .int .i64 m1.hi])] from DK7.out.setLoc 2 [] [.int .i64 0, .int .i64 0] [] [.int .i64 m1.lo, .int .i64 m1.hi] rfl rfl (by decide))
      clear DK7
      generalize (v3.setCells gX 0 [.int .i64 m1.lo, .int .i64 m1.hi]) = v4 at DK8 ⊢
      change Till _ _ _ _ ∧ wpAnyT _ _ _ _ _ _ _ _ _ _
      refine ⟨fun h => by simp at h, ?_⟩
      try simp only [List.setIfInBounds_toArray, List.set_cons_succ, List.set_cons_zero]
      refine till_done (by kernel_rfl) ?_
      go_wp2_with fail
      go_meet
      case rel => exact ⟨_, rfl, DK8⟩
  case rest =>
    obtain ⟨gX, rfl, DK4⟩ := hcut
    obtain ⟨v8, hv8⟩ : ∃ v, v = wc := ⟨_, rfl⟩
    rw [← hv8] at DK4 ⊢
    clear hv8 DK3
    go_upto_region 3 with fail
    go_cut [6] from 19 to 26 (fun u wx => ∃ gY : Nat, u = .pointer (some ⟨gY, 0, none⟩) ∧ Hid (Desk w wx (fun _ => False) C B bef aft l c made N kv tv m [(gD, 57, [.int .i64 kind, .int .i64 day, .string code, .string other, .int .i64 al, .int .i64 ah, .int .i64 bl, .int .i64 bh]), (gS, 48, [.string code, .int .i64 dl, .int .i64 dh, .int .i64 wl, .int .i64 wh, .int .i64 pil, .int .i64 boi, .slice fa fn fc]), (gX, 23, [.int .i64 m1.lo, .int .i64 m1.hi]), (gY, 23, [.int .i64 m2.lo, .int .i64 m2.hi])]))
    case first =>
      have hmix : Try.prog.follows .mixedOrders = true := by kernel_rfl
      refine region_till [9] (fun w' => Blk w' gD 57 #[.int .i64 kind, .int .i64 day, .string code, .string other, .int .i64 al, .int .i64 ah, .int .i64 bl, .int .i64 bh] ∧ Blk w' gS 48 #[.string code, .int .i64 dl, .int .i64 dh, .int .i64 wl, .int .i64 wh, .int .i64 pil, .int .i64 boi, .slice fa fn fc]) 10 [false, false, false, false, false, false, false, false, false, false] hmix rfl rfl ?_
      have DK5 := Lib.hid (DK4.out.drew)
      clear DK4 hmix
      generalize v8.drew = v9 at DK5 ⊢
      have HT := Lib.hid (show (fun w' => Blk w' gD 57 #[.int .i64 kind, .int .i64 day, .string code, .string other, .int .i64 al, .int .i64 ah, .int .i64 bl, .int .i64 bh] ∧ Blk w' gS 48 #[.string code, .int .i64 dl, .int .i64 dh, .int .i64 wl, .int .i64 wh, .int .i64 pil, .int .i64 boi, .slice fa fn fc]) v9 from ⟨(DK5.out.loc 0 _ _ _ rfl).1, (DK5.out.loc 1 _ _ _ rfl).1⟩)
      refine till_pure (i := 0) (v := .pointer (some ⟨gS, 3, none⟩)) rfl rfl (by kernel_rfl) (fun _ _ _ h => h) (yields_of rfl (fun w' _ => by simp [go_sem])) (fun _ => HT.out) ?_
      simp only [List.setIfInBounds_toArray, List.set_cons_succ, List.set_cons_zero]
      refine till_load (i := 1) (v := .agg #[.int .i64 wl, .int .i64 wh]) rfl rfl (by kernel_rfl) (fun _ _ _ h => h) (yields_mid rfl 23 (.tmp 19) rfl (gS) 3 rfl [.int .i64 wl, .int .i64 wh] _ (fun w' hw' => Blk.range hw'.2 3 _ rfl) Try.underlying23 rfl (by kernel_rfl)) (fun _ => HT.out) ?_
      simp only [List.setIfInBounds_toArray, List.set_cons_succ, List.set_cons_zero]
      refine till_pure (i := 2) (v := .pointer (some ⟨gD, 4, none⟩)) rfl rfl (by kernel_rfl) (fun _ _ _ h => h) (yields_of rfl (fun w' _ => by simp [go_sem])) (fun _ => HT.out) ?_
      simp only [List.setIfInBounds_toArray, List.set_cons_succ, List.set_cons_zero]
      refine till_load (i := 3) (v := .agg #[.int .i64 al, .int .i64 ah]) rfl rfl (by kernel_rfl) (fun _ _ _ h => h) (yields_mid rfl 23 (.tmp 21) rfl (gD) 4 rfl [.int .i64 al, .int .i64 ah] _ (fun w' hw' => Blk.range hw'.1 4 _ rfl) Try.underlying23 rfl (by kernel_rfl)) (fun _ => HT.out) ?_
      simp only [List.setIfInBounds_toArray, List.set_cons_succ, List.set_cons_zero]
      refine till_pure (i := 4) (v := .pointer (some ⟨gS, 1, none⟩)) rfl rfl (by kernel_rfl) (fun _ _ _ h => h) (yields_of rfl (fun w' _ => by simp [go_sem])) (fun _ => HT.out) ?_
      simp only [List.setIfInBounds_toArray, List.set_cons_succ, List.set_cons_zero]
      refine till_load (i := 5) (v := .agg #[.int .i64 dl, .int .i64 dh]) rfl rfl (by kernel_rfl) (fun _ _ _ h => h) (yields_mid rfl 23 (.tmp 23) rfl (gS) 1 rfl [.int .i64 dl, .int .i64 dh] _ (fun w' hw' => Blk.range hw'.2 1 _ rfl) Try.underlying23 rfl (by kernel_rfl)) (fun _ => HT.out) ?_
      simp only [List.setIfInBounds_toArray, List.set_cons_succ, List.set_cons_zero]
      refine till_two (i := 6) (j := 8) (by kernel_rfl) rfl rfl ?_ ?_
      · go_wp2_with (go_at_call 77; refine (difference_up HUA.out (by decide) HUD.out HV8.out Ed2.out _).mono ?_; rintro e v10 ⟨rfl, hb⟩; have DK6 := Lib.hid (DK5.out.below hb); clear hb)
        have HT := Lib.hid (show (fun w' => Blk w' gD 57 #[.int .i64 kind, .int .i64 day, .string code, .string other, .int .i64 al, .int .i64 ah, .int .i64 bl, .int .i64 bh] ∧ Blk w' gS 48 #[.string code, .int .i64 dl, .int .i64 dh, .int .i64 wl, .int .i64 wh, .int .i64 pil, .int .i64 boi, .slice fa fn fc]) v10 from ⟨(DK6.out.loc 0 _ _ _ rfl).1, (DK6.out.loc 1 _ _ _ rfl).1⟩)
        refine ⟨fun _ => HT.out, ?_⟩
        try simp only [List.setIfInBounds_toArray, List.set_cons_succ, List.set_cons_zero]
        refine till_two (i := 7) (j := 8) (by kernel_rfl) rfl rfl ?_ ?_
        · go_wp2_with (go_at_call 82; refine (common_fit HFW.out HF2.out Em2.out _).mono ?_; rintro e v11 ⟨rfl, hb⟩; have DK7 := Lib.hid (DK6.out.below hb); clear hb)
          have HT := Lib.hid (show (fun w' => Blk w' gD 57 #[.int .i64 kind, .int .i64 day, .string code, .string other, .int .i64 al, .int .i64 ah, .int .i64 bl, .int .i64 bh] ∧ Blk w' gS 48 #[.string code, .int .i64 dl, .int .i64 dh, .int .i64 wl, .int .i64 wh, .int .i64 pil, .int .i64 boi, .slice fa fn fc]) v11 from ⟨(DK7.out.loc 0 _ _ _ rfl).1, (DK7.out.loc 1 _ _ _ rfl).1⟩)
          refine ⟨fun _ => HT.out, ?_⟩
          try simp only [List.setIfInBounds_toArray, List.set_cons_succ, List.set_cons_zero]
          refine till_only (j := 8) (by kernel_rfl) rfl ?_
          go_wp2_with fail
          have DK8 := Lib.hid (show Desk w (v11.alloc (.cells #[.int .i64 0, .int .i64 0] 23)) (fun _ => False) C B bef aft l c made N kv tv m [(gD, 57, [.int .i64 kind, .int .i64 day, .string code, .string other, .int .i64 al, .int .i64 ah, .int .i64 bl, .int .i64 bh]), (gS, 48, [.string code, .int .i64 dl, .int .i64 dh, .int .i64 wl, .int .i64 wh, .int .i64 pil, .int .i64 boi, .slice fa fn fc]), (gX, 23, [.int .i64 m1.lo, .int .i64 m1.hi]), (v11.heap.size, 23, [.int .i64 0, .int .i64 0])] from DK7.out.alloc 23 [.int .i64 0, .int .i64 0] rfl)
          generalize (v11.alloc (.cells #[.int .i64 0, .int .i64 0] 23)) = v12 at DK8 ⊢
          generalize v11.heap.size = gY at DK8 ⊢
          have HT := Lib.hid (show (fun w' => Blk w' gD 57 #[.int .i64 kind, .int .i64 day, .string code, .string other, .int .i64 al, .int .i64 ah, .int .i64 bl, .int .i64 bh] ∧ Blk w' gS 48 #[.string code, .int .i64 dl, .int .i64 dh, .int .i64 wl, .int .i64 wh, .int .i64 pil, .int .i64 boi, .slice fa fn fc]) v12 from ⟨(DK8.out.loc 0 _ _ _ rfl).1, (DK8.out.loc 1 _ _ _ rfl).1⟩)
          refine ⟨fun _ => HT.out, ?_⟩
          try simp only [List.setIfInBounds_toArray, List.set_cons_succ, List.set_cons_zero]
          refine till_only (j := 9) (by kernel_rfl) rfl ?_
          have HE := Lib.hid (show v12.there gY 0 2 from (DK8.out.loc 3 _ _ _ rfl).1.there (o := 0) (n := 2) (Nat.le_of_ble_eq_true rfl))
          have HO := Lib.hid (show (#[.int .i64 m2.lo, .int .i64 m2.hi] : Array Value).all (·.oneCell') = true from by simp [Value.oneCell'])
          refine wpList_store_mid rfl 23 (.tmp 6) (.tmp 26) rfl gY 0 #[.int .i64 m2.lo, .int .i64 m2.hi] rfl rfl HE.out size_bounds HO.out ?_
          change wpList _ _ _ _ _ (v12.setCells gY 0 [.int .i64 m2.lo, .int .i64 m2.hi])
          clear HE HO
          have DK9 := Lib.hid (show Desk w (v12.setCells gY 0 [.int .i64 m2.lo, .int .i64 m2.hi]) (fun _ => False) C B bef aft l c made N kv tv m [(gD, 57, [.int .i64 kind, .int .i64 day, .string code, .string other, .int .i64 al, .int .i64 ah, .int .i64 bl, .int .i64 bh]), (gS, 48, [.string code, .int .i64 dl, .int .i64 dh, .int .i64 wl, .int .i64 wh, .int .i64 pil, .int .i64 boi, .slice fa fn fc]), (gX, 23, [.int .i64 m1.lo, .int .i64 m1.hi]), (gY, 23, [.int .i64 m2.lo, .int .i64 m2.hi])] from DK8.out.setLoc 3 [] [.int .i64 0, .int .i64 0] [] [.int .i64 m2.lo, .int .i64 m2.hi] rfl rfl (by decide))
          clear DK8
          generalize (v12.setCells gY 0 [.int .i64 m2.lo, .int .i64 m2.hi]) = v13 at DK9 ⊢
          change Till _ _ _ _ ∧ wpAnyT _ _ _ _ _ _ _ _ _ _
          refine ⟨fun h => by simp at h, ?_⟩
          try simp only [List.setIfInBounds_toArray, List.set_cons_succ, List.set_cons_zero]
          refine till_done (by kernel_rfl) ?_
          go_wp2_with fail
          go_meet
          case rel => exact ⟨_, rfl, DK9⟩
        · go_wp2_with fail
          have DK7 := Lib.hid (show Desk w (v10.alloc (.cells #[.int .i64 0, .int .i64 0] 23)) (fun _ => False) C B bef aft l c made N kv tv m [(gD, 57, [.int .i64 kind, .int .i64 day, .string code, .string other, .int .i64 al, .int .i64 ah, .int .i64 bl, .int .i64 bh]), (gS, 48, [.string code, .int .i64 dl, .int .i64 dh, .int .i64 wl, .int .i64 wh, .int .i64 pil, .int .i64 boi, .slice fa fn fc]), (gX, 23, [.int .i64 m1.lo, .int .i64 m1.hi]), (v10.heap.size, 23, [.int .i64 0, .int .i64 0])] from DK6.out.alloc 23 [.int .i64 0, .int .i64 0] rfl)
          generalize (v10.alloc (.cells #[.int .i64 0, .int .i64 0] 23)) = v11 at DK7 ⊢
          generalize v10.heap.size = gY at DK7 ⊢
          have HT := Lib.hid (show (fun w' => Blk w' gD 57 #[.int .i64 kind, .int .i64 day, .string code, .string other, .int .i64 al, .int .i64 ah, .int .i64 bl, .int .i64 bh] ∧ Blk w' gS 48 #[.string code, .int .i64 dl, .int .i64 dh, .int .i64 wl, .int .i64 wh, .int .i64 pil, .int .i64 boi, .slice fa fn fc]) v11 from ⟨(DK7.out.loc 0 _ _ _ rfl).1, (DK7.out.loc 1 _ _ _ rfl).1⟩)
          refine ⟨fun _ => HT.out, ?_⟩
          try simp only [List.setIfInBounds_toArray, List.set_cons_succ, List.set_cons_zero]
          refine till_only (j := 7) (by kernel_rfl) rfl ?_
          go_wp2_with (go_at_call 82; refine (common_fit HFW.out HF2.out Em2.out _).mono ?_; rintro e v12 ⟨rfl, hb⟩; have DK8 := Lib.hid (DK7.out.below hb); clear hb)
          have HT := Lib.hid (show (fun w' => Blk w' gD 57 #[.int .i64 kind, .int .i64 day, .string code, .string other, .int .i64 al, .int .i64 ah, .int .i64 bl, .int .i64 bh] ∧ Blk w' gS 48 #[.string code, .int .i64 dl, .int .i64 dh, .int .i64 wl, .int .i64 wh, .int .i64 pil, .int .i64 boi, .slice fa fn fc]) v12 from ⟨(DK8.out.loc 0 _ _ _ rfl).1, (DK8.out.loc 1 _ _ _ rfl).1⟩)
          refine ⟨fun _ => HT.out, ?_⟩
          try simp only [List.setIfInBounds_toArray, List.set_cons_succ, List.set_cons_zero]
          refine till_only (j := 9) (by kernel_rfl) rfl ?_
          have HE := Lib.hid (show v12.there gY 0 2 from (DK8.out.loc 3 _ _ _ rfl).1.there (o := 0) (n := 2) (Nat.le_of_ble_eq_true rfl))
          have HO := Lib.hid (show (#[.int .i64 m2.lo, .int .i64 m2.hi] : Array Value).all (·.oneCell') = true from by simp [Value.oneCell'])
          refine wpList_store_mid rfl 23 (.tmp 6) (.tmp 26) rfl gY 0 #[.int .i64 m2.lo, .int .i64 m2.hi] rfl rfl HE.out size_bounds HO.out ?_
          change wpList _ _ _ _ _ (v12.setCells gY 0 [.int .i64 m2.lo, .int .i64 m2.hi])
          clear HE HO
          have DK9 := Lib.hid (show Desk w (v12.setCells gY 0 [.int .i64 m2.lo, .int .i64 m2.hi]) (fun _ => False) C B bef aft l c made N kv tv m [(gD, 57, [.int .i64 kind, .int .i64 day, .string code, .string other, .int .i64 al, .int .i64 ah, .int .i64 bl, .int .i64 bh]), (gS, 48, [.string code, .int .i64 dl, .int .i64 dh, .int .i64 wl, .int .i64 wh, .int .i64 pil, .int .i64 boi, .slice fa fn fc]), (gX, 23, [.int .i64 m1.lo, .int .i64 m1.hi]), (gY, 23, [.int .i64 m2.lo, .int .i64 m2.hi])] from DK8.out.setLoc 3 [] [.int .i64 0, .int .i64 0] [] [.int .i64 m2.lo, .int .i64 m2.hi] rfl rfl (by decide))
          clear DK8
          generalize (v12.setCells gY 0 [.int .i64 m2.lo, .int .i64 m2.hi]) = v13 at DK9 ⊢
          change Till _ _ _ _ ∧ wpAnyT _ _ _ _ _ _ _ _ _ _
          refine ⟨fun h => by simp at h, ?_⟩
          try simp only [List.setIfInBounds_toArray, List.set_cons_succ, List.set_cons_zero]
          refine till_done (by kernel_rfl) ?_
          go_wp2_with fail
          go_meet
          case rel => exact ⟨_, rfl, DK9⟩
      · go_wp2_with fail
        have DK6 := Lib.hid (show Desk w (v9.alloc (.cells #[.int .i64 0, .int .i64 0] 23)) (fun _ => False) C B bef aft l c made N kv tv m [(gD, 57, [.int .i64 kind, .int .i64 day, .string code, .string other, .int .i64 al, .int .i64 ah, .int .i64 bl, .int .i64 bh]), (gS, 48, [.string code, .int .i64 dl, .int .i64 dh, .int .i64 wl, .int .i64 wh, .int .i64 pil, .int .i64 boi, .slice fa fn fc]), (gX, 23, [.int .i64 m1.lo, .int .i64 m1.hi]), (v9.heap.size, 23, [.int .i64 0, .int .i64 0])] from DK5.out.alloc 23 [.int .i64 0, .int .i64 0] rfl)
        generalize (v9.alloc (.cells #[.int .i64 0, .int .i64 0] 23)) = v10 at DK6 ⊢
        generalize v9.heap.size = gY at DK6 ⊢
        have HT := Lib.hid (show (fun w' => Blk w' gD 57 #[.int .i64 kind, .int .i64 day, .string code, .string other, .int .i64 al, .int .i64 ah, .int .i64 bl, .int .i64 bh] ∧ Blk w' gS 48 #[.string code, .int .i64 dl, .int .i64 dh, .int .i64 wl, .int .i64 wh, .int .i64 pil, .int .i64 boi, .slice fa fn fc]) v10 from ⟨(DK6.out.loc 0 _ _ _ rfl).1, (DK6.out.loc 1 _ _ _ rfl).1⟩)
        refine ⟨fun _ => HT.out, ?_⟩
        try simp only [List.setIfInBounds_toArray, List.set_cons_succ, List.set_cons_zero]
        refine till_only (j := 6) (by kernel_rfl) rfl ?_
        go_wp2_with (go_at_call 77; refine (difference_up HUA.out (by decide) HUD.out HV8.out Ed2.out _).mono ?_; rintro e v11 ⟨rfl, hb⟩; have DK7 := Lib.hid (DK6.out.below hb); clear hb)
        have HT := Lib.hid (show (fun w' => Blk w' gD 57 #[.int .i64 kind, .int .i64 day, .string code, .string other, .int .i64 al, .int .i64 ah, .int .i64 bl, .int .i64 bh] ∧ Blk w' gS 48 #[.string code, .int .i64 dl, .int .i64 dh, .int .i64 wl, .int .i64 wh, .int .i64 pil, .int .i64 boi, .slice fa fn fc]) v11 from ⟨(DK7.out.loc 0 _ _ _ rfl).1, (DK7.out.loc 1 _ _ _ rfl).1⟩)
        refine ⟨fun _ => HT.out, ?_⟩
        try simp only [List.setIfInBounds_toArray, List.set_cons_succ, List.set_cons_zero]
        refine till_only (j := 7) (by kernel_rfl) rfl ?_
        go_wp2_with (go_at_call 82; refine (common_fit HFW.out HF2.out Em2.out _).mono ?_; rintro e v12 ⟨rfl, hb⟩; have DK8 := Lib.hid (DK7.out.below hb); clear hb)
        have HT := Lib.hid (show (fun w' => Blk w' gD 57 #[.int .i64 kind, .int .i64 day, .string code, .string other, .int .i64 al, .int .i64 ah, .int .i64 bl, .int .i64 bh] ∧ Blk w' gS 48 #[.string code, .int .i64 dl, .int .i64 dh, .int .i64 wl, .int .i64 wh, .int .i64 pil, .int .i64 boi, .slice fa fn fc]) v12 from ⟨(DK8.out.loc 0 _ _ _ rfl).1, (DK8.out.loc 1 _ _ _ rfl).1⟩)
        refine ⟨fun _ => HT.out, ?_⟩
        try simp only [List.setIfInBounds_toArray, List.set_cons_succ, List.set_cons_zero]
        refine till_only (j := 9) (by kernel_rfl) rfl ?_
        have HE := Lib.hid (show v12.there gY 0 2 from (DK8.out.loc 3 _ _ _ rfl).1.there (o := 0) (n := 2) (Nat.le_of_ble_eq_true rfl))
        have HO := Lib.hid (show (#[.int .i64 m2.lo, .int .i64 m2.hi] : Array Value).all (·.oneCell') = true from by simp [Value.oneCell'])
        refine wpList_store_mid rfl 23 (.tmp 6) (.tmp 26) rfl gY 0 #[.int .i64 m2.lo, .int .i64 m2.hi] rfl rfl HE.out size_bounds HO.out ?_
        change wpList _ _ _ _ _ (v12.setCells gY 0 [.int .i64 m2.lo, .int .i64 m2.hi])
        clear HE HO
        have DK9 := Lib.hid (show Desk w (v12.setCells gY 0 [.int .i64 m2.lo, .int .i64 m2.hi]) (fun _ => False) C B bef aft l c made N kv tv m [(gD, 57, [.int .i64 kind, .int .i64 day, .string code, .string other, .int .i64 al, .int .i64 ah, .int .i64 bl, .int .i64 bh]), (gS, 48, [.string code, .int .i64 dl, .int .i64 dh, .int .i64 wl, .int .i64 wh, .int .i64 pil, .int .i64 boi, .slice fa fn fc]), (gX, 23, [.int .i64 m1.lo, .int .i64 m1.hi]), (gY, 23, [.int .i64 m2.lo, .int .i64 m2.hi])] from DK8.out.setLoc 3 [] [.int .i64 0, .int .i64 0] [] [.int .i64 m2.lo, .int .i64 m2.hi] rfl rfl (by decide))
        clear DK8
        generalize (v12.setCells gY 0 [.int .i64 m2.lo, .int .i64 m2.hi]) = v13 at DK9 ⊢
        change Till _ _ _ _ ∧ wpAnyT _ _ _ _ _ _ _ _ _ _
        refine ⟨fun h => by simp at h, ?_⟩
        try simp only [List.setIfInBounds_toArray, List.set_cons_succ, List.set_cons_zero]
        refine till_done (by kernel_rfl) ?_
        go_wp2_with fail
        go_meet
        case rel => exact ⟨_, rfl, DK9⟩
    case rest =>
      obtain ⟨gY, rfl, DK5⟩ := hcut
      have x0 := (show wc.cell? ⟨gX, 0, none⟩ = some (.int .i64 m1.lo) from DK5.out.at 2 0 rfl rfl)
      have x1 := (show wc.cell? ⟨gX, 1, none⟩ = some (.int .i64 m1.hi) from DK5.out.at 2 1 rfl rfl)
      have y0 := (show wc.cell? ⟨gY, 0, none⟩ = some (.int .i64 m2.lo) from DK5.out.at 3 0 rfl rfl)
      have y1 := (show wc.cell? ⟨gY, 1, none⟩ = some (.int .i64 m2.hi) from DK5.out.at 3 1 rfl rfl)
      go_upto_region 5 with (go_at_call 75; refine (need_true _ _).mono ?_; rintro e w2 ⟨rfl, rfl⟩)
      clear x0 x1 y0 y1
      have hmix : Try.prog.follows .mixedOrders = true := by kernel_rfl
      refine region_till [5] (fun w' => Blk w' gX 23 #[.int .i64 m1.lo, .int .i64 m1.hi] ∧ Blk w' gY 23 #[.int .i64 m2.lo, .int .i64 m2.hi]) 6 [false, false, false, false, false, false] hmix rfl rfl ?_
      have DK6 := Lib.hid (DK5.out.drew)
      clear DK5 hmix
      generalize wc.drew = v9 at DK6 ⊢
      have HT := Lib.hid (show (fun w' => Blk w' gX 23 #[.int .i64 m1.lo, .int .i64 m1.hi] ∧ Blk w' gY 23 #[.int .i64 m2.lo, .int .i64 m2.hi]) v9 from ⟨(DK6.out.loc 2 _ _ _ rfl).1, (DK6.out.loc 3 _ _ _ rfl).1⟩)
      refine till_load (i := 0) (v := .agg #[.int .i64 m1.lo, .int .i64 m1.hi]) rfl rfl (by kernel_rfl) (fun _ _ _ h => h) (yields_mid rfl 23 (.tmp 5) rfl (gX) 0 rfl [.int .i64 m1.lo, .int .i64 m1.hi] _ (fun w' hw' => Blk.range hw'.1 0 _ rfl) Try.underlying23 rfl (by kernel_rfl)) (fun _ => HT.out) ?_
      simp only [List.setIfInBounds_toArray, List.set_cons_succ, List.set_cons_zero]
      refine till_load (i := 1) (v := .agg #[.int .i64 m2.lo, .int .i64 m2.hi]) rfl rfl (by kernel_rfl) (fun _ _ _ h => h) (yields_mid rfl 23 (.tmp 6) rfl (gY) 0 rfl [.int .i64 m2.lo, .int .i64 m2.hi] _ (fun w' hw' => Blk.range hw'.2 0 _ rfl) Try.underlying23 rfl (by kernel_rfl)) (fun _ => HT.out) ?_
      simp only [List.setIfInBounds_toArray, List.set_cons_succ, List.set_cons_zero]
      refine till_pure (i := 2) (v := .pointer (some ⟨gS, 1, none⟩)) rfl rfl (by kernel_rfl) (fun _ _ _ h => h) (yields_of rfl (fun w' _ => by simp [go_sem])) (fun _ => HT.out) ?_
      simp only [List.setIfInBounds_toArray, List.set_cons_succ, List.set_cons_zero]
      refine till_only (j := 3) (by kernel_rfl) rfl ?_
      have HE := Lib.hid (show v9.there gS 1 2 from (DK6.out.loc 1 _ _ _ rfl).1.there (o := 1) (n := 2) (Nat.le_of_ble_eq_true rfl))
      have HO := Lib.hid (show (#[.int .i64 m1.lo, .int .i64 m1.hi] : Array Value).all (·.oneCell') = true from by simp [Value.oneCell'])
      refine wpList_store_mid rfl 23 (.tmp 42) (.tmp 40) rfl gS 1 #[.int .i64 m1.lo, .int .i64 m1.hi] rfl rfl HE.out size_bounds HO.out ?_
      change wpList _ _ _ _ _ (v9.setCells gS 1 [.int .i64 m1.lo, .int .i64 m1.hi])
      clear HE HO
      have DK7 := Lib.hid (show Desk w (v9.setCells gS 1 [.int .i64 m1.lo, .int .i64 m1.hi]) (fun _ => False) C B bef aft l c made N kv tv m [(gD, 57, [.int .i64 kind, .int .i64 day, .string code, .string other, .int .i64 al, .int .i64 ah, .int .i64 bl, .int .i64 bh]), (gS, 48, [.string code, .int .i64 m1.lo, .int .i64 m1.hi, .int .i64 wl, .int .i64 wh, .int .i64 pil, .int .i64 boi, .slice fa fn fc]), (gX, 23, [.int .i64 m1.lo, .int .i64 m1.hi]), (gY, 23, [.int .i64 m2.lo, .int .i64 m2.hi])] from DK6.out.setLoc 1 [.string code] [.int .i64 dl, .int .i64 dh] [.int .i64 wl, .int .i64 wh, .int .i64 pil, .int .i64 boi, .slice fa fn fc] [.int .i64 m1.lo, .int .i64 m1.hi] rfl rfl (by decide))
      clear DK6
      generalize (v9.setCells gS 1 [.int .i64 m1.lo, .int .i64 m1.hi]) = v10 at DK7 ⊢
      change Till _ _ _ _ ∧ wpAnyT _ _ _ _ _ _ _ _ _ _
      have HT := Lib.hid (show (fun w' => Blk w' gX 23 #[.int .i64 m1.lo, .int .i64 m1.hi] ∧ Blk w' gY 23 #[.int .i64 m2.lo, .int .i64 m2.hi]) v10 from ⟨(DK7.out.loc 2 _ _ _ rfl).1, (DK7.out.loc 3 _ _ _ rfl).1⟩)
      refine ⟨fun _ => HT.out, ?_⟩
      try simp only [List.setIfInBounds_toArray, List.set_cons_succ, List.set_cons_zero]
      refine till_pure (i := 4) (v := .pointer (some ⟨gS, 3, none⟩)) rfl rfl (by kernel_rfl) (fun _ _ _ h => h) (yields_of rfl (fun w' _ => by simp [go_sem])) (fun _ => HT.out) ?_
      simp only [List.setIfInBounds_toArray, List.set_cons_succ, List.set_cons_zero]
      refine till_only (j := 5) (by kernel_rfl) rfl ?_
      have HE := Lib.hid (show v10.there gS 3 2 from (DK7.out.loc 1 _ _ _ rfl).1.there (o := 3) (n := 2) (Nat.le_of_ble_eq_true rfl))
      have HO := Lib.hid (show (#[.int .i64 m2.lo, .int .i64 m2.hi] : Array Value).all (·.oneCell') = true from by simp [Value.oneCell'])
      refine wpList_store_mid rfl 23 (.tmp 43) (.tmp 41) rfl gS 3 #[.int .i64 m2.lo, .int .i64 m2.hi] rfl rfl HE.out size_bounds HO.out ?_
      change wpList _ _ _ _ _ (v10.setCells gS 3 [.int .i64 m2.lo, .int .i64 m2.hi])
      clear HE HO
      have DK8 := Lib.hid (show Desk w (v10.setCells gS 3 [.int .i64 m2.lo, .int .i64 m2.hi]) (fun _ => False) C B bef aft l c made N kv tv m [(gD, 57, [.int .i64 kind, .int .i64 day, .string code, .string other, .int .i64 al, .int .i64 ah, .int .i64 bl, .int .i64 bh]), (gS, 48, [.string code, .int .i64 m1.lo, .int .i64 m1.hi, .int .i64 m2.lo, .int .i64 m2.hi, .int .i64 pil, .int .i64 boi, .slice fa fn fc]), (gX, 23, [.int .i64 m1.lo, .int .i64 m1.hi]), (gY, 23, [.int .i64 m2.lo, .int .i64 m2.hi])] from DK7.out.setLoc 1 [.string code, .int .i64 m1.lo, .int .i64 m1.hi] [.int .i64 wl, .int .i64 wh] [.int .i64 pil, .int .i64 boi, .slice fa fn fc] [.int .i64 m2.lo, .int .i64 m2.hi] rfl rfl (by decide))
      clear DK7
      generalize (v10.setCells gS 3 [.int .i64 m2.lo, .int .i64 m2.hi]) = v11 at DK8 ⊢
      change Till _ _ _ _ ∧ wpAnyT _ _ _ _ _ _ _ _ _ _
      refine ⟨fun h => by simp at h, ?_⟩
      try simp only [List.setIfInBounds_toArray, List.set_cons_succ, List.set_cons_zero]
      refine till_done (by kernel_rfl) ?_
      have s0 := (show v11.cell? ⟨gS, 0, none⟩ = some (.string code) from DK8.out.at 1 0 rfl rfl)
      have s1 := (show v11.cell? ⟨gS, 1, none⟩ = some (.int .i64 m1.lo) from DK8.out.at 1 1 rfl rfl)
      have s2 := (show v11.cell? ⟨gS, 2, none⟩ = some (.int .i64 m1.hi) from DK8.out.at 1 2 rfl rfl)
      have s3 := (show v11.cell? ⟨gS, 3, none⟩ = some (.int .i64 m2.lo) from DK8.out.at 1 3 rfl rfl)
      have s4 := (show v11.cell? ⟨gS, 4, none⟩ = some (.int .i64 m2.hi) from DK8.out.at 1 4 rfl rfl)
      have s5 := (show v11.cell? ⟨gS, 5, none⟩ = some (.int .i64 pil) from DK8.out.at 1 5 rfl rfl)
      have s6 := (show v11.cell? ⟨gS, 6, none⟩ = some (.int .i64 boi) from DK8.out.at 1 6 rfl rfl)
      have s7 := (show v11.cell? ⟨gS, 7, none⟩ = some (.slice fa fn fc) from DK8.out.at 1 7 rfl rfl)
      go_wp2_with (go_at_call 70; refine (keep_old DK8.out.book ⟨code, m1, m2, pil, boi, src⟩ fa fn fc HP.out HK.out rfl (row_same (DK8.out.book.froms _ (List.mem_of_getElem? HP.out)) (fun _ _ => rfl)) (DK8.out.book.fromsLen _ (List.mem_of_getElem? HP.out))).mono ?_; rintro e w9 ⟨rfl, hb9, hk9⟩; have HB9 := Lib.hid ((DK8.out.beside.mono (C1 := C) (fun _ f => f.elim)).trans hb9 (fun k hk => .inl hk)); have HK9 := Lib.hid hk9; clear hb9 hk9)
      go_end0
      have zd1 := Ed1.out; have zm1 := Em1.out; have zd2 := Ed2.out; have zm2 := Em2.out
      subst zm2 zd2 zm1 zd1
      exact ⟨rfl, HB9.out, HK9.out⟩

set_option maxRecDepth 100000 in
set_option maxHeartbeats 1000000 in
theorem weigh_scale1 {w : World} {C : Nat → Prop} {B : Nat} {bef aft : Int} {l : List SRow} {c : Yd.Acc} {made : Int} {N : Nat} {kv tv : Value} {m : Nat} (h : Book w C B bef aft l c made N kv tv m)
    (kind day : Int) (code other : Code) (al ah bl bh : Int) (hs : code.size ≤ maxLen) (hC : ∀ k, C k → k < w.heap.size) (dl dh wl wh pil boi : Int) (src : List Int) (fa : Option Addr) (fn fc : Nat) (V : Int) (hV : V ≤ 2000000000000000) {k : Nat} (hk : ixOf l code = some k) (hp : l[k]? = some (⟨code, ⟨dl, dh⟩, ⟨wl, wh⟩, pil, boi, src⟩, .slice fa fn fc)) (ud : Bd.Up ⟨dl, dh⟩ V) (uw : Bd.Up ⟨wl, wh⟩ V) (ua : Bd.Up ⟨al, ah⟩ 100000000) (h1 : ¬ (Bd.weighed ⟨dl, dh⟩ ⟨wl, wh⟩ ⟨al, ah⟩).lo ≤ (Bd.weighed ⟨dl, dh⟩ ⟨wl, wh⟩ ⟨al, ah⟩).hi) :
    Calls Try.prog 67 #[.pointer (some ⟨B, 0, none⟩), .agg #[.int .i64 kind, .int .i64 day, .string code, .string other, .int .i64 al, .int .i64 ah, .int .i64 bl, .int .i64 bh]] w fun e w' => e = .panicked (faulty 5) ∧ Below w.heap.size w w' := by
  have HUD := Lib.hid ud; have HUW := Lib.hid uw; have HUA := Lib.hid ua
  have HV8 := Lib.hid (show V ≤ 8000000000000000 from Int.le_trans hV (by decide))
  have HF1 := Lib.hid (sub_fit ua (by decide) uw HV8.out); have HF2 := Lib.hid (sub_fit ua (by decide) ud HV8.out)
  have HFD := Lib.hid (fit_of_up ud (show V ≤ 4000000000000000000 from Int.le_trans hV (by decide))); have HFW := Lib.hid (fit_of_up uw (show V ≤ 4000000000000000000 from Int.le_trans hV (by decide)))
  clear ud uw ua
  obtain ⟨d1, hd1⟩ : ∃ b : Bd, b = Bd.sub ⟨al, ah⟩ ⟨wl, wh⟩ := ⟨_, rfl⟩
  have Ed1 := Lib.hid hd1; clear hd1
  obtain ⟨m1, hm1⟩ : ∃ b : Bd, b = Bd.meet ⟨dl, dh⟩ d1 := ⟨_, rfl⟩
  have Em1 := Lib.hid hm1; clear hm1
  obtain ⟨d2, hd2⟩ : ∃ b : Bd, b = Bd.sub ⟨al, ah⟩ ⟨dl, dh⟩ := ⟨_, rfl⟩
  have Ed2 := Lib.hid hd2; clear hd2
  obtain ⟨m2, hm2⟩ : ∃ b : Bd, b = Bd.meet ⟨wl, wh⟩ d2 := ⟨_, rfl⟩
  have Em2 := Lib.hid hm2; clear hm2
  rw [← Ed1.out] at HF1
  rw [← Ed2.out] at HF2
  have b1 : decide (m1.lo ≤ m1.hi) = false := by rw [Em1.out, Ed1.out]; exact decide_eq_false h1
  clear h1
  have DK1 := Lib.hid (boxed_deed h hC [.int .i64 kind, .int .i64 day, .string code, .string other, .int .i64 al, .int .i64 ah, .int .i64 bl, .int .i64 bh])
  have hz1 : (w.alloc (.cells #[.int .i64 kind, .int .i64 day, .string code, .string other, .int .i64 al, .int .i64 ah, .int .i64 bl, .int .i64 bh] 57)).heap.size = w.heap.size + 1 := World.size_alloc _ _
  have HO0 := Lib.hid (show (#[.string code, .int .i64 dl, .int .i64 dh, .int .i64 wl, .int .i64 wh, .int .i64 pil, .int .i64 boi, .slice fa fn fc] : Array Value).all (·.oneCell') = true from by simp [Value.oneCell'])
  have HS := Lib.hid hs; have HK := Lib.hid hk; have HP := Lib.hid hp; have HC := Lib.hid hC
  clear h hs hk hp hC
  go_enter Try.func67, Try.ntmps67
  go_upto_region 2 with (first
    | (go_at_call 71; refine (stack_yes DK1.out.book code HS.out HK.out HP.out).mono ?_; rintro e w1 ⟨rfl, hb1⟩; have DK2 := Lib.hid ((DK1.out.below hb1).alloc 48 [.string ⟨#[]⟩, .int .i64 0, .int .i64 0, .int .i64 0, .int .i64 0, .int .i64 0, .int .i64 0, .slice none 0 0] rfl); clear hb1)
    | ((with_reducible refine at_store 48 (.tmp 4) (.tmp 10) ?_); go_must (refine wpList_store_mid rfl 48 (.tmp 4) (.tmp 10) rfl w1.heap.size 0 #[.string code, .int .i64 dl, .int .i64 dh, .int .i64 wl, .int .i64 wh, .int .i64 pil, .int .i64 boi, .slice fa fn fc] rfl rfl ((DK2.out.loc 1 _ _ _ rfl).1.there (o := 0) (n := 8) (Nat.le_of_ble_eq_true rfl)) size_stack HO0.out ?_)))
  have hgS := (DK2.out.far 1 rfl).1
  have DK3 := Lib.hid (show Desk w ((w1.alloc (.cells #[.string ⟨#[]⟩, .int .i64 0, .int .i64 0, .int .i64 0, .int .i64 0, .int .i64 0, .int .i64 0, .slice none 0 0] 48)).setCells w1.heap.size 0 [.string code, .int .i64 dl, .int .i64 dh, .int .i64 wl, .int .i64 wh, .int .i64 pil, .int .i64 boi, .slice fa fn fc]) (fun _ => False) C B bef aft l c made N kv tv m [(w.heap.size, 57, [.int .i64 kind, .int .i64 day, .string code, .string other, .int .i64 al, .int .i64 ah, .int .i64 bl, .int .i64 bh]), (w1.heap.size, 48, [.string code, .int .i64 dl, .int .i64 dh, .int .i64 wl, .int .i64 wh, .int .i64 pil, .int .i64 boi, .slice fa fn fc])] from DK2.out.setLoc 1 [] [.string ⟨#[]⟩, .int .i64 0, .int .i64 0, .int .i64 0, .int .i64 0, .int .i64 0, .int .i64 0, .slice none 0 0] [] [.string code, .int .i64 dl, .int .i64 dh, .int .i64 wl, .int .i64 wh, .int .i64 pil, .int .i64 boi, .slice fa fn fc] rfl rfl (by decide))
  clear DK2
  generalize ((w1.alloc (.cells #[.string ⟨#[]⟩, .int .i64 0, .int .i64 0, .int .i64 0, .int .i64 0, .int .i64 0, .int .i64 0, .slice none 0 0] 48)).setCells w1.heap.size 0 [.string code, .int .i64 dl, .int .i64 dh, .int .i64 wl, .int .i64 wh, .int .i64 pil, .int .i64 boi, .slice fa fn fc]) = W3 at DK3 ⊢
  obtain ⟨gD, hgD⟩ : ∃ g, g = w.heap.size := ⟨_, rfl⟩
  obtain ⟨gS, hgS2⟩ : ∃ g, g = w1.heap.size := ⟨_, rfl⟩
  rw [← hgD, ← hgS2] at DK3 ⊢
  have HZ := Lib.hid (And.intro hgD hgS2)
  clear hgD hgS2 hgS hz1
  simp only [Act.put]
  go_cut [5] from 11 to 18 (fun u wx => ∃ gX : Nat, u = .pointer (some ⟨gX, 0, none⟩) ∧ Hid (Desk w wx (fun _ => False) C B bef aft l c made N kv tv m [(gD, 57, [.int .i64 kind, .int .i64 day, .string code, .string other, .int .i64 al, .int .i64 ah, .int .i64 bl, .int .i64 bh]), (gS, 48, [.string code, .int .i64 dl, .int .i64 dh, .int .i64 wl, .int .i64 wh, .int .i64 pil, .int .i64 boi, .slice fa fn fc]), (gX, 23, [.int .i64 m1.lo, .int .i64 m1.hi])]))
  case first =>
    have hmix : Try.prog.follows .mixedOrders = true := by kernel_rfl
    refine region_till [9] (fun w' => Blk w' gD 57 #[.int .i64 kind, .int .i64 day, .string code, .string other, .int .i64 al, .int .i64 ah, .int .i64 bl, .int .i64 bh] ∧ Blk w' gS 48 #[.string code, .int .i64 dl, .int .i64 dh, .int .i64 wl, .int .i64 wh, .int .i64 pil, .int .i64 boi, .slice fa fn fc]) 10 [false, false, false, false, false, false, false, false, false, false] hmix rfl rfl ?_
    have DK4 := Lib.hid (DK3.out.drew)
    clear DK3 hmix
    generalize W3.drew = v0 at DK4 ⊢
    have HT := Lib.hid (show (fun w' => Blk w' gD 57 #[.int .i64 kind, .int .i64 day, .string code, .string other, .int .i64 al, .int .i64 ah, .int .i64 bl, .int .i64 bh] ∧ Blk w' gS 48 #[.string code, .int .i64 dl, .int .i64 dh, .int .i64 wl, .int .i64 wh, .int .i64 pil, .int .i64 boi, .slice fa fn fc]) v0 from ⟨(DK4.out.loc 0 _ _ _ rfl).1, (DK4.out.loc 1 _ _ _ rfl).1⟩)
    refine till_pure (i := 0) (v := .pointer (some ⟨gS, 1, none⟩)) rfl rfl (by kernel_rfl) (fun _ _ _ h => h) (yields_of rfl (fun w' _ => by simp [go_sem])) (fun _ => HT.out) ?_
    simp only [List.setIfInBounds_toArray, List.set_cons_succ, List.set_cons_zero]
    refine till_load (i := 1) (v := .agg #[.int .i64 dl, .int .i64 dh]) rfl rfl (by kernel_rfl) (fun _ _ _ h => h) (yields_mid rfl 23 (.tmp 11) rfl (gS) 1 rfl [.int .i64 dl, .int .i64 dh] _ (fun w' hw' => Blk.range hw'.2 1 _ rfl) Try.underlying23 rfl (by kernel_rfl)) (fun _ => HT.out) ?_
    simp only [List.setIfInBounds_toArray, List.set_cons_succ, List.set_cons_zero]
    refine till_pure (i := 2) (v := .pointer (some ⟨gD, 4, none⟩)) rfl rfl (by kernel_rfl) (fun _ _ _ h => h) (yields_of rfl (fun w' _ => by simp [go_sem])) (fun _ => HT.out) ?_
    simp only [List.setIfInBounds_toArray, List.set_cons_succ, List.set_cons_zero]
    refine till_load (i := 3) (v := .agg #[.int .i64 al, .int .i64 ah]) rfl rfl (by kernel_rfl) (fun _ _ _ h => h) (yields_mid rfl 23 (.tmp 13) rfl (gD) 4 rfl [.int .i64 al, .int .i64 ah] _ (fun w' hw' => Blk.range hw'.1 4 _ rfl) Try.underlying23 rfl (by kernel_rfl)) (fun _ => HT.out) ?_
    simp only [List.setIfInBounds_toArray, List.set_cons_succ, List.set_cons_zero]
    refine till_pure (i := 4) (v := .pointer (some ⟨gS, 3, none⟩)) rfl rfl (by kernel_rfl) (fun _ _ _ h => h) (yields_of rfl (fun w' _ => by simp [go_sem])) (fun _ => HT.out) ?_
    simp only [List.setIfInBounds_toArray, List.set_cons_succ, List.set_cons_zero]
    refine till_load (i := 5) (v := .agg #[.int .i64 wl, .int .i64 wh]) rfl rfl (by kernel_rfl) (fun _ _ _ h => h) (yields_mid rfl 23 (.tmp 15) rfl (gS) 3 rfl [.int .i64 wl, .int .i64 wh] _ (fun w' hw' => Blk.range hw'.2 3 _ rfl) Try.underlying23 rfl (by kernel_rfl)) (fun _ => HT.out) ?_
    simp only [List.setIfInBounds_toArray, List.set_cons_succ, List.set_cons_zero]
    refine till_two (i := 6) (j := 8) (by kernel_rfl) rfl rfl ?_ ?_
    · go_wp2_with (go_at_call 77; refine (difference_up HUA.out (by decide) HUW.out HV8.out Ed1.out _).mono ?_; rintro e v1 ⟨rfl, hb⟩; have DK5 := Lib.hid (DK4.out.below hb); clear hb)
      have HT := Lib.hid (show (fun w' => Blk w' gD 57 #[.int .i64 kind, .int .i64 day, .string code, .string other, .int .i64 al, .int .i64 ah, .int .i64 bl, .int .i64 bh] ∧ Blk w' gS 48 #[.string code, .int .i64 dl, .int .i64 dh, .int .i64 wl, .int .i64 wh, .int .i64 pil, .int .i64 boi, .slice fa fn fc]) v1 from ⟨(DK5.out.loc 0 _ _ _ rfl).1, (DK5.out.loc 1 _ _ _ rfl).1⟩)
      refine ⟨fun _ => HT.out, ?_⟩
      try simp only [List.setIfInBounds_toArray, List.set_cons_succ, List.set_cons_zero]
      refine till_two (i := 7) (j := 8) (by kernel_rfl) rfl rfl ?_ ?_
      · go_wp2_with (go_at_call 82; refine (common_fit HFD.out HF1.out Em1.out _).mono ?_; rintro e v2 ⟨rfl, hb⟩; have DK6 := Lib.hid (DK5.out.below hb); clear hb)
        have HT := Lib.hid (show (fun w' => Blk w' gD 57 #[.int .i64 kind, .int .i64 day, .string code, .string other, .int .i64 al, .int .i64 ah, .int .i64 bl, .int .i64 bh] ∧ Blk w' gS 48 #[.string code, .int .i64 dl, .int .i64 dh, .int .i64 wl, .int .i64 wh, .int .i64 pil, .int .i64 boi, .slice fa fn fc]) v2 from ⟨(DK6.out.loc 0 _ _ _ rfl).1, (DK6.out.loc 1 _ _ _ rfl).1⟩)
        refine ⟨fun _ => HT.out, ?_⟩
        try simp only [List.setIfInBounds_toArray, List.set_cons_succ, List.set_cons_zero]
        refine till_only (j := 8) (by kernel_rfl) rfl ?_
        go_wp2_with fail
        have DK7 := Lib.hid (show Desk w (v2.alloc (.cells #[.int .i64 0, .int .i64 0] 23)) (fun _ => False) C B bef aft l c made N kv tv m [(gD, 57, [.int .i64 kind, .int .i64 day, .string code, .string other, .int .i64 al, .int .i64 ah, .int .i64 bl, .int .i64 bh]), (gS, 48, [.string code, .int .i64 dl, .int .i64 dh, .int .i64 wl, .int .i64 wh, .int .i64 pil, .int .i64 boi, .slice fa fn fc]), (v2.heap.size, 23, [.int .i64 0, .int .i64 0])] from DK6.out.alloc 23 [.int .i64 0, .int .i64 0] rfl)
        generalize (v2.alloc (.cells #[.int .i64 0, .int .i64 0] 23)) = v3 at DK7 ⊢
        generalize v2.heap.size = gX at DK7 ⊢
        have HT := Lib.hid (show (fun w' => Blk w' gD 57 #[.int .i64 kind, .int .i64 day, .string code, .string other, .int .i64 al, .int .i64 ah, .int .i64 bl, .int .i64 bh] ∧ Blk w' gS 48 #[.string code, .int .i64 dl, .int .i64 dh, .int .i64 wl, .int .i64 wh, .int .i64 pil, .int .i64 boi, .slice fa fn fc]) v3 from ⟨(DK7.out.loc 0 _ _ _ rfl).1, (DK7.out.loc 1 _ _ _ rfl).1⟩)
        refine ⟨fun _ => HT.out, ?_⟩
        try simp only [List.setIfInBounds_toArray, List.set_cons_succ, List.set_cons_zero]
        refine till_only (j := 9) (by kernel_rfl) rfl ?_
        have HE := Lib.hid (show v3.there gX 0 2 from (DK7.out.loc 2 _ _ _ rfl).1.there (o := 0) (n := 2) (Nat.le_of_ble_eq_true rfl))
        have HO := Lib.hid (show (#[.int .i64 m1.lo, .int .i64 m1.hi] : Array Value).all (·.oneCell') = true from by simp [Value.oneCell'])
        refine wpList_store_mid rfl 23 (.tmp 5) (.tmp 18) rfl gX 0 #[.int .i64 m1.lo, .int .i64 m1.hi] rfl rfl HE.out size_bounds HO.out ?_
        change wpList _ _ _ _ _ (v3.setCells gX 0 [.int .i64 m1.lo, .int .i64 m1.hi])
        clear HE HO
        have DK8 := Lib.hid (show Desk w (v3.setCells gX 0 [.int .i64 m1.lo, .int .i64 m1.hi]) (fun _ => False) C B bef aft l c made N kv tv m [(gD, 57, [.int .i64 kind, .int .i64 day, .string code, .string other, .int .i64 al, .int .i64 ah, .int .i64 bl, .int .i64 bh]), (gS, 48, [.string code, .int .i64 dl, .int .i64 dh, .int .i64 wl, .int .i64 wh, .int .i64 pil, .int .i64 boi, .slice fa fn fc]), (gX, 23, [.int .i64 m1.lo, .int .i64 m1.hi])] from DK7.out.setLoc 2 [] [.int .i64 0, .int .i64 0] [] [.int .i64 m1.lo, .int .i64 m1.hi] rfl rfl (by decide))
        clear DK7
        generalize (v3.setCells gX 0 [.int .i64 m1.lo, .int .i64 m1.hi]) = v4 at DK8 ⊢
        change Till _ _ _ _ ∧ wpAnyT _ _ _ _ _ _ _ _ _ _
        refine ⟨fun h => by simp at h, ?_⟩
        try simp only [List.setIfInBounds_toArray, List.set_cons_succ, List.set_cons_zero]
        refine till_done (by kernel_rfl) ?_
        go_wp2_with fail
        go_meet
        case rel => exact ⟨_, rfl, DK8⟩
      · go_wp2_with fail
        have DK6 := Lib.hid (show Desk w (v1.alloc (.cells #[.int .i64 0, .int .i64 0] 23)) (fun _ => False) C B bef aft l c made N kv tv m [(gD, 57, [.int .i64 kind, .int .i64 day, .string code, .string other, .int .i64 al, .int .i64 ah, .int .i64 bl, .int .i64 bh]), (gS, 48, [.string code, .int .i64 dl, .int .i64 dh, .int .i64 wl, .int .i64 wh, .int .i64 pil, .int .i64 boi, .slice fa fn fc]), (v1.heap.size, 23, [.int .i64 0, .int .i64 0])] from DK5.out.alloc 23 [.int .i64 0, .int .i64 0] rfl)
        generalize (v1.alloc (.cells #[.int .i64 0, .int .i64 0] 23)) = v2 at DK6 ⊢
        generalize v1.heap.size = gX at DK6 ⊢
        have HT := Lib.hid (show (fun w' => Blk w' gD 57 #[.int .i64 kind, .int .i64 day, .string code, .string other, .int .i64 al, .int .i64 ah, .int .i64 bl, .int .i64 bh] ∧ Blk w' gS 48 #[.string code, .int .i64 dl, .int .i64 dh, .int .i64 wl, .int .i64 wh, .int .i64 pil, .int .i64 boi, .slice fa fn fc]) v2 from ⟨(DK6.out.loc 0 _ _ _ rfl).1, (DK6.out.loc 1 _ _ _ rfl).1⟩)
        refine ⟨fun _ => HT.out, ?_⟩
        try simp only [List.setIfInBounds_toArray, List.set_cons_succ, List.set_cons_zero]
        refine till_only (j := 7) (by kernel_rfl) rfl ?_
        go_wp2_with (go_at_call 82; refine (common_fit HFD.out HF1.out Em1.out _).mono ?_; rintro e v3 ⟨rfl, hb⟩; have DK7 := Lib.hid (DK6.out.below hb); clear hb)
        have HT := Lib.hid (show (fun w' => Blk w' gD 57 #[.int .i64 kind, .int .i64 day, .string code, .string other, .int .i64 al, .int .i64 ah, .int .i64 bl, .int .i64 bh] ∧ Blk w' gS 48 #[.string code, .int .i64 dl, .int .i64 dh, .int .i64 wl, .int .i64 wh, .int .i64 pil, .int .i64 boi, .slice fa fn fc]) v3 from ⟨(DK7.out.loc 0 _ _ _ rfl).1, (DK7.out.loc 1 _ _ _ rfl).1⟩)
        refine ⟨fun _ => HT.out, ?_⟩
        try simp only [List.setIfInBounds_toArray, List.set_cons_succ, List.set_cons_zero]
        refine till_only (j := 9) (by kernel_rfl) rfl ?_
        have HE := Lib.hid (show v3.there gX 0 2 from (DK7.out.loc 2 _ _ _ rfl).1.there (o := 0) (n := 2) (Nat.le_of_ble_eq_true rfl))
        have HO := Lib.hid (show (#[.int .i64 m1.lo, .int .i64 m1.hi] : Array Value).all (·.oneCell') = true from by simp [Value.oneCell'])
        refine wpList_store_mid rfl 23 (.tmp 5) (.tmp 18) rfl gX 0 #[.int .i64 m1.lo, .int .i64 m1.hi] rfl rfl HE.out size_bounds HO.out ?_
        change wpList _ _ _ _ _ (v3.setCells gX 0 [.int .i64 m1.lo, .int .i64 m1.hi])
        clear HE HO
        have DK8 := Lib.hid (show Desk w (v3.setCells gX 0 [.int .i64 m1.lo, .int .i64 m1.hi]) (fun _ => False) C B bef aft l c made N kv tv m [(gD, 57, [.int .i64 kind, .int .i64 day, .string code, .string other, .int .i64 al, .int .i64 ah, .int .i64 bl, .int .i64 bh]), (gS, 48, [.string code, .int .i64 dl, .int .i64 dh, .int .i64 wl, .int .i64 wh, .int .i64 pil, .int .i64 boi, .slice fa fn fc]), (gX, 23, [.int .i64 m1.lo, .int .i64 m1.hi])] from DK7.out.setLoc 2 [] [.int .i64 0, .int .i64 0] [] [.int .i64 m1.lo, .int .i64 m1.hi] rfl rfl (by decide))
        clear DK7
        generalize (v3.setCells gX 0 [.int .i64 m1.lo, .int .i64 m1.hi]) = v4 at DK8 ⊢
        change Till _ _ _ _ ∧ wpAnyT _ _ _ _ _ _ _ _ _ _
        refine ⟨fun h => by simp at h, ?_⟩
        try simp only [List.setIfInBounds_toArray, List.set_cons_succ, List.set_cons_zero]
        refine till_done (by kernel_rfl) ?_
        go_wp2_with fail
        go_meet
        case rel => exact ⟨_, rfl, DK8⟩
    · go_wp2_with fail
      have DK5 := Lib.hid (show Desk w (v0.alloc (.cells #[.int .i64 0, .int .i64 0] 23)) (fun _ => False) C B bef aft l c made N kv tv m [(gD, 57, [.int .i64 kind, .int .i64 day, .string code, .string other, .int .i64 al, .int .i64 ah, .int .i64 bl, .int .i64 bh]), (gS, 48, [.string code, .int .i64 dl, .int .i64 dh, .int .i64 wl, .int .i64 wh, .int .i64 pil, .int .i64 boi, .slice fa fn fc]), (v0.heap.size, 23, [.int .i64 0, .int .i64 0])] from DK4.out.alloc 23 [.int .i64 0, .int .i64 0] rfl)
      generalize (v0.alloc (.cells #[.int .i64 0, .int .i64 0] 23)) = v1 at DK5 ⊢
      generalize v0.heap.size = gX at DK5 ⊢
      have HT := Lib.hid (show (fun w' => Blk w' gD 57 #[.int .i64 kind, .int .i64 day, .string code, .string other, .int .i64 al, .int .i64 ah, .int .i64 bl, .int .i64 bh] ∧ Blk w' gS 48 #[.string code, .int .i64 dl, .int .i64 dh, .int .i64 wl, .int .i64 wh, .int .i64 pil, .int .i64 boi, .slice fa fn fc]) v1 from ⟨(DK5.out.loc 0 _ _ _ rfl).1, (DK5.out.loc 1 _ _ _ rfl).1⟩)
      refine ⟨fun _ => HT.out, ?_⟩
      try simp only [List.setIfInBounds_toArray, List.set_cons_succ, List.set_cons_zero]
      refine till_only (j := 6) (by kernel_rfl) rfl ?_
      go_wp2_with (go_at_call 77; refine (difference_up HUA.out (by decide) HUW.out HV8.out Ed1.out _).mono ?_; rintro e v2 ⟨rfl, hb⟩; have DK6 := Lib.hid (DK5.out.below hb); clear hb)
      have HT := Lib.hid (show (fun w' => Blk w' gD 57 #[.int .i64 kind, .int .i64 day, .string code, .string other, .int .i64 al, .int .i64 ah, .int .i64 bl, .int .i64 bh] ∧ Blk w' gS 48 #[.string code, .int .i64 dl, .int .i64 dh, .int .i64 wl, .int .i64 wh, .int .i64 pil, .int .i64 boi, .slice fa fn fc]) v2 from ⟨(DK6.out.loc 0 _ _ _ rfl).1, (DK6.out.loc 1 _ _ _ rfl).1⟩)
      refine ⟨fun _ => HT.out, ?_⟩
      try simp only [List.setIfInBounds_toArray, List.set_cons_succ, List.set_cons_zero]
      refine till_only (j := 7) (by kernel_rfl) rfl ?_
      go_wp2_with (go_at_call 82; refine (common_fit HFD.out HF1.out Em1.out _).mono ?_; rintro e v3 ⟨rfl, hb⟩; have DK7 := Lib.hid (DK6.out.below hb); clear hb)
      have HT := Lib.hid (show (fun w' => Blk w' gD 57 #[.int .i64 kind, .int .i64 day, .string code, .string other, .int .i64 al, .int .i64 ah, .int .i64 bl, .int .i64 bh] ∧ Blk w' gS 48 #[.string code, .int .i64 dl, .int .i64 dh, .int .i64 wl, .int .i64 wh, .int .i64 pil, .int .i64 boi, .slice fa fn fc]) v3 from ⟨(DK7.out.loc 0 _ _ _ rfl).1, (DK7.out.loc 1 _ _ _ rfl).1⟩)
      refine ⟨fun _ => HT.out, ?_⟩
      try simp only [List.setIfInBounds_toArray, List.set_cons_succ, List.set_cons_zero]
      refine till_only (j := 9) (by kernel_rfl) rfl ?_
      have HE := Lib.hid (show v3.there gX 0 2 from (DK7.out.loc 2 _ _ _ rfl).1.there (o := 0) (n := 2) (Nat.le_of_ble_eq_true rfl))
      have HO := Lib.hid (show (#[.int .i64 m1.lo, .int .i64 m1.hi] : Array Value).all (·.oneCell') = true from by simp [Value.oneCell'])
      refine wpList_store_mid rfl 23 (.tmp 5) (.tmp 18) rfl gX 0 #[.int .i64 m1.lo, .int .i64 m1.hi] rfl rfl HE.out size_bounds HO.out ?_
      change wpList _ _ _ _ _ (v3.setCells gX 0 [.int .i64 m1.lo, .int .i64 m1.hi])
      clear HE HO
      have DK8 := Lib.hid (show Desk w (v3.setCells gX 0 [.int .i64 m1.lo, .int .i64 m1.hi]) (fun _ => False) C B bef aft l c made N kv tv m [(gD, 57, [.int .i64 kind, .int .i64 day, .string code, .string other, .int .i64 al, .int .i64 ah, .int .i64 bl, .int .i64 bh]), (gS, 48, [.string code, .int .i64 dl, .int .i64 dh, .int .i64 wl, .int .i64 wh, .int .i64 pil, .int .i64 boi, .slice fa fn fc]), (gX, 23, [.int .i64 m1.lo, .int .i64 m1.hi])] from DK7.out.setLoc 2 [] [.int .i64 0, .int .i64 0] [] [.int .i64 m1.lo, .int .i64 m1.hi] rfl rfl (by decide))
      clear DK7
      generalize (v3.setCells gX 0 [.int .i64 m1.lo, .int .i64 m1.hi]) = v4 at DK8 ⊢
      change Till _ _ _ _ ∧ wpAnyT _ _ _ _ _ _ _ _ _ _
      refine ⟨fun h => by simp at h, ?_⟩
      try simp only [List.setIfInBounds_toArray, List.set_cons_succ, List.set_cons_zero]
      refine till_done (by kernel_rfl) ?_
      go_wp2_with fail
      go_meet
      case rel => exact ⟨_, rfl, DK8⟩
  case rest =>
    obtain ⟨gX, rfl, DK4⟩ := hcut
    obtain ⟨v8, hv8⟩ : ∃ v, v = wc := ⟨_, rfl⟩
    rw [← hv8] at DK4 ⊢
    clear hv8 DK3
    go_upto_region 3 with fail
    go_cut [6] from 19 to 26 (fun u wx => ∃ gY : Nat, u = .pointer (some ⟨gY, 0, none⟩) ∧ Hid (Desk w wx (fun _ => False) C B bef aft l c made N kv tv m [(gD, 57, [.int .i64 kind, .int .i64 day, .string code, .string other, .int .i64 al, .int .i64 ah, .int .i64 bl, .int .i64 bh]), (gS, 48, [.string code, .int .i64 dl, .int .i64 dh, .int .i64 wl, .int .i64 wh, .int .i64 pil, .int .i64 boi, .slice fa fn fc]), (gX, 23, [.int .i64 m1.lo, .int .i64 m1.hi]), (gY, 23, [.int .i64 m2.lo, .int .i64 m2.hi])]))
    case first =>
      have hmix : Try.prog.follows .mixedOrders = true := by kernel_rfl
      refine region_till [9] (fun w' => Blk w' gD 57 #[.int .i64 kind, .int .i64 day, .string code, .string other, .int .i64 al, .int .i64 ah, .int .i64 bl, .int .i64 bh] ∧ Blk w' gS 48 #[.string code, .int .i64 dl, .int .i64 dh, .int .i64 wl, .int .i64 wh, .int .i64 pil, .int .i64 boi, .slice fa fn fc]) 10 [false, false, false, false, false, false, false, false, false, false] hmix rfl rfl ?_
      have DK5 := Lib.hid (DK4.out.drew)
      clear DK4 hmix
      generalize v8.drew = v9 at DK5 ⊢
      have HT := Lib.hid (show (fun w' => Blk w' gD 57 #[.int .i64 kind, .int .i64 day, .string code, .string other, .int .i64 al, .int .i64 ah, .int .i64 bl, .int .i64 bh] ∧ Blk w' gS 48 #[.string code, .int .i64 dl, .int .i64 dh, .int .i64 wl, .int .i64 wh, .int .i64 pil, .int .i64 boi, .slice fa fn fc]) v9 from ⟨(DK5.out.loc 0 _ _ _ rfl).1, (DK5.out.loc 1 _ _ _ rfl).1⟩)
      refine till_pure (i := 0) (v := .pointer (some ⟨gS, 3, none⟩)) rfl rfl (by kernel_rfl) (fun _ _ _ h => h) (yields_of rfl (fun w' _ => by simp [go_sem])) (fun _ => HT.out) ?_
      simp only [List.setIfInBounds_toArray, List.set_cons_succ, List.set_cons_zero]
      refine till_load (i := 1) (v := .agg #[.int .i64 wl, .int .i64 wh]) rfl rfl (by kernel_rfl) (fun _ _ _ h => h) (yields_mid rfl 23 (.tmp 19) rfl (gS) 3 rfl [.int .i64 wl, .int .i64 wh] _ (fun w' hw' => Blk.range hw'.2 3 _ rfl) Try.underlying23 rfl (by kernel_rfl)) (fun _ => HT.out) ?_
      simp only [List.setIfInBounds_toArray, List.set_cons_succ, List.set_cons_zero]
      refine till_pure (i := 2) (v := .pointer (some ⟨gD, 4, none⟩)) rfl rfl (by kernel_rfl) (fun _ _ _ h => h) (yields_of rfl (fun w' _ => by simp [go_sem])) (fun _ => HT.out) ?_
      simp only [List.setIfInBounds_toArray, List.set_cons_succ, List.set_cons_zero]
      refine till_load (i := 3) (v := .agg #[.int .i64 al, .int .i64 ah]) rfl rfl (by kernel_rfl) (fun _ _ _ h => h) (yields_mid rfl 23 (.tmp 21) rfl (gD) 4 rfl [.int .i64 al, .int .i64 ah] _ (fun w' hw' => Blk.range hw'.1 4 _ rfl) Try.underlying23 rfl (by kernel_rfl)) (fun _ => HT.out) ?_
      simp only [List.setIfInBounds_toArray, List.set_cons_succ, List.set_cons_zero]
      refine till_pure (i := 4) (v := .pointer (some ⟨gS, 1, none⟩)) rfl rfl (by kernel_rfl) (fun _ _ _ h => h) (yields_of rfl (fun w' _ => by simp [go_sem])) (fun _ => HT.out) ?_
      simp only [List.setIfInBounds_toArray, List.set_cons_succ, List.set_cons_zero]
      refine till_load (i := 5) (v := .agg #[.int .i64 dl, .int .i64 dh]) rfl rfl (by kernel_rfl) (fun _ _ _ h => h) (yields_mid rfl 23 (.tmp 23) rfl (gS) 1 rfl [.int .i64 dl, .int .i64 dh] _ (fun w' hw' => Blk.range hw'.2 1 _ rfl) Try.underlying23 rfl (by kernel_rfl)) (fun _ => HT.out) ?_
      simp only [List.setIfInBounds_toArray, List.set_cons_succ, List.set_cons_zero]
      refine till_two (i := 6) (j := 8) (by kernel_rfl) rfl rfl ?_ ?_
      · go_wp2_with (go_at_call 77; refine (difference_up HUA.out (by decide) HUD.out HV8.out Ed2.out _).mono ?_; rintro e v10 ⟨rfl, hb⟩; have DK6 := Lib.hid (DK5.out.below hb); clear hb)
        have HT := Lib.hid (show (fun w' => Blk w' gD 57 #[.int .i64 kind, .int .i64 day, .string code, .string other, .int .i64 al, .int .i64 ah, .int .i64 bl, .int .i64 bh] ∧ Blk w' gS 48 #[.string code, .int .i64 dl, .int .i64 dh, .int .i64 wl, .int .i64 wh, .int .i64 pil, .int .i64 boi, .slice fa fn fc]) v10 from ⟨(DK6.out.loc 0 _ _ _ rfl).1, (DK6.out.loc 1 _ _ _ rfl).1⟩)
        refine ⟨fun _ => HT.out, ?_⟩
        try simp only [List.setIfInBounds_toArray, List.set_cons_succ, List.set_cons_zero]
        refine till_two (i := 7) (j := 8) (by kernel_rfl) rfl rfl ?_ ?_
        · go_wp2_with (go_at_call 82; refine (common_fit HFW.out HF2.out Em2.out _).mono ?_; rintro e v11 ⟨rfl, hb⟩; have DK7 := Lib.hid (DK6.out.below hb); clear hb)
          have HT := Lib.hid (show (fun w' => Blk w' gD 57 #[.int .i64 kind, .int .i64 day, .string code, .string other, .int .i64 al, .int .i64 ah, .int .i64 bl, .int .i64 bh] ∧ Blk w' gS 48 #[.string code, .int .i64 dl, .int .i64 dh, .int .i64 wl, .int .i64 wh, .int .i64 pil, .int .i64 boi, .slice fa fn fc]) v11 from ⟨(DK7.out.loc 0 _ _ _ rfl).1, (DK7.out.loc 1 _ _ _ rfl).1⟩)
          refine ⟨fun _ => HT.out, ?_⟩
          try simp only [List.setIfInBounds_toArray, List.set_cons_succ, List.set_cons_zero]
          refine till_only (j := 8) (by kernel_rfl) rfl ?_
          go_wp2_with fail
          have DK8 := Lib.hid (show Desk w (v11.alloc (.cells #[.int .i64 0, .int .i64 0] 23)) (fun _ => False) C B bef aft l c made N kv tv m [(gD, 57, [.int .i64 kind, .int .i64 day, .string code, .string other, .int .i64 al, .int .i64 ah, .int .i64 bl, .int .i64 bh]), (gS, 48, [.string code, .int .i64 dl, .int .i64 dh, .int .i64 wl, .int .i64 wh, .int .i64 pil, .int .i64 boi, .slice fa fn fc]), (gX, 23, [.int .i64 m1.lo, .int .i64 m1.hi]), (v11.heap.size, 23, [.int .i64 0, .int .i64 0])] from DK7.out.alloc 23 [.int .i64 0, .int .i64 0] rfl)
          generalize (v11.alloc (.cells #[.int .i64 0, .int .i64 0] 23)) = v12 at DK8 ⊢
          generalize v11.heap.size = gY at DK8 ⊢
          have HT := Lib.hid (show (fun w' => Blk w' gD 57 #[.int .i64 kind, .int .i64 day, .string code, .string other, .int .i64 al, .int .i64 ah, .int .i64 bl, .int .i64 bh] ∧ Blk w' gS 48 #[.string code, .int .i64 dl, .int .i64 dh, .int .i64 wl, .int .i64 wh, .int .i64 pil, .int .i64 boi, .slice fa fn fc]) v12 from ⟨(DK8.out.loc 0 _ _ _ rfl).1, (DK8.out.loc 1 _ _ _ rfl).1⟩)
          refine ⟨fun _ => HT.out, ?_⟩
          try simp only [List.setIfInBounds_toArray, List.set_cons_succ, List.set_cons_zero]
          refine till_only (j := 9) (by kernel_rfl) rfl ?_
          have HE := Lib.hid (show v12.there gY 0 2 from (DK8.out.loc 3 _ _ _ rfl).1.there (o := 0) (n := 2) (Nat.le_of_ble_eq_true rfl))
          have HO := Lib.hid (show (#[.int .i64 m2.lo, .int .i64 m2.hi] : Array Value).all (·.oneCell') = true from by simp [Value.oneCell'])
          refine wpList_store_mid rfl 23 (.tmp 6) (.tmp 26) rfl gY 0 #[.int .i64 m2.lo, .int .i64 m2.hi] rfl rfl HE.out size_bounds HO.out ?_
          change wpList _ _ _ _ _ (v12.setCells gY 0 [.int .i64 m2.lo, .int .i64 m2.hi])
          clear HE HO
          have DK9 := Lib.hid (show Desk w (v12.setCells gY 0 [.int .i64 m2.lo, .int .i64 m2.hi]) (fun _ => False) C B bef aft l c made N kv tv m [(gD, 57, [.int .i64 kind, .int .i64 day, .string code, .string other, .int .i64 al, .int .i64 ah, .int .i64 bl, .int .i64 bh]), (gS, 48, [.string code, .int .i64 dl, .int .i64 dh, .int .i64 wl, .int .i64 wh, .int .i64 pil, .int .i64 boi, .slice fa fn fc]), (gX, 23, [.int .i64 m1.lo, .int .i64 m1.hi]), (gY, 23, [.int .i64 m2.lo, .int .i64 m2.hi])] from DK8.out.setLoc 3 [] [.int .i64 0, .int .i64 0] [] [.int .i64 m2.lo, .int .i64 m2.hi] rfl rfl (by decide))
          clear DK8
          generalize (v12.setCells gY 0 [.int .i64 m2.lo, .int .i64 m2.hi]) = v13 at DK9 ⊢
          change Till _ _ _ _ ∧ wpAnyT _ _ _ _ _ _ _ _ _ _
          refine ⟨fun h => by simp at h, ?_⟩
          try simp only [List.setIfInBounds_toArray, List.set_cons_succ, List.set_cons_zero]
          refine till_done (by kernel_rfl) ?_
          go_wp2_with fail
          go_meet
          case rel => exact ⟨_, rfl, DK9⟩
        · go_wp2_with fail
          have DK7 := Lib.hid (show Desk w (v10.alloc (.cells #[.int .i64 0, .int .i64 0] 23)) (fun _ => False) C B bef aft l c made N kv tv m [(gD, 57, [.int .i64 kind, .int .i64 day, .string code, .string other, .int .i64 al, .int .i64 ah, .int .i64 bl, .int .i64 bh]), (gS, 48, [.string code, .int .i64 dl, .int .i64 dh, .int .i64 wl, .int .i64 wh, .int .i64 pil, .int .i64 boi, .slice fa fn fc]), (gX, 23, [.int .i64 m1.lo, .int .i64 m1.hi]), (v10.heap.size, 23, [.int .i64 0, .int .i64 0])] from DK6.out.alloc 23 [.int .i64 0, .int .i64 0] rfl)
          generalize (v10.alloc (.cells #[.int .i64 0, .int .i64 0] 23)) = v11 at DK7 ⊢
          generalize v10.heap.size = gY at DK7 ⊢
          have HT := Lib.hid (show (fun w' => Blk w' gD 57 #[.int .i64 kind, .int .i64 day, .string code, .string other, .int .i64 al, .int .i64 ah, .int .i64 bl, .int .i64 bh] ∧ Blk w' gS 48 #[.string code, .int .i64 dl, .int .i64 dh, .int .i64 wl, .int .i64 wh, .int .i64 pil, .int .i64 boi, .slice fa fn fc]) v11 from ⟨(DK7.out.loc 0 _ _ _ rfl).1, (DK7.out.loc 1 _ _ _ rfl).1⟩)
          refine ⟨fun _ => HT.out, ?_⟩
          try simp only [List.setIfInBounds_toArray, List.set_cons_succ, List.set_cons_zero]
          refine till_only (j := 7) (by kernel_rfl) rfl ?_
          go_wp2_with (go_at_call 82; refine (common_fit HFW.out HF2.out Em2.out _).mono ?_; rintro e v12 ⟨rfl, hb⟩; have DK8 := Lib.hid (DK7.out.below hb); clear hb)
          have HT := Lib.hid (show (fun w' => Blk w' gD 57 #[.int .i64 kind, .int .i64 day, .string code, .string other, .int .i64 al, .int .i64 ah, .int .i64 bl, .int .i64 bh] ∧ Blk w' gS 48 #[.string code, .int .i64 dl, .int .i64 dh, .int .i64 wl, .int .i64 wh, .int .i64 pil, .int .i64 boi, .slice fa fn fc]) v12 from ⟨(DK8.out.loc 0 _ _ _ rfl).1, (DK8.out.loc 1 _ _ _ rfl).1⟩)
          refine ⟨fun _ => HT.out, ?_⟩
          try simp only [List.setIfInBounds_toArray, List.set_cons_succ, List.set_cons_zero]
          refine till_only (j := 9) (by kernel_rfl) rfl ?_
          have HE := Lib.hid (show v12.there gY 0 2 from (DK8.out.loc 3 _ _ _ rfl).1.there (o := 0) (n := 2) (Nat.le_of_ble_eq_true rfl))
          have HO := Lib.hid (show (#[.int .i64 m2.lo, .int .i64 m2.hi] : Array Value).all (·.oneCell') = true from by simp [Value.oneCell'])
          refine wpList_store_mid rfl 23 (.tmp 6) (.tmp 26) rfl gY 0 #[.int .i64 m2.lo, .int .i64 m2.hi] rfl rfl HE.out size_bounds HO.out ?_
          change wpList _ _ _ _ _ (v12.setCells gY 0 [.int .i64 m2.lo, .int .i64 m2.hi])
          clear HE HO
          have DK9 := Lib.hid (show Desk w (v12.setCells gY 0 [.int .i64 m2.lo, .int .i64 m2.hi]) (fun _ => False) C B bef aft l c made N kv tv m [(gD, 57, [.int .i64 kind, .int .i64 day, .string code, .string other, .int .i64 al, .int .i64 ah, .int .i64 bl, .int .i64 bh]), (gS, 48, [.string code, .int .i64 dl, .int .i64 dh, .int .i64 wl, .int .i64 wh, .int .i64 pil, .int .i64 boi, .slice fa fn fc]), (gX, 23, [.int .i64 m1.lo, .int .i64 m1.hi]), (gY, 23, [.int .i64 m2.lo, .int .i64 m2.hi])] from DK8.out.setLoc 3 [] [.int .i64 0, .int .i64 0] [] [.int .i64 m2.lo, .int .i64 m2.hi] rfl rfl (by decide))
          clear DK8
          generalize (v12.setCells gY 0 [.int .i64 m2.lo, .int .i64 m2.hi]) = v13 at DK9 ⊢
          change Till _ _ _ _ ∧ wpAnyT _ _ _ _ _ _ _ _ _ _
          refine ⟨fun h => by simp at h, ?_⟩
          try simp only [List.setIfInBounds_toArray, List.set_cons_succ, List.set_cons_zero]
          refine till_done (by kernel_rfl) ?_
          go_wp2_with fail
          go_meet
          case rel => exact ⟨_, rfl, DK9⟩
      · go_wp2_with fail
        have DK6 := Lib.hid (show Desk w (v9.alloc (.cells #[.int .i64 0, .int .i64 0] 23)) (fun _ => False) C B bef aft l c made N kv tv m [(gD, 57, [.int .i64 kind, .int .i64 day, .string code, .string other, .int .i64 al, .int .i64 ah, .int .i64 bl, .int .i64 bh]), (gS, 48, [.string code, .int .i64 dl, .int .i64 dh, .int .i64 wl, .int .i64 wh, .int .i64 pil, .int .i64 boi, .slice fa fn fc]), (gX, 23, [.int .i64 m1.lo, .int .i64 m1.hi]), (v9.heap.size, 23, [.int .i64 0, .int .i64 0])] from DK5.out.alloc 23 [.int .i64 0, .int .i64 0] rfl)
        generalize (v9.alloc (.cells #[.int .i64 0, .int .i64 0] 23)) = v10 at DK6 ⊢
        generalize v9.heap.size = gY at DK6 ⊢
        have HT := Lib.hid (show (fun w' => Blk w' gD 57 #[.int .i64 kind, .int .i64 day, .string code, .string other, .int .i64 al, .int .i64 ah, .int .i64 bl, .int .i64 bh] ∧ Blk w' gS 48 #[.string code, .int .i64 dl, .int .i64 dh, .int .i64 wl, .int .i64 wh, .int .i64 pil, .int .i64 boi, .slice fa fn fc]) v10 from ⟨(DK6.out.loc 0 _ _ _ rfl).1, (DK6.out.loc 1 _ _ _ rfl).1⟩)
        refine ⟨fun _ => HT.out, ?_⟩
        try simp only [List.setIfInBounds_toArray, List.set_cons_succ, List.set_cons_zero]
        refine till_only (j := 6) (by kernel_rfl) rfl ?_
        go_wp2_with (go_at_call 77; refine (difference_up HUA.out (by decide) HUD.out HV8.out Ed2.out _).mono ?_; rintro e v11 ⟨rfl, hb⟩; have DK7 := Lib.hid (DK6.out.below hb); clear hb)
        have HT := Lib.hid (show (fun w' => Blk w' gD 57 #[.int .i64 kind, .int .i64 day, .string code, .string other, .int .i64 al, .int .i64 ah, .int .i64 bl, .int .i64 bh] ∧ Blk w' gS 48 #[.string code, .int .i64 dl, .int .i64 dh, .int .i64 wl, .int .i64 wh, .int .i64 pil, .int .i64 boi, .slice fa fn fc]) v11 from ⟨(DK7.out.loc 0 _ _ _ rfl).1, (DK7.out.loc 1 _ _ _ rfl).1⟩)
        refine ⟨fun _ => HT.out, ?_⟩
        try simp only [List.setIfInBounds_toArray, List.set_cons_succ, List.set_cons_zero]
        refine till_only (j := 7) (by kernel_rfl) rfl ?_
        go_wp2_with (go_at_call 82; refine (common_fit HFW.out HF2.out Em2.out _).mono ?_; rintro e v12 ⟨rfl, hb⟩; have DK8 := Lib.hid (DK7.out.below hb); clear hb)
        have HT := Lib.hid (show (fun w' => Blk w' gD 57 #[.int .i64 kind, .int .i64 day, .string code, .string other, .int .i64 al, .int .i64 ah, .int .i64 bl, .int .i64 bh] ∧ Blk w' gS 48 #[.string code, .int .i64 dl, .int .i64 dh, .int .i64 wl, .int .i64 wh, .int .i64 pil, .int .i64 boi, .slice fa fn fc]) v12 from ⟨(DK8.out.loc 0 _ _ _ rfl).1, (DK8.out.loc 1 _ _ _ rfl).1⟩)
        refine ⟨fun _ => HT.out, ?_⟩
        try simp only [List.setIfInBounds_toArray, List.set_cons_succ, List.set_cons_zero]
        refine till_only (j := 9) (by kernel_rfl) rfl ?_
        have HE := Lib.hid (show v12.there gY 0 2 from (DK8.out.loc 3 _ _ _ rfl).1.there (o := 0) (n := 2) (Nat.le_of_ble_eq_true rfl))
        have HO := Lib.hid (show (#[.int .i64 m2.lo, .int .i64 m2.hi] : Array Value).all (·.oneCell') = true from by simp [Value.oneCell'])
        refine wpList_store_mid rfl 23 (.tmp 6) (.tmp 26) rfl gY 0 #[.int .i64 m2.lo, .int .i64 m2.hi] rfl rfl HE.out size_bounds HO.out ?_
        change wpList _ _ _ _ _ (v12.setCells gY 0 [.int .i64 m2.lo, .int .i64 m2.hi])
        clear HE HO
        have DK9 := Lib.hid (show Desk w (v12.setCells gY 0 [.int .i64 m2.lo, .int .i64 m2.hi]) (fun _ => False) C B bef aft l c made N kv tv m [(gD, 57, [.int .i64 kind, .int .i64 day, .string code, .string other, .int .i64 al, .int .i64 ah, .int .i64 bl, .int .i64 bh]), (gS, 48, [.string code, .int .i64 dl, .int .i64 dh, .int .i64 wl, .int .i64 wh, .int .i64 pil, .int .i64 boi, .slice fa fn fc]), (gX, 23, [.int .i64 m1.lo, .int .i64 m1.hi]), (gY, 23, [.int .i64 m2.lo, .int .i64 m2.hi])] from DK8.out.setLoc 3 [] [.int .i64 0, .int .i64 0] [] [.int .i64 m2.lo, .int .i64 m2.hi] rfl rfl (by decide))
        clear DK8
        generalize (v12.setCells gY 0 [.int .i64 m2.lo, .int .i64 m2.hi]) = v13 at DK9 ⊢
        change Till _ _ _ _ ∧ wpAnyT _ _ _ _ _ _ _ _ _ _
        refine ⟨fun h => by simp at h, ?_⟩
        try simp only [List.setIfInBounds_toArray, List.set_cons_succ, List.set_cons_zero]
        refine till_done (by kernel_rfl) ?_
        go_wp2_with fail
        go_meet
        case rel => exact ⟨_, rfl, DK9⟩
    case rest =>
      obtain ⟨gY, rfl, DK5⟩ := hcut
      have x0 := (show wc.cell? ⟨gX, 0, none⟩ = some (.int .i64 m1.lo) from DK5.out.at 2 0 rfl rfl)
      have x1 := (show wc.cell? ⟨gX, 1, none⟩ = some (.int .i64 m1.hi) from DK5.out.at 2 1 rfl rfl)
      have y0 := (show wc.cell? ⟨gY, 0, none⟩ = some (.int .i64 m2.lo) from DK5.out.at 3 0 rfl rfl)
      have y1 := (show wc.cell? ⟨gY, 1, none⟩ = some (.int .i64 m2.hi) from DK5.out.at 3 1 rfl rfl)
      go_wp2_with (go_at_call 75; refine (need_false _ _).mono ?_; rintro e w2 ⟨rfl, rfl⟩)
      exact ⟨rfl, rfl, DK5.out.quiet⟩

set_option maxRecDepth 100000 in
set_option maxHeartbeats 1000000 in
theorem weigh_scale2 {w : World} {C : Nat → Prop} {B : Nat} {bef aft : Int} {l : List SRow} {c : Yd.Acc} {made : Int} {N : Nat} {kv tv : Value} {m : Nat} (h : Book w C B bef aft l c made N kv tv m)
    (kind day : Int) (code other : Code) (al ah bl bh : Int) (hs : code.size ≤ maxLen) (hC : ∀ k, C k → k < w.heap.size) (dl dh wl wh pil boi : Int) (src : List Int) (fa : Option Addr) (fn fc : Nat) (V : Int) (hV : V ≤ 2000000000000000) {k : Nat} (hk : ixOf l code = some k) (hp : l[k]? = some (⟨code, ⟨dl, dh⟩, ⟨wl, wh⟩, pil, boi, src⟩, .slice fa fn fc)) (ud : Bd.Up ⟨dl, dh⟩ V) (uw : Bd.Up ⟨wl, wh⟩ V) (ua : Bd.Up ⟨al, ah⟩ 100000000) (h1 : (Bd.weighed ⟨dl, dh⟩ ⟨wl, wh⟩ ⟨al, ah⟩).lo ≤ (Bd.weighed ⟨dl, dh⟩ ⟨wl, wh⟩ ⟨al, ah⟩).hi) (h2 : ¬ (Bd.weighed ⟨wl, wh⟩ ⟨dl, dh⟩ ⟨al, ah⟩).lo ≤ (Bd.weighed ⟨wl, wh⟩ ⟨dl, dh⟩ ⟨al, ah⟩).hi) :
    Calls Try.prog 67 #[.pointer (some ⟨B, 0, none⟩), .agg #[.int .i64 kind, .int .i64 day, .string code, .string other, .int .i64 al, .int .i64 ah, .int .i64 bl, .int .i64 bh]] w fun e w' => e = .panicked (faulty 5) ∧ Below w.heap.size w w' := by
  have HUD := Lib.hid ud; have HUW := Lib.hid uw; have HUA := Lib.hid ua
  have HV8 := Lib.hid (show V ≤ 8000000000000000 from Int.le_trans hV (by decide))
  have HF1 := Lib.hid (sub_fit ua (by decide) uw HV8.out); have HF2 := Lib.hid (sub_fit ua (by decide) ud HV8.out)
  have HFD := Lib.hid (fit_of_up ud (show V ≤ 4000000000000000000 from Int.le_trans hV (by decide))); have HFW := Lib.hid (fit_of_up uw (show V ≤ 4000000000000000000 from Int.le_trans hV (by decide)))
  clear ud uw ua
  obtain ⟨d1, hd1⟩ : ∃ b : Bd, b = Bd.sub ⟨al, ah⟩ ⟨wl, wh⟩ := ⟨_, rfl⟩
  have Ed1 := Lib.hid hd1; clear hd1
  obtain ⟨m1, hm1⟩ : ∃ b : Bd, b = Bd.meet ⟨dl, dh⟩ d1 := ⟨_, rfl⟩
  have Em1 := Lib.hid hm1; clear hm1
  obtain ⟨d2, hd2⟩ : ∃ b : Bd, b = Bd.sub ⟨al, ah⟩ ⟨dl, dh⟩ := ⟨_, rfl⟩
  have Ed2 := Lib.hid hd2; clear hd2
  obtain ⟨m2, hm2⟩ : ∃ b : Bd, b = Bd.meet ⟨wl, wh⟩ d2 := ⟨_, rfl⟩
  have Em2 := Lib.hid hm2; clear hm2
  rw [← Ed1.out] at HF1
  rw [← Ed2.out] at HF2
  have b1 : decide (m1.lo ≤ m1.hi) = true := by rw [Em1.out, Ed1.out]; exact decide_eq_true h1
  have b2 : decide (m2.lo ≤ m2.hi) = false := by rw [Em2.out, Ed2.out]; exact decide_eq_false h2
  clear h1 h2
  have DK1 := Lib.hid (boxed_deed h hC [.int .i64 kind, .int .i64 day, .string code, .string other, .int .i64 al, .int .i64 ah, .int .i64 bl, .int .i64 bh])
  have hz1 : (w.alloc (.cells #[.int .i64 kind, .int .i64 day, .string code, .string other, .int .i64 al, .int .i64 ah, .int .i64 bl, .int .i64 bh] 57)).heap.size = w.heap.size + 1 := World.size_alloc _ _
  have HO0 := Lib.hid (show (#[.string code, .int .i64 dl, .int .i64 dh, .int .i64 wl, .int .i64 wh, .int .i64 pil, .int .i64 boi, .slice fa fn fc] : Array Value).all (·.oneCell') = true from by simp [Value.oneCell'])
  have HS := Lib.hid hs; have HK := Lib.hid hk; have HP := Lib.hid hp; have HC := Lib.hid hC
  clear h hs hk hp hC
  go_enter Try.func67, Try.ntmps67
  go_upto_region 2 with (first
    | (go_at_call 71; refine (stack_yes DK1.out.book code HS.out HK.out HP.out).mono ?_; rintro e w1 ⟨rfl, hb1⟩; have DK2 := Lib.hid ((DK1.out.below hb1).alloc 48 [.string ⟨#[]⟩, .int .i64 0, .int .i64 0, .int .i64 0, .int .i64 0, .int .i64 0, .int .i64 0, .slice none 0 0] rfl); clear hb1)
    | ((with_reducible refine at_store 48 (.tmp 4) (.tmp 10) ?_); go_must (refine wpList_store_mid rfl 48 (.tmp 4) (.tmp 10) rfl w1.heap.size 0 #[.string code, .int .i64 dl, .int .i64 dh, .int .i64 wl, .int .i64 wh, .int .i64 pil, .int .i64 boi, .slice fa fn fc] rfl rfl ((DK2.out.loc 1 _ _ _ rfl).1.there (o := 0) (n := 8) (Nat.le_of_ble_eq_true rfl)) size_stack HO0.out ?_)))
  have hgS := (DK2.out.far 1 rfl).1
  have DK3 := Lib.hid (show Desk w ((w1.alloc (.cells #[.string ⟨#[]⟩, .int .i64 0, .int .i64 0, .int .i64 0, .int .i64 0, .int .i64 0, .int .i64 0, .slice none 0 0] 48)).setCells w1.heap.size 0 [.string code, .int .i64 dl, .int .i64 dh, .int .i64 wl, .int .i64 wh, .int .i64 pil, .int .i64 boi, .slice fa fn fc]) (fun _ => False) C B bef aft l c made N kv tv m [(w.heap.size, 57, [.int .i64 kind, .int .i64 day, .string code, .string other, .int .i64 al, .int .i64 ah, .int .i64 bl, .int .i64 bh]), (w1.heap.size, 48, [.string code, .int .i64 dl, .int .i64 dh, .int .i64 wl, .int .i64 wh, .int .i64 pil, .int .i64 boi, .slice fa fn fc])] from DK2.out.setLoc 1 [] [.string ⟨#[]⟩, .int .i64 0, .int .i64 0, .int .i64 0, .int .i64 0, .int .i64 0, .int .i64 0, .slice none 0 0] [] [.string code, .int .i64 dl, .int .i64 dh, .int .i64 wl, .int .i64 wh, .int .i64 pil, .int .i64 boi, .slice fa fn fc] rfl rfl (by decide))
  clear DK2
  generalize ((w1.alloc (.cells #[.string ⟨#[]⟩, .int .i64 0, .int .i64 0, .int .i64 0, .int .i64 0, .int .i64 0, .int .i64 0, .slice none 0 0] 48)).setCells w1.heap.size 0 [.string code, .int .i64 dl, .int .i64 dh, .int .i64 wl, .int .i64 wh, .int .i64 pil, .int .i64 boi, .slice fa fn fc]) = W3 at DK3 ⊢
  obtain ⟨gD, hgD⟩ : ∃ g, g = w.heap.size := ⟨_, rfl⟩
  obtain ⟨gS, hgS2⟩ : ∃ g, g = w1.heap.size := ⟨_, rfl⟩
  rw [← hgD, ← hgS2] at DK3 ⊢
  have HZ := Lib.hid (And.intro hgD hgS2)
  clear hgD hgS2 hgS hz1
  simp only [Act.put]
  go_cut [5] from 11 to 18 (fun u wx => ∃ gX : Nat, u = .pointer (some ⟨gX, 0, none⟩) ∧ Hid (Desk w wx (fun _ => False) C B bef aft l c made N kv tv m [(gD, 57, [.int .i64 kind, .int .i64 day, .string code, .string other, .int .i64 al, .int .i64 ah, .int .i64 bl, .int .i64 bh]), (gS, 48, [.string code, .int .i64 dl, .int .i64 dh, .int .i64 wl, .int .i64 wh, .int .i64 pil, .int .i64 boi, .slice fa fn fc]), (gX, 23, [.int .i64 m1.lo, .int .i64 m1.hi])]))
  case first =>
    have hmix : Try.prog.follows .mixedOrders = true := by kernel_rfl
    refine region_till [9] (fun w' => Blk w' gD 57 #[.int .i64 kind, .int .i64 day, .string code, .string other, .int .i64 al, .int .i64 ah, .int .i64 bl, .int .i64 bh] ∧ Blk w' gS 48 #[.string code, .int .i64 dl, .int .i64 dh, .int .i64 wl, .int .i64 wh, .int .i64 pil, .int .i64 boi, .slice fa fn fc]) 10 [false, false, false, false, false, false, false, false, false, false] hmix rfl rfl ?_
    have DK4 := Lib.hid (DK3.out.drew)
    clear DK3 hmix
    generalize W3.drew = v0 at DK4 ⊢
    have HT := Lib.hid (show (fun w' => Blk w' gD 57 #[.int .i64 kind, .int .i64 day, .string code, .string other, .int .i64 al, .int .i64 ah, .int .i64 bl, .int .i64 bh] ∧ Blk w' gS 48 #[.string code, .int .i64 dl, .int .i64 dh, .int .i64 wl, .int .i64 wh, .int .i64 pil, .int .i64 boi, .slice fa fn fc]) v0 from ⟨(DK4.out.loc 0 _ _ _ rfl).1, (DK4.out.loc 1 _ _ _ rfl).1⟩)
    refine till_pure (i := 0) (v := .pointer (some ⟨gS, 1, none⟩)) rfl rfl (by kernel_rfl) (fun _ _ _ h => h) (yields_of rfl (fun w' _ => by simp [go_sem])) (fun _ => HT.out) ?_
    simp only [List.setIfInBounds_toArray, List.set_cons_succ, List.set_cons_zero]
    refine till_load (i := 1) (v := .agg #[.int .i64 dl, .int .i64 dh]) rfl rfl (by kernel_rfl) (fun _ _ _ h => h) (yields_mid rfl 23 (.tmp 11) rfl (gS) 1 rfl [.int .i64 dl, .int .i64 dh] _ (fun w' hw' => Blk.range hw'.2 1 _ rfl) Try.underlying23 rfl (by kernel_rfl)) (fun _ => HT.out) ?_
    simp only [List.setIfInBounds_toArray, List.set_cons_succ, List.set_cons_zero]
    refine till_pure (i := 2) (v := .pointer (some ⟨gD, 4, none⟩)) rfl rfl (by kernel_rfl) (fun _ _ _ h => h) (yields_of rfl (fun w' _ => by simp [go_sem])) (fun _ => HT.out) ?_
    simp only [List.setIfInBounds_toArray, List.set_cons_succ, List.set_cons_zero]
    refine till_load (i := 3) (v := .agg #[.int .i64 al, .int .i64 ah]) rfl rfl (by kernel_rfl) (fun _ _ _ h => h) (yields_mid rfl 23 (.tmp 13) rfl (gD) 4 rfl [.int .i64 al, .int .i64 ah] _ (fun w' hw' => Blk.range hw'.1 4 _ rfl) Try.underlying23 rfl (by kernel_rfl)) (fun _ => HT.out) ?_
    simp only [List.setIfInBounds_toArray, List.set_cons_succ, List.set_cons_zero]
    refine till_pure (i := 4) (v := .pointer (some ⟨gS, 3, none⟩)) rfl rfl (by kernel_rfl) (fun _ _ _ h => h) (yields_of rfl (fun w' _ => by simp [go_sem])) (fun _ => HT.out) ?_
    simp only [List.setIfInBounds_toArray, List.set_cons_succ, List.set_cons_zero]
    refine till_load (i := 5) (v := .agg #[.int .i64 wl, .int .i64 wh]) rfl rfl (by kernel_rfl) (fun _ _ _ h => h) (yields_mid rfl 23 (.tmp 15) rfl (gS) 3 rfl [.int .i64 wl, .int .i64 wh] _ (fun w' hw' => Blk.range hw'.2 3 _ rfl) Try.underlying23 rfl (by kernel_rfl)) (fun _ => HT.out) ?_
    simp only [List.setIfInBounds_toArray, List.set_cons_succ, List.set_cons_zero]
    refine till_two (i := 6) (j := 8) (by kernel_rfl) rfl rfl ?_ ?_
    · go_wp2_with (go_at_call 77; refine (difference_up HUA.out (by decide) HUW.out HV8.out Ed1.out _).mono ?_; rintro e v1 ⟨rfl, hb⟩; have DK5 := Lib.hid (DK4.out.below hb); clear hb)
      have HT := Lib.hid (show (fun w' => Blk w' gD 57 #[.int .i64 kind, .int .i64 day, .string code, .string other, .int .i64 al, .int .i64 ah, .int .i64 bl, .int .i64 bh] ∧ Blk w' gS 48 #[.string code, .int .i64 dl, .int .i64 dh, .int .i64 wl, .int .i64 wh, .int .i64 pil, .int .i64 boi, .slice fa fn fc]) v1 from ⟨(DK5.out.loc 0 _ _ _ rfl).1, (DK5.out.loc 1 _ _ _ rfl).1⟩)
      refine ⟨fun _ => HT.out, ?_⟩
      try simp only [List.setIfInBounds_toArray, List.set_cons_succ, List.set_cons_zero]
      refine till_two (i := 7) (j := 8) (by kernel_rfl) rfl rfl ?_ ?_
      · go_wp2_with (go_at_call 82; refine (common_fit HFD.out HF1.out Em1.out _).mono ?_; rintro e v2 ⟨rfl, hb⟩; have DK6 := Lib.hid (DK5.out.below hb); clear hb)
        have HT := Lib.hid (show (fun w' => Blk w' gD 57 #[.int .i64 kind, .int .i64 day, .string code, .string other, .int .i64 al, .int .i64 ah, .int .i64 bl, .int .i64 bh] ∧ Blk w' gS 48 #[.string code, .int .i64 dl, .int .i64 dh, .int .i64 wl, .int .i64 wh, .int .i64 pil, .int .i64 boi, .slice fa fn fc]) v2 from ⟨(DK6.out.loc 0 _ _ _ rfl).1, (DK6.out.loc 1 _ _ _ rfl).1⟩)
        refine ⟨fun _ => HT.out, ?_⟩
        try simp only [List.setIfInBounds_toArray, List.set_cons_succ, List.set_cons_zero]
        refine till_only (j := 8) (by kernel_rfl) rfl ?_
        go_wp2_with fail
        have DK7 := Lib.hid (show Desk w (v2.alloc (.cells #[.int .i64 0, .int .i64 0] 23)) (fun _ => False) C B bef aft l c made N kv tv m [(gD, 57, [.int .i64 kind, .int .i64 day, .string code, .string other, .int .i64 al, .int .i64 ah, .int .i64 bl, .int .i64 bh]), (gS, 48, [.string code, .int .i64 dl, .int .i64 dh, .int .i64 wl, .int .i64 wh, .int .i64 pil, .int .i64 boi, .slice fa fn fc]), (v2.heap.size, 23, [.int .i64 0, .int .i64 0])] from DK6.out.alloc 23 [.int .i64 0, .int .i64 0] rfl)
        generalize (v2.alloc (.cells #[.int .i64 0, .int .i64 0] 23)) = v3 at DK7 ⊢
        generalize v2.heap.size = gX at DK7 ⊢
        have HT := Lib.hid (show (fun w' => Blk w' gD 57 #[.int .i64 kind, .int .i64 day, .string code, .string other, .int .i64 al, .int .i64 ah, .int .i64 bl, .int .i64 bh] ∧ Blk w' gS 48 #[.string code, .int .i64 dl, .int .i64 dh, .int .i64 wl, .int .i64 wh, .int .i64 pil, .int .i64 boi, .slice fa fn fc]) v3 from ⟨(DK7.out.loc 0 _ _ _ rfl).1, (DK7.out.loc 1 _ _ _ rfl).1⟩)
        refine ⟨fun _ => HT.out, ?_⟩
        try simp only [List.setIfInBounds_toArray, List.set_cons_succ, List.set_cons_zero]
        refine till_only (j := 9) (by kernel_rfl) rfl ?_
        have HE := Lib.hid (show v3.there gX 0 2 from (DK7.out.loc 2 _ _ _ rfl).1.there (o := 0) (n := 2) (Nat.le_of_ble_eq_true rfl))
        have HO := Lib.hid (show (#[.int .i64 m1.lo, .int .i64 m1.hi] : Array Value).all (·.oneCell') = true from by simp [Value.oneCell'])
        refine wpList_store_mid rfl 23 (.tmp 5) (.tmp 18) rfl gX 0 #[.int .i64 m1.lo, .int .i64 m1.hi] rfl rfl HE.out size_bounds HO.out ?_
        change wpList _ _ _ _ _ (v3.setCells gX 0 [.int .i64 m1.lo, .int .i64 m1.hi])
        clear HE HO
        have DK8 := Lib.hid (show Desk w (v3.setCells gX 0 [.int .i64 m1.lo, .int .i64 m1.hi]) (fun _ => False) C B bef aft l c made N kv tv m [(gD, 57, [.int .i64 kind, .int .i64 day, .string code, .string other, .int .i64 al, .int .i64 ah, .int .i64 bl, .int .i64 bh]), (gS, 48, [.string code, .int .i64 dl, .int .i64 dh, .int .i64 wl, .int .i64 wh, .int .i64 pil, .int .i64 boi, .slice fa fn fc]), (gX, 23, [.int .i64 m1.lo, .int .i64 m1.hi])] from DK7.out.setLoc 2 [] [.int .i64 0, .int .i64 0] [] [.int .i64 m1.lo, .int .i64 m1.hi] rfl rfl (by decide))
        clear DK7
        generalize (v3.setCells gX 0 [.int .i64 m1.lo, .int .i64 m1.hi]) = v4 at DK8 ⊢
        change Till _ _ _ _ ∧ wpAnyT _ _ _ _ _ _ _ _ _ _
        refine ⟨fun h => by simp at h, ?_⟩
        try simp only [List.setIfInBounds_toArray, List.set_cons_succ, List.set_cons_zero]
        refine till_done (by kernel_rfl) ?_
        go_wp2_with fail
        go_meet
        case rel => exact ⟨_, rfl, DK8⟩
      · go_wp2_with fail
        have DK6 := Lib.hid (show Desk w (v1.alloc (.cells #[.int .i64 0, .int .i64 0] 23)) (fun _ => False) C B bef aft l c made N kv tv m [(gD, 57, [.int .i64 kind, .int .i64 day, .string code, .string other, .int .i64 al, .int .i64 ah, .int .i64 bl, .int .i64 bh]), (gS, 48, [.string code, .int .i64 dl, .int .i64 dh, .int .i64 wl, .int .i64 wh, .int .i64 pil, .int .i64 boi, .slice fa fn fc]), (v1.heap.size, 23, [.int .i64 0, .int .i64 0])] from DK5.out.alloc 23 [.int .i64 0, .int .i64 0] rfl)
        generalize (v1.alloc (.cells #[.int .i64 0, .int .i64 0] 23)) = v2 at DK6 ⊢
        generalize v1.heap.size = gX at DK6 ⊢
        have HT := Lib.hid (show (fun w' => Blk w' gD 57 #[.int .i64 kind, .int .i64 day, .string code, .string other, .int .i64 al, .int .i64 ah, .int .i64 bl, .int .i64 bh] ∧ Blk w' gS 48 #[.string code, .int .i64 dl, .int .i64 dh, .int .i64 wl, .int .i64 wh, .int .i64 pil, .int .i64 boi, .slice fa fn fc]) v2 from ⟨(DK6.out.loc 0 _ _ _ rfl).1, (DK6.out.loc 1 _ _ _ rfl).1⟩)
        refine ⟨fun _ => HT.out, ?_⟩
        try simp only [List.setIfInBounds_toArray, List.set_cons_succ, List.set_cons_zero]
        refine till_only (j := 7) (by kernel_rfl) rfl ?_
        go_wp2_with (go_at_call 82; refine (common_fit HFD.out HF1.out Em1.out _).mono ?_; rintro e v3 ⟨rfl, hb⟩; have DK7 := Lib.hid (DK6.out.below hb); clear hb)
        have HT := Lib.hid (show (fun w' => Blk w' gD 57 #[.int .i64 kind, .int .i64 day, .string code, .string other, .int .i64 al, .int .i64 ah, .int .i64 bl, .int .i64 bh] ∧ Blk w' gS 48 #[.string code, .int .i64 dl, .int .i64 dh, .int .i64 wl, .int .i64 wh, .int .i64 pil, .int .i64 boi, .slice fa fn fc]) v3 from ⟨(DK7.out.loc 0 _ _ _ rfl).1, (DK7.out.loc 1 _ _ _ rfl).1⟩)
        refine ⟨fun _ => HT.out, ?_⟩
        try simp only [List.setIfInBounds_toArray, List.set_cons_succ, List.set_cons_zero]
        refine till_only (j := 9) (by kernel_rfl) rfl ?_
        have HE := Lib.hid (show v3.there gX 0 2 from (DK7.out.loc 2 _ _ _ rfl).1.there (o := 0) (n := 2) (Nat.le_of_ble_eq_true rfl))
        have HO := Lib.hid (show (#[.int .i64 m1.lo, .int .i64 m1.hi] : Array Value).all (·.oneCell') = true from by simp [Value.oneCell'])
        refine wpList_store_mid rfl 23 (.tmp 5) (.tmp 18) rfl gX 0 #[.int .i64 m1.lo, .int .i64 m1.hi] rfl rfl HE.out size_bounds HO.out ?_
        change wpList _ _ _ _ _ (v3.setCells gX 0 [.int .i64 m1.lo, .int .i64 m1.hi])
        clear HE HO
        have DK8 := Lib.hid (show Desk w (v3.setCells gX 0 [.int .i64 m1.lo, .int .i64 m1.hi]) (fun _ => False) C B bef aft l c made N kv tv m [(gD, 57, [.int .i64 kind, .int .i64 day, .string code, .string other, .int .i64 al, .int .i64 ah, .int .i64 bl, .int .i64 bh]), (gS, 48, [.string code, .int .i64 dl, .int .i64 dh, .int .i64 wl, .int .i64 wh, .int .i64 pil, .int .i64 boi, .slice fa fn fc]), (gX, 23, [.int .i64 m1.lo, .int .i64 m1.hi])] from DK7.out.setLoc 2 [] [.int .i64 0, .int .i64 0] [] [.int .i64 m1.lo, .int .i64 m1.hi] rfl rfl (by decide))
        clear DK7
        generalize (v3.setCells gX 0 [.int .i64 m1.lo, .int .i64 m1.hi]) = v4 at DK8 ⊢
        change Till _ _ _ _ ∧ wpAnyT _ _ _ _ _ _ _ _ _ _
        refine ⟨fun h => by simp at h, ?_⟩
        try simp only [List.setIfInBounds_toArray, List.set_cons_succ, List.set_cons_zero]
        refine till_done (by kernel_rfl) ?_
        go_wp2_with fail
        go_meet
        case rel => exact ⟨_, rfl, DK8⟩
    · go_wp2_with fail
      have DK5 := Lib.hid (show Desk w (v0.alloc (.cells #[.int .i64 0, .int .i64 0] 23)) (fun _ => False) C B bef aft l c made N kv tv m [(gD, 57, [.int .i64 kind, .int .i64 day, .string code, .string other, .int .i64 al, .int .i64 ah, .int .i64 bl, .int .i64 bh]), (gS, 48, [.string code, .int .i64 dl, .int .i64 dh, .int .i64 wl, .int .i64 wh, .int .i64 pil, .int .i64 boi, .slice fa fn fc]), (v0.heap.size, 23, [.int .i64 0, .int .i64 0])] from DK4.out.alloc 23 [.int .i64 0, .int .i64 0] rfl)
      generalize (v0.alloc (.cells #[.int .i64 0, .int .i64 0] 23)) = v1 at DK5 ⊢
      generalize v0.heap.size = gX at DK5 ⊢
      have HT := Lib.hid (show (fun w' => Blk w' gD 57 #[.int .i64 kind, .int .i64 day, .string code, .string other, .int .i64 al, .int .i64 ah, .int .i64 bl, .int .i64 bh] ∧ Blk w' gS 48 #[.string code, .int .i64 dl, .int .i64 dh, .int .i64 wl, .int .i64 wh, .int .i64 pil, .int .i64 boi, .slice fa fn fc]) v1 from ⟨(DK5.out.loc 0 _ _ _ rfl).1, (DK5.out.loc 1 _ _ _ rfl).1⟩)
      refine ⟨fun _ => HT.out, ?_⟩
      try simp only [List.setIfInBounds_toArray, List.set_cons_succ, List.set_cons_zero]
      refine till_only (j := 6) (by kernel_rfl) rfl ?_
      go_wp2_with (go_at_call 77; refine (difference_up HUA.out (by decide) HUW.out HV8.out Ed1.out _).mono ?_; rintro e v2 ⟨rfl, hb⟩; have DK6 := Lib.hid (DK5.out.below hb); clear hb)
      have HT := Lib.hid (show (fun w' => Blk w' gD 57 #[.int .i64 kind, .int .i64 day, .string code, .string other, .int .i64 al, .int .i64 ah, .int .i64 bl, .int .i64 bh] ∧ Blk w' gS 48 #[.string code, .int .i64 dl, .int .i64 dh, .int .i64 wl, .int .i64 wh, .int .i64 pil, .int .i64 boi, .slice fa fn fc]) v2 from ⟨(DK6.out.loc 0 _ _ _ rfl).1, (DK6.out.loc 1 _ _ _ rfl).1⟩)
      refine ⟨fun _ => HT.out, ?_⟩
      try simp only [List.setIfInBounds_toArray, List.set_cons_succ, List.set_cons_zero]
      refine till_only (j := 7) (by kernel_rfl) rfl ?_
      go_wp2_with (go_at_call 82; refine (common_fit HFD.out HF1.out Em1.out _).mono ?_; rintro e v3 ⟨rfl, hb⟩; have DK7 := Lib.hid (DK6.out.below hb); clear hb)
      have HT := Lib.hid (show (fun w' => Blk w' gD 57 #[.int .i64 kind, .int .i64 day, .string code, .string other, .int .i64 al, .int .i64 ah, .int .i64 bl, .int .i64 bh] ∧ Blk w' gS 48 #[.string code, .int .i64 dl, .int .i64 dh, .int .i64 wl, .int .i64 wh, .int .i64 pil, .int .i64 boi, .slice fa fn fc]) v3 from ⟨(DK7.out.loc 0 _ _ _ rfl).1, (DK7.out.loc 1 _ _ _ rfl).1⟩)
      refine ⟨fun _ => HT.out, ?_⟩
      try simp only [List.setIfInBounds_toArray, List.set_cons_succ, List.set_cons_zero]
      refine till_only (j := 9) (by kernel_rfl) rfl ?_
      have HE := Lib.hid (show v3.there gX 0 2 from (DK7.out.loc 2 _ _ _ rfl).1.there (o := 0) (n := 2) (Nat.le_of_ble_eq_true rfl))
      have HO := Lib.hid (show (#[.int .i64 m1.lo, .int .i64 m1.hi] : Array Value).all (·.oneCell') = true from by simp [Value.oneCell'])
      refine wpList_store_mid rfl 23 (.tmp 5) (.tmp 18) rfl gX 0 #[.int .i64 m1.lo, .int .i64 m1.hi] rfl rfl HE.out size_bounds HO.out ?_
      change wpList _ _ _ _ _ (v3.setCells gX 0 [.int .i64 m1.lo, .int .i64 m1.hi])
      clear HE HO
      have DK8 := Lib.hid (show Desk w (v3.setCells gX 0 [.int .i64 m1.lo, .int .i64 m1.hi]) (fun _ => False) C B bef aft l c made N kv tv m [(gD, 57, [.int .i64 kind, .int .i64 day, .string code, .string other, .int .i64 al, .int .i64 ah, .int .i64 bl, .int .i64 bh]), (gS, 48, [.string code, .int .i64 dl, .int .i64 dh, .int .i64 wl, .int .i64 wh, .int .i64 pil, .int .i64 boi, .slice fa fn fc]), (gX, 23, [.int .i64 m1.lo, .int .i64 m1.hi])] from DK7.out.setLoc 2 [] [.int .i64 0, .int .i64 0] [] [.int .i64 m1.lo, .int .i64 m1.hi] rfl rfl (by decide))
      clear DK7
      generalize (v3.setCells gX 0 [.int .i64 m1.lo, .int .i64 m1.hi]) = v4 at DK8 ⊢
      change Till _ _ _ _ ∧ wpAnyT _ _ _ _ _ _ _ _ _ _
      refine ⟨fun h => by simp at h, ?_⟩
      try simp only [List.setIfInBounds_toArray, List.set_cons_succ, List.set_cons_zero]
      refine till_done (by kernel_rfl) ?_
      go_wp2_with fail
      go_meet
      case rel => exact ⟨_, rfl, DK8⟩
  case rest =>
    obtain ⟨gX, rfl, DK4⟩ := hcut
    obtain ⟨v8, hv8⟩ : ∃ v, v = wc := ⟨_, rfl⟩
    rw [← hv8] at DK4 ⊢
    clear hv8 DK3
    go_upto_region 3 with fail
    go_cut [6] from 19 to 26 (fun u wx => ∃ gY : Nat, u = .pointer (some ⟨gY, 0, none⟩) ∧ Hid (Desk w wx (fun _ => False) C B bef aft l c made N kv tv m [(gD, 57, [.int .i64 kind, .int .i64 day, .string code, .string other, .int .i64 al, .int .i64 ah, .int .i64 bl, .int .i64 bh]), (gS, 48, [.string code, .int .i64 dl, .int .i64 dh, .int .i64 wl, .int .i64 wh, .int .i64 pil, .int .i64 boi, .slice fa fn fc]), (gX, 23, [.int .i64 m1.lo, .int .i64 m1.hi]), (gY, 23, [.int .i64 m2.lo, .int .i64 m2.hi])]))
    case first =>
      have hmix : Try.prog.follows .mixedOrders = true := by kernel_rfl
      refine region_till [9] (fun w' => Blk w' gD 57 #[.int .i64 kind, .int .i64 day, .string code, .string other, .int .i64 al, .int .i64 ah, .int .i64 bl, .int .i64 bh] ∧ Blk w' gS 48 #[.string code, .int .i64 dl, .int .i64 dh, .int .i64 wl, .int .i64 wh, .int .i64 pil, .int .i64 boi, .slice fa fn fc]) 10 [false, false, false, false, false, false, false, false, false, false] hmix rfl rfl ?_
      have DK5 := Lib.hid (DK4.out.drew)
      clear DK4 hmix
      generalize v8.drew = v9 at DK5 ⊢
      have HT := Lib.hid (show (fun w' => Blk w' gD 57 #[.int .i64 kind, .int .i64 day, .string code, .string other, .int .i64 al, .int .i64 ah, .int .i64 bl, .int .i64 bh] ∧ Blk w' gS 48 #[.string code, .int .i64 dl, .int .i64 dh, .int .i64 wl, .int .i64 wh, .int .i64 pil, .int .i64 boi, .slice fa fn fc]) v9 from ⟨(DK5.out.loc 0 _ _ _ rfl).1, (DK5.out.loc 1 _ _ _ rfl).1⟩)
      refine till_pure (i := 0) (v := .pointer (some ⟨gS, 3, none⟩)) rfl rfl (by kernel_rfl) (fun _ _ _ h => h) (yields_of rfl (fun w' _ => by simp [go_sem])) (fun _ => HT.out) ?_
      simp only [List.setIfInBounds_toArray, List.set_cons_succ, List.set_cons_zero]
      refine till_load (i := 1) (v := .agg #[.int .i64 wl, .int .i64 wh]) rfl rfl (by kernel_rfl) (fun _ _ _ h => h) (yields_mid rfl 23 (.tmp 19) rfl (gS) 3 rfl [.int .i64 wl, .int .i64 wh] _ (fun w' hw' => Blk.range hw'.2 3 _ rfl) Try.underlying23 rfl (by kernel_rfl)) (fun _ => HT.out) ?_
      simp only [List.setIfInBounds_toArray, List.set_cons_succ, List.set_cons_zero]
      refine till_pure (i := 2) (v := .pointer (some ⟨gD, 4, none⟩)) rfl rfl (by kernel_rfl) (fun _ _ _ h => h) (yields_of rfl (fun w' _ => by simp [go_sem])) (fun _ => HT.out) ?_
      simp only [List.setIfInBounds_toArray, List.set_cons_succ, List.set_cons_zero]
      refine till_load (i := 3) (v := .agg #[.int .i64 al, .int .i64 ah]) rfl rfl (by kernel_rfl) (fun _ _ _ h => h) (yields_mid rfl 23 (.tmp 21) rfl (gD) 4 rfl [.int .i64 al, .int .i64 ah] _ (fun w' hw' => Blk.range hw'.1 4 _ rfl) Try.underlying23 rfl (by kernel_rfl)) (fun _ => HT.out) ?_
      simp only [List.setIfInBounds_toArray, List.set_cons_succ, List.set_cons_zero]
      refine till_pure (i := 4) (v := .pointer (some ⟨gS, 1, none⟩)) rfl rfl (by kernel_rfl) (fun _ _ _ h => h) (yields_of rfl (fun w' _ => by simp [go_sem])) (fun _ => HT.out) ?_
      simp only [List.setIfInBounds_toArray, List.set_cons_succ, List.set_cons_zero]
      refine till_load (i := 5) (v := .agg #[.int .i64 dl, .int .i64 dh]) rfl rfl (by kernel_rfl) (fun _ _ _ h => h) (yields_mid rfl 23 (.tmp 23) rfl (gS) 1 rfl [.int .i64 dl, .int .i64 dh] _ (fun w' hw' => Blk.range hw'.2 1 _ rfl) Try.underlying23 rfl (by kernel_rfl)) (fun _ => HT.out) ?_
      simp only [List.setIfInBounds_toArray, List.set_cons_succ, List.set_cons_zero]
      refine till_two (i := 6) (j := 8) (by kernel_rfl) rfl rfl ?_ ?_
      · go_wp2_with (go_at_call 77; refine (difference_up HUA.out (by decide) HUD.out HV8.out Ed2.out _).mono ?_; rintro e v10 ⟨rfl, hb⟩; have DK6 := Lib.hid (DK5.out.below hb); clear hb)
        have HT := Lib.hid (show (fun w' => Blk w' gD 57 #[.int .i64 kind, .int .i64 day, .string code, .string other, .int .i64 al, .int .i64 ah, .int .i64 bl, .int .i64 bh] ∧ Blk w' gS 48 #[.string code, .int .i64 dl, .int .i64 dh, .int .i64 wl, .int .i64 wh, .int .i64 pil, .int .i64 boi, .slice fa fn fc]) v10 from ⟨(DK6.out.loc 0 _ _ _ rfl).1, (DK6.out.loc 1 _ _ _ rfl).1⟩)
        refine ⟨fun _ => HT.out, ?_⟩
        try simp only [List.setIfInBounds_toArray, List.set_cons_succ, List.set_cons_zero]
        refine till_two (i := 7) (j := 8) (by kernel_rfl) rfl rfl ?_ ?_
        · go_wp2_with (go_at_call 82; refine (common_fit HFW.out HF2.out Em2.out _).mono ?_; rintro e v11 ⟨rfl, hb⟩; have DK7 := Lib.hid (DK6.out.below hb); clear hb)
          have HT := Lib.hid (show (fun w' => Blk w' gD 57 #[.int .i64 kind, .int .i64 day, .string code, .string other, .int .i64 al, .int .i64 ah, .int .i64 bl, .int .i64 bh] ∧ Blk w' gS 48 #[.string code, .int .i64 dl, .int .i64 dh, .int .i64 wl, .int .i64 wh, .int .i64 pil, .int .i64 boi, .slice fa fn fc]) v11 from ⟨(DK7.out.loc 0 _ _ _ rfl).1, (DK7.out.loc 1 _ _ _ rfl).1⟩)
          refine ⟨fun _ => HT.out, ?_⟩
          try simp only [List.setIfInBounds_toArray, List.set_cons_succ, List.set_cons_zero]
          refine till_only (j := 8) (by kernel_rfl) rfl ?_
          go_wp2_with fail
          have DK8 := Lib.hid (show Desk w (v11.alloc (.cells #[.int .i64 0, .int .i64 0] 23)) (fun _ => False) C B bef aft l c made N kv tv m [(gD, 57, [.int .i64 kind, .int .i64 day, .string code, .string other, .int .i64 al, .int .i64 ah, .int .i64 bl, .int .i64 bh]), (gS, 48, [.string code, .int .i64 dl, .int .i64 dh, .int .i64 wl, .int .i64 wh, .int .i64 pil, .int .i64 boi, .slice fa fn fc]), (gX, 23, [.int .i64 m1.lo, .int .i64 m1.hi]), (v11.heap.size, 23, [.int .i64 0, .int .i64 0])] from DK7.out.alloc 23 [.int .i64 0, .int .i64 0] rfl)
          generalize (v11.alloc (.cells #[.int .i64 0, .int .i64 0] 23)) = v12 at DK8 ⊢
          generalize v11.heap.size = gY at DK8 ⊢
          have HT := Lib.hid (show (fun w' => Blk w' gD 57 #[.int .i64 kind, .int .i64 day, .string code, .string other, .int .i64 al, .int .i64 ah, .int .i64 bl, .int .i64 bh] ∧ Blk w' gS 48 #[.string code, .int .i64 dl, .int .i64 dh, .int .i64 wl, .int .i64 wh, .int .i64 pil, .int .i64 boi, .slice fa fn fc]) v12 from ⟨(DK8.out.loc 0 _ _ _ rfl).1, (DK8.out.loc 1 _ _ _ rfl).1⟩)
          refine ⟨fun _ => HT.out, ?_⟩
          try simp only [List.setIfInBounds_toArray, List.set_cons_succ, List.set_cons_zero]
          refine till_only (j := 9) (by kernel_rfl) rfl ?_
          have HE := Lib.hid (show v12.there gY 0 2 from (DK8.out.loc 3 _ _ _ rfl).1.there (o := 0) (n := 2) (Nat.le_of_ble_eq_true rfl))
          have HO := Lib.hid (show (#[.int .i64 m2.lo, .int .i64 m2.hi] : Array Value).all (·.oneCell') = true from by simp [Value.oneCell'])
          refine wpList_store_mid rfl 23 (.tmp 6) (.tmp 26) rfl gY 0 #[.int .i64 m2.lo, .int .i64 m2.hi] rfl rfl HE.out size_bounds HO.out ?_
          change wpList _ _ _ _ _ (v12.setCells gY 0 [.int .i64 m2.lo, .int .i64 m2.hi])
          clear HE HO
          have DK9 := Lib.hid (show Desk w (v12.setCells gY 0 [.int .i64 m2.lo, .int .i64 m2.hi]) (fun _ => False) C B bef aft l c made N kv tv m [(gD, 57, [.int .i64 kind, .int .i64 day, .string code, .string other, .int .i64 al, .int .i64 ah, .int .i64 bl, .int .i64 bh]), (gS, 48, [.string code, .int .i64 dl, .int .i64 dh, .int .i64 wl, .int .i64 wh, .int .i64 pil, .int .i64 boi, .slice fa fn fc]), (gX, 23, [.int .i64 m1.lo, .int .i64 m1.hi]), (gY, 23, [.int .i64 m2.lo, .int .i64 m2.hi])] from DK8.out.setLoc 3 [] [.int .i64 0, .int .i64 0] [] [.int .i64 m2.lo, .int .i64 m2.hi] rfl rfl (by decide))
          clear DK8
          generalize (v12.setCells gY 0 [.int .i64 m2.lo, .int .i64 m2.hi]) = v13 at DK9 ⊢
          change Till _ _ _ _ ∧ wpAnyT _ _ _ _ _ _ _ _ _ _
          refine ⟨fun h => by simp at h, ?_⟩
          try simp only [List.setIfInBounds_toArray, List.set_cons_succ, List.set_cons_zero]
          refine till_done (by kernel_rfl) ?_
          go_wp2_with fail
          go_meet
          case rel => exact ⟨_, rfl, DK9⟩
        · go_wp2_with fail
          have DK7 := Lib.hid (show Desk w (v10.alloc (.cells #[.int .i64 0, .int .i64 0] 23)) (fun _ => False) C B bef aft l c made N kv tv m [(gD, 57, [.int .i64 kind, .int .i64 day, .string code, .string other, .int .i64 al, .int .i64 ah, .int .i64 bl, .int .i64 bh]), (gS, 48, [.string code, .int .i64 dl, .int .i64 dh, .int .i64 wl, .int .i64 wh, .int .i64 pil, .int .i64 boi, .slice fa fn fc]), (gX, 23, [.int .i64 m1.lo, .int .i64 m1.hi]), (v10.heap.size, 23, [.int .i64 0, .int .i64 0])] from DK6.out.alloc 23 [.int .i64 0, .int .i64 0] rfl)
          generalize (v10.alloc (.cells #[.int .i64 0, .int .i64 0] 23)) = v11 at DK7 ⊢
          generalize v10.heap.size = gY at DK7 ⊢
          have HT := Lib.hid (show (fun w' => Blk w' gD 57 #[.int .i64 kind, .int .i64 day, .string code, .string other, .int .i64 al, .int .i64 ah, .int .i64 bl, .int .i64 bh] ∧ Blk w' gS 48 #[.string code, .int .i64 dl, .int .i64 dh, .int .i64 wl, .int .i64 wh, .int .i64 pil, .int .i64 boi, .slice fa fn fc]) v11 from ⟨(DK7.out.loc 0 _ _ _ rfl).1, (DK7.out.loc 1 _ _ _ rfl).1⟩)
          refine ⟨fun _ => HT.out, ?_⟩
          try simp only [List.setIfInBounds_toArray, List.set_cons_succ, List.set_cons_zero]
          refine till_only (j := 7) (by kernel_rfl) rfl ?_
          go_wp2_with (go_at_call 82; refine (common_fit HFW.out HF2.out Em2.out _).mono ?_; rintro e v12 ⟨rfl, hb⟩; have DK8 := Lib.hid (DK7.out.below hb); clear hb)
          have HT := Lib.hid (show (fun w' => Blk w' gD 57 #[.int .i64 kind, .int .i64 day, .string code, .string other, .int .i64 al, .int .i64 ah, .int .i64 bl, .int .i64 bh] ∧ Blk w' gS 48 #[.string code, .int .i64 dl, .int .i64 dh, .int .i64 wl, .int .i64 wh, .int .i64 pil, .int .i64 boi, .slice fa fn fc]) v12 from ⟨(DK8.out.loc 0 _ _ _ rfl).1, (DK8.out.loc 1 _ _ _ rfl).1⟩)
          refine ⟨fun _ => HT.out, ?_⟩
          try simp only [List.setIfInBounds_toArray, List.set_cons_succ, List.set_cons_zero]
          refine till_only (j := 9) (by kernel_rfl) rfl ?_
          have HE := Lib.hid (show v12.there gY 0 2 from (DK8.out.loc 3 _ _ _ rfl).1.there (o := 0) (n := 2) (Nat.le_of_ble_eq_true rfl))
          have HO := Lib.hid (show (#[.int .i64 m2.lo, .int .i64 m2.hi] : Array Value).all (·.oneCell') = true from by simp [Value.oneCell'])
          refine wpList_store_mid rfl 23 (.tmp 6) (.tmp 26) rfl gY 0 #[.int .i64 m2.lo, .int .i64 m2.hi] rfl rfl HE.out size_bounds HO.out ?_
          change wpList _ _ _ _ _ (v12.setCells gY 0 [.int .i64 m2.lo, .int .i64 m2.hi])
          clear HE HO
          have DK9 := Lib.hid (show Desk w (v12.setCells gY 0 [.int .i64 m2.lo, .int .i64 m2.hi]) (fun _ => False) C B bef aft l c made N kv tv m [(gD, 57, [.int .i64 kind, .int .i64 day, .string code, .string other, .int .i64 al, .int .i64 ah, .int .i64 bl, .int .i64 bh]), (gS, 48, [.string code, .int .i64 dl, .int .i64 dh, .int .i64 wl, .int .i64 wh, .int .i64 pil, .int .i64 boi, .slice fa fn fc]), (gX, 23, [.int .i64 m1.lo, .int .i64 m1.hi]), (gY, 23, [.int .i64 m2.lo, .int .i64 m2.hi])] from DK8.out.setLoc 3 [] [.int .i64 0, .int .i64 0] [] [.int .i64 m2.lo, .int .i64 m2.hi] rfl rfl (by decide))
          clear DK8
          generalize (v12.setCells gY 0 [.int .i64 m2.lo, .int .i64 m2.hi]) = v13 at DK9 ⊢
          change Till _ _ _ _ ∧ wpAnyT _ _ _ _ _ _ _ _ _ _
          refine ⟨fun h => by simp at h, ?_⟩
          try simp only [List.setIfInBounds_toArray, List.set_cons_succ, List.set_cons_zero]
          refine till_done (by kernel_rfl) ?_
          go_wp2_with fail
          go_meet
          case rel => exact ⟨_, rfl, DK9⟩
      · go_wp2_with fail
        have DK6 := Lib.hid (show Desk w (v9.alloc (.cells #[.int .i64 0, .int .i64 0] 23)) (fun _ => False) C B bef aft l c made N kv tv m [(gD, 57, [.int .i64 kind, .int .i64 day, .string code, .string other, .int .i64 al, .int .i64 ah, .int .i64 bl, .int .i64 bh]), (gS, 48, [.string code, .int .i64 dl, .int .i64 dh, .int .i64 wl, .int .i64 wh, .int .i64 pil, .int .i64 boi, .slice fa fn fc]), (gX, 23, [.int .i64 m1.lo, .int .i64 m1.hi]), (v9.heap.size, 23, [.int .i64 0, .int .i64 0])] from DK5.out.alloc 23 [.int .i64 0, .int .i64 0] rfl)
        generalize (v9.alloc (.cells #[.int .i64 0, .int .i64 0] 23)) = v10 at DK6 ⊢
        generalize v9.heap.size = gY at DK6 ⊢
        have HT := Lib.hid (show (fun w' => Blk w' gD 57 #[.int .i64 kind, .int .i64 day, .string code, .string other, .int .i64 al, .int .i64 ah, .int .i64 bl, .int .i64 bh] ∧ Blk w' gS 48 #[.string code, .int .i64 dl, .int .i64 dh, .int .i64 wl, .int .i64 wh, .int .i64 pil, .int .i64 boi, .slice fa fn fc]) v10 from ⟨(DK6.out.loc 0 _ _ _ rfl).1, (DK6.out.loc 1 _ _ _ rfl).1⟩)
        refine ⟨fun _ => HT.out, ?_⟩
        try simp only [List.setIfInBounds_toArray, List.set_cons_succ, List.set_cons_zero]
        refine till_only (j := 6) (by kernel_rfl) rfl ?_
        go_wp2_with (go_at_call 77; refine (difference_up HUA.out (by decide) HUD.out HV8.out Ed2.out _).mono ?_; rintro e v11 ⟨rfl, hb⟩; have DK7 := Lib.hid (DK6.out.below hb); clear hb)
        have HT := Lib.hid (show (fun w' => Blk w' gD 57 #[.int .i64 kind, .int .i64 day, .string code, .string other, .int .i64 al, .int .i64 ah, .int .i64 bl, .int .i64 bh] ∧ Blk w' gS 48 #[.string code, .int .i64 dl, .int .i64 dh, .int .i64 wl, .int .i64 wh, .int .i64 pil, .int .i64 boi, .slice fa fn fc]) v11 from ⟨(DK7.out.loc 0 _ _ _ rfl).1, (DK7.out.loc 1 _ _ _ rfl).1⟩)
        refine ⟨fun _ => HT.out, ?_⟩
        try simp only [List.setIfInBounds_toArray, List.set_cons_succ, List.set_cons_zero]
        refine till_only (j := 7) (by kernel_rfl) rfl ?_
        go_wp2_with (go_at_call 82; refine (common_fit HFW.out HF2.out Em2.out _).mono ?_; rintro e v12 ⟨rfl, hb⟩; have DK8 := Lib.hid (DK7.out.below hb); clear hb)
        have HT := Lib.hid (show (fun w' => Blk w' gD 57 #[.int .i64 kind, .int .i64 day, .string code, .string other, .int .i64 al, .int .i64 ah, .int .i64 bl, .int .i64 bh] ∧ Blk w' gS 48 #[.string code, .int .i64 dl, .int .i64 dh, .int .i64 wl, .int .i64 wh, .int .i64 pil, .int .i64 boi, .slice fa fn fc]) v12 from ⟨(DK8.out.loc 0 _ _ _ rfl).1, (DK8.out.loc 1 _ _ _ rfl).1⟩)
        refine ⟨fun _ => HT.out, ?_⟩
        try simp only [List.setIfInBounds_toArray, List.set_cons_succ, List.set_cons_zero]
        refine till_only (j := 9) (by kernel_rfl) rfl ?_
        have HE := Lib.hid (show v12.there gY 0 2 from (DK8.out.loc 3 _ _ _ rfl).1.there (o := 0) (n := 2) (Nat.le_of_ble_eq_true rfl))
        have HO := Lib.hid (show (#[.int .i64 m2.lo, .int .i64 m2.hi] : Array Value).all (·.oneCell') = true from by simp [Value.oneCell'])
        refine wpList_store_mid rfl 23 (.tmp 6) (.tmp 26) rfl gY 0 #[.int .i64 m2.lo, .int .i64 m2.hi] rfl rfl HE.out size_bounds HO.out ?_
        change wpList _ _ _ _ _ (v12.setCells gY 0 [.int .i64 m2.lo, .int .i64 m2.hi])
        clear HE HO
        have DK9 := Lib.hid (show Desk w (v12.setCells gY 0 [.int .i64 m2.lo, .int .i64 m2.hi]) (fun _ => False) C B bef aft l c made N kv tv m [(gD, 57, [.int .i64 kind, .int .i64 day, .string code, .string other, .int .i64 al, .int .i64 ah, .int .i64 bl, .int .i64 bh]), (gS, 48, [.string code, .int .i64 dl, .int .i64 dh, .int .i64 wl, .int .i64 wh, .int .i64 pil, .int .i64 boi, .slice fa fn fc]), (gX, 23, [.int .i64 m1.lo, .int .i64 m1.hi]), (gY, 23, [.int .i64 m2.lo, .int .i64 m2.hi])] from DK8.out.setLoc 3 [] [.int .i64 0, .int .i64 0] [] [.int .i64 m2.lo, .int .i64 m2.hi] rfl rfl (by decide))
        clear DK8
        generalize (v12.setCells gY 0 [.int .i64 m2.lo, .int .i64 m2.hi]) = v13 at DK9 ⊢
        change Till _ _ _ _ ∧ wpAnyT _ _ _ _ _ _ _ _ _ _
        refine ⟨fun h => by simp at h, ?_⟩
        try simp only [List.setIfInBounds_toArray, List.set_cons_succ, List.set_cons_zero]
        refine till_done (by kernel_rfl) ?_
        go_wp2_with fail
        go_meet
        case rel => exact ⟨_, rfl, DK9⟩
    case rest =>
      obtain ⟨gY, rfl, DK5⟩ := hcut
      have x0 := (show wc.cell? ⟨gX, 0, none⟩ = some (.int .i64 m1.lo) from DK5.out.at 2 0 rfl rfl)
      have x1 := (show wc.cell? ⟨gX, 1, none⟩ = some (.int .i64 m1.hi) from DK5.out.at 2 1 rfl rfl)
      have y0 := (show wc.cell? ⟨gY, 0, none⟩ = some (.int .i64 m2.lo) from DK5.out.at 3 0 rfl rfl)
      have y1 := (show wc.cell? ⟨gY, 1, none⟩ = some (.int .i64 m2.hi) from DK5.out.at 3 1 rfl rfl)
      go_wp2_with (go_at_call 75; refine (need_false _ _).mono ?_; rintro e w2 ⟨rfl, rfl⟩)
      exact ⟨rfl, rfl, DK5.out.quiet⟩

end Go.Proofs.Ytbgojeppfhldjaa
