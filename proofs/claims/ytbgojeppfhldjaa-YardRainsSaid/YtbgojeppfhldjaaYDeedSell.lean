/- A deed: sell. -/
import Derived.Test.YtbgojeppfhldjaaYDeedFacts
namespace Go.Proofs.Ytbgojeppfhldjaa
open Go Go.RowKit Yd

set_option maxRecDepth 100000 in
set_option maxHeartbeats 1000000 in
theorem sell_no {w : World} {C : Nat → Prop} {B : Nat} {bef aft : Int} {l : List SRow} {c : Yd.Acc} {made : Int} {N : Nat} {kv tv : Value} {m : Nat} (h : Book w C B bef aft l c made N kv tv m)
    (kind day : Int) (code other : Code) (al ah bl bh : Int) (hs : code.size ≤ maxLen) (hC : ∀ k, C k → k < w.heap.size) (hn : ixOf l code = none) :
    Calls Try.prog 68 #[.pointer (some ⟨B, 0, none⟩), .agg #[.int .i64 kind, .int .i64 day, .string code, .string other, .int .i64 al, .int .i64 ah, .int .i64 bl, .int .i64 bh]] w fun e w' => e = .panicked (faulty 1) ∧ Below w.heap.size w w' := by
  have DK1 := Lib.hid (boxed_deed h hC [.int .i64 kind, .int .i64 day, .string code, .string other, .int .i64 al, .int .i64 ah, .int .i64 bl, .int .i64 bh])
  have HS := Lib.hid hs; have HN := Lib.hid hn
  clear h hs hn hC
  go_enter Try.func68, Try.ntmps68
  go_wp2_with (go_at_call 71; refine (stack_no DK1.out.book code HS.out HN.out).mono ?_; rintro e w1 ⟨rfl, hb1⟩; have DK2 := Lib.hid (DK1.out.below hb1); clear hb1)
  exact ⟨rfl, rfl, DK2.out.quiet⟩

set_option maxRecDepth 100000 in
set_option maxHeartbeats 1000000 in
theorem sell_soon {w : World} {C : Nat → Prop} {B : Nat} {bef aft : Int} {l : List SRow} {c : Yd.Acc} {made : Int} {N : Nat} {kv tv : Value} {m : Nat} (h : Book w C B bef aft l c made N kv tv m)
    (kind day : Int) (code other : Code) (al ah bl bh : Int) (hs : code.size ≤ maxLen) (hC : ∀ k, C k → k < w.heap.size) (dl dh wl wh pil boi : Int) (src : List Int) (fa : Option Addr) (fn fc : Nat) {k : Nat} (hk : ixOf l code = some k) (hp : l[k]? = some (⟨code, ⟨dl, dh⟩, ⟨wl, wh⟩, pil, boi, src⟩, .slice fa fn fc)) (hd : 0 ≤ day ∧ day ≤ 2000) (hb : -1 ≤ boi ∧ boi ≤ 2000) (hr : restedB aft (⟨code, ⟨dl, dh⟩, ⟨wl, wh⟩, pil, boi, src⟩ : Stk Code) day = false) :
    Calls Try.prog 68 #[.pointer (some ⟨B, 0, none⟩), .agg #[.int .i64 kind, .int .i64 day, .string code, .string other, .int .i64 al, .int .i64 ah, .int .i64 bl, .int .i64 bh]] w fun e w' => e = .panicked (faulty 3) ∧ Below w.heap.size w w' := by
  have HDAY := Lib.hid (show 0 ≤ day ∧ day ≤ 1000000 by omega)
  have HBOI := Lib.hid (show -1 ≤ boi ∧ boi ≤ 1000000 by omega)
  have HR := Lib.hid hr
  clear hd hb hr
  have DK1 := Lib.hid (boxed_deed h hC [.int .i64 kind, .int .i64 day, .string code, .string other, .int .i64 al, .int .i64 ah, .int .i64 bl, .int .i64 bh])
  have hz1 : (w.alloc (.cells #[.int .i64 kind, .int .i64 day, .string code, .string other, .int .i64 al, .int .i64 ah, .int .i64 bl, .int .i64 bh] 57)).heap.size = w.heap.size + 1 := World.size_alloc _ _
  have HO0 := Lib.hid (show (#[.string code, .int .i64 dl, .int .i64 dh, .int .i64 wl, .int .i64 wh, .int .i64 pil, .int .i64 boi, .slice fa fn fc] : Array Value).all (·.oneCell') = true from by simp [Value.oneCell'])
  have HS := Lib.hid hs; have HK := Lib.hid hk; have HP := Lib.hid hp; have HC := Lib.hid hC
  clear h hs hk hp hC
  go_enter Try.func68, Try.ntmps68
  go_upto_region 2 with (first
    | (go_at_call 71; refine (stack_yes DK1.out.book code HS.out HK.out HP.out).mono ?_; rintro e w1 ⟨rfl, hb1⟩; have DK2 := Lib.hid ((DK1.out.below hb1).alloc 48 [.string ⟨#[]⟩, .int .i64 0, .int .i64 0, .int .i64 0, .int .i64 0, .int .i64 0, .int .i64 0, .slice none 0 0] rfl); clear hb1)
    | ((with_reducible refine at_store 48 (.tmp 4) (.tmp 8) ?_); go_must (refine wpList_store_mid rfl 48 (.tmp 4) (.tmp 8) rfl w1.heap.size 0 #[.string code, .int .i64 dl, .int .i64 dh, .int .i64 wl, .int .i64 wh, .int .i64 pil, .int .i64 boi, .slice fa fn fc] rfl rfl ((DK2.out.loc 1 _ _ _ rfl).1.there (o := 0) (n := 8) (Nat.le_of_ble_eq_true rfl)) size_stack HO0.out ?_)))
  have hgS := (DK2.out.far 1 rfl).1
  have DK3 := Lib.hid (show Desk w ((w1.alloc (.cells #[.string ⟨#[]⟩, .int .i64 0, .int .i64 0, .int .i64 0, .int .i64 0, .int .i64 0, .int .i64 0, .slice none 0 0] 48)).setCells w1.heap.size 0 [.string code, .int .i64 dl, .int .i64 dh, .int .i64 wl, .int .i64 wh, .int .i64 pil, .int .i64 boi, .slice fa fn fc]) (fun _ => False) C B bef aft l c made N kv tv m [(w.heap.size, 57, [.int .i64 kind, .int .i64 day, .string code, .string other, .int .i64 al, .int .i64 ah, .int .i64 bl, .int .i64 bh]), (w1.heap.size, 48, [.string code, .int .i64 dl, .int .i64 dh, .int .i64 wl, .int .i64 wh, .int .i64 pil, .int .i64 boi, .slice fa fn fc])] from DK2.out.setLoc 1 [] [.string ⟨#[]⟩, .int .i64 0, .int .i64 0, .int .i64 0, .int .i64 0, .int .i64 0, .int .i64 0, .slice none 0 0] [] [.string code, .int .i64 dl, .int .i64 dh, .int .i64 wl, .int .i64 wh, .int .i64 pil, .int .i64 boi, .slice fa fn fc] rfl rfl (by decide))
  clear DK2
  generalize ((w1.alloc (.cells #[.string ⟨#[]⟩, .int .i64 0, .int .i64 0, .int .i64 0, .int .i64 0, .int .i64 0, .int .i64 0, .slice none 0 0] 48)).setCells w1.heap.size 0 [.string code, .int .i64 dl, .int .i64 dh, .int .i64 wl, .int .i64 wh, .int .i64 pil, .int .i64 boi, .slice fa fn fc]) = W3 at DK3 ⊢
  obtain ⟨gD, hgD⟩ : ∃ g, g = w.heap.size := ⟨_, rfl⟩
  obtain ⟨gS, hgS2⟩ : ∃ g, g = w1.heap.size := ⟨_, rfl⟩
  rw [← hgD, ← hgS2] at DK3 ⊢
  have HZ := Lib.hid (And.intro hgD hgS2)
  clear hgD hgS2 hgS hz1
  simp only [Act.put]
  have s0 := (show W3.cell? ⟨gS, 0, none⟩ = some (.string code) from DK3.out.at 1 0 rfl rfl)
  have s1 := (show W3.cell? ⟨gS, 1, none⟩ = some (.int .i64 dl) from DK3.out.at 1 1 rfl rfl)
  have s2 := (show W3.cell? ⟨gS, 2, none⟩ = some (.int .i64 dh) from DK3.out.at 1 2 rfl rfl)
  have s3 := (show W3.cell? ⟨gS, 3, none⟩ = some (.int .i64 wl) from DK3.out.at 1 3 rfl rfl)
  have s4 := (show W3.cell? ⟨gS, 4, none⟩ = some (.int .i64 wh) from DK3.out.at 1 4 rfl rfl)
  have s5 := (show W3.cell? ⟨gS, 5, none⟩ = some (.int .i64 pil) from DK3.out.at 1 5 rfl rfl)
  have s6 := (show W3.cell? ⟨gS, 6, none⟩ = some (.int .i64 boi) from DK3.out.at 1 6 rfl rfl)
  have s7 := (show W3.cell? ⟨gS, 7, none⟩ = some (.slice fa fn fc) from DK3.out.at 1 7 rfl rfl)
  have t1 := (show W3.cell? ⟨gD, 1, none⟩ = some (.int .i64 day) from DK3.out.at 0 1 rfl rfl)
  go_upto_region 3 with (go_at_call 76; refine (rested_no DK3.out.book ⟨code, ⟨dl, dh⟩, ⟨wl, wh⟩, pil, boi, src⟩ fa fn fc day HDAY.out HBOI.out HR.out).mono ?_; rintro e w4 ⟨rfl, hb4⟩; have DK4 := Lib.hid (DK3.out.below hb4); clear hb4)
  exact ⟨rfl, rfl, DK4.out.quiet⟩

set_option maxRecDepth 100000 in
set_option maxHeartbeats 1000000 in
theorem sell_ok {w : World} {C : Nat → Prop} {B : Nat} {bef aft : Int} {l : List SRow} {c : Yd.Acc} {made : Int} {N : Nat} {kv tv : Value} {m : Nat} (h : Book w C B bef aft l c made N kv tv m)
    (kind day : Int) (code other : Code) (al ah bl bh : Int) (hs : code.size ≤ maxLen) (hC : ∀ k, C k → k < w.heap.size) (dl dh wl wh pil boi : Int) (src : List Int) (fa : Option Addr) (fn fc : Nat) (V : Int) (hV : V ≤ 2000000000000000) {k : Nat} (hk : ixOf l code = some k) (hp : l[k]? = some (⟨code, ⟨dl, dh⟩, ⟨wl, wh⟩, pil, boi, src⟩, .slice fa fn fc)) (hd : 0 ≤ day ∧ day ≤ 2000) (hb : -1 ≤ boi ∧ boi ≤ 2000) (hr : restedB aft (⟨code, ⟨dl, dh⟩, ⟨wl, wh⟩, pil, boi, src⟩ : Stk Code) day = true) (ud : Bd.Up ⟨dl, dh⟩ V) (uw : Bd.Up ⟨wl, wh⟩ V) (u4 : c.soldDry.Up V) (u5 : c.soldWater.Up V) (hN : N + 10 ≤ 1000000) :
    Calls Try.prog 68 #[.pointer (some ⟨B, 0, none⟩), .agg #[.int .i64 kind, .int .i64 day, .string code, .string other, .int .i64 al, .int .i64 ah, .int .i64 bl, .int .i64 bh]] w (DropDone w C B bef aft (l.eraseIdx k) { c with soldDry := c.soldDry.add ⟨dl, dh⟩, soldWater := c.soldWater.add ⟨wl, wh⟩ } made (N + 10) m) := by
  have HUD := Lib.hid ud; have HUW := Lib.hid uw; have HU4 := Lib.hid u4; have HU5 := Lib.hid u5; have HN := Lib.hid hN
  have HV8 := Lib.hid (show V ≤ 8000000000000000 from Int.le_trans hV (by decide))
  clear ud uw u4 u5 hN
  have HDAY := Lib.hid (show 0 ≤ day ∧ day ≤ 1000000 by omega)
  have HBOI := Lib.hid (show -1 ≤ boi ∧ boi ≤ 1000000 by omega)
  have HR := Lib.hid hr
  clear hd hb hr
  obtain ⟨s4, hs4⟩ : ∃ b : Bd, b = c.soldDry.add ⟨dl, dh⟩ := ⟨_, rfl⟩
  have Es4 := Lib.hid hs4; clear hs4
  obtain ⟨s5, hs5⟩ : ∃ b : Bd, b = c.soldWater.add ⟨wl, wh⟩ := ⟨_, rfl⟩
  have Es5 := Lib.hid hs5; clear hs5
  have DK1 := Lib.hid (boxed_deed h hC [.int .i64 kind, .int .i64 day, .string code, .string other, .int .i64 al, .int .i64 ah, .int .i64 bl, .int .i64 bh])
  have hz1 : (w.alloc (.cells #[.int .i64 kind, .int .i64 day, .string code, .string other, .int .i64 al, .int .i64 ah, .int .i64 bl, .int .i64 bh] 57)).heap.size = w.heap.size + 1 := World.size_alloc _ _
  have HO0 := Lib.hid (show (#[.string code, .int .i64 dl, .int .i64 dh, .int .i64 wl, .int .i64 wh, .int .i64 pil, .int .i64 boi, .slice fa fn fc] : Array Value).all (·.oneCell') = true from by simp [Value.oneCell'])
  have HS := Lib.hid hs; have HK := Lib.hid hk; have HP := Lib.hid hp; have HC := Lib.hid hC
  clear h hs hk hp hC
  go_enter Try.func68, Try.ntmps68
  go_upto_region 2 with (first
    | (go_at_call 71; refine (stack_yes DK1.out.book code HS.out HK.out HP.out).mono ?_; rintro e w1 ⟨rfl, hb1⟩; have DK2 := Lib.hid ((DK1.out.below hb1).alloc 48 [.string ⟨#[]⟩, .int .i64 0, .int .i64 0, .int .i64 0, .int .i64 0, .int .i64 0, .int .i64 0, .slice none 0 0] rfl); clear hb1)
    | ((with_reducible refine at_store 48 (.tmp 4) (.tmp 8) ?_); go_must (refine wpList_store_mid rfl 48 (.tmp 4) (.tmp 8) rfl w1.heap.size 0 #[.string code, .int .i64 dl, .int .i64 dh, .int .i64 wl, .int .i64 wh, .int .i64 pil, .int .i64 boi, .slice fa fn fc] rfl rfl ((DK2.out.loc 1 _ _ _ rfl).1.there (o := 0) (n := 8) (Nat.le_of_ble_eq_true rfl)) size_stack HO0.out ?_)))
  have hgS := (DK2.out.far 1 rfl).1
  have DK3 := Lib.hid (show Desk w ((w1.alloc (.cells #[.string ⟨#[]⟩, .int .i64 0, .int .i64 0, .int .i64 0, .int .i64 0, .int .i64 0, .int .i64 0, .slice none 0 0] 48)).setCells w1.heap.size 0 [.string code, .int .i64 dl, .int .i64 dh, .int .i64 wl, .int .i64 wh, .int .i64 pil, .int .i64 boi, .slice fa fn fc]) (fun _ => False) C B bef aft l c made N kv tv m [(w.heap.size, 57, [.int .i64 kind, .int .i64 day, .string code, .string other, .int .i64 al, .int .i64 ah, .int .i64 bl, .int .i64 bh]), (w1.heap.size, 48, [.string code, .int .i64 dl, .int .i64 dh, .int .i64 wl, .int .i64 wh, .int .i64 pil, .int .i64 boi, .slice fa fn fc])] from DK2.out.setLoc 1 [] [.string ⟨#[]⟩, .int .i64 0, .int .i64 0, .int .i64 0, .int .i64 0, .int .i64 0, .int .i64 0, .slice none 0 0] [] [.string code, .int .i64 dl, .int .i64 dh, .int .i64 wl, .int .i64 wh, .int .i64 pil, .int .i64 boi, .slice fa fn fc] rfl rfl (by decide))
  clear DK2
  generalize ((w1.alloc (.cells #[.string ⟨#[]⟩, .int .i64 0, .int .i64 0, .int .i64 0, .int .i64 0, .int .i64 0, .int .i64 0, .slice none 0 0] 48)).setCells w1.heap.size 0 [.string code, .int .i64 dl, .int .i64 dh, .int .i64 wl, .int .i64 wh, .int .i64 pil, .int .i64 boi, .slice fa fn fc]) = W3 at DK3 ⊢
  obtain ⟨gD, hgD⟩ : ∃ g, g = w.heap.size := ⟨_, rfl⟩
  obtain ⟨gS, hgS2⟩ : ∃ g, g = w1.heap.size := ⟨_, rfl⟩
  rw [← hgD, ← hgS2] at DK3 ⊢
  have HZ := Lib.hid (And.intro hgD hgS2)
  clear hgD hgS2 hgS hz1
  simp only [Act.put]
  have s0 := (show W3.cell? ⟨gS, 0, none⟩ = some (.string code) from DK3.out.at 1 0 rfl rfl)
  have s1 := (show W3.cell? ⟨gS, 1, none⟩ = some (.int .i64 dl) from DK3.out.at 1 1 rfl rfl)
  have s2 := (show W3.cell? ⟨gS, 2, none⟩ = some (.int .i64 dh) from DK3.out.at 1 2 rfl rfl)
  have s3 := (show W3.cell? ⟨gS, 3, none⟩ = some (.int .i64 wl) from DK3.out.at 1 3 rfl rfl)
  have s4 := (show W3.cell? ⟨gS, 4, none⟩ = some (.int .i64 wh) from DK3.out.at 1 4 rfl rfl)
  have s5 := (show W3.cell? ⟨gS, 5, none⟩ = some (.int .i64 pil) from DK3.out.at 1 5 rfl rfl)
  have s6 := (show W3.cell? ⟨gS, 6, none⟩ = some (.int .i64 boi) from DK3.out.at 1 6 rfl rfl)
  have s7 := (show W3.cell? ⟨gS, 7, none⟩ = some (.slice fa fn fc) from DK3.out.at 1 7 rfl rfl)
  have t1 := (show W3.cell? ⟨gD, 1, none⟩ = some (.int .i64 day) from DK3.out.at 0 1 rfl rfl)
  go_upto_region 3 with (go_at_call 76; refine (rested_ok DK3.out.book ⟨code, ⟨dl, dh⟩, ⟨wl, wh⟩, pil, boi, src⟩ fa fn fc day HDAY.out HBOI.out HR.out).mono ?_; rintro e w4 ⟨rfl, hb4⟩; have DK4 := Lib.hid (DK3.out.below hb4); clear hb4)
  clear s0 s1 s2 s3 s4 s5 s6 s7 t1
  have q0 := cell_regrown (show w4.cell? ⟨B, 11, none⟩ = some (.int .i64 c.soldDry.lo) from DK4.out.own 11 rfl)
  have q1 := cell_regrown (show w4.cell? ⟨B, 12, none⟩ = some (.int .i64 c.soldDry.hi) from DK4.out.own 12 rfl)
  have q2 := cell_regrown (show w4.cell? ⟨gS, 1, none⟩ = some (.int .i64 dl) from DK4.out.at 1 1 rfl rfl)
  have q3 := cell_regrown (show w4.cell? ⟨gS, 2, none⟩ = some (.int .i64 dh) from DK4.out.at 1 2 rfl rfl)
  have k0 : ∀ d os, Calls Try.prog 72 #[.agg #[.int .i64 c.soldDry.lo, .int .i64 c.soldDry.hi], .agg #[.int .i64 dl, .int .i64 dh]] (Go.Sort.grow (redrawn w4 d) os) fun e w'' => e = .returned (.agg #[.int .i64 s4.lo, .int .i64 s4.hi]) ∧ ∃ p : Regrown, w'' = Go.Sort.grow (redrawn w4 p.d) p.os := regrown_calls (fun w => by exact sum_up HU4.out HV8.out HUD.out HV8.out Es4.out w)
  refine region_split_below 12 (by kernel_rfl) (by kernel_rfl) (by kernel_rfl) ?_
  simp only [List.take_succ_cons, List.take_zero, List.drop_succ_cons, List.drop_zero]
  repeat (go_big_quiet_step (first | (with_reducible exact k0 _ _)))
  refine wpQuiet_nil ?_
  intro v0 hw'
  have hb8 : Below w4.heap.size w4 v0 := by obtain ⟨⟨dq, osq⟩, hw''⟩ := hw'; rw [hw'']; exact below_regrown w4 dq osq
  clear hw' q0 q1 q2 q3 k0
  have DK5 := Lib.hid (show Desk w v0 (fun _ => False) C B bef aft l c made N kv tv m [(gD, 57, [.int .i64 kind, .int .i64 day, .string code, .string other, .int .i64 al, .int .i64 ah, .int .i64 bl, .int .i64 bh]), (gS, 48, [.string code, .int .i64 dl, .int .i64 dh, .int .i64 wl, .int .i64 wh, .int .i64 pil, .int .i64 boi, .slice fa fn fc])] from DK4.out.below hb8)
  clear DK4
  clear hb8
  have HE := Lib.hid (show v0.there B 11 2 from DK5.out.book.blk.there (o := 11) (n := 2) (Nat.le_of_ble_eq_true rfl))
  have HO := Lib.hid (show (#[.int .i64 s4.lo, .int .i64 s4.hi] : Array Value).all (·.oneCell') = true from by simp [Value.oneCell'])
  refine wpList_store_mid rfl 23 (.tmp 25) (.tmp 22) rfl B 11 #[.int .i64 s4.lo, .int .i64 s4.hi] rfl rfl HE.out size_bounds HO.out ?_
  change wpList _ _ _ _ _ (v0.setCells B 11 [.int .i64 s4.lo, .int .i64 s4.hi])
  clear HE HO
  have DK6 := Lib.hid (show Desk w (v0.setCells B 11 [.int .i64 s4.lo, .int .i64 s4.hi]) C C B bef aft l { c with soldDry := s4 } made N kv tv m [(gD, 57, [.int .i64 kind, .int .i64 day, .string code, .string other, .int .i64 al, .int .i64 ah, .int .i64 bl, .int .i64 bh]), (gS, 48, [.string code, .int .i64 dl, .int .i64 dh, .int .i64 wl, .int .i64 wh, .int .i64 pil, .int .i64 boi, .slice fa fn fc])] from DK5.out.setOwn [.int .i64 bef, .int .i64 aft, kv, tv, .map (some m), .int .i64 c.vapour.lo, .int .i64 c.vapour.hi, .int .i64 c.broth.lo, .int .i64 c.broth.hi, .int .i64 c.dust.lo, .int .i64 c.dust.hi] [.int .i64 c.soldDry.lo, .int .i64 c.soldDry.hi] [.int .i64 c.soldWater.lo, .int .i64 c.soldWater.hi, .int .i64 c.soaked.lo, .int .i64 c.soaked.hi, .int .i64 made] [.int .i64 s4.lo, .int .i64 s4.hi] rfl rfl rfl (fun _ f => f.elim))
  clear DK5
  generalize (v0.setCells B 11 [.int .i64 s4.lo, .int .i64 s4.hi]) = v1 at DK6 ⊢
  simp only [Act.put]
  go_upto_region 4 with fail
  have q0 := cell_regrown (show v1.cell? ⟨B, 13, none⟩ = some (.int .i64 c.soldWater.lo) from DK6.out.own 13 rfl)
  have q1 := cell_regrown (show v1.cell? ⟨B, 14, none⟩ = some (.int .i64 c.soldWater.hi) from DK6.out.own 14 rfl)
  have q2 := cell_regrown (show v1.cell? ⟨gS, 3, none⟩ = some (.int .i64 wl) from DK6.out.at 1 3 rfl rfl)
  have q3 := cell_regrown (show v1.cell? ⟨gS, 4, none⟩ = some (.int .i64 wh) from DK6.out.at 1 4 rfl rfl)
  have k0 : ∀ d os, Calls Try.prog 72 #[.agg #[.int .i64 c.soldWater.lo, .int .i64 c.soldWater.hi], .agg #[.int .i64 wl, .int .i64 wh]] (Go.Sort.grow (redrawn v1 d) os) fun e w'' => e = .returned (.agg #[.int .i64 s5.lo, .int .i64 s5.hi]) ∧ ∃ p : Regrown, w'' = Go.Sort.grow (redrawn v1 p.d) p.os := regrown_calls (fun w => by exact sum_up HU5.out HV8.out HUW.out HV8.out Es5.out w)
  refine region_split_below 12 (by kernel_rfl) (by kernel_rfl) (by kernel_rfl) ?_
  simp only [List.take_succ_cons, List.take_zero, List.drop_succ_cons, List.drop_zero]
  repeat (go_big_quiet_step (first | (with_reducible exact k0 _ _)))
  refine wpQuiet_nil ?_
  intro v2 hw'
  have hb8 : Below v1.heap.size v1 v2 := by obtain ⟨⟨dq, osq⟩, hw''⟩ := hw'; rw [hw'']; exact below_regrown v1 dq osq
  clear hw' q0 q1 q2 q3 k0
  have DK7 := Lib.hid (show Desk w v2 C C B bef aft l { c with soldDry := s4 } made N kv tv m [(gD, 57, [.int .i64 kind, .int .i64 day, .string code, .string other, .int .i64 al, .int .i64 ah, .int .i64 bl, .int .i64 bh]), (gS, 48, [.string code, .int .i64 dl, .int .i64 dh, .int .i64 wl, .int .i64 wh, .int .i64 pil, .int .i64 boi, .slice fa fn fc])] from DK6.out.below hb8)
  clear DK6
  clear hb8
  have HE := Lib.hid (show v2.there B 13 2 from DK7.out.book.blk.there (o := 13) (n := 2) (Nat.le_of_ble_eq_true rfl))
  have HO := Lib.hid (show (#[.int .i64 s5.lo, .int .i64 s5.hi] : Array Value).all (·.oneCell') = true from by simp [Value.oneCell'])
  refine wpList_store_mid rfl 23 (.tmp 37) (.tmp 34) rfl B 13 #[.int .i64 s5.lo, .int .i64 s5.hi] rfl rfl HE.out size_bounds HO.out ?_
  change wpList _ _ _ _ _ (v2.setCells B 13 [.int .i64 s5.lo, .int .i64 s5.hi])
  clear HE HO
  have DK8 := Lib.hid (show Desk w (v2.setCells B 13 [.int .i64 s5.lo, .int .i64 s5.hi]) C C B bef aft l { { c with soldDry := s4 } with soldWater := s5 } made N kv tv m [(gD, 57, [.int .i64 kind, .int .i64 day, .string code, .string other, .int .i64 al, .int .i64 ah, .int .i64 bl, .int .i64 bh]), (gS, 48, [.string code, .int .i64 dl, .int .i64 dh, .int .i64 wl, .int .i64 wh, .int .i64 pil, .int .i64 boi, .slice fa fn fc])] from DK7.out.setOwn [.int .i64 bef, .int .i64 aft, kv, tv, .map (some m), .int .i64 c.vapour.lo, .int .i64 c.vapour.hi, .int .i64 c.broth.lo, .int .i64 c.broth.hi, .int .i64 c.dust.lo, .int .i64 c.dust.hi, .int .i64 s4.lo, .int .i64 s4.hi] [.int .i64 c.soldWater.lo, .int .i64 c.soldWater.hi] [.int .i64 c.soaked.lo, .int .i64 c.soaked.hi, .int .i64 made] [.int .i64 s5.lo, .int .i64 s5.hi] rfl rfl rfl (fun _ h => h))
  clear DK7
  generalize (v2.setCells B 13 [.int .i64 s5.lo, .int .i64 s5.hi]) = v3 at DK8 ⊢
  simp only [Act.put]
  go_upto_region 5 with fail
  have q0 := cell_regrown (show v3.cell? ⟨gS, 0, none⟩ = some (.string code) from DK8.out.at 1 0 rfl rfl)
  refine region_split_below 5 (by kernel_rfl) (by kernel_rfl) (by kernel_rfl) ?_
  simp only [List.take_succ_cons, List.take_zero, List.drop_succ_cons, List.drop_zero]
  repeat (go_big_quiet_step (fail))
  refine wpQuiet_nil ?_
  intro v4 hw'
  have hb8 : Below v3.heap.size v3 v4 := by obtain ⟨⟨dq, osq⟩, hw''⟩ := hw'; rw [hw'']; exact below_regrown v3 dq osq
  clear hw' q0
  have DK9 := Lib.hid (show Desk w v4 C C B bef aft l { { c with soldDry := s4 } with soldWater := s5 } made N kv tv m [(gD, 57, [.int .i64 kind, .int .i64 day, .string code, .string other, .int .i64 al, .int .i64 ah, .int .i64 bl, .int .i64 bh]), (gS, 48, [.string code, .int .i64 dl, .int .i64 dh, .int .i64 wl, .int .i64 wh, .int .i64 pil, .int .i64 boi, .slice fa fn fc])] from DK8.out.below hb8)
  clear DK8
  clear hb8
  go_wp2_with (go_at_call 81; refine (drop_calls DK9.out.book code HS.out HK.out HP.out HN.out).mono ?_; rintro e w9 ⟨rfl, hb9, hk9⟩; have HB9 := Lib.hid (DK9.out.beside.trans hb9 (fun k hk => .inl hk)); have HK9 := Lib.hid hk9; have HZ9 := Lib.hid DK9.out.beside.size; clear hb9 hk9)
  go_end0
  have zs4 := Es4.out; have zs5 := Es5.out
  subst zs5 zs4
  exact ⟨rfl, HB9.out, by obtain ⟨kv', tv', hk⟩ := HK9.out; exact ⟨kv', tv', hk⟩⟩
end Go.Proofs.Ytbgojeppfhldjaa
