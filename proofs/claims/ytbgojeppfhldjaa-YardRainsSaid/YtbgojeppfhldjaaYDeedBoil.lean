/- A deed: boil. -/
import Derived.Test.YtbgojeppfhldjaaYDeedFacts
namespace Go.Proofs.Ytbgojeppfhldjaa
open Go Go.RowKit Yd

set_option maxRecDepth 100000 in
set_option maxHeartbeats 1000000 in
theorem boil_no {w : World} {C : Nat → Prop} {B : Nat} {bef aft : Int} {l : List SRow} {c : Yd.Acc} {made : Int} {N : Nat} {kv tv : Value} {m : Nat} (h : Book w C B bef aft l c made N kv tv m)
    (kind day : Int) (code other : Code) (al ah bl bh : Int) (hs : code.size ≤ maxLen) (hC : ∀ k, C k → k < w.heap.size) (hn : ixOf l code = none) :
    Calls Try.prog 63 #[.pointer (some ⟨B, 0, none⟩), .agg #[.int .i64 kind, .int .i64 day, .string code, .string other, .int .i64 al, .int .i64 ah, .int .i64 bl, .int .i64 bh]] w fun e w' => e = .panicked (faulty 1) ∧ Below w.heap.size w w' := by
  have DK1 := Lib.hid (boxed_deed h hC [.int .i64 kind, .int .i64 day, .string code, .string other, .int .i64 al, .int .i64 ah, .int .i64 bl, .int .i64 bh])
  have HS := Lib.hid hs; have HN := Lib.hid hn
  clear h hs hn hC
  go_enter Try.func63, Try.ntmps63
  go_wp2_with (go_at_call 71; refine (stack_no DK1.out.book code HS.out HN.out).mono ?_; rintro e w1 ⟨rfl, hb1⟩; have DK2 := Lib.hid (DK1.out.below hb1); clear hb1)
  exact ⟨rfl, rfl, DK2.out.quiet⟩

set_option maxRecDepth 100000 in
set_option maxHeartbeats 1000000 in
theorem boil_soon {w : World} {C : Nat → Prop} {B : Nat} {bef aft : Int} {l : List SRow} {c : Yd.Acc} {made : Int} {N : Nat} {kv tv : Value} {m : Nat} (h : Book w C B bef aft l c made N kv tv m)
    (kind day : Int) (code other : Code) (al ah bl bh : Int) (hs : code.size ≤ maxLen) (hC : ∀ k, C k → k < w.heap.size) (dl dh wl wh pil boi : Int) (src : List Int) (fa : Option Addr) (fn fc : Nat) {k : Nat} (hk : ixOf l code = some k) (hp : l[k]? = some (⟨code, ⟨dl, dh⟩, ⟨wl, wh⟩, pil, boi, src⟩, .slice fa fn fc)) (hd : 0 ≤ day ∧ day ≤ 2000) (hpl : 0 ≤ pil ∧ pil ≤ 2000) (hsoon : ¬ bef ≤ day - pil) :
    Calls Try.prog 63 #[.pointer (some ⟨B, 0, none⟩), .agg #[.int .i64 kind, .int .i64 day, .string code, .string other, .int .i64 al, .int .i64 ah, .int .i64 bl, .int .i64 bh]] w fun e w' => e = .panicked (faulty 3) ∧ Below w.heap.size w w' := by
  obtain ⟨hd0, hd1⟩ := hd
  obtain ⟨hp0, hp1⟩ := hpl
  have d3 : decide (bef ≤ day - pil) = false := by simpa using hsoon
  clear hsoon
  have DK1 := Lib.hid (boxed_deed h hC [.int .i64 kind, .int .i64 day, .string code, .string other, .int .i64 al, .int .i64 ah, .int .i64 bl, .int .i64 bh])
  have hz1 : (w.alloc (.cells #[.int .i64 kind, .int .i64 day, .string code, .string other, .int .i64 al, .int .i64 ah, .int .i64 bl, .int .i64 bh] 57)).heap.size = w.heap.size + 1 := World.size_alloc _ _
  have HO0 := Lib.hid (show (#[.string code, .int .i64 dl, .int .i64 dh, .int .i64 wl, .int .i64 wh, .int .i64 pil, .int .i64 boi, .slice fa fn fc] : Array Value).all (·.oneCell') = true from by simp [Value.oneCell'])
  have HS := Lib.hid hs; have HK := Lib.hid hk; have HP := Lib.hid hp; have HC := Lib.hid hC
  clear h hs hk hp hC
  go_enter Try.func63, Try.ntmps63
  go_upto_region 2 with (first
    | (go_at_call 71; refine (stack_yes DK1.out.book code HS.out HK.out HP.out).mono ?_; rintro e w1 ⟨rfl, hb1⟩; have DK2 := Lib.hid ((DK1.out.below hb1).alloc 48 [.string ⟨#[]⟩, .int .i64 0, .int .i64 0, .int .i64 0, .int .i64 0, .int .i64 0, .int .i64 0, .slice none 0 0] rfl); clear hb1)
    | ((with_reducible refine at_store 48 (.tmp 4) (.tmp 9) ?_); go_must (refine wpList_store_mid rfl 48 (.tmp 4) (.tmp 9) rfl w1.heap.size 0 #[.string code, .int .i64 dl, .int .i64 dh, .int .i64 wl, .int .i64 wh, .int .i64 pil, .int .i64 boi, .slice fa fn fc] rfl rfl ((DK2.out.loc 1 _ _ _ rfl).1.there (o := 0) (n := 8) (Nat.le_of_ble_eq_true rfl)) size_stack HO0.out ?_)))
  have hgS := (DK2.out.far 1 rfl).1
  have DK3 := Lib.hid (show Desk w ((w1.alloc (.cells #[.string ⟨#[]⟩, .int .i64 0, .int .i64 0, .int .i64 0, .int .i64 0, .int .i64 0, .int .i64 0, .slice none 0 0] 48)).setCells w1.heap.size 0 [.string code, .int .i64 dl, .int .i64 dh, .int .i64 wl, .int .i64 wh, .int .i64 pil, .int .i64 boi, .slice fa fn fc]) (fun _ => False) C B bef aft l c made N kv tv m [(w.heap.size, 57, [.int .i64 kind, .int .i64 day, .string code, .string other, .int .i64 al, .int .i64 ah, .int .i64 bl, .int .i64 bh]), (w1.heap.size, 48, [.string code, .int .i64 dl, .int .i64 dh, .int .i64 wl, .int .i64 wh, .int .i64 pil, .int .i64 boi, .slice fa fn fc])] from DK2.out.setLoc 1 [] [.string ⟨#[]⟩, .int .i64 0, .int .i64 0, .int .i64 0, .int .i64 0, .int .i64 0, .int .i64 0, .slice none 0 0] [] [.string code, .int .i64 dl, .int .i64 dh, .int .i64 wl, .int .i64 wh, .int .i64 pil, .int .i64 boi, .slice fa fn fc] rfl rfl (by decide))
  clear DK2
  generalize ((w1.alloc (.cells #[.string ⟨#[]⟩, .int .i64 0, .int .i64 0, .int .i64 0, .int .i64 0, .int .i64 0, .int .i64 0, .slice none 0 0] 48)).setCells w1.heap.size 0 [.string code, .int .i64 dl, .int .i64 dh, .int .i64 wl, .int .i64 wh, .int .i64 pil, .int .i64 boi, .slice fa fn fc]) = W3 at DK3 ⊢
  obtain ⟨gD, hgD⟩ : ∃ g, g = w.heap.size := ⟨_, rfl⟩
  obtain ⟨gS, hgS2⟩ : ∃ g, g = w1.heap.size := ⟨_, rfl⟩
  rw [← hgD, ← hgS2] at DK3 ⊢
  have HZ := Lib.hid (And.intro hgD hgS2)
  clear hgD hgS2 hgS hz1
  simp only [Act.put]
  have q0 := cell_regrown (show W3.cell? ⟨gD, 1, none⟩ = some (.int .i64 day) from DK3.out.at 0 1 rfl rfl)
  have q1 := cell_regrown (show W3.cell? ⟨gS, 5, none⟩ = some (.int .i64 pil) from DK3.out.at 1 5 rfl rfl)
  have q2 := cell_regrown (show W3.cell? ⟨B, 0, none⟩ = some (.int .i64 bef) from DK3.out.own 0 rfl)
  refine region_split_below 10 (by kernel_rfl) (by kernel_rfl) (by kernel_rfl) ?_
  simp only [List.take_succ_cons, List.take_zero, List.drop_succ_cons, List.drop_zero]
  repeat (go_big_quiet_step (fail))
  refine wpQuiet_nil ?_
  intro v0 hw'
  have hb8 : Below W3.heap.size W3 v0 := by obtain ⟨⟨dq, osq⟩, hw''⟩ := hw'; rw [hw'']; exact below_regrown W3 dq osq
  clear hw' q0 q1 q2
  have DK4 := Lib.hid (show Desk w v0 (fun _ => False) C B bef aft l c made N kv tv m [(gD, 57, [.int .i64 kind, .int .i64 day, .string code, .string other, .int .i64 al, .int .i64 ah, .int .i64 bl, .int .i64 bh]), (gS, 48, [.string code, .int .i64 dl, .int .i64 dh, .int .i64 wl, .int .i64 wh, .int .i64 pil, .int .i64 boi, .slice fa fn fc])] from DK3.out.below hb8)
  clear DK3
  clear hb8
  go_wp2_with (go_at_call 75; refine (need_false _ _).mono ?_; rintro e w2 ⟨rfl, rfl⟩)
  exact ⟨rfl, rfl, DK4.out.quiet⟩

set_option maxRecDepth 100000 in
set_option maxHeartbeats 1000000 in
theorem boil_ok {w : World} {C : Nat → Prop} {B : Nat} {bef aft : Int} {l : List SRow} {c : Yd.Acc} {made : Int} {N : Nat} {kv tv : Value} {m : Nat} (h : Book w C B bef aft l c made N kv tv m)
    (kind day : Int) (code other : Code) (al ah bl bh : Int) (hs : code.size ≤ maxLen) (hC : ∀ k, C k → k < w.heap.size) (dl dh wl wh pil boi : Int) (src : List Int) (fa : Option Addr) (fn fc : Nat) (V : Int) (hV : V ≤ 2000000000000000) {k : Nat} (hk : ixOf l code = some k) (hp : l[k]? = some (⟨code, ⟨dl, dh⟩, ⟨wl, wh⟩, pil, boi, src⟩, .slice fa fn fc)) (hd : 0 ≤ day ∧ day ≤ 2000) (hpl : 0 ≤ pil ∧ pil ≤ 2000) (hrest : bef ≤ day - pil) (ud : Bd.Up ⟨dl, dh⟩ V) (uw : Bd.Up ⟨wl, wh⟩ V) (ua : Bd.Up ⟨al, ah⟩ 1000) (ub : Bd.Up ⟨bl, bh⟩ 3000) (u2 : c.broth.Up V) (u6 : c.soaked.Up V) :
    Calls Try.prog 63 #[.pointer (some ⟨B, 0, none⟩), .agg #[.int .i64 kind, .int .i64 day, .string code, .string other, .int .i64 al, .int .i64 ah, .int .i64 bl, .int .i64 bh]] w fun e w' => e = .returned (.tuple #[]) ∧ Beside C w w' ∧ Book w' C B bef aft (l.set k (⟨code, Bd.left ⟨dl, dh⟩ ⟨al, ah⟩, Bd.add ⟨wl, wh⟩ (Bd.part ⟨dl, dh⟩ ⟨bl, bh⟩), pil, day, src⟩, .slice fa fn fc)) { c with broth := c.broth.add (Bd.part ⟨dl, dh⟩ ⟨al, ah⟩), soaked := c.soaked.add (Bd.part ⟨dl, dh⟩ ⟨bl, bh⟩) } made N kv tv m := by
  obtain ⟨hd0, hd1⟩ := hd
  obtain ⟨hp0, hp1⟩ := hpl
  have d3 : decide (bef ≤ day - pil) = true := by simpa using hrest
  have HUD := Lib.hid ud; have HUW := Lib.hid uw; have HUA := Lib.hid (up_mono ua (show (1000 : Int) ≤ 3000 by decide)); have HUB := Lib.hid ub; have HU2 := Lib.hid u2; have HU6 := Lib.hid u6
  have HUP2 := Lib.hid (up_soak ud ub); have HUP1 := Lib.hid (up_part ud ua)
  have HV8 := Lib.hid (show V ≤ 8000000000000000 from Int.le_trans hV (by decide)); have HV9 := Lib.hid (show 3 * V ≤ 8000000000000000 by omega)
  clear hrest ud uw ua ub u2 u6
  obtain ⟨p2, hp2⟩ : ∃ b : Bd, b = Bd.part ⟨dl, dh⟩ ⟨bl, bh⟩ := ⟨_, rfl⟩
  have Ep2 := Lib.hid hp2; clear hp2
  obtain ⟨s6, hs6⟩ : ∃ b : Bd, b = c.soaked.add p2 := ⟨_, rfl⟩
  have Es6 := Lib.hid hs6; clear hs6
  obtain ⟨p1, hp1⟩ : ∃ b : Bd, b = Bd.part ⟨dl, dh⟩ ⟨al, ah⟩ := ⟨_, rfl⟩
  have Ep1 := Lib.hid hp1; clear hp1
  obtain ⟨s2, hs2⟩ : ∃ b : Bd, b = c.broth.add p1 := ⟨_, rfl⟩
  have Es2 := Lib.hid hs2; clear hs2
  obtain ⟨w2b, hw2b⟩ : ∃ b : Bd, b = Bd.add ⟨wl, wh⟩ p2 := ⟨_, rfl⟩
  have Ew2b := Lib.hid hw2b; clear hw2b
  obtain ⟨r1, hr1⟩ : ∃ b : Bd, b = Bd.left ⟨dl, dh⟩ ⟨al, ah⟩ := ⟨_, rfl⟩
  have Er1 := Lib.hid hr1; clear hr1
  rw [← Ep2.out] at HUP2
  rw [← Ep1.out] at HUP1
  have DK1 := Lib.hid (boxed_deed h hC [.int .i64 kind, .int .i64 day, .string code, .string other, .int .i64 al, .int .i64 ah, .int .i64 bl, .int .i64 bh])
  have hz1 : (w.alloc (.cells #[.int .i64 kind, .int .i64 day, .string code, .string other, .int .i64 al, .int .i64 ah, .int .i64 bl, .int .i64 bh] 57)).heap.size = w.heap.size + 1 := World.size_alloc _ _
  have HO0 := Lib.hid (show (#[.string code, .int .i64 dl, .int .i64 dh, .int .i64 wl, .int .i64 wh, .int .i64 pil, .int .i64 boi, .slice fa fn fc] : Array Value).all (·.oneCell') = true from by simp [Value.oneCell'])
  have HS := Lib.hid hs; have HK := Lib.hid hk; have HP := Lib.hid hp; have HC := Lib.hid hC
  clear h hs hk hp hC
  go_enter Try.func63, Try.ntmps63
  go_upto_region 2 with (first
    | (go_at_call 71; refine (stack_yes DK1.out.book code HS.out HK.out HP.out).mono ?_; rintro e w1 ⟨rfl, hb1⟩; have DK2 := Lib.hid ((DK1.out.below hb1).alloc 48 [.string ⟨#[]⟩, .int .i64 0, .int .i64 0, .int .i64 0, .int .i64 0, .int .i64 0, .int .i64 0, .slice none 0 0] rfl); clear hb1)
    | ((with_reducible refine at_store 48 (.tmp 4) (.tmp 9) ?_); go_must (refine wpList_store_mid rfl 48 (.tmp 4) (.tmp 9) rfl w1.heap.size 0 #[.string code, .int .i64 dl, .int .i64 dh, .int .i64 wl, .int .i64 wh, .int .i64 pil, .int .i64 boi, .slice fa fn fc] rfl rfl ((DK2.out.loc 1 _ _ _ rfl).1.there (o := 0) (n := 8) (Nat.le_of_ble_eq_true rfl)) size_stack HO0.out ?_)))
  have hgS := (DK2.out.far 1 rfl).1
  have DK3 := Lib.hid (show Desk w ((w1.alloc (.cells #[.string ⟨#[]⟩, .int .i64 0, .int .i64 0, .int .i64 0, .int .i64 0, .int .i64 0, .int .i64 0, .slice none 0 0] 48)).setCells w1.heap.size 0 [.string code, .int .i64 dl, .int .i64 dh, .int .i64 wl, .int .i64 wh, .int .i64 pil, .int .i64 boi, .slice fa fn fc]) (fun _ => False) C B bef aft l c made N kv tv m [(w.heap.size, 57, [.int .i64 kind, .int .i64 day, .string code, .string other, .int .i64 al, .int .i64 ah, .int .i64 bl, .int .i64 bh]), (w1.heap.size, 48, [.string code, .int .i64 dl, .int .i64 dh, .int .i64 wl, .int .i64 wh, .int .i64 pil, .int .i64 boi, .slice fa fn fc])] from DK2.out.setLoc 1 [] [.string ⟨#[]⟩, .int .i64 0, .int .i64 0, .int .i64 0, .int .i64 0, .int .i64 0, .int .i64 0, .slice none 0 0] [] [.string code, .int .i64 dl, .int .i64 dh, .int .i64 wl, .int .i64 wh, .int .i64 pil, .int .i64 boi, .slice fa fn fc] rfl rfl (by decide))
  clear DK2
  generalize ((w1.alloc (.cells #[.string ⟨#[]⟩, .int .i64 0, .int .i64 0, .int .i64 0, .int .i64 0, .int .i64 0, .int .i64 0, .slice none 0 0] 48)).setCells w1.heap.size 0 [.string code, .int .i64 dl, .int .i64 dh, .int .i64 wl, .int .i64 wh, .int .i64 pil, .int .i64 boi, .slice fa fn fc]) = W3 at DK3 ⊢
  obtain ⟨gD, hgD⟩ : ∃ g, g = w.heap.size := ⟨_, rfl⟩
  obtain ⟨gS, hgS2⟩ : ∃ g, g = w1.heap.size := ⟨_, rfl⟩
  rw [← hgD, ← hgS2] at DK3 ⊢
  have HZ := Lib.hid (And.intro hgD hgS2)
  clear hgD hgS2 hgS hz1
  simp only [Act.put]
  have q0 := cell_regrown (show W3.cell? ⟨gD, 1, none⟩ = some (.int .i64 day) from DK3.out.at 0 1 rfl rfl)
  have q1 := cell_regrown (show W3.cell? ⟨gS, 5, none⟩ = some (.int .i64 pil) from DK3.out.at 1 5 rfl rfl)
  have q2 := cell_regrown (show W3.cell? ⟨B, 0, none⟩ = some (.int .i64 bef) from DK3.out.own 0 rfl)
  refine region_split_below 10 (by kernel_rfl) (by kernel_rfl) (by kernel_rfl) ?_
  simp only [List.take_succ_cons, List.take_zero, List.drop_succ_cons, List.drop_zero]
  repeat (go_big_quiet_step (fail))
  refine wpQuiet_nil ?_
  intro v0 hw'
  have hb8 : Below W3.heap.size W3 v0 := by obtain ⟨⟨dq, osq⟩, hw''⟩ := hw'; rw [hw'']; exact below_regrown W3 dq osq
  clear hw' q0 q1 q2
  have DK4 := Lib.hid (show Desk w v0 (fun _ => False) C B bef aft l c made N kv tv m [(gD, 57, [.int .i64 kind, .int .i64 day, .string code, .string other, .int .i64 al, .int .i64 ah, .int .i64 bl, .int .i64 bh]), (gS, 48, [.string code, .int .i64 dl, .int .i64 dh, .int .i64 wl, .int .i64 wh, .int .i64 pil, .int .i64 boi, .slice fa fn fc])] from DK3.out.below hb8)
  clear DK3
  clear hb8
  go_upto_region 3 with (go_at_call 75; refine (need_true _ _).mono ?_; rintro e w2 ⟨rfl, rfl⟩)
  have q0 := cell_regrown (show v0.cell? ⟨gS, 1, none⟩ = some (.int .i64 dl) from DK4.out.at 1 1 rfl rfl)
  have q1 := cell_regrown (show v0.cell? ⟨gS, 2, none⟩ = some (.int .i64 dh) from DK4.out.at 1 2 rfl rfl)
  have q2 := cell_regrown (show v0.cell? ⟨gD, 6, none⟩ = some (.int .i64 bl) from DK4.out.at 0 6 rfl rfl)
  have q3 := cell_regrown (show v0.cell? ⟨gD, 7, none⟩ = some (.int .i64 bh) from DK4.out.at 0 7 rfl rfl)
  have k0 : ∀ d os, Calls Try.prog 73 #[.agg #[.int .i64 dl, .int .i64 dh], .agg #[.int .i64 bl, .int .i64 bh]] (Go.Sort.grow (redrawn v0 d) os) fun e w'' => e = .returned (.agg #[.int .i64 p2.lo, .int .i64 p2.hi]) ∧ ∃ p : Regrown, w'' = Go.Sort.grow (redrawn v0 p.d) p.os := regrown_calls (fun w => by exact part_up HUD.out hV HUB.out Ep2.out w)
  refine region_seq_below 5 ?_
  simp only [List.take_succ_cons, List.take_zero, List.drop_succ_cons, List.drop_zero]
  repeat (go_big_quiet_step (first | (with_reducible exact k0 _ _)))
  refine wpQuiet_nil ?_
  intro v1 hw'
  have hb8 : Below v0.heap.size v0 v1 := by obtain ⟨⟨dq, osq⟩, hw''⟩ := hw'; rw [hw'']; exact below_regrown v0 dq osq
  clear hw' q0 q1 q2 q3 k0
  have DK5 := Lib.hid (show Desk w v1 (fun _ => False) C B bef aft l c made N kv tv m [(gD, 57, [.int .i64 kind, .int .i64 day, .string code, .string other, .int .i64 al, .int .i64 ah, .int .i64 bl, .int .i64 bh]), (gS, 48, [.string code, .int .i64 dl, .int .i64 dh, .int .i64 wl, .int .i64 wh, .int .i64 pil, .int .i64 boi, .slice fa fn fc])] from DK4.out.below hb8)
  clear DK4
  clear hb8
  have hz := DK5.out.beside.size
  have DA := Lib.hid (DK5.out.alloc 23 [.int .i64 0, .int .i64 0] rfl)
  have HO := Lib.hid (show (#[.int .i64 p2.lo, .int .i64 p2.hi] : Array Value).all (·.oneCell') = true from by simp [Value.oneCell'])
  go_upto_region 4 with ((with_reducible refine at_store 23 (.tmp 5) (.tmp 25) ?_); go_must (refine wpList_store_mid rfl 23 (.tmp 5) (.tmp 25) rfl v1.heap.size 0 #[.int .i64 p2.lo, .int .i64 p2.hi] rfl rfl ((DA.out.loc 2 _ _ _ rfl).1.there (o := 0) (n := 2) (Nat.le_of_ble_eq_true rfl)) size_bounds HO.out ?_))
  have DK6 := Lib.hid (show Desk w ((v1.alloc (.cells #[.int .i64 0, .int .i64 0] 23)).setCells v1.heap.size 0 [.int .i64 p2.lo, .int .i64 p2.hi]) (fun _ => False) C B bef aft l c made N kv tv m [(gD, 57, [.int .i64 kind, .int .i64 day, .string code, .string other, .int .i64 al, .int .i64 ah, .int .i64 bl, .int .i64 bh]), (gS, 48, [.string code, .int .i64 dl, .int .i64 dh, .int .i64 wl, .int .i64 wh, .int .i64 pil, .int .i64 boi, .slice fa fn fc]), (v1.heap.size, 23, [.int .i64 p2.lo, .int .i64 p2.hi])] from DA.out.setLoc 2 [] [.int .i64 0, .int .i64 0] [] [.int .i64 p2.lo, .int .i64 p2.hi] rfl rfl (by decide))
  clear HO DA DK5 hz
  generalize ((v1.alloc (.cells #[.int .i64 0, .int .i64 0] 23)).setCells v1.heap.size 0 [.int .i64 p2.lo, .int .i64 p2.hi]) = v2 at DK6 ⊢
  obtain ⟨gX, hgX⟩ : ∃ g, g = v1.heap.size := ⟨_, rfl⟩
  rw [← hgX] at DK6 ⊢
  clear hgX
  simp only [Act.put]
  have q0 := cell_regrown (show v2.cell? ⟨B, 15, none⟩ = some (.int .i64 c.soaked.lo) from DK6.out.own 15 rfl)
  have q1 := cell_regrown (show v2.cell? ⟨B, 16, none⟩ = some (.int .i64 c.soaked.hi) from DK6.out.own 16 rfl)
  have q2 := cell_regrown (show v2.cell? ⟨gX, 0, none⟩ = some (.int .i64 p2.lo) from DK6.out.at 2 0 rfl rfl)
  have q3 := cell_regrown (show v2.cell? ⟨gX, 1, none⟩ = some (.int .i64 p2.hi) from DK6.out.at 2 1 rfl rfl)
  have k0 : ∀ d os, Calls Try.prog 72 #[.agg #[.int .i64 c.soaked.lo, .int .i64 c.soaked.hi], .agg #[.int .i64 p2.lo, .int .i64 p2.hi]] (Go.Sort.grow (redrawn v2 d) os) fun e w'' => e = .returned (.agg #[.int .i64 s6.lo, .int .i64 s6.hi]) ∧ ∃ p : Regrown, w'' = Go.Sort.grow (redrawn v2 p.d) p.os := regrown_calls (fun w => by exact sum_up HU6.out HV8.out HUP2.out HV9.out Es6.out w)
  refine region_split_below 11 (by kernel_rfl) (by kernel_rfl) (by kernel_rfl) ?_
  simp only [List.take_succ_cons, List.take_zero, List.drop_succ_cons, List.drop_zero]
  repeat (go_big_quiet_step (first | (with_reducible exact k0 _ _)))
  refine wpQuiet_nil ?_
  intro v3 hw'
  have hb8 : Below v2.heap.size v2 v3 := by obtain ⟨⟨dq, osq⟩, hw''⟩ := hw'; rw [hw'']; exact below_regrown v2 dq osq
  clear hw' q0 q1 q2 q3 k0
  have DK7 := Lib.hid (show Desk w v3 (fun _ => False) C B bef aft l c made N kv tv m [(gD, 57, [.int .i64 kind, .int .i64 day, .string code, .string other, .int .i64 al, .int .i64 ah, .int .i64 bl, .int .i64 bh]), (gS, 48, [.string code, .int .i64 dl, .int .i64 dh, .int .i64 wl, .int .i64 wh, .int .i64 pil, .int .i64 boi, .slice fa fn fc]), (gX, 23, [.int .i64 p2.lo, .int .i64 p2.hi])] from DK6.out.below hb8)
  clear DK6
  clear hb8
  have HE := Lib.hid (show v3.there B 15 2 from DK7.out.book.blk.there (o := 15) (n := 2) (Nat.le_of_ble_eq_true rfl))
  have HO := Lib.hid (show (#[.int .i64 s6.lo, .int .i64 s6.hi] : Array Value).all (·.oneCell') = true from by simp [Value.oneCell'])
  refine wpList_store_mid rfl 23 (.tmp 36) (.tmp 33) rfl B 15 #[.int .i64 s6.lo, .int .i64 s6.hi] rfl rfl HE.out size_bounds HO.out ?_
  change wpList _ _ _ _ _ (v3.setCells B 15 [.int .i64 s6.lo, .int .i64 s6.hi])
  clear HE HO
  have DK8 := Lib.hid (show Desk w (v3.setCells B 15 [.int .i64 s6.lo, .int .i64 s6.hi]) C C B bef aft l { c with soaked := s6 } made N kv tv m [(gD, 57, [.int .i64 kind, .int .i64 day, .string code, .string other, .int .i64 al, .int .i64 ah, .int .i64 bl, .int .i64 bh]), (gS, 48, [.string code, .int .i64 dl, .int .i64 dh, .int .i64 wl, .int .i64 wh, .int .i64 pil, .int .i64 boi, .slice fa fn fc]), (gX, 23, [.int .i64 p2.lo, .int .i64 p2.hi])] from DK7.out.setOwn [.int .i64 bef, .int .i64 aft, kv, tv, .map (some m), .int .i64 c.vapour.lo, .int .i64 c.vapour.hi, .int .i64 c.broth.lo, .int .i64 c.broth.hi, .int .i64 c.dust.lo, .int .i64 c.dust.hi, .int .i64 c.soldDry.lo, .int .i64 c.soldDry.hi, .int .i64 c.soldWater.lo, .int .i64 c.soldWater.hi] [.int .i64 c.soaked.lo, .int .i64 c.soaked.hi] [.int .i64 made] [.int .i64 s6.lo, .int .i64 s6.hi] rfl rfl rfl (fun _ f => f.elim))
  clear DK7
  generalize (v3.setCells B 15 [.int .i64 s6.lo, .int .i64 s6.hi]) = v4 at DK8 ⊢
  simp only [Act.put]
  go_upto_region 5 with fail
  have q0 := cell_regrown (show v4.cell? ⟨B, 7, none⟩ = some (.int .i64 c.broth.lo) from DK8.out.own 7 rfl)
  have q1 := cell_regrown (show v4.cell? ⟨B, 8, none⟩ = some (.int .i64 c.broth.hi) from DK8.out.own 8 rfl)
  have q2 := cell_regrown (show v4.cell? ⟨gS, 1, none⟩ = some (.int .i64 dl) from DK8.out.at 1 1 rfl rfl)
  have q3 := cell_regrown (show v4.cell? ⟨gS, 2, none⟩ = some (.int .i64 dh) from DK8.out.at 1 2 rfl rfl)
  have q4 := cell_regrown (show v4.cell? ⟨gD, 4, none⟩ = some (.int .i64 al) from DK8.out.at 0 4 rfl rfl)
  have q5 := cell_regrown (show v4.cell? ⟨gD, 5, none⟩ = some (.int .i64 ah) from DK8.out.at 0 5 rfl rfl)
  have k0 : ∀ d os, Calls Try.prog 73 #[.agg #[.int .i64 dl, .int .i64 dh], .agg #[.int .i64 al, .int .i64 ah]] (Go.Sort.grow (redrawn v4 d) os) fun e w'' => e = .returned (.agg #[.int .i64 p1.lo, .int .i64 p1.hi]) ∧ ∃ p : Regrown, w'' = Go.Sort.grow (redrawn v4 p.d) p.os := regrown_calls (fun w => by exact part_up HUD.out hV HUA.out Ep1.out w)
  have k1 : ∀ d os, Calls Try.prog 72 #[.agg #[.int .i64 c.broth.lo, .int .i64 c.broth.hi], .agg #[.int .i64 p1.lo, .int .i64 p1.hi]] (Go.Sort.grow (redrawn v4 d) os) fun e w'' => e = .returned (.agg #[.int .i64 s2.lo, .int .i64 s2.hi]) ∧ ∃ p : Regrown, w'' = Go.Sort.grow (redrawn v4 p.d) p.os := regrown_calls (fun w => by exact sum_up HU2.out HV8.out HUP1.out HV8.out Es2.out w)
  refine region_split_below 15 (by kernel_rfl) (by kernel_rfl) (by kernel_rfl) ?_
  simp only [List.take_succ_cons, List.take_zero, List.drop_succ_cons, List.drop_zero]
  repeat (go_big_quiet_step (first | (with_reducible exact k0 _ _) | (with_reducible exact k1 _ _)))
  refine wpQuiet_nil ?_
  intro v5 hw'
  have hb8 : Below v4.heap.size v4 v5 := by obtain ⟨⟨dq, osq⟩, hw''⟩ := hw'; rw [hw'']; exact below_regrown v4 dq osq
  clear hw' q0 q1 q2 q3 q4 q5 k0 k1
  have DK9 := Lib.hid (show Desk w v5 C C B bef aft l { c with soaked := s6 } made N kv tv m [(gD, 57, [.int .i64 kind, .int .i64 day, .string code, .string other, .int .i64 al, .int .i64 ah, .int .i64 bl, .int .i64 bh]), (gS, 48, [.string code, .int .i64 dl, .int .i64 dh, .int .i64 wl, .int .i64 wh, .int .i64 pil, .int .i64 boi, .slice fa fn fc]), (gX, 23, [.int .i64 p2.lo, .int .i64 p2.hi])] from DK8.out.below hb8)
  clear DK8
  clear hb8
  have HE := Lib.hid (show v5.there B 7 2 from DK9.out.book.blk.there (o := 7) (n := 2) (Nat.le_of_ble_eq_true rfl))
  have HO := Lib.hid (show (#[.int .i64 s2.lo, .int .i64 s2.hi] : Array Value).all (·.oneCell') = true from by simp [Value.oneCell'])
  refine wpList_store_mid rfl 23 (.tmp 51) (.tmp 48) rfl B 7 #[.int .i64 s2.lo, .int .i64 s2.hi] rfl rfl HE.out size_bounds HO.out ?_
  change wpList _ _ _ _ _ (v5.setCells B 7 [.int .i64 s2.lo, .int .i64 s2.hi])
  clear HE HO
  have DK10 := Lib.hid (show Desk w (v5.setCells B 7 [.int .i64 s2.lo, .int .i64 s2.hi]) C C B bef aft l { { c with soaked := s6 } with broth := s2 } made N kv tv m [(gD, 57, [.int .i64 kind, .int .i64 day, .string code, .string other, .int .i64 al, .int .i64 ah, .int .i64 bl, .int .i64 bh]), (gS, 48, [.string code, .int .i64 dl, .int .i64 dh, .int .i64 wl, .int .i64 wh, .int .i64 pil, .int .i64 boi, .slice fa fn fc]), (gX, 23, [.int .i64 p2.lo, .int .i64 p2.hi])] from DK9.out.setOwn [.int .i64 bef, .int .i64 aft, kv, tv, .map (some m), .int .i64 c.vapour.lo, .int .i64 c.vapour.hi] [.int .i64 c.broth.lo, .int .i64 c.broth.hi] [.int .i64 c.dust.lo, .int .i64 c.dust.hi, .int .i64 c.soldDry.lo, .int .i64 c.soldDry.hi, .int .i64 c.soldWater.lo, .int .i64 c.soldWater.hi, .int .i64 s6.lo, .int .i64 s6.hi, .int .i64 made] [.int .i64 s2.lo, .int .i64 s2.hi] rfl rfl rfl (fun _ h => h))
  clear DK9
  generalize (v5.setCells B 7 [.int .i64 s2.lo, .int .i64 s2.hi]) = v6 at DK10 ⊢
  simp only [Act.put]
  go_upto_region 6 with fail
  have q0 := cell_regrown (show v6.cell? ⟨gS, 3, none⟩ = some (.int .i64 wl) from DK10.out.at 1 3 rfl rfl)
  have q1 := cell_regrown (show v6.cell? ⟨gS, 4, none⟩ = some (.int .i64 wh) from DK10.out.at 1 4 rfl rfl)
  have q2 := cell_regrown (show v6.cell? ⟨gX, 0, none⟩ = some (.int .i64 p2.lo) from DK10.out.at 2 0 rfl rfl)
  have q3 := cell_regrown (show v6.cell? ⟨gX, 1, none⟩ = some (.int .i64 p2.hi) from DK10.out.at 2 1 rfl rfl)
  have k0 : ∀ d os, Calls Try.prog 72 #[.agg #[.int .i64 wl, .int .i64 wh], .agg #[.int .i64 p2.lo, .int .i64 p2.hi]] (Go.Sort.grow (redrawn v6 d) os) fun e w'' => e = .returned (.agg #[.int .i64 w2b.lo, .int .i64 w2b.hi]) ∧ ∃ p : Regrown, w'' = Go.Sort.grow (redrawn v6 p.d) p.os := regrown_calls (fun w => by exact sum_up HUW.out HV8.out HUP2.out HV9.out Ew2b.out w)
  refine region_seq_below 5 ?_
  simp only [List.take_succ_cons, List.take_zero, List.drop_succ_cons, List.drop_zero]
  repeat (go_big_quiet_step (first | (with_reducible exact k0 _ _)))
  refine wpQuiet_nil ?_
  intro v7 hw'
  have hb8 : Below v6.heap.size v6 v7 := by obtain ⟨⟨dq, osq⟩, hw''⟩ := hw'; rw [hw'']; exact below_regrown v6 dq osq
  clear hw' q0 q1 q2 q3 k0
  have DK11 := Lib.hid (show Desk w v7 C C B bef aft l { { c with soaked := s6 } with broth := s2 } made N kv tv m [(gD, 57, [.int .i64 kind, .int .i64 day, .string code, .string other, .int .i64 al, .int .i64 ah, .int .i64 bl, .int .i64 bh]), (gS, 48, [.string code, .int .i64 dl, .int .i64 dh, .int .i64 wl, .int .i64 wh, .int .i64 pil, .int .i64 boi, .slice fa fn fc]), (gX, 23, [.int .i64 p2.lo, .int .i64 p2.hi])] from DK10.out.below hb8)
  clear DK10
  clear hb8
  have HE := Lib.hid (show v7.there gS 3 2 from (DK11.out.loc 1 _ _ _ rfl).1.there (o := 3) (n := 2) (Nat.le_of_ble_eq_true rfl))
  have HO := Lib.hid (show (#[.int .i64 w2b.lo, .int .i64 w2b.hi] : Array Value).all (·.oneCell') = true from by simp [Value.oneCell'])
  refine wpList_store_mid rfl 23 (.tmp 56) (.tmp 55) rfl gS 3 #[.int .i64 w2b.lo, .int .i64 w2b.hi] rfl rfl HE.out size_bounds HO.out ?_
  change wpList _ _ _ _ _ (v7.setCells gS 3 [.int .i64 w2b.lo, .int .i64 w2b.hi])
  clear HE HO
  have DK12 := Lib.hid (show Desk w (v7.setCells gS 3 [.int .i64 w2b.lo, .int .i64 w2b.hi]) C C B bef aft l { { c with soaked := s6 } with broth := s2 } made N kv tv m [(gD, 57, [.int .i64 kind, .int .i64 day, .string code, .string other, .int .i64 al, .int .i64 ah, .int .i64 bl, .int .i64 bh]), (gS, 48, [.string code, .int .i64 dl, .int .i64 dh, .int .i64 w2b.lo, .int .i64 w2b.hi, .int .i64 pil, .int .i64 boi, .slice fa fn fc]), (gX, 23, [.int .i64 p2.lo, .int .i64 p2.hi])] from DK11.out.setLoc 1 [.string code, .int .i64 dl, .int .i64 dh] [.int .i64 wl, .int .i64 wh] [.int .i64 pil, .int .i64 boi, .slice fa fn fc] [.int .i64 w2b.lo, .int .i64 w2b.hi] rfl rfl (by decide))
  clear DK11
  generalize (v7.setCells gS 3 [.int .i64 w2b.lo, .int .i64 w2b.hi]) = v8 at DK12 ⊢
  simp only [Act.put]
  go_upto_region 7 with fail
  have q0 := cell_regrown (show v8.cell? ⟨gS, 1, none⟩ = some (.int .i64 dl) from DK12.out.at 1 1 rfl rfl)
  have q1 := cell_regrown (show v8.cell? ⟨gS, 2, none⟩ = some (.int .i64 dh) from DK12.out.at 1 2 rfl rfl)
  have q2 := cell_regrown (show v8.cell? ⟨gD, 4, none⟩ = some (.int .i64 al) from DK12.out.at 0 4 rfl rfl)
  have q3 := cell_regrown (show v8.cell? ⟨gD, 5, none⟩ = some (.int .i64 ah) from DK12.out.at 0 5 rfl rfl)
  have k0 : ∀ d os, Calls Try.prog 74 #[.agg #[.int .i64 dl, .int .i64 dh], .agg #[.int .i64 al, .int .i64 ah]] (Go.Sort.grow (redrawn v8 d) os) fun e w'' => e = .returned (.agg #[.int .i64 r1.lo, .int .i64 r1.hi]) ∧ ∃ p : Regrown, w'' = Go.Sort.grow (redrawn v8 p.d) p.os := regrown_calls (fun w => by exact left_up HUD.out hV HUA.out Er1.out w)
  refine region_seq_below 6 ?_
  simp only [List.take_succ_cons, List.take_zero, List.drop_succ_cons, List.drop_zero]
  repeat (go_big_quiet_step (first | (with_reducible exact k0 _ _)))
  refine wpQuiet_nil ?_
  intro v9 hw'
  have hb8 : Below v8.heap.size v8 v9 := by obtain ⟨⟨dq, osq⟩, hw''⟩ := hw'; rw [hw'']; exact below_regrown v8 dq osq
  clear hw' q0 q1 q2 q3 k0
  have DK13 := Lib.hid (show Desk w v9 C C B bef aft l { { c with soaked := s6 } with broth := s2 } made N kv tv m [(gD, 57, [.int .i64 kind, .int .i64 day, .string code, .string other, .int .i64 al, .int .i64 ah, .int .i64 bl, .int .i64 bh]), (gS, 48, [.string code, .int .i64 dl, .int .i64 dh, .int .i64 w2b.lo, .int .i64 w2b.hi, .int .i64 pil, .int .i64 boi, .slice fa fn fc]), (gX, 23, [.int .i64 p2.lo, .int .i64 p2.hi])] from DK12.out.below hb8)
  clear DK12
  clear hb8
  have HE := Lib.hid (show v9.there gS 1 2 from (DK13.out.loc 1 _ _ _ rfl).1.there (o := 1) (n := 2) (Nat.le_of_ble_eq_true rfl))
  have HO := Lib.hid (show (#[.int .i64 r1.lo, .int .i64 r1.hi] : Array Value).all (·.oneCell') = true from by simp [Value.oneCell'])
  refine wpList_store_mid rfl 23 (.tmp 62) (.tmp 61) rfl gS 1 #[.int .i64 r1.lo, .int .i64 r1.hi] rfl rfl HE.out size_bounds HO.out ?_
  change wpList _ _ _ _ _ (v9.setCells gS 1 [.int .i64 r1.lo, .int .i64 r1.hi])
  clear HE HO
  have DK14 := Lib.hid (show Desk w (v9.setCells gS 1 [.int .i64 r1.lo, .int .i64 r1.hi]) C C B bef aft l { { c with soaked := s6 } with broth := s2 } made N kv tv m [(gD, 57, [.int .i64 kind, .int .i64 day, .string code, .string other, .int .i64 al, .int .i64 ah, .int .i64 bl, .int .i64 bh]), (gS, 48, [.string code, .int .i64 r1.lo, .int .i64 r1.hi, .int .i64 w2b.lo, .int .i64 w2b.hi, .int .i64 pil, .int .i64 boi, .slice fa fn fc]), (gX, 23, [.int .i64 p2.lo, .int .i64 p2.hi])] from DK13.out.setLoc 1 [.string code] [.int .i64 dl, .int .i64 dh] [.int .i64 w2b.lo, .int .i64 w2b.hi, .int .i64 pil, .int .i64 boi, .slice fa fn fc] [.int .i64 r1.lo, .int .i64 r1.hi] rfl rfl (by decide))
  clear DK13
  generalize (v9.setCells gS 1 [.int .i64 r1.lo, .int .i64 r1.hi]) = v10 at DK14 ⊢
  simp only [Act.put]
  go_upto_region 8 with fail
  have q0 := cell_regrown (show v10.cell? ⟨gD, 1, none⟩ = some (.int .i64 day) from DK14.out.at 0 1 rfl rfl)
  refine region_seq_below 3 ?_
  simp only [List.take_succ_cons, List.take_zero, List.drop_succ_cons, List.drop_zero]
  repeat (go_big_quiet_step (fail))
  refine wpQuiet_nil ?_
  intro v11 hw'
  have hb8 : Below v10.heap.size v10 v11 := by obtain ⟨⟨dq, osq⟩, hw''⟩ := hw'; rw [hw'']; exact below_regrown v10 dq osq
  clear hw' q0
  have DK15 := Lib.hid (show Desk w v11 C C B bef aft l { { c with soaked := s6 } with broth := s2 } made N kv tv m [(gD, 57, [.int .i64 kind, .int .i64 day, .string code, .string other, .int .i64 al, .int .i64 ah, .int .i64 bl, .int .i64 bh]), (gS, 48, [.string code, .int .i64 r1.lo, .int .i64 r1.hi, .int .i64 w2b.lo, .int .i64 w2b.hi, .int .i64 pil, .int .i64 boi, .slice fa fn fc]), (gX, 23, [.int .i64 p2.lo, .int .i64 p2.hi])] from DK14.out.below hb8)
  clear DK14
  clear hb8
  have hc9 := (show v11.cell? ⟨gS, 6, none⟩ = some (.int .i64 boi) from DK15.out.at 1 6 rfl rfl)
  have hf9 := (DK15.out.loc 1 _ _ _ rfl).1.frozen 6
  go_upto_region 9 with fail
  clear hc9 hf9
  have DK16 := Lib.hid (show Desk w (v11.setCell ⟨gS, 6, none⟩ (.int .i64 day)) C C B bef aft l { { c with soaked := s6 } with broth := s2 } made N kv tv m [(gD, 57, [.int .i64 kind, .int .i64 day, .string code, .string other, .int .i64 al, .int .i64 ah, .int .i64 bl, .int .i64 bh]), (gS, 48, [.string code, .int .i64 r1.lo, .int .i64 r1.hi, .int .i64 w2b.lo, .int .i64 w2b.hi, .int .i64 pil, .int .i64 day, .slice fa fn fc]), (gX, 23, [.int .i64 p2.lo, .int .i64 p2.hi])] from DK15.out.setLoc1 1 [.string code, .int .i64 r1.lo, .int .i64 r1.hi, .int .i64 w2b.lo, .int .i64 w2b.hi, .int .i64 pil] [.slice fa fn fc] (.int .i64 boi) (.int .i64 day) 6 rfl rfl (by decide))
  clear DK15
  generalize (v11.setCell ⟨gS, 6, none⟩ (.int .i64 day)) = v12 at DK16 ⊢
  have s0 := (show v12.cell? ⟨gS, 0, none⟩ = some (.string code) from DK16.out.at 1 0 rfl rfl)
  have s1 := (show v12.cell? ⟨gS, 1, none⟩ = some (.int .i64 r1.lo) from DK16.out.at 1 1 rfl rfl)
  have s2 := (show v12.cell? ⟨gS, 2, none⟩ = some (.int .i64 r1.hi) from DK16.out.at 1 2 rfl rfl)
  have s3 := (show v12.cell? ⟨gS, 3, none⟩ = some (.int .i64 w2b.lo) from DK16.out.at 1 3 rfl rfl)
  have s4 := (show v12.cell? ⟨gS, 4, none⟩ = some (.int .i64 w2b.hi) from DK16.out.at 1 4 rfl rfl)
  have s5 := (show v12.cell? ⟨gS, 5, none⟩ = some (.int .i64 pil) from DK16.out.at 1 5 rfl rfl)
  have s6 := (show v12.cell? ⟨gS, 6, none⟩ = some (.int .i64 day) from DK16.out.at 1 6 rfl rfl)
  have s7 := (show v12.cell? ⟨gS, 7, none⟩ = some (.slice fa fn fc) from DK16.out.at 1 7 rfl rfl)
  go_wp2_with (go_at_call 70; refine (keep_old DK16.out.book ⟨code, r1, w2b, pil, day, src⟩ fa fn fc HP.out HK.out rfl (row_same (DK16.out.book.froms _ (List.mem_of_getElem? HP.out)) (fun _ _ => rfl)) (DK16.out.book.fromsLen _ (List.mem_of_getElem? HP.out))).mono ?_; rintro e w9 ⟨rfl, hb9, hk9⟩; have HB9 := Lib.hid (DK16.out.beside.trans hb9 (fun k hk => .inl hk)); have HK9 := Lib.hid hk9; clear hb9 hk9)
  go_end0
  have zp2 := Ep2.out; have zs6 := Es6.out; have zp1 := Ep1.out; have zs2 := Es2.out; have zw2b := Ew2b.out; have zr1 := Er1.out
  subst zr1 zw2b zs2 zp1 zs6 zp2
  exact ⟨rfl, HB9.out, HK9.out⟩
end Go.Proofs.Ytbgojeppfhldjaa
