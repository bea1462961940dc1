/- A deed: rest. -/
import Derived.Test.YtbgojeppfhldjaaYDeedFacts
namespace Go.Proofs.Ytbgojeppfhldjaa
open Go Go.RowKit Yd

set_option maxRecDepth 100000 in
set_option maxHeartbeats 1000000 in
theorem rest_ok {w : World} {C : Nat → Prop} {B : Nat} {bef aft : Int} {l : List SRow} {c : Yd.Acc} {made : Int} {N : Nat} {kv tv : Value} {m : Nat} (h : Book w C B bef aft l c made N kv tv m)
    (kind day : Int) (code other : Code) (al ah bl bh : Int) (hs : code.size ≤ maxLen) (hC : ∀ k, C k → k < w.heap.size) (dl dh wl wh pil boi : Int) (src : List Int) (fa : Option Addr) (fn fc : Nat) (V : Int) (hV : V ≤ 2000000000000000) {k : Nat} (hk : ixOf l code = some k) (hp : l[k]? = some (⟨code, ⟨dl, dh⟩, ⟨wl, wh⟩, pil, boi, src⟩, .slice fa fn fc)) (uw : Bd.Up ⟨wl, wh⟩ V) (ua : Bd.Up ⟨al, ah⟩ 1000) (uc : c.vapour.Up V) :
    Calls Try.prog 62 #[.pointer (some ⟨B, 0, none⟩), .agg #[.int .i64 kind, .int .i64 day, .string code, .string other, .int .i64 al, .int .i64 ah, .int .i64 bl, .int .i64 bh]] w fun e w' => e = .returned (.tuple #[]) ∧ Beside C w w' ∧ Book w' C B bef aft (l.set k (⟨code, ⟨dl, dh⟩, Bd.left ⟨wl, wh⟩ ⟨al, ah⟩, pil, boi, src⟩, .slice fa fn fc)) { c with vapour := c.vapour.add (Bd.part ⟨wl, wh⟩ ⟨al, ah⟩) } made N kv tv m := by
  have HUW := Lib.hid uw; have HUA := Lib.hid (up_mono ua (show (1000 : Int) ≤ 3000 by decide)); have HUC := Lib.hid uc
  have HUP := Lib.hid (up_part uw ua); have HV8 := Lib.hid (show V ≤ 8000000000000000 from Int.le_trans hV (by decide))
  clear uw ua uc
  obtain ⟨p1, hp1⟩ : ∃ b : Bd, b = Bd.part ⟨wl, wh⟩ ⟨al, ah⟩ := ⟨_, rfl⟩
  have Ep1 := Lib.hid hp1; clear hp1
  obtain ⟨s1, hs1⟩ : ∃ b : Bd, b = c.vapour.add p1 := ⟨_, rfl⟩
  have Es1 := Lib.hid hs1; clear hs1
  obtain ⟨r1, hr1⟩ : ∃ b : Bd, b = Bd.left ⟨wl, wh⟩ ⟨al, ah⟩ := ⟨_, rfl⟩
  have Er1 := Lib.hid hr1; clear hr1
  rw [← Ep1.out] at HUP
  have DK1 := Lib.hid (boxed_deed h hC [.int .i64 kind, .int .i64 day, .string code, .string other, .int .i64 al, .int .i64 ah, .int .i64 bl, .int .i64 bh])
  have hz1 : (w.alloc (.cells #[.int .i64 kind, .int .i64 day, .string code, .string other, .int .i64 al, .int .i64 ah, .int .i64 bl, .int .i64 bh] 57)).heap.size = w.heap.size + 1 := World.size_alloc _ _
  have HO0 := Lib.hid (show (#[.string code, .int .i64 dl, .int .i64 dh, .int .i64 wl, .int .i64 wh, .int .i64 pil, .int .i64 boi, .slice fa fn fc] : Array Value).all (·.oneCell') = true from by simp [Value.oneCell'])
  have HS := Lib.hid hs; have HK := Lib.hid hk; have HP := Lib.hid hp; have HC := Lib.hid hC
  clear h hs hk hp hC
  go_enter Try.func62, Try.ntmps62
  go_upto_region 2 with (first
    | (go_at_call 71; refine (stack_yes DK1.out.book code HS.out HK.out HP.out).mono ?_; rintro e w1 ⟨rfl, hb1⟩; have DK2 := Lib.hid ((DK1.out.below hb1).alloc 48 [.string ⟨#[]⟩, .int .i64 0, .int .i64 0, .int .i64 0, .int .i64 0, .int .i64 0, .int .i64 0, .slice none 0 0] rfl); clear hb1)
    | ((with_reducible refine at_store 48 (.tmp 4) (.tmp 8) ?_); go_must (refine wpList_store_mid rfl 48 (.tmp 4) (.tmp 8) rfl w1.heap.size 0 #[.string code, .int .i64 dl, .int .i64 dh, .int .i64 wl, .int .i64 wh, .int .i64 pil, .int .i64 boi, .slice fa fn fc] rfl rfl ((DK2.out.loc 1 _ _ _ rfl).1.there (o := 0) (n := 8) (Nat.le_of_ble_eq_true rfl)) size_stack HO0.out ?_)))
  have hgS := (DK2.out.far 1 rfl).1
  have DK3 := Lib.hid (show Desk w ((w1.alloc (.cells #[.string ⟨#[]⟩, .int .i64 0, .int .i64 0, .int .i64 0, .int .i64 0, .int .i64 0, .int .i64 0, .slice none 0 0] 48)).setCells w1.heap.size 0 [.string code, .int .i64 dl, .int .i64 dh, .int .i64 wl, .int .i64 wh, .int .i64 pil, .int .i64 boi, .slice fa fn fc]) (fun _ => False) C B bef aft l c made N kv tv m [(w.heap.size, 57, [.int .i64 kind, .int .i64 day, .string code, .string other, .int .i64 al, .int .i64 ah, .int .i64 bl, .int .i64 bh]), (w1.heap.size, 48, [.string code, .int .i64 dl, .int .i64 dh, .int .i64 wl, .int .i64 wh, .int .i64 pil, .int .i64 boi, .slice fa fn fc])] from DK2.out.setLoc 1 [] [.string ⟨#[]⟩, .int .i64 0, .int .i64 0, .int .i64 0, .int .i64 0, .int .i64 0, .int .i64 0, .slice none 0 0] [] [.string code, .int .i64 dl, .int .i64 dh, .int .i64 wl, .int .i64 wh, .int .i64 pil, .int .i64 boi, .slice fa fn fc] rfl rfl (by decide))
  clear DK2
  generalize ((w1.alloc (.cells #[.string ⟨#[]⟩, .int .i64 0, .int .i64 0, .int .i64 0, .int .i64 0, .int .i64 0, .int .i64 0, .slice none 0 0] 48)).setCells w1.heap.size 0 [.string code, .int .i64 dl, .int .i64 dh, .int .i64 wl, .int .i64 wh, .int .i64 pil, .int .i64 boi, .slice fa fn fc]) = W3 at DK3 ⊢
  obtain ⟨gD, hgD⟩ : ∃ g, g = w.heap.size := ⟨_, rfl⟩
  obtain ⟨gS, hgS2⟩ : ∃ g, g = w1.heap.size := ⟨_, rfl⟩
  rw [← hgD, ← hgS2] at DK3 ⊢
  have HZ := Lib.hid (And.intro hgD hgS2)
  clear hgD hgS2 hgS hz1
  simp only [Act.put]
  have q0 := cell_regrown (show W3.cell? ⟨B, 5, none⟩ = some (.int .i64 c.vapour.lo) from DK3.out.own 5 rfl)
  have q1 := cell_regrown (show W3.cell? ⟨B, 6, none⟩ = some (.int .i64 c.vapour.hi) from DK3.out.own 6 rfl)
  have q2 := cell_regrown (show W3.cell? ⟨gS, 3, none⟩ = some (.int .i64 wl) from DK3.out.at 1 3 rfl rfl)
  have q3 := cell_regrown (show W3.cell? ⟨gS, 4, none⟩ = some (.int .i64 wh) from DK3.out.at 1 4 rfl rfl)
  have q4 := cell_regrown (show W3.cell? ⟨gD, 4, none⟩ = some (.int .i64 al) from DK3.out.at 0 4 rfl rfl)
  have q5 := cell_regrown (show W3.cell? ⟨gD, 5, none⟩ = some (.int .i64 ah) from DK3.out.at 0 5 rfl rfl)
  have k0 : ∀ d os, Calls Try.prog 73 #[.agg #[.int .i64 wl, .int .i64 wh], .agg #[.int .i64 al, .int .i64 ah]] (Go.Sort.grow (redrawn W3 d) os) fun e w'' => e = .returned (.agg #[.int .i64 p1.lo, .int .i64 p1.hi]) ∧ ∃ p : Regrown, w'' = Go.Sort.grow (redrawn W3 p.d) p.os := regrown_calls (fun w => by exact part_up HUW.out hV (HUA.out) Ep1.out w)
  have k1 : ∀ d os, Calls Try.prog 72 #[.agg #[.int .i64 c.vapour.lo, .int .i64 c.vapour.hi], .agg #[.int .i64 p1.lo, .int .i64 p1.hi]] (Go.Sort.grow (redrawn W3 d) os) fun e w'' => e = .returned (.agg #[.int .i64 s1.lo, .int .i64 s1.hi]) ∧ ∃ p : Regrown, w'' = Go.Sort.grow (redrawn W3 p.d) p.os := regrown_calls (fun w => by exact sum_up HUC.out HV8.out HUP.out HV8.out Es1.out w)
  refine region_split_below 15 (by kernel_rfl) (by kernel_rfl) (by kernel_rfl) ?_
  simp only [List.take_succ_cons, List.take_zero, List.drop_succ_cons, List.drop_zero]
  repeat (go_big_quiet_step (first | (with_reducible exact k0 _ _) | (with_reducible exact k1 _ _)))
  refine wpQuiet_nil ?_
  intro v0 hw'
  have hb8 : Below W3.heap.size W3 v0 := by obtain ⟨⟨dq, osq⟩, hw''⟩ := hw'; rw [hw'']; exact below_regrown W3 dq osq
  clear hw' q0 q1 q2 q3 q4 q5 k0 k1
  have DK4 := Lib.hid (show Desk w v0 (fun _ => False) C B bef aft l c made N kv tv m [(gD, 57, [.int .i64 kind, .int .i64 day, .string code, .string other, .int .i64 al, .int .i64 ah, .int .i64 bl, .int .i64 bh]), (gS, 48, [.string code, .int .i64 dl, .int .i64 dh, .int .i64 wl, .int .i64 wh, .int .i64 pil, .int .i64 boi, .slice fa fn fc])] from DK3.out.below hb8)
  clear DK3
  clear hb8
  have HE := Lib.hid (show v0.there B 5 2 from DK4.out.book.blk.there (o := 5) (n := 2) (Nat.le_of_ble_eq_true rfl))
  have HO := Lib.hid (show (#[.int .i64 s1.lo, .int .i64 s1.hi] : Array Value).all (·.oneCell') = true from by simp [Value.oneCell'])
  refine wpList_store_mid rfl 23 (.tmp 23) (.tmp 20) rfl B 5 #[.int .i64 s1.lo, .int .i64 s1.hi] rfl rfl HE.out size_bounds HO.out ?_
  change wpList _ _ _ _ _ (v0.setCells B 5 [.int .i64 s1.lo, .int .i64 s1.hi])
  clear HE HO
  have DK5 := Lib.hid (show Desk w (v0.setCells B 5 [.int .i64 s1.lo, .int .i64 s1.hi]) C C B bef aft l { c with vapour := s1 } made N kv tv m [(gD, 57, [.int .i64 kind, .int .i64 day, .string code, .string other, .int .i64 al, .int .i64 ah, .int .i64 bl, .int .i64 bh]), (gS, 48, [.string code, .int .i64 dl, .int .i64 dh, .int .i64 wl, .int .i64 wh, .int .i64 pil, .int .i64 boi, .slice fa fn fc])] from DK4.out.setOwn [.int .i64 bef, .int .i64 aft, kv, tv, .map (some m)] [.int .i64 c.vapour.lo, .int .i64 c.vapour.hi] [.int .i64 c.broth.lo, .int .i64 c.broth.hi, .int .i64 c.dust.lo, .int .i64 c.dust.hi, .int .i64 c.soldDry.lo, .int .i64 c.soldDry.hi, .int .i64 c.soldWater.lo, .int .i64 c.soldWater.hi, .int .i64 c.soaked.lo, .int .i64 c.soaked.hi, .int .i64 made] [.int .i64 s1.lo, .int .i64 s1.hi] rfl rfl rfl (fun _ f => f.elim))
  clear DK4
  generalize (v0.setCells B 5 [.int .i64 s1.lo, .int .i64 s1.hi]) = v1 at DK5 ⊢
  simp only [Act.put]
  go_upto_region 3 with fail
  have q0 := cell_regrown (show v1.cell? ⟨gS, 3, none⟩ = some (.int .i64 wl) from DK5.out.at 1 3 rfl rfl)
  have q1 := cell_regrown (show v1.cell? ⟨gS, 4, none⟩ = some (.int .i64 wh) from DK5.out.at 1 4 rfl rfl)
  have q2 := cell_regrown (show v1.cell? ⟨gD, 4, none⟩ = some (.int .i64 al) from DK5.out.at 0 4 rfl rfl)
  have q3 := cell_regrown (show v1.cell? ⟨gD, 5, none⟩ = some (.int .i64 ah) from DK5.out.at 0 5 rfl rfl)
  have k0 : ∀ d os, Calls Try.prog 74 #[.agg #[.int .i64 wl, .int .i64 wh], .agg #[.int .i64 al, .int .i64 ah]] (Go.Sort.grow (redrawn v1 d) os) fun e w'' => e = .returned (.agg #[.int .i64 r1.lo, .int .i64 r1.hi]) ∧ ∃ p : Regrown, w'' = Go.Sort.grow (redrawn v1 p.d) p.os := regrown_calls (fun w => by exact left_up HUW.out hV HUA.out Er1.out w)
  refine region_seq_below 6 ?_
  simp only [List.take_succ_cons, List.take_zero, List.drop_succ_cons, List.drop_zero]
  repeat (go_big_quiet_step (first | (with_reducible exact k0 _ _)))
  refine wpQuiet_nil ?_
  intro v2 hw'
  have hb8 : Below v1.heap.size v1 v2 := by obtain ⟨⟨dq, osq⟩, hw''⟩ := hw'; rw [hw'']; exact below_regrown v1 dq osq
  clear hw' q0 q1 q2 q3 k0
  have DK6 := Lib.hid (show Desk w v2 C C B bef aft l { c with vapour := s1 } made N kv tv m [(gD, 57, [.int .i64 kind, .int .i64 day, .string code, .string other, .int .i64 al, .int .i64 ah, .int .i64 bl, .int .i64 bh]), (gS, 48, [.string code, .int .i64 dl, .int .i64 dh, .int .i64 wl, .int .i64 wh, .int .i64 pil, .int .i64 boi, .slice fa fn fc])] from DK5.out.below hb8)
  clear DK5
  clear hb8
  have HE := Lib.hid (show v2.there gS 3 2 from (DK6.out.loc 1 _ _ _ rfl).1.there (o := 3) (n := 2) (Nat.le_of_ble_eq_true rfl))
  have HO := Lib.hid (show (#[.int .i64 r1.lo, .int .i64 r1.hi] : Array Value).all (·.oneCell') = true from by simp [Value.oneCell'])
  refine wpList_store_mid rfl 23 (.tmp 29) (.tmp 28) rfl gS 3 #[.int .i64 r1.lo, .int .i64 r1.hi] rfl rfl HE.out size_bounds HO.out ?_
  change wpList _ _ _ _ _ (v2.setCells gS 3 [.int .i64 r1.lo, .int .i64 r1.hi])
  clear HE HO
  have DK7 := Lib.hid (show Desk w (v2.setCells gS 3 [.int .i64 r1.lo, .int .i64 r1.hi]) C C B bef aft l { c with vapour := s1 } made N kv tv m [(gD, 57, [.int .i64 kind, .int .i64 day, .string code, .string other, .int .i64 al, .int .i64 ah, .int .i64 bl, .int .i64 bh]), (gS, 48, [.string code, .int .i64 dl, .int .i64 dh, .int .i64 r1.lo, .int .i64 r1.hi, .int .i64 pil, .int .i64 boi, .slice fa fn fc])] from DK6.out.setLoc 1 [.string code, .int .i64 dl, .int .i64 dh] [.int .i64 wl, .int .i64 wh] [.int .i64 pil, .int .i64 boi, .slice fa fn fc] [.int .i64 r1.lo, .int .i64 r1.hi] rfl rfl (by decide))
  clear DK6
  generalize (v2.setCells gS 3 [.int .i64 r1.lo, .int .i64 r1.hi]) = v3 at DK7 ⊢
  simp only [Act.put]
  have s0 := (show v3.cell? ⟨gS, 0, none⟩ = some (.string code) from DK7.out.at 1 0 rfl rfl)
  have s1 := (show v3.cell? ⟨gS, 1, none⟩ = some (.int .i64 dl) from DK7.out.at 1 1 rfl rfl)
  have s2 := (show v3.cell? ⟨gS, 2, none⟩ = some (.int .i64 dh) from DK7.out.at 1 2 rfl rfl)
  have s3 := (show v3.cell? ⟨gS, 3, none⟩ = some (.int .i64 r1.lo) from DK7.out.at 1 3 rfl rfl)
  have s4 := (show v3.cell? ⟨gS, 4, none⟩ = some (.int .i64 r1.hi) from DK7.out.at 1 4 rfl rfl)
  have s5 := (show v3.cell? ⟨gS, 5, none⟩ = some (.int .i64 pil) from DK7.out.at 1 5 rfl rfl)
  have s6 := (show v3.cell? ⟨gS, 6, none⟩ = some (.int .i64 boi) from DK7.out.at 1 6 rfl rfl)
  have s7 := (show v3.cell? ⟨gS, 7, none⟩ = some (.slice fa fn fc) from DK7.out.at 1 7 rfl rfl)
  go_wp2_with (go_at_call 70; refine (keep_old DK7.out.book ⟨code, ⟨dl, dh⟩, r1, pil, boi, src⟩ fa fn fc HP.out HK.out rfl (row_same (DK7.out.book.froms _ (List.mem_of_getElem? HP.out)) (fun _ _ => rfl)) (DK7.out.book.fromsLen _ (List.mem_of_getElem? HP.out))).mono ?_; rintro e w9 ⟨rfl, hb9, hk9⟩; have HB9 := Lib.hid (DK7.out.beside.trans hb9 (fun k hk => .inl hk)); have HK9 := Lib.hid hk9; clear hb9 hk9)
  go_end0
  have e1 := Er1.out; have e2 := Es1.out; have e3 := Ep1.out
  subst e1 e2 e3
  exact ⟨rfl, HB9.out, HK9.out⟩
end Go.Proofs.Ytbgojeppfhldjaa
