/- A deed: scrape. -/
import Derived.Test.YtbgojeppfhldjaaYDeedFacts
namespace Go.Proofs.Ytbgojeppfhldjaa
open Go Go.RowKit Yd

set_option maxRecDepth 100000 in
set_option maxHeartbeats 1000000 in
theorem rest_no {w : World} {C : Nat → Prop} {B : Nat} {bef aft : Int} {l : List SRow} {c : Yd.Acc} {made : Int} {N : Nat} {kv tv : Value} {m : Nat} (h : Book w C B bef aft l c made N kv tv m)
    (kind day : Int) (code other : Code) (al ah bl bh : Int) (hs : code.size ≤ maxLen) (hC : ∀ k, C k → k < w.heap.size) (hn : ixOf l code = none) :
    Calls Try.prog 62 #[.pointer (some ⟨B, 0, none⟩), .agg #[.int .i64 kind, .int .i64 day, .string code, .string other, .int .i64 al, .int .i64 ah, .int .i64 bl, .int .i64 bh]] w fun e w' => e = .panicked (faulty 1) ∧ Below w.heap.size w w' := by
  have DK1 := Lib.hid (boxed_deed h hC [.int .i64 kind, .int .i64 day, .string code, .string other, .int .i64 al, .int .i64 ah, .int .i64 bl, .int .i64 bh])
  have HS := Lib.hid hs; have HN := Lib.hid hn
  clear h hs hn hC
  go_enter Try.func62, Try.ntmps62
  go_wp2_with (go_at_call 71; refine (stack_no DK1.out.book code HS.out HN.out).mono ?_; rintro e w1 ⟨rfl, hb1⟩; have DK2 := Lib.hid (DK1.out.below hb1); clear hb1)
  exact ⟨rfl, rfl, DK2.out.quiet⟩

set_option maxRecDepth 100000 in
set_option maxHeartbeats 1000000 in
theorem scrape_no {w : World} {C : Nat → Prop} {B : Nat} {bef aft : Int} {l : List SRow} {c : Yd.Acc} {made : Int} {N : Nat} {kv tv : Value} {m : Nat} (h : Book w C B bef aft l c made N kv tv m)
    (kind day : Int) (code other : Code) (al ah bl bh : Int) (hs : code.size ≤ maxLen) (hC : ∀ k, C k → k < w.heap.size) (hn : ixOf l code = none) :
    Calls Try.prog 64 #[.pointer (some ⟨B, 0, none⟩), .agg #[.int .i64 kind, .int .i64 day, .string code, .string other, .int .i64 al, .int .i64 ah, .int .i64 bl, .int .i64 bh]] w fun e w' => e = .panicked (faulty 1) ∧ Below w.heap.size w w' := by
  have DK1 := Lib.hid (boxed_deed h hC [.int .i64 kind, .int .i64 day, .string code, .string other, .int .i64 al, .int .i64 ah, .int .i64 bl, .int .i64 bh])
  have HS := Lib.hid hs; have HN := Lib.hid hn
  clear h hs hn hC
  go_enter Try.func64, Try.ntmps64
  go_wp2_with (go_at_call 71; refine (stack_no DK1.out.book code HS.out HN.out).mono ?_; rintro e w1 ⟨rfl, hb1⟩; have DK2 := Lib.hid (DK1.out.below hb1); clear hb1)
  exact ⟨rfl, rfl, DK2.out.quiet⟩

set_option maxRecDepth 100000 in
set_option maxHeartbeats 1000000 in
theorem scrape_soon {w : World} {C : Nat → Prop} {B : Nat} {bef aft : Int} {l : List SRow} {c : Yd.Acc} {made : Int} {N : Nat} {kv tv : Value} {m : Nat} (h : Book w C B bef aft l c made N kv tv m)
    (kind day : Int) (code other : Code) (al ah bl bh : Int) (hs : code.size ≤ maxLen) (hC : ∀ k, C k → k < w.heap.size) (dl dh wl wh pil boi : Int) (src : List Int) (fa : Option Addr) (fn fc : Nat) {k : Nat} (hk : ixOf l code = some k) (hp : l[k]? = some (⟨code, ⟨dl, dh⟩, ⟨wl, wh⟩, pil, boi, src⟩, .slice fa fn fc)) (hd : 0 ≤ day ∧ day ≤ 2000) (hb : -1 ≤ boi ∧ boi ≤ 2000) (hr : restedB aft (⟨code, ⟨dl, dh⟩, ⟨wl, wh⟩, pil, boi, src⟩ : Stk Code) day = false) :
    Calls Try.prog 64 #[.pointer (some ⟨B, 0, none⟩), .agg #[.int .i64 kind, .int .i64 day, .string code, .string other, .int .i64 al, .int .i64 ah, .int .i64 bl, .int .i64 bh]] w fun e w' => e = .panicked (faulty 3) ∧ Below w.heap.size w w' := by
  have HDAY := Lib.hid (show 0 ≤ day ∧ day ≤ 1000000 by omega)
  have HBOI := Lib.hid (show -1 ≤ boi ∧ boi ≤ 1000000 by omega)
  have HR := Lib.hid hr
  clear hd hb hr
  have DK1 := Lib.hid (boxed_deed h hC [.int .i64 kind, .int .i64 day, .string code, .string other, .int .i64 al, .int .i64 ah, .int .i64 bl, .int .i64 bh])
  have hz1 : (w.alloc (.cells #[.int .i64 kind, .int .i64 day, .string code, .string other, .int .i64 al, .int .i64 ah, .int .i64 bl, .int .i64 bh] 57)).heap.size = w.heap.size + 1 := World.size_alloc _ _
  have HO0 := Lib.hid (show (#[.string code, .int .i64 dl, .int .i64 dh, .int .i64 wl, .int .i64 wh, .int .i64 pil, .int .i64 boi, .slice fa fn fc] : Array Value).all (·.oneCell') = true from by simp [Value.oneCell'])
  have HS := Lib.hid hs; have HK := Lib.hid hk; have HP := Lib.hid hp; have HC := Lib.hid hC
  clear h hs hk hp hC
  go_enter Try.func64, Try.ntmps64
  go_upto_region 2 with (first
    | (go_at_call 71; refine (stack_yes DK1.out.book code HS.out HK.out HP.out).mono ?_; rintro e w1 ⟨rfl, hb1⟩; have DK2 := Lib.hid ((DK1.out.below hb1).alloc 48 [.string ⟨#[]⟩, .int .i64 0, .int .i64 0, .int .i64 0, .int .i64 0, .int .i64 0, .int .i64 0, .slice none 0 0] rfl); clear hb1)
    | ((with_reducible refine at_store 48 (.tmp 4) (.tmp 8) ?_); go_must (refine wpList_store_mid rfl 48 (.tmp 4) (.tmp 8) rfl w1.heap.size 0 #[.string code, .int .i64 dl, .int .i64 dh, .int .i64 wl, .int .i64 wh, .int .i64 pil, .int .i64 boi, .slice fa fn fc] rfl rfl ((DK2.out.loc 1 _ _ _ rfl).1.there (o := 0) (n := 8) (Nat.le_of_ble_eq_true rfl)) size_stack HO0.out ?_)))
  have hgS := (DK2.out.far 1 rfl).1
  have DK3 := Lib.hid (show Desk w ((w1.alloc (.cells #[.string ⟨#[]⟩, .int .i64 0, .int .i64 0, .int .i64 0, .int .i64 0, .int .i64 0, .int .i64 0, .slice none 0 0] 48)).setCells w1.heap.size 0 [.string code, .int .i64 dl, .int .i64 dh, .int .i64 wl, .int .i64 wh, .int .i64 pil, .int .i64 boi, .slice fa fn fc]) (fun _ => False) C B bef aft l c made N kv tv m [(w.heap.size, 57, [.int .i64 kind, .int .i64 day, .string code, .string other, .int .i64 al, .int .i64 ah, .int .i64 bl, .int .i64 bh]), (w1.heap.size, 48, [.string code, .int .i64 dl, .int .i64 dh, .int .i64 wl, .int .i64 wh, .int .i64 pil, .int .i64 boi, .slice fa fn fc])] from DK2.out.setLoc 1 [] [.string ⟨#[]⟩, .int .i64 0, .int .i64 0, .int .i64 0, .int .i64 0, .int .i64 0, .int .i64 0, .slice none 0 0] [] [.string code, .int .i64 dl, .int .i64 dh, .int .i64 wl, .int .i64 wh, .int .i64 pil, .int .i64 boi, .slice fa fn fc] rfl rfl (by decide))
  clear DK2
  generalize ((w1.alloc (.cells #[.string ⟨#[]⟩, .int .i64 0, .int .i64 0, .int .i64 0, .int .i64 0, .int .i64 0, .int .i64 0, .slice none 0 0] 48)).setCells w1.heap.size 0 [.string code, .int .i64 dl, .int .i64 dh, .int .i64 wl, .int .i64 wh, .int .i64 pil, .int .i64 boi, .slice fa fn fc]) = W3 at DK3 ⊢
  obtain ⟨gD, hgD⟩ : ∃ g, g = w.heap.size := ⟨_, rfl⟩
  obtain ⟨gS, hgS2⟩ : ∃ g, g = w1.heap.size := ⟨_, rfl⟩
  rw [← hgD, ← hgS2] at DK3 ⊢
  have HZ := Lib.hid (And.intro hgD hgS2)
  clear hgD hgS2 hgS hz1
  simp only [Act.put]
  have s0 := (show W3.cell? ⟨gS, 0, none⟩ = some (.string code) from DK3.out.at 1 0 rfl rfl)
  have s1 := (show W3.cell? ⟨gS, 1, none⟩ = some (.int .i64 dl) from DK3.out.at 1 1 rfl rfl)
  have s2 := (show W3.cell? ⟨gS, 2, none⟩ = some (.int .i64 dh) from DK3.out.at 1 2 rfl rfl)
  have s3 := (show W3.cell? ⟨gS, 3, none⟩ = some (.int .i64 wl) from DK3.out.at 1 3 rfl rfl)
  have s4 := (show W3.cell? ⟨gS, 4, none⟩ = some (.int .i64 wh) from DK3.out.at 1 4 rfl rfl)
  have s5 := (show W3.cell? ⟨gS, 5, none⟩ = some (.int .i64 pil) from DK3.out.at 1 5 rfl rfl)
  have s6 := (show W3.cell? ⟨gS, 6, none⟩ = some (.int .i64 boi) from DK3.out.at 1 6 rfl rfl)
  have s7 := (show W3.cell? ⟨gS, 7, none⟩ = some (.slice fa fn fc) from DK3.out.at 1 7 rfl rfl)
  have t1 := (show W3.cell? ⟨gD, 1, none⟩ = some (.int .i64 day) from DK3.out.at 0 1 rfl rfl)
  go_upto_region 3 with (go_at_call 76; refine (rested_no DK3.out.book ⟨code, ⟨dl, dh⟩, ⟨wl, wh⟩, pil, boi, src⟩ fa fn fc day HDAY.out HBOI.out HR.out).mono ?_; rintro e w4 ⟨rfl, hb4⟩; have DK4 := Lib.hid (DK3.out.below hb4); clear hb4)
  exact ⟨rfl, rfl, DK4.out.quiet⟩

set_option maxRecDepth 100000 in
set_option maxHeartbeats 1000000 in
theorem scrape_bark {w : World} {C : Nat → Prop} {B : Nat} {bef aft : Int} {l : List SRow} {c : Yd.Acc} {made : Int} {N : Nat} {kv tv : Value} {m : Nat} (h : Book w C B bef aft l c made N kv tv m)
    (kind day : Int) (code other : Code) (al ah bl bh : Int) (hs : code.size ≤ maxLen) (hC : ∀ k, C k → k < w.heap.size) (dl dh wl wh pil boi : Int) (src : List Int) (fa : Option Addr) (fn fc : Nat) {k : Nat} (hk : ixOf l code = some k) (hp : l[k]? = some (⟨code, ⟨dl, dh⟩, ⟨wl, wh⟩, pil, boi, src⟩, .slice fa fn fc)) (hd : 0 ≤ day ∧ day ≤ 2000) (hb : -1 ≤ boi ∧ boi ≤ 2000) (hr : restedB aft (⟨code, ⟨dl, dh⟩, ⟨wl, wh⟩, pil, boi, src⟩ : Stk Code) day = true) (hbark : ¬ al ≤ dh) :
    Calls Try.prog 64 #[.pointer (some ⟨B, 0, none⟩), .agg #[.int .i64 kind, .int .i64 day, .string code, .string other, .int .i64 al, .int .i64 ah, .int .i64 bl, .int .i64 bh]] w fun e w' => e = .panicked (faulty 4) ∧ Below w.heap.size w w' := by
  have d3 : decide (al ≤ dh) = false := by simpa using hbark
  clear hbark
  have HDAY := Lib.hid (show 0 ≤ day ∧ day ≤ 1000000 by omega)
  have HBOI := Lib.hid (show -1 ≤ boi ∧ boi ≤ 1000000 by omega)
  have HR := Lib.hid hr
  clear hd hb hr
  have DK1 := Lib.hid (boxed_deed h hC [.int .i64 kind, .int .i64 day, .string code, .string other, .int .i64 al, .int .i64 ah, .int .i64 bl, .int .i64 bh])
  have hz1 : (w.alloc (.cells #[.int .i64 kind, .int .i64 day, .string code, .string other, .int .i64 al, .int .i64 ah, .int .i64 bl, .int .i64 bh] 57)).heap.size = w.heap.size + 1 := World.size_alloc _ _
  have HO0 := Lib.hid (show (#[.string code, .int .i64 dl, .int .i64 dh, .int .i64 wl, .int .i64 wh, .int .i64 pil, .int .i64 boi, .slice fa fn fc] : Array Value).all (·.oneCell') = true from by simp [Value.oneCell'])
  have HS := Lib.hid hs; have HK := Lib.hid hk; have HP := Lib.hid hp; have HC := Lib.hid hC
  clear h hs hk hp hC
  go_enter Try.func64, Try.ntmps64
  go_upto_region 2 with (first
    | (go_at_call 71; refine (stack_yes DK1.out.book code HS.out HK.out HP.out).mono ?_; rintro e w1 ⟨rfl, hb1⟩; have DK2 := Lib.hid ((DK1.out.below hb1).alloc 48 [.string ⟨#[]⟩, .int .i64 0, .int .i64 0, .int .i64 0, .int .i64 0, .int .i64 0, .int .i64 0, .slice none 0 0] rfl); clear hb1)
    | ((with_reducible refine at_store 48 (.tmp 4) (.tmp 8) ?_); go_must (refine wpList_store_mid rfl 48 (.tmp 4) (.tmp 8) rfl w1.heap.size 0 #[.string code, .int .i64 dl, .int .i64 dh, .int .i64 wl, .int .i64 wh, .int .i64 pil, .int .i64 boi, .slice fa fn fc] rfl rfl ((DK2.out.loc 1 _ _ _ rfl).1.there (o := 0) (n := 8) (Nat.le_of_ble_eq_true rfl)) size_stack HO0.out ?_)))
  have hgS := (DK2.out.far 1 rfl).1
  have DK3 := Lib.hid (show Desk w ((w1.alloc (.cells #[.string ⟨#[]⟩, .int .i64 0, .int .i64 0, .int .i64 0, .int .i64 0, .int .i64 0, .int .i64 0, .slice none 0 0] 48)).setCells w1.heap.size 0 [.string code, .int .i64 dl, .int .i64 dh, .int .i64 wl, .int .i64 wh, .int .i64 pil, .int .i64 boi, .slice fa fn fc]) (fun _ => False) C B bef aft l c made N kv tv m [(w.heap.size, 57, [.int .i64 kind, .int .i64 day, .string code, .string other, .int .i64 al, .int .i64 ah, .int .i64 bl, .int .i64 bh]), (w1.heap.size, 48, [.string code, .int .i64 dl, .int .i64 dh, .int .i64 wl, .int .i64 wh, .int .i64 pil, .int .i64 boi, .slice fa fn fc])] from DK2.out.setLoc 1 [] [.string ⟨#[]⟩, .int .i64 0, .int .i64 0, .int .i64 0, .int .i64 0, .int .i64 0, .int .i64 0, .slice none 0 0] [] [.string code, .int .i64 dl, .int .i64 dh, .int .i64 wl, .int .i64 wh, .int .i64 pil, .int .i64 boi, .slice fa fn fc] rfl rfl (by decide))
  clear DK2
  generalize ((w1.alloc (.cells #[.string ⟨#[]⟩, .int .i64 0, .int .i64 0, .int .i64 0, .int .i64 0, .int .i64 0, .int .i64 0, .slice none 0 0] 48)).setCells w1.heap.size 0 [.string code, .int .i64 dl, .int .i64 dh, .int .i64 wl, .int .i64 wh, .int .i64 pil, .int .i64 boi, .slice fa fn fc]) = W3 at DK3 ⊢
  obtain ⟨gD, hgD⟩ : ∃ g, g = w.heap.size := ⟨_, rfl⟩
  obtain ⟨gS, hgS2⟩ : ∃ g, g = w1.heap.size := ⟨_, rfl⟩
  rw [← hgD, ← hgS2] at DK3 ⊢
  have HZ := Lib.hid (And.intro hgD hgS2)
  clear hgD hgS2 hgS hz1
  simp only [Act.put]
  have s0 := (show W3.cell? ⟨gS, 0, none⟩ = some (.string code) from DK3.out.at 1 0 rfl rfl)
  have s1 := (show W3.cell? ⟨gS, 1, none⟩ = some (.int .i64 dl) from DK3.out.at 1 1 rfl rfl)
  have s2 := (show W3.cell? ⟨gS, 2, none⟩ = some (.int .i64 dh) from DK3.out.at 1 2 rfl rfl)
  have s3 := (show W3.cell? ⟨gS, 3, none⟩ = some (.int .i64 wl) from DK3.out.at 1 3 rfl rfl)
  have s4 := (show W3.cell? ⟨gS, 4, none⟩ = some (.int .i64 wh) from DK3.out.at 1 4 rfl rfl)
  have s5 := (show W3.cell? ⟨gS, 5, none⟩ = some (.int .i64 pil) from DK3.out.at 1 5 rfl rfl)
  have s6 := (show W3.cell? ⟨gS, 6, none⟩ = some (.int .i64 boi) from DK3.out.at 1 6 rfl rfl)
  have s7 := (show W3.cell? ⟨gS, 7, none⟩ = some (.slice fa fn fc) from DK3.out.at 1 7 rfl rfl)
  have t1 := (show W3.cell? ⟨gD, 1, none⟩ = some (.int .i64 day) from DK3.out.at 0 1 rfl rfl)
  go_upto_region 3 with (go_at_call 76; refine (rested_ok DK3.out.book ⟨code, ⟨dl, dh⟩, ⟨wl, wh⟩, pil, boi, src⟩ fa fn fc day HDAY.out HBOI.out HR.out).mono ?_; rintro e w4 ⟨rfl, hb4⟩; have DK4 := Lib.hid (DK3.out.below hb4); clear hb4)
  clear s0 s1 s2 s3 s4 s5 s6 s7 t1
  have s2 := (show w4.cell? ⟨gS, 2, none⟩ = some (.int .i64 dh) from DK4.out.at 1 2 rfl rfl)
  have t4 := (show w4.cell? ⟨gD, 4, none⟩ = some (.int .i64 al) from DK4.out.at 0 4 rfl rfl)
  go_wp2_with (go_at_call 75; refine (need_false _ _).mono ?_; rintro e w2 ⟨rfl, rfl⟩)
  exact ⟨rfl, rfl, DK4.out.quiet⟩

set_option maxRecDepth 100000 in
set_option maxHeartbeats 1000000 in
theorem scrape_ok {w : World} {C : Nat → Prop} {B : Nat} {bef aft : Int} {l : List SRow} {c : Yd.Acc} {made : Int} {N : Nat} {kv tv : Value} {m : Nat} (h : Book w C B bef aft l c made N kv tv m)
    (kind day : Int) (code other : Code) (al ah bl bh : Int) (hs : code.size ≤ maxLen) (hC : ∀ k, C k → k < w.heap.size) (dl dh wl wh pil boi : Int) (src : List Int) (fa : Option Addr) (fn fc : Nat) (V : Int) (hV : V ≤ 2000000000000000) {k : Nat} (hk : ixOf l code = some k) (hp : l[k]? = some (⟨code, ⟨dl, dh⟩, ⟨wl, wh⟩, pil, boi, src⟩, .slice fa fn fc)) (hd : 0 ≤ day ∧ day ≤ 2000) (hb : -1 ≤ boi ∧ boi ≤ 2000) (hr : restedB aft (⟨code, ⟨dl, dh⟩, ⟨wl, wh⟩, pil, boi, src⟩ : Stk Code) day = true) (hbark : al ≤ dh) (ud : Bd.Up ⟨dl, dh⟩ V) (ua : Bd.Up ⟨al, ah⟩ 100000000) (u3 : c.dust.Up V) :
    Calls Try.prog 64 #[.pointer (some ⟨B, 0, none⟩), .agg #[.int .i64 kind, .int .i64 day, .string code, .string other, .int .i64 al, .int .i64 ah, .int .i64 bl, .int .i64 bh]] w fun e w' => e = .returned (.tuple #[]) ∧ Beside C w w' ∧ Book w' C B bef aft (l.set k (⟨code, Bd.scraped ⟨dl, dh⟩ ⟨al, ah⟩, ⟨wl, wh⟩, pil, boi, src⟩, .slice fa fn fc)) { c with dust := c.dust.add (Bd.dust ⟨dl, dh⟩ ⟨al, ah⟩) } made N kv tv m := by
  have d3 : decide (al ≤ dh) = true := by simpa using hbark
  have HUD3 := Lib.hid (show Bd.Up ⟨al, if dh < ah then dh else ah⟩ V from by
    simp only [Bd.Up] at ua ud
    obtain ⟨a1, a2, a3⟩ := ua
    obtain ⟨b1, b2, b3⟩ := ud
    split <;> exact ⟨a1, by simp only; omega, by simp only; omega⟩)
  have HUD := Lib.hid ud; have HUA := Lib.hid ua; have HU3 := Lib.hid u3
  have HV8 := Lib.hid (show V ≤ 8000000000000000 from Int.le_trans hV (by decide))
  have HDF := Lib.hid (show -4000000000000000000 ≤ dl - ah ∧ dl - ah ≤ 4000000000000000000 from by
    simp only [Bd.Up] at ua ud
    obtain ⟨a1, a2, a3⟩ := ua
    obtain ⟨b1, b2, b3⟩ := ud
    omega)
  clear hbark ud ua u3
  have HDAY := Lib.hid (show 0 ≤ day ∧ day ≤ 1000000 by omega)
  have HBOI := Lib.hid (show -1 ≤ boi ∧ boi ≤ 1000000 by omega)
  have HR := Lib.hid hr
  clear hd hb hr
  obtain ⟨u3, hu3⟩ : ∃ b : Bd, b = Bd.mk al (if dh < ah then dh else ah) := ⟨_, rfl⟩
  have Eu3 := Lib.hid hu3; clear hu3
  obtain ⟨s3, hs3⟩ : ∃ b : Bd, b = c.dust.add u3 := ⟨_, rfl⟩
  have Es3 := Lib.hid hs3; clear hs3
  obtain ⟨df, hdf⟩ : ∃ b : Bd, b = Bd.sub ⟨dl, dh⟩ ⟨al, ah⟩ := ⟨_, rfl⟩
  have Edf := Lib.hid hdf; clear hdf
  have DK1 := Lib.hid (boxed_deed h hC [.int .i64 kind, .int .i64 day, .string code, .string other, .int .i64 al, .int .i64 ah, .int .i64 bl, .int .i64 bh])
  have hz1 : (w.alloc (.cells #[.int .i64 kind, .int .i64 day, .string code, .string other, .int .i64 al, .int .i64 ah, .int .i64 bl, .int .i64 bh] 57)).heap.size = w.heap.size + 1 := World.size_alloc _ _
  have HO0 := Lib.hid (show (#[.string code, .int .i64 dl, .int .i64 dh, .int .i64 wl, .int .i64 wh, .int .i64 pil, .int .i64 boi, .slice fa fn fc] : Array Value).all (·.oneCell') = true from by simp [Value.oneCell'])
  have HS := Lib.hid hs; have HK := Lib.hid hk; have HP := Lib.hid hp; have HC := Lib.hid hC
  clear h hs hk hp hC
  go_enter Try.func64, Try.ntmps64
  go_upto_region 2 with (first
    | (go_at_call 71; refine (stack_yes DK1.out.book code HS.out HK.out HP.out).mono ?_; rintro e w1 ⟨rfl, hb1⟩; have DK2 := Lib.hid ((DK1.out.below hb1).alloc 48 [.string ⟨#[]⟩, .int .i64 0, .int .i64 0, .int .i64 0, .int .i64 0, .int .i64 0, .int .i64 0, .slice none 0 0] rfl); clear hb1)
    | ((with_reducible refine at_store 48 (.tmp 4) (.tmp 8) ?_); go_must (refine wpList_store_mid rfl 48 (.tmp 4) (.tmp 8) rfl w1.heap.size 0 #[.string code, .int .i64 dl, .int .i64 dh, .int .i64 wl, .int .i64 wh, .int .i64 pil, .int .i64 boi, .slice fa fn fc] rfl rfl ((DK2.out.loc 1 _ _ _ rfl).1.there (o := 0) (n := 8) (Nat.le_of_ble_eq_true rfl)) size_stack HO0.out ?_)))
  have hgS := (DK2.out.far 1 rfl).1
  have DK3 := Lib.hid (show Desk w ((w1.alloc (.cells #[.string ⟨#[]⟩, .int .i64 0, .int .i64 0, .int .i64 0, .int .i64 0, .int .i64 0, .int .i64 0, .slice none 0 0] 48)).setCells w1.heap.size 0 [.string code, .int .i64 dl, .int .i64 dh, .int .i64 wl, .int .i64 wh, .int .i64 pil, .int .i64 boi, .slice fa fn fc]) (fun _ => False) C B bef aft l c made N kv tv m [(w.heap.size, 57, [.int .i64 kind, .int .i64 day, .string code, .string other, .int .i64 al, .int .i64 ah, .int .i64 bl, .int .i64 bh]), (w1.heap.size, 48, [.string code, .int .i64 dl, .int .i64 dh, .int .i64 wl, .int .i64 wh, .int .i64 pil, .int .i64 boi, .slice fa fn fc])] from DK2.out.setLoc 1 [] [.string ⟨#[]⟩, .int .i64 0, .int .i64 0, .int .i64 0, .int .i64 0, .int .i64 0, .int .i64 0, .slice none 0 0] [] [.string code, .int .i64 dl, .int .i64 dh, .int .i64 wl, .int .i64 wh, .int .i64 pil, .int .i64 boi, .slice fa fn fc] rfl rfl (by decide))
  clear DK2
  generalize ((w1.alloc (.cells #[.string ⟨#[]⟩, .int .i64 0, .int .i64 0, .int .i64 0, .int .i64 0, .int .i64 0, .int .i64 0, .slice none 0 0] 48)).setCells w1.heap.size 0 [.string code, .int .i64 dl, .int .i64 dh, .int .i64 wl, .int .i64 wh, .int .i64 pil, .int .i64 boi, .slice fa fn fc]) = W3 at DK3 ⊢
  obtain ⟨gD, hgD⟩ : ∃ g, g = w.heap.size := ⟨_, rfl⟩
  obtain ⟨gS, hgS2⟩ : ∃ g, g = w1.heap.size := ⟨_, rfl⟩
  rw [← hgD, ← hgS2] at DK3 ⊢
  have HZ := Lib.hid (And.intro hgD hgS2)
  clear hgD hgS2 hgS hz1
  simp only [Act.put]
  have s0 := (show W3.cell? ⟨gS, 0, none⟩ = some (.string code) from DK3.out.at 1 0 rfl rfl)
  have s1 := (show W3.cell? ⟨gS, 1, none⟩ = some (.int .i64 dl) from DK3.out.at 1 1 rfl rfl)
  have s2 := (show W3.cell? ⟨gS, 2, none⟩ = some (.int .i64 dh) from DK3.out.at 1 2 rfl rfl)
  have s3 := (show W3.cell? ⟨gS, 3, none⟩ = some (.int .i64 wl) from DK3.out.at 1 3 rfl rfl)
  have s4 := (show W3.cell? ⟨gS, 4, none⟩ = some (.int .i64 wh) from DK3.out.at 1 4 rfl rfl)
  have s5 := (show W3.cell? ⟨gS, 5, none⟩ = some (.int .i64 pil) from DK3.out.at 1 5 rfl rfl)
  have s6 := (show W3.cell? ⟨gS, 6, none⟩ = some (.int .i64 boi) from DK3.out.at 1 6 rfl rfl)
  have s7 := (show W3.cell? ⟨gS, 7, none⟩ = some (.slice fa fn fc) from DK3.out.at 1 7 rfl rfl)
  have t1 := (show W3.cell? ⟨gD, 1, none⟩ = some (.int .i64 day) from DK3.out.at 0 1 rfl rfl)
  go_upto_region 3 with (go_at_call 76; refine (rested_ok DK3.out.book ⟨code, ⟨dl, dh⟩, ⟨wl, wh⟩, pil, boi, src⟩ fa fn fc day HDAY.out HBOI.out HR.out).mono ?_; rintro e w4 ⟨rfl, hb4⟩; have DK4 := Lib.hid (DK3.out.below hb4); clear hb4)
  clear s0 s1 s2 s3 s4 s5 s6 s7 t1
  have s2 := (show w4.cell? ⟨gS, 2, none⟩ = some (.int .i64 dh) from DK4.out.at 1 2 rfl rfl)
  have t4 := (show w4.cell? ⟨gD, 4, none⟩ = some (.int .i64 al) from DK4.out.at 0 4 rfl rfl)
  go_upto_region 4 with (go_at_call 75; refine (need_true _ _).mono ?_; rintro e w2 ⟨rfl, rfl⟩)
  clear s2 t4
  have q0 := cell_regrown (show w4.cell? ⟨B, 9, none⟩ = some (.int .i64 c.dust.lo) from DK4.out.own 9 rfl)
  have q1 := cell_regrown (show w4.cell? ⟨B, 10, none⟩ = some (.int .i64 c.dust.hi) from DK4.out.own 10 rfl)
  have q2 := cell_regrown (show w4.cell? ⟨gD, 4, none⟩ = some (.int .i64 al) from DK4.out.at 0 4 rfl rfl)
  have q3 := cell_regrown (show w4.cell? ⟨gD, 5, none⟩ = some (.int .i64 ah) from DK4.out.at 0 5 rfl rfl)
  have q4 := cell_regrown (show w4.cell? ⟨gS, 2, none⟩ = some (.int .i64 dh) from DK4.out.at 1 2 rfl rfl)
  have k0 : ∀ d os, Calls Try.prog 72 #[.agg #[.int .i64 c.dust.lo, .int .i64 c.dust.hi], .agg #[.int .i64 al, .int .i64 (if dh < ah then dh else ah)]] (Go.Sort.grow (redrawn w4 d) os) fun e w'' => e = .returned (.agg #[.int .i64 s3.lo, .int .i64 s3.hi]) ∧ ∃ p : Regrown, w'' = Go.Sort.grow (redrawn w4 p.d) p.os := regrown_calls (fun w => by rw [show s3 = c.dust.add ⟨al, if dh < ah then dh else ah⟩ by rw [Es3.out, Eu3.out]]; exact sum_up HU3.out HV8.out HUD3.out HV8.out rfl w)
  refine region_split_below 21 (by kernel_rfl) (by kernel_rfl) (by kernel_rfl) ?_
  simp only [List.take_succ_cons, List.take_zero, List.drop_succ_cons, List.drop_zero]
  repeat (go_big_quiet_step (first | (with_reducible exact k0 _ _)))
  refine wpQuiet_nil ?_
  intro v0 hw'
  have hb8 : Below w4.heap.size w4 v0 := by obtain ⟨⟨dq, osq⟩, hw''⟩ := hw'; rw [hw'']; exact below_regrown w4 dq osq
  clear hw' q0 q1 q2 q3 q4 k0
  have DK5 := Lib.hid (show Desk w v0 (fun _ => False) C B bef aft l c made N kv tv m [(gD, 57, [.int .i64 kind, .int .i64 day, .string code, .string other, .int .i64 al, .int .i64 ah, .int .i64 bl, .int .i64 bh]), (gS, 48, [.string code, .int .i64 dl, .int .i64 dh, .int .i64 wl, .int .i64 wh, .int .i64 pil, .int .i64 boi, .slice fa fn fc])] from DK4.out.below hb8)
  clear DK4
  clear hb8
  generalize (if dh < ah then dh else ah) = mn
  have HE := Lib.hid (show v0.there B 9 2 from DK5.out.book.blk.there (o := 9) (n := 2) (Nat.le_of_ble_eq_true rfl))
  have HO := Lib.hid (show (#[.int .i64 s3.lo, .int .i64 s3.hi] : Array Value).all (·.oneCell') = true from by simp [Value.oneCell'])
  refine wpList_store_mid rfl 23 (.tmp 42) (.tmp 39) rfl B 9 #[.int .i64 s3.lo, .int .i64 s3.hi] rfl rfl HE.out size_bounds HO.out ?_
  change wpList _ _ _ _ _ (v0.setCells B 9 [.int .i64 s3.lo, .int .i64 s3.hi])
  clear HE HO
  have DK6 := Lib.hid (show Desk w (v0.setCells B 9 [.int .i64 s3.lo, .int .i64 s3.hi]) C C B bef aft l { c with dust := s3 } made N kv tv m [(gD, 57, [.int .i64 kind, .int .i64 day, .string code, .string other, .int .i64 al, .int .i64 ah, .int .i64 bl, .int .i64 bh]), (gS, 48, [.string code, .int .i64 dl, .int .i64 dh, .int .i64 wl, .int .i64 wh, .int .i64 pil, .int .i64 boi, .slice fa fn fc])] from DK5.out.setOwn [.int .i64 bef, .int .i64 aft, kv, tv, .map (some m), .int .i64 c.vapour.lo, .int .i64 c.vapour.hi, .int .i64 c.broth.lo, .int .i64 c.broth.hi] [.int .i64 c.dust.lo, .int .i64 c.dust.hi] [.int .i64 c.soldDry.lo, .int .i64 c.soldDry.hi, .int .i64 c.soldWater.lo, .int .i64 c.soldWater.hi, .int .i64 c.soaked.lo, .int .i64 c.soaked.hi, .int .i64 made] [.int .i64 s3.lo, .int .i64 s3.hi] rfl rfl rfl (fun _ f => f.elim))
  clear DK5
  generalize (v0.setCells B 9 [.int .i64 s3.lo, .int .i64 s3.hi]) = v1 at DK6 ⊢
  simp only [Act.put]
  go_upto_region 5 with fail
  have q0 := cell_regrown (show v1.cell? ⟨gS, 1, none⟩ = some (.int .i64 dl) from DK6.out.at 1 1 rfl rfl)
  have q1 := cell_regrown (show v1.cell? ⟨gS, 2, none⟩ = some (.int .i64 dh) from DK6.out.at 1 2 rfl rfl)
  have q2 := cell_regrown (show v1.cell? ⟨gD, 4, none⟩ = some (.int .i64 al) from DK6.out.at 0 4 rfl rfl)
  have q3 := cell_regrown (show v1.cell? ⟨gD, 5, none⟩ = some (.int .i64 ah) from DK6.out.at 0 5 rfl rfl)
  have k0 : ∀ d os, Calls Try.prog 77 #[.agg #[.int .i64 dl, .int .i64 dh], .agg #[.int .i64 al, .int .i64 ah]] (Go.Sort.grow (redrawn v1 d) os) fun e w'' => e = .returned (.agg #[.int .i64 df.lo, .int .i64 df.hi]) ∧ ∃ p : Regrown, w'' = Go.Sort.grow (redrawn v1 p.d) p.os := regrown_calls (fun w => by exact difference_up HUD.out HV8.out HUA.out (by decide) Edf.out w)
  refine region_seq_below 6 ?_
  simp only [List.take_succ_cons, List.take_zero, List.drop_succ_cons, List.drop_zero]
  repeat (go_big_quiet_step (first | (with_reducible exact k0 _ _)))
  refine wpQuiet_nil ?_
  intro v2 hw'
  have hb8 : Below v1.heap.size v1 v2 := by obtain ⟨⟨dq, osq⟩, hw''⟩ := hw'; rw [hw'']; exact below_regrown v1 dq osq
  clear hw' q0 q1 q2 q3 k0
  have DK7 := Lib.hid (show Desk w v2 C C B bef aft l { c with dust := s3 } made N kv tv m [(gD, 57, [.int .i64 kind, .int .i64 day, .string code, .string other, .int .i64 al, .int .i64 ah, .int .i64 bl, .int .i64 bh]), (gS, 48, [.string code, .int .i64 dl, .int .i64 dh, .int .i64 wl, .int .i64 wh, .int .i64 pil, .int .i64 boi, .slice fa fn fc])] from DK6.out.below hb8)
  clear DK6
  clear hb8
  have HE := Lib.hid (show v2.there gS 1 2 from (DK7.out.loc 1 _ _ _ rfl).1.there (o := 1) (n := 2) (Nat.le_of_ble_eq_true rfl))
  have HO := Lib.hid (show (#[.int .i64 df.lo, .int .i64 df.hi] : Array Value).all (·.oneCell') = true from by simp [Value.oneCell'])
  refine wpList_store_mid rfl 23 (.tmp 48) (.tmp 47) rfl gS 1 #[.int .i64 df.lo, .int .i64 df.hi] rfl rfl HE.out size_bounds HO.out ?_
  change wpList _ _ _ _ _ (v2.setCells gS 1 [.int .i64 df.lo, .int .i64 df.hi])
  clear HE HO
  have DK8 := Lib.hid (show Desk w (v2.setCells gS 1 [.int .i64 df.lo, .int .i64 df.hi]) C C B bef aft l { c with dust := s3 } made N kv tv m [(gD, 57, [.int .i64 kind, .int .i64 day, .string code, .string other, .int .i64 al, .int .i64 ah, .int .i64 bl, .int .i64 bh]), (gS, 48, [.string code, .int .i64 df.lo, .int .i64 df.hi, .int .i64 wl, .int .i64 wh, .int .i64 pil, .int .i64 boi, .slice fa fn fc])] from DK7.out.setLoc 1 [.string code] [.int .i64 dl, .int .i64 dh] [.int .i64 wl, .int .i64 wh, .int .i64 pil, .int .i64 boi, .slice fa fn fc] [.int .i64 df.lo, .int .i64 df.hi] rfl rfl (by decide))
  clear DK7
  generalize (v2.setCells gS 1 [.int .i64 df.lo, .int .i64 df.hi]) = v3 at DK8 ⊢
  simp only [Act.put]
  go_upto_region 6 with fail
  have q0 := cell_regrown (show v3.cell? ⟨gS, 1, none⟩ = some (.int .i64 df.lo) from DK8.out.at 1 1 rfl rfl)
  refine region_seq_below 6 ?_
  simp only [List.take_succ_cons, List.take_zero, List.drop_succ_cons, List.drop_zero]
  repeat (go_big_quiet_step (fail))
  refine wpQuiet_nil ?_
  intro v4 hw'
  have hb8 : Below v3.heap.size v3 v4 := by obtain ⟨⟨dq, osq⟩, hw''⟩ := hw'; rw [hw'']; exact below_regrown v3 dq osq
  clear hw' q0
  have DK9 := Lib.hid (show Desk w v4 C C B bef aft l { c with dust := s3 } made N kv tv m [(gD, 57, [.int .i64 kind, .int .i64 day, .string code, .string other, .int .i64 al, .int .i64 ah, .int .i64 bl, .int .i64 bh]), (gS, 48, [.string code, .int .i64 df.lo, .int .i64 df.hi, .int .i64 wl, .int .i64 wh, .int .i64 pil, .int .i64 boi, .slice fa fn fc])] from DK8.out.below hb8)
  clear DK8
  clear hb8
  generalize hmx : (if df.lo < 0 then 0 else df.lo) = mx
  have HMX := Lib.hid hmx; clear hmx
  have hc9 := (show v4.cell? ⟨gS, 1, none⟩ = some (.int .i64 df.lo) from DK9.out.at 1 1 rfl rfl)
  have hf9 := (DK9.out.loc 1 _ _ _ rfl).1.frozen 1
  go_upto_region 7 with fail
  clear hc9 hf9
  have DK10 := Lib.hid (show Desk w (v4.setCell ⟨gS, 1, none⟩ (.int .i64 mx)) C C B bef aft l { c with dust := s3 } made N kv tv m [(gD, 57, [.int .i64 kind, .int .i64 day, .string code, .string other, .int .i64 al, .int .i64 ah, .int .i64 bl, .int .i64 bh]), (gS, 48, [.string code, .int .i64 mx, .int .i64 df.hi, .int .i64 wl, .int .i64 wh, .int .i64 pil, .int .i64 boi, .slice fa fn fc])] from DK9.out.setLoc1 1 [.string code] [.int .i64 df.hi, .int .i64 wl, .int .i64 wh, .int .i64 pil, .int .i64 boi, .slice fa fn fc] (.int .i64 df.lo) (.int .i64 mx) 1 rfl rfl (by decide))
  clear DK9
  generalize (v4.setCell ⟨gS, 1, none⟩ (.int .i64 mx)) = v5 at DK10 ⊢
  have s0 := (show v5.cell? ⟨gS, 0, none⟩ = some (.string code) from DK10.out.at 1 0 rfl rfl)
  have s1 := (show v5.cell? ⟨gS, 1, none⟩ = some (.int .i64 mx) from DK10.out.at 1 1 rfl rfl)
  have s2 := (show v5.cell? ⟨gS, 2, none⟩ = some (.int .i64 df.hi) from DK10.out.at 1 2 rfl rfl)
  have s3 := (show v5.cell? ⟨gS, 3, none⟩ = some (.int .i64 wl) from DK10.out.at 1 3 rfl rfl)
  have s4 := (show v5.cell? ⟨gS, 4, none⟩ = some (.int .i64 wh) from DK10.out.at 1 4 rfl rfl)
  have s5 := (show v5.cell? ⟨gS, 5, none⟩ = some (.int .i64 pil) from DK10.out.at 1 5 rfl rfl)
  have s6 := (show v5.cell? ⟨gS, 6, none⟩ = some (.int .i64 boi) from DK10.out.at 1 6 rfl rfl)
  have s7 := (show v5.cell? ⟨gS, 7, none⟩ = some (.slice fa fn fc) from DK10.out.at 1 7 rfl rfl)
  go_wp2_with (go_at_call 70; refine (keep_old DK10.out.book ⟨code, ⟨mx, df.hi⟩, ⟨wl, wh⟩, pil, boi, src⟩ fa fn fc HP.out HK.out rfl (row_same (DK10.out.book.froms _ (List.mem_of_getElem? HP.out)) (fun _ _ => rfl)) (DK10.out.book.fromsLen _ (List.mem_of_getElem? HP.out))).mono ?_; rintro e w9 ⟨rfl, hb9, hk9⟩; have HB9 := Lib.hid (DK10.out.beside.trans hb9 (fun k hk => .inl hk)); have HK9 := Lib.hid hk9; clear hb9 hk9)
  go_end0
  have zu3 := Eu3.out; have zs3 := Es3.out; have zdf := Edf.out
  subst zdf zs3 zu3
  have em : mx = max 0 (dl - ah) := by rw [← HMX.out]; exact if_max (dl - ah)
  have em2 : (if dh < ah then dh else ah) = min ah dh := if_min ah dh
  subst em
  rw [em2] at HK9
  exact ⟨rfl, HB9.out, HK9.out⟩
end Go.Proofs.Ytbgojeppfhldjaa
