/- A deed: split. -/
import Derived.Test.YtbgojeppfhldjaaYClone
namespace Go.Proofs.Ytbgojeppfhldjaa
open Go Go.RowKit Yd

set_option maxRecDepth 100000 in
set_option maxHeartbeats 1000000 in
theorem split_no {w : World} {C : Nat → Prop} {B : Nat} {bef aft : Int} {l : List SRow} {c : Yd.Acc} {made : Int} {N : Nat} {kv tv : Value} {m : Nat} (h : Book w C B bef aft l c made N kv tv m)
    (kind day : Int) (code other : Code) (al ah bl bh : Int) (hs : code.size ≤ maxLen) (hC : ∀ k, C k → k < w.heap.size) (hn : ixOf l code = none) :
    Calls Try.prog 65 #[.pointer (some ⟨B, 0, none⟩), .agg #[.int .i64 kind, .int .i64 day, .string code, .string other, .int .i64 al, .int .i64 ah, .int .i64 bl, .int .i64 bh]] w fun e w' => e = .panicked (faulty 1) ∧ Below w.heap.size w w' := by
  have DK1 := Lib.hid (boxed_deed h hC [.int .i64 kind, .int .i64 day, .string code, .string other, .int .i64 al, .int .i64 ah, .int .i64 bl, .int .i64 bh])
  have HS := Lib.hid hs; have HN := Lib.hid hn
  clear h hs hn hC
  go_enter Try.func65, Try.ntmps65
  go_wp2_with (go_at_call 71; refine (stack_no DK1.out.book code HS.out HN.out).mono ?_; rintro e w1 ⟨rfl, hb1⟩; have DK2 := Lib.hid (DK1.out.below hb1); clear hb1)
  exact ⟨rfl, rfl, DK2.out.quiet⟩

set_option maxRecDepth 100000 in
set_option maxHeartbeats 1000000 in
theorem split_found {w : World} {C : Nat → Prop} {B : Nat} {bef aft : Int} {l : List SRow} {c : Yd.Acc} {made : Int} {N : Nat} {kv tv : Value} {m : Nat} (h : Book w C B bef aft l c made N kv tv m)
    (kind day : Int) (code other : Code) (al ah bl bh : Int) (hs : code.size ≤ maxLen) (hC : ∀ k, C k → k < w.heap.size) (dl dh wl wh pil boi : Int) (src : List Int) (fa : Option Addr) (fn fc : Nat) {k : Nat} (hk : ixOf l code = some k) (hp : l[k]? = some (⟨code, ⟨dl, dh⟩, ⟨wl, wh⟩, pil, boi, src⟩, .slice fa fn fc)) (hso : other.size ≤ maxLen) {k2 : Nat} (hk2 : ixOf l other = some k2) {p2 : SRow} (hp2 : l[k2]? = some p2) :
    Calls Try.prog 65 #[.pointer (some ⟨B, 0, none⟩), .agg #[.int .i64 kind, .int .i64 day, .string code, .string other, .int .i64 al, .int .i64 ah, .int .i64 bl, .int .i64 bh]] w fun e w' => e = .panicked (faulty 1) ∧ Below w.heap.size w w' := by
  have HSO := Lib.hid hso; clear hso
  have HK2 := Lib.hid hk2; have HP2 := Lib.hid hp2; clear hk2 hp2
  have DK1 := Lib.hid (boxed_deed h hC [.int .i64 kind, .int .i64 day, .string code, .string other, .int .i64 al, .int .i64 ah, .int .i64 bl, .int .i64 bh])
  have hz1 : (w.alloc (.cells #[.int .i64 kind, .int .i64 day, .string code, .string other, .int .i64 al, .int .i64 ah, .int .i64 bl, .int .i64 bh] 57)).heap.size = w.heap.size + 1 := World.size_alloc _ _
  have HO0 := Lib.hid (show (#[.string code, .int .i64 dl, .int .i64 dh, .int .i64 wl, .int .i64 wh, .int .i64 pil, .int .i64 boi, .slice fa fn fc] : Array Value).all (·.oneCell') = true from by simp [Value.oneCell'])
  have HS := Lib.hid hs; have HK := Lib.hid hk; have HP := Lib.hid hp; have HC := Lib.hid hC
  clear h hs hk hp hC
  go_enter Try.func65, Try.ntmps65
  go_upto_region 2 with (first
    | (go_at_call 71; refine (stack_yes DK1.out.book code HS.out HK.out HP.out).mono ?_; rintro e w1 ⟨rfl, hb1⟩; have DK2 := Lib.hid ((DK1.out.below hb1).alloc 48 [.string ⟨#[]⟩, .int .i64 0, .int .i64 0, .int .i64 0, .int .i64 0, .int .i64 0, .int .i64 0, .slice none 0 0] rfl); clear hb1)
    | ((with_reducible refine at_store 48 (.tmp 4) (.tmp 9) ?_); go_must (refine wpList_store_mid rfl 48 (.tmp 4) (.tmp 9) rfl w1.heap.size 0 #[.string code, .int .i64 dl, .int .i64 dh, .int .i64 wl, .int .i64 wh, .int .i64 pil, .int .i64 boi, .slice fa fn fc] rfl rfl ((DK2.out.loc 1 _ _ _ rfl).1.there (o := 0) (n := 8) (Nat.le_of_ble_eq_true rfl)) size_stack HO0.out ?_)))
  have hgS := (DK2.out.far 1 rfl).1
  have DK3 := Lib.hid (show Desk w ((w1.alloc (.cells #[.string ⟨#[]⟩, .int .i64 0, .int .i64 0, .int .i64 0, .int .i64 0, .int .i64 0, .int .i64 0, .slice none 0 0] 48)).setCells w1.heap.size 0 [.string code, .int .i64 dl, .int .i64 dh, .int .i64 wl, .int .i64 wh, .int .i64 pil, .int .i64 boi, .slice fa fn fc]) (fun _ => False) C B bef aft l c made N kv tv m [(w.heap.size, 57, [.int .i64 kind, .int .i64 day, .string code, .string other, .int .i64 al, .int .i64 ah, .int .i64 bl, .int .i64 bh]), (w1.heap.size, 48, [.string code, .int .i64 dl, .int .i64 dh, .int .i64 wl, .int .i64 wh, .int .i64 pil, .int .i64 boi, .slice fa fn fc])] from DK2.out.setLoc 1 [] [.string ⟨#[]⟩, .int .i64 0, .int .i64 0, .int .i64 0, .int .i64 0, .int .i64 0, .int .i64 0, .slice none 0 0] [] [.string code, .int .i64 dl, .int .i64 dh, .int .i64 wl, .int .i64 wh, .int .i64 pil, .int .i64 boi, .slice fa fn fc] rfl rfl (by decide))
  clear DK2
  generalize ((w1.alloc (.cells #[.string ⟨#[]⟩, .int .i64 0, .int .i64 0, .int .i64 0, .int .i64 0, .int .i64 0, .int .i64 0, .slice none 0 0] 48)).setCells w1.heap.size 0 [.string code, .int .i64 dl, .int .i64 dh, .int .i64 wl, .int .i64 wh, .int .i64 pil, .int .i64 boi, .slice fa fn fc]) = W3 at DK3 ⊢
  obtain ⟨gD, hgD⟩ : ∃ g, g = w.heap.size := ⟨_, rfl⟩
  obtain ⟨gS, hgS2⟩ : ∃ g, g = w1.heap.size := ⟨_, rfl⟩
  rw [← hgD, ← hgS2] at DK3 ⊢
  have HZ := Lib.hid (And.intro hgD hgS2)
  clear hgD hgS2 hgS hz1
  simp only [Act.put]
  have t3 := (show W3.cell? ⟨gD, 3, none⟩ = some (.string other) from DK3.out.at 0 3 rfl rfl)
  go_wp2_with (go_at_call 69; refine (needNew_found DK3.out.book other HSO.out HK2.out HP2.out).mono ?_; rintro e w4 ⟨rfl, hb4⟩; have DK9 := Lib.hid (DK3.out.below hb4); clear hb4)
  exact ⟨rfl, rfl, DK9.out.quiet⟩

set_option maxRecDepth 100000 in
set_option maxHeartbeats 1000000 in
theorem split_full {w : World} {C : Nat → Prop} {B : Nat} {bef aft : Int} {l : List SRow} {c : Yd.Acc} {made : Int} {N : Nat} {kv tv : Value} {m : Nat} (h : Book w C B bef aft l c made N kv tv m)
    (kind day : Int) (code other : Code) (al ah bl bh : Int) (hs : code.size ≤ maxLen) (hC : ∀ k, C k → k < w.heap.size) (dl dh wl wh pil boi : Int) (src : List Int) (fa : Option Addr) (fn fc : Nat) {k : Nat} (hk : ixOf l code = some k) (hp : l[k]? = some (⟨code, ⟨dl, dh⟩, ⟨wl, wh⟩, pil, boi, src⟩, .slice fa fn fc)) (hso : other.size ≤ maxLen) (hn : ixOf l other = none) (h8 : 8 ≤ l.length) :
    Calls Try.prog 65 #[.pointer (some ⟨B, 0, none⟩), .agg #[.int .i64 kind, .int .i64 day, .string code, .string other, .int .i64 al, .int .i64 ah, .int .i64 bl, .int .i64 bh]] w fun e w' => e = .panicked (faulty 2) ∧ Below w.heap.size w w' := by
  have HSO := Lib.hid hso; clear hso
  have HN := Lib.hid hn; have H8 := Lib.hid h8; clear hn h8
  have DK1 := Lib.hid (boxed_deed h hC [.int .i64 kind, .int .i64 day, .string code, .string other, .int .i64 al, .int .i64 ah, .int .i64 bl, .int .i64 bh])
  have hz1 : (w.alloc (.cells #[.int .i64 kind, .int .i64 day, .string code, .string other, .int .i64 al, .int .i64 ah, .int .i64 bl, .int .i64 bh] 57)).heap.size = w.heap.size + 1 := World.size_alloc _ _
  have HO0 := Lib.hid (show (#[.string code, .int .i64 dl, .int .i64 dh, .int .i64 wl, .int .i64 wh, .int .i64 pil, .int .i64 boi, .slice fa fn fc] : Array Value).all (·.oneCell') = true from by simp [Value.oneCell'])
  have HS := Lib.hid hs; have HK := Lib.hid hk; have HP := Lib.hid hp; have HC := Lib.hid hC
  clear h hs hk hp hC
  go_enter Try.func65, Try.ntmps65
  go_upto_region 2 with (first
    | (go_at_call 71; refine (stack_yes DK1.out.book code HS.out HK.out HP.out).mono ?_; rintro e w1 ⟨rfl, hb1⟩; have DK2 := Lib.hid ((DK1.out.below hb1).alloc 48 [.string ⟨#[]⟩, .int .i64 0, .int .i64 0, .int .i64 0, .int .i64 0, .int .i64 0, .int .i64 0, .slice none 0 0] rfl); clear hb1)
    | ((with_reducible refine at_store 48 (.tmp 4) (.tmp 9) ?_); go_must (refine wpList_store_mid rfl 48 (.tmp 4) (.tmp 9) rfl w1.heap.size 0 #[.string code, .int .i64 dl, .int .i64 dh, .int .i64 wl, .int .i64 wh, .int .i64 pil, .int .i64 boi, .slice fa fn fc] rfl rfl ((DK2.out.loc 1 _ _ _ rfl).1.there (o := 0) (n := 8) (Nat.le_of_ble_eq_true rfl)) size_stack HO0.out ?_)))
  have hgS := (DK2.out.far 1 rfl).1
  have DK3 := Lib.hid (show Desk w ((w1.alloc (.cells #[.string ⟨#[]⟩, .int .i64 0, .int .i64 0, .int .i64 0, .int .i64 0, .int .i64 0, .int .i64 0, .slice none 0 0] 48)).setCells w1.heap.size 0 [.string code, .int .i64 dl, .int .i64 dh, .int .i64 wl, .int .i64 wh, .int .i64 pil, .int .i64 boi, .slice fa fn fc]) (fun _ => False) C B bef aft l c made N kv tv m [(w.heap.size, 57, [.int .i64 kind, .int .i64 day, .string code, .string other, .int .i64 al, .int .i64 ah, .int .i64 bl, .int .i64 bh]), (w1.heap.size, 48, [.string code, .int .i64 dl, .int .i64 dh, .int .i64 wl, .int .i64 wh, .int .i64 pil, .int .i64 boi, .slice fa fn fc])] from DK2.out.setLoc 1 [] [.string ⟨#[]⟩, .int .i64 0, .int .i64 0, .int .i64 0, .int .i64 0, .int .i64 0, .int .i64 0, .slice none 0 0] [] [.string code, .int .i64 dl, .int .i64 dh, .int .i64 wl, .int .i64 wh, .int .i64 pil, .int .i64 boi, .slice fa fn fc] rfl rfl (by decide))
  clear DK2
  generalize ((w1.alloc (.cells #[.string ⟨#[]⟩, .int .i64 0, .int .i64 0, .int .i64 0, .int .i64 0, .int .i64 0, .int .i64 0, .slice none 0 0] 48)).setCells w1.heap.size 0 [.string code, .int .i64 dl, .int .i64 dh, .int .i64 wl, .int .i64 wh, .int .i64 pil, .int .i64 boi, .slice fa fn fc]) = W3 at DK3 ⊢
  obtain ⟨gD, hgD⟩ : ∃ g, g = w.heap.size := ⟨_, rfl⟩
  obtain ⟨gS, hgS2⟩ : ∃ g, g = w1.heap.size := ⟨_, rfl⟩
  rw [← hgD, ← hgS2] at DK3 ⊢
  have HZ := Lib.hid (And.intro hgD hgS2)
  clear hgD hgS2 hgS hz1
  simp only [Act.put]
  have t3 := (show W3.cell? ⟨gD, 3, none⟩ = some (.string other) from DK3.out.at 0 3 rfl rfl)
  go_wp2_with (go_at_call 69; refine (needNew_full DK3.out.book other HSO.out HN.out H8.out).mono ?_; rintro e w4 ⟨rfl, hb4⟩; have DK9 := Lib.hid (DK3.out.below hb4); clear hb4)
  exact ⟨rfl, rfl, DK9.out.quiet⟩

set_option maxRecDepth 100000 in
set_option maxHeartbeats 1000000 in
theorem split_ok {w : World} {C : Nat → Prop} {B : Nat} {bef aft : Int} {l : List SRow} {c : Yd.Acc} {made : Int} {N : Nat} {kv tv : Value} {m : Nat} (h : Book w C B bef aft l c made N kv tv m)
    (kind day : Int) (code other : Code) (al ah bl bh : Int) (hs : code.size ≤ maxLen) (hC : ∀ k, C k → k < w.heap.size) (dl dh wl wh pil boi : Int) (src : List Int) (fa : Option Addr) (fn fc : Nat) (V : Int) (hV : V ≤ 2000000000000000) {k : Nat} (hk : ixOf l code = some k) (hp : l[k]? = some (⟨code, ⟨dl, dh⟩, ⟨wl, wh⟩, pil, boi, src⟩, .slice fa fn fc)) (hso : other.size ≤ maxLen) (hn : ixOf l other = none) (h8 : l.length < 8) (hN : N < 1000000) (h0 : 0 < src.length) (ud : Bd.Up ⟨dl, dh⟩ V) (uw : Bd.Up ⟨wl, wh⟩ V) (ua : Bd.Up ⟨al, ah⟩ 1000) :
    Calls Try.prog 65 #[.pointer (some ⟨B, 0, none⟩), .agg #[.int .i64 kind, .int .i64 day, .string code, .string other, .int .i64 al, .int .i64 ah, .int .i64 bl, .int .i64 bh]] w (DeedDone w C B bef aft (List.set (l.map (fun p : SRow => p.1) ++ [(⟨other, Bd.part ⟨dl, dh⟩ ⟨al, ah⟩, Bd.part ⟨wl, wh⟩ ⟨al, ah⟩, pil, boi, src⟩ : Stk Code)]) k (⟨code, Bd.left ⟨dl, dh⟩ ⟨al, ah⟩, Bd.left ⟨wl, wh⟩ ⟨al, ah⟩, pil, boi, src⟩ : Stk Code)) c made (N + 1) m) := by
  have HUD := Lib.hid ud; have HUW := Lib.hid uw; have HUA := Lib.hid (up_mono ua (show (1000 : Int) ≤ 3000 by decide))
  have hkl := (List.getElem?_eq_some_iff.1 hp).1
  have HKL := Lib.hid hkl
  have HL0 := Lib.hid h0; have HL1 := Lib.hid (h.fromsLen _ (List.mem_of_getElem? hp))
  have hfn : fn = src.length := by
    obtain ⟨g, cap, cur, h1, _⟩ := row_block (h.froms _ (List.mem_of_getElem? hp)) h0
    simp only [Value.slice.injEq] at h1
    exact h1.2.1
  subst hfn
  clear ud uw ua hkl h0
  obtain ⟨p1, hp1⟩ : ∃ b : Bd, b = Bd.part ⟨dl, dh⟩ ⟨al, ah⟩ := ⟨_, rfl⟩
  have Ep1 := Lib.hid hp1; clear hp1
  obtain ⟨p2, hp2⟩ : ∃ b : Bd, b = Bd.part ⟨wl, wh⟩ ⟨al, ah⟩ := ⟨_, rfl⟩
  have Ep2 := Lib.hid hp2; clear hp2
  obtain ⟨r1, hr1⟩ : ∃ b : Bd, b = Bd.left ⟨dl, dh⟩ ⟨al, ah⟩ := ⟨_, rfl⟩
  have Er1 := Lib.hid hr1; clear hr1
  obtain ⟨r2, hr2⟩ : ∃ b : Bd, b = Bd.left ⟨wl, wh⟩ ⟨al, ah⟩ := ⟨_, rfl⟩
  have Er2 := Lib.hid hr2; clear hr2
  have HSO := Lib.hid hso; have HN := Lib.hid hn; have H8 := Lib.hid h8; have HNN := Lib.hid hN; clear hso hn h8 hN
  have DK1 := Lib.hid (boxed_deed h hC [.int .i64 kind, .int .i64 day, .string code, .string other, .int .i64 al, .int .i64 ah, .int .i64 bl, .int .i64 bh])
  have hz1 : (w.alloc (.cells #[.int .i64 kind, .int .i64 day, .string code, .string other, .int .i64 al, .int .i64 ah, .int .i64 bl, .int .i64 bh] 57)).heap.size = w.heap.size + 1 := World.size_alloc _ _
  have HO0 := Lib.hid (show (#[.string code, .int .i64 dl, .int .i64 dh, .int .i64 wl, .int .i64 wh, .int .i64 pil, .int .i64 boi, .slice fa src.length fc] : Array Value).all (·.oneCell') = true from by simp [Value.oneCell'])
  have HS := Lib.hid hs; have HK := Lib.hid hk; have HP := Lib.hid hp; have HC := Lib.hid hC
  clear h hs hk hp hC
  go_enter Try.func65, Try.ntmps65
  go_upto_region 2 with (first
    | (go_at_call 71; refine (stack_yes DK1.out.book code HS.out HK.out HP.out).mono ?_; rintro e w1 ⟨rfl, hb1⟩; have DK2 := Lib.hid ((DK1.out.below hb1).alloc 48 [.string ⟨#[]⟩, .int .i64 0, .int .i64 0, .int .i64 0, .int .i64 0, .int .i64 0, .int .i64 0, .slice none 0 0] rfl); clear hb1)
    | ((with_reducible refine at_store 48 (.tmp 4) (.tmp 9) ?_); go_must (refine wpList_store_mid rfl 48 (.tmp 4) (.tmp 9) rfl w1.heap.size 0 #[.string code, .int .i64 dl, .int .i64 dh, .int .i64 wl, .int .i64 wh, .int .i64 pil, .int .i64 boi, .slice fa src.length fc] rfl rfl ((DK2.out.loc 1 _ _ _ rfl).1.there (o := 0) (n := 8) (Nat.le_of_ble_eq_true rfl)) size_stack HO0.out ?_)))
  have hgS := (DK2.out.far 1 rfl).1
  have DK3 := Lib.hid (show Desk w ((w1.alloc (.cells #[.string ⟨#[]⟩, .int .i64 0, .int .i64 0, .int .i64 0, .int .i64 0, .int .i64 0, .int .i64 0, .slice none 0 0] 48)).setCells w1.heap.size 0 [.string code, .int .i64 dl, .int .i64 dh, .int .i64 wl, .int .i64 wh, .int .i64 pil, .int .i64 boi, .slice fa src.length fc]) (fun _ => False) C B bef aft l c made N kv tv m [(w.heap.size, 57, [.int .i64 kind, .int .i64 day, .string code, .string other, .int .i64 al, .int .i64 ah, .int .i64 bl, .int .i64 bh]), (w1.heap.size, 48, [.string code, .int .i64 dl, .int .i64 dh, .int .i64 wl, .int .i64 wh, .int .i64 pil, .int .i64 boi, .slice fa src.length fc])] from DK2.out.setLoc 1 [] [.string ⟨#[]⟩, .int .i64 0, .int .i64 0, .int .i64 0, .int .i64 0, .int .i64 0, .int .i64 0, .slice none 0 0] [] [.string code, .int .i64 dl, .int .i64 dh, .int .i64 wl, .int .i64 wh, .int .i64 pil, .int .i64 boi, .slice fa src.length fc] rfl rfl (by decide))
  clear DK2
  generalize ((w1.alloc (.cells #[.string ⟨#[]⟩, .int .i64 0, .int .i64 0, .int .i64 0, .int .i64 0, .int .i64 0, .int .i64 0, .slice none 0 0] 48)).setCells w1.heap.size 0 [.string code, .int .i64 dl, .int .i64 dh, .int .i64 wl, .int .i64 wh, .int .i64 pil, .int .i64 boi, .slice fa src.length fc]) = W3 at DK3 ⊢
  obtain ⟨gD, hgD⟩ : ∃ g, g = w.heap.size := ⟨_, rfl⟩
  obtain ⟨gS, hgS2⟩ : ∃ g, g = w1.heap.size := ⟨_, rfl⟩
  rw [← hgD, ← hgS2] at DK3 ⊢
  have HZ := Lib.hid (And.intro hgD hgS2)
  clear hgD hgS2 hgS hz1
  simp only [Act.put]
  have t3 := (show W3.cell? ⟨gD, 3, none⟩ = some (.string other) from DK3.out.at 0 3 rfl rfl)
  go_upto_region 3 with (go_at_call 69; refine (needNew_ok DK3.out.book other HSO.out HN.out H8.out).mono ?_; rintro e w4 ⟨rfl, hb4⟩; have DK4 := Lib.hid (DK3.out.below hb4); clear hb4)
  clear t3 DK3
  have s0 := (show w4.cell? ⟨gS, 0, none⟩ = some (.string code) from DK4.out.at 1 0 rfl rfl)
  have s1 := (show w4.cell? ⟨gS, 1, none⟩ = some (.int .i64 dl) from DK4.out.at 1 1 rfl rfl)
  have s2 := (show w4.cell? ⟨gS, 2, none⟩ = some (.int .i64 dh) from DK4.out.at 1 2 rfl rfl)
  have s3 := (show w4.cell? ⟨gS, 3, none⟩ = some (.int .i64 wl) from DK4.out.at 1 3 rfl rfl)
  have s4 := (show w4.cell? ⟨gS, 4, none⟩ = some (.int .i64 wh) from DK4.out.at 1 4 rfl rfl)
  have s5 := (show w4.cell? ⟨gS, 5, none⟩ = some (.int .i64 pil) from DK4.out.at 1 5 rfl rfl)
  have s6 := (show w4.cell? ⟨gS, 6, none⟩ = some (.int .i64 boi) from DK4.out.at 1 6 rfl rfl)
  have s7 := (show w4.cell? ⟨gS, 7, none⟩ = some (.slice fa src.length fc) from DK4.out.at 1 7 rfl rfl)
  have DA := Lib.hid (DK4.out.alloc 48 [.string ⟨#[]⟩, .int .i64 0, .int .i64 0, .int .i64 0, .int .i64 0, .int .i64 0, .int .i64 0, .slice none 0 0] rfl)
  have HO := Lib.hid (show (#[.string code, .int .i64 dl, .int .i64 dh, .int .i64 wl, .int .i64 wh, .int .i64 pil, .int .i64 boi, .slice fa src.length fc] : Array Value).all (·.oneCell') = true from by simp [Value.oneCell'])
  go_upto_region 4 with ((with_reducible refine at_store 48 (.tmp 5) (.tmp 14) ?_); go_must (refine wpList_store_mid rfl 48 (.tmp 5) (.tmp 14) rfl w4.heap.size 0 #[.string code, .int .i64 dl, .int .i64 dh, .int .i64 wl, .int .i64 wh, .int .i64 pil, .int .i64 boi, .slice fa src.length fc] rfl rfl ((DA.out.loc 2 _ _ _ rfl).1.there (o := 0) (n := 8) (Nat.le_of_ble_eq_true rfl)) size_stack HO.out ?_))
  have DK5 := Lib.hid (show Desk w ((w4.alloc (.cells #[.string ⟨#[]⟩, .int .i64 0, .int .i64 0, .int .i64 0, .int .i64 0, .int .i64 0, .int .i64 0, .slice none 0 0] 48)).setCells w4.heap.size 0 [.string code, .int .i64 dl, .int .i64 dh, .int .i64 wl, .int .i64 wh, .int .i64 pil, .int .i64 boi, .slice fa src.length fc]) (fun _ => False) C B bef aft l c made N kv tv m [(gD, 57, [.int .i64 kind, .int .i64 day, .string code, .string other, .int .i64 al, .int .i64 ah, .int .i64 bl, .int .i64 bh]), (gS, 48, [.string code, .int .i64 dl, .int .i64 dh, .int .i64 wl, .int .i64 wh, .int .i64 pil, .int .i64 boi, .slice fa src.length fc]), (w4.heap.size, 48, [.string code, .int .i64 dl, .int .i64 dh, .int .i64 wl, .int .i64 wh, .int .i64 pil, .int .i64 boi, .slice fa src.length fc])] from DA.out.setLoc 2 [] [.string ⟨#[]⟩, .int .i64 0, .int .i64 0, .int .i64 0, .int .i64 0, .int .i64 0, .int .i64 0, .slice none 0 0] [] [.string code, .int .i64 dl, .int .i64 dh, .int .i64 wl, .int .i64 wh, .int .i64 pil, .int .i64 boi, .slice fa src.length fc] rfl rfl (by decide))
  clear HO DA DK4
  generalize ((w4.alloc (.cells #[.string ⟨#[]⟩, .int .i64 0, .int .i64 0, .int .i64 0, .int .i64 0, .int .i64 0, .int .i64 0, .slice none 0 0] 48)).setCells w4.heap.size 0 [.string code, .int .i64 dl, .int .i64 dh, .int .i64 wl, .int .i64 wh, .int .i64 pil, .int .i64 boi, .slice fa src.length fc]) = v0 at DK5 ⊢
  obtain ⟨gO, hgO⟩ : ∃ g, g = w4.heap.size := ⟨_, rfl⟩
  rw [← hgO] at DK5 ⊢
  clear hgO
  simp only [Act.put]
  clear s0 s1 s2 s3 s4 s5 s6 s7
  skip
  have HSRC := Lib.hid (show v0.ownsRow 0 3 1 (.slice fa src.length fc) src.length (intCells src) from DK5.out.book.froms _ (List.mem_of_getElem? HP.out))
  have hmix : Try.prog.follows .mixedOrders = true := by kernel_rfl
  refine region_till [8] (fun w' => Blk w' gD 57 #[.int .i64 kind, .int .i64 day, .string code, .string other, .int .i64 al, .int .i64 ah, .int .i64 bl, .int .i64 bh] ∧ Blk w' gS 48 #[.string code, .int .i64 dl, .int .i64 dh, .int .i64 wl, .int .i64 wh, .int .i64 pil, .int .i64 boi, .slice fa src.length fc]) 9 [false, false, false, false, false, false, false, false, false] hmix rfl rfl ?_
  have DK6 := Lib.hid (DK5.out.drew)
  clear DK5 hmix
  generalize v0.drew = v1 at DK6 ⊢
  have HT := Lib.hid (show (fun w' => Blk w' gD 57 #[.int .i64 kind, .int .i64 day, .string code, .string other, .int .i64 al, .int .i64 ah, .int .i64 bl, .int .i64 bh] ∧ Blk w' gS 48 #[.string code, .int .i64 dl, .int .i64 dh, .int .i64 wl, .int .i64 wh, .int .i64 pil, .int .i64 boi, .slice fa src.length fc]) v1 from ⟨(DK6.out.loc 0 _ _ _ rfl).1, (DK6.out.loc 1 _ _ _ rfl).1⟩)
  refine till_pure (i := 0) (v := .pointer (some ⟨gD, 3, none⟩)) rfl rfl (by kernel_rfl) (fun _ _ _ h => h) (yields_of rfl (fun w' _ => by simp [go_sem])) (fun _ => HT.out) ?_
  simp only [List.setIfInBounds_toArray, List.set_cons_succ, List.set_cons_zero]
  refine till_load (i := 1) (v := .string other) rfl rfl (by kernel_rfl) (fun _ _ _ h => h) (yields_of rfl (fun w' hw' => by have hcx := Blk.at hw'.1 3 (.string other) rfl; simp [go_sem, hcx])) (fun _ => HT.out) ?_
  simp only [List.setIfInBounds_toArray, List.set_cons_succ, List.set_cons_zero]
  refine till_pure (i := 2) (v := .pointer (some ⟨gS, 7, none⟩)) rfl rfl (by kernel_rfl) (fun _ _ _ h => h) (yields_of rfl (fun w' _ => by simp [go_sem])) (fun _ => HT.out) ?_
  simp only [List.setIfInBounds_toArray, List.set_cons_succ, List.set_cons_zero]
  refine till_load (i := 3) (v := .slice fa src.length fc) rfl rfl (by kernel_rfl) (fun _ _ _ h => h) (yields_of rfl (fun w' hw' => by have hcx := Blk.at hw'.2 7 (.slice fa src.length fc) rfl; simp [go_sem, hcx])) (fun _ => HT.out) ?_
  simp only [List.setIfInBounds_toArray, List.set_cons_succ, List.set_cons_zero]
  refine till_pure (i := 5) (v := .pointer (some ⟨gO, 0, none⟩)) rfl rfl (by kernel_rfl) (fun _ _ _ h => h) (yields_of rfl (fun w' _ => by simp [go_sem])) (fun _ => HT.out) ?_
  simp only [List.setIfInBounds_toArray, List.set_cons_succ, List.set_cons_zero]
  refine till_only (j := 4) (by kernel_rfl) rfl ?_
  have HSR := Lib.hid (show v1.ownsRow 0 3 1 (.slice fa src.length fc) src.length (intCells src) from DK6.out.book.froms _ (List.mem_of_getElem? HP.out))
  go_wp2_with (go_at_call 78; go_must (refine (clone_calls (xs := src) HSR.out HL0.out HL1.out).mono ?_); rintro e v2 ⟨gc, cc, cur, rfl, hbc, hkc, hgc, hnc, hmc, hsc, htc⟩; have DK7 := Lib.hid (DK6.out.grow hbc hkc hgc); have HCC := Lib.hid (And.intro hnc (And.intro hmc (And.intro hsc htc))); clear hbc hkc hgc hnc hmc hsc htc HSR)
  have HT := Lib.hid (show (fun w' => Blk w' gD 57 #[.int .i64 kind, .int .i64 day, .string code, .string other, .int .i64 al, .int .i64 ah, .int .i64 bl, .int .i64 bh] ∧ Blk w' gS 48 #[.string code, .int .i64 dl, .int .i64 dh, .int .i64 wl, .int .i64 wh, .int .i64 pil, .int .i64 boi, .slice fa src.length fc]) v2 from ⟨(DK7.out.loc 0 _ _ _ rfl).1, (DK7.out.loc 1 _ _ _ rfl).1⟩)
  refine ⟨fun _ => HT.out, ?_⟩
  try simp only [List.setIfInBounds_toArray, List.set_cons_succ, List.set_cons_zero]
  refine till_only (j := 6) (by kernel_rfl) rfl ?_
  have hc9 := (show v2.cell? ⟨gO, 0, none⟩ = some (.string code) from DK7.out.at 2 0 rfl rfl)
  have hf9 := (DK7.out.loc 2 _ _ _ rfl).1.frozen 0
  go_wp2_with fail
  clear hc9 hf9
  have DK8 := Lib.hid (show Desk w (v2.setCell ⟨gO, 0, none⟩ (.string other)) (fun _ => False) C B bef aft l c made N kv tv m [(gD, 57, [.int .i64 kind, .int .i64 day, .string code, .string other, .int .i64 al, .int .i64 ah, .int .i64 bl, .int .i64 bh]), (gS, 48, [.string code, .int .i64 dl, .int .i64 dh, .int .i64 wl, .int .i64 wh, .int .i64 pil, .int .i64 boi, .slice fa src.length fc]), (gO, 48, [.string other, .int .i64 dl, .int .i64 dh, .int .i64 wl, .int .i64 wh, .int .i64 pil, .int .i64 boi, .slice fa src.length fc]), (gc, 3, cur.toList)] from DK7.out.setLoc1 2 [] [.int .i64 dl, .int .i64 dh, .int .i64 wl, .int .i64 wh, .int .i64 pil, .int .i64 boi, .slice fa src.length fc] (.string code) (.string other) 0 rfl rfl (by decide))
  clear DK7
  generalize (v2.setCell ⟨gO, 0, none⟩ (.string other)) = v3 at DK8 ⊢
  have HT := Lib.hid (show (fun w' => Blk w' gD 57 #[.int .i64 kind, .int .i64 day, .string code, .string other, .int .i64 al, .int .i64 ah, .int .i64 bl, .int .i64 bh] ∧ Blk w' gS 48 #[.string code, .int .i64 dl, .int .i64 dh, .int .i64 wl, .int .i64 wh, .int .i64 pil, .int .i64 boi, .slice fa src.length fc]) v3 from ⟨(DK8.out.loc 0 _ _ _ rfl).1, (DK8.out.loc 1 _ _ _ rfl).1⟩)
  refine ⟨fun _ => HT.out, ?_⟩
  try simp only [List.setIfInBounds_toArray, List.set_cons_succ, List.set_cons_zero]
  refine till_pure (i := 7) (v := .pointer (some ⟨gO, 7, none⟩)) rfl rfl (by kernel_rfl) (fun _ _ _ h => h) (yields_of rfl (fun w' _ => by simp [go_sem])) (fun _ => HT.out) ?_
  simp only [List.setIfInBounds_toArray, List.set_cons_succ, List.set_cons_zero]
  refine till_only (j := 8) (by kernel_rfl) rfl ?_
  have hc9 := (show v3.cell? ⟨gO, 7, none⟩ = some (.slice fa src.length fc) from DK8.out.at 2 7 rfl rfl)
  have hf9 := (DK8.out.loc 2 _ _ _ rfl).1.frozen 7
  go_wp2_with fail
  clear hc9 hf9
  have DK9 := Lib.hid (show Desk w (v3.setCell ⟨gO, 7, none⟩ (.slice (some ⟨gc, 0, none⟩) src.length cc)) (fun _ => False) C B bef aft l c made N kv tv m [(gD, 57, [.int .i64 kind, .int .i64 day, .string code, .string other, .int .i64 al, .int .i64 ah, .int .i64 bl, .int .i64 bh]), (gS, 48, [.string code, .int .i64 dl, .int .i64 dh, .int .i64 wl, .int .i64 wh, .int .i64 pil, .int .i64 boi, .slice fa src.length fc]), (gO, 48, [.string other, .int .i64 dl, .int .i64 dh, .int .i64 wl, .int .i64 wh, .int .i64 pil, .int .i64 boi, .slice (some ⟨gc, 0, none⟩) src.length cc]), (gc, 3, cur.toList)] from DK8.out.setLoc1 2 [.string other, .int .i64 dl, .int .i64 dh, .int .i64 wl, .int .i64 wh, .int .i64 pil, .int .i64 boi] [] (.slice fa src.length fc) (.slice (some ⟨gc, 0, none⟩) src.length cc) 7 rfl rfl (by decide))
  clear DK8
  generalize (v3.setCell ⟨gO, 7, none⟩ (.slice (some ⟨gc, 0, none⟩) src.length cc)) = v4 at DK9 ⊢
  refine ⟨fun h => by simp at h, ?_⟩
  try simp only [List.setIfInBounds_toArray, List.set_cons_succ, List.set_cons_zero]
  refine till_done (by kernel_rfl) ?_
  go_upto_region 5 with fail
  have q0 := cell_regrown (show v4.cell? ⟨gS, 1, none⟩ = some (.int .i64 dl) from DK9.out.at 1 1 rfl rfl)
  have q1 := cell_regrown (show v4.cell? ⟨gS, 2, none⟩ = some (.int .i64 dh) from DK9.out.at 1 2 rfl rfl)
  have q2 := cell_regrown (show v4.cell? ⟨gD, 4, none⟩ = some (.int .i64 al) from DK9.out.at 0 4 rfl rfl)
  have q3 := cell_regrown (show v4.cell? ⟨gD, 5, none⟩ = some (.int .i64 ah) from DK9.out.at 0 5 rfl rfl)
  have q4 := cell_regrown (show v4.cell? ⟨gS, 3, none⟩ = some (.int .i64 wl) from DK9.out.at 1 3 rfl rfl)
  have q5 := cell_regrown (show v4.cell? ⟨gS, 4, none⟩ = some (.int .i64 wh) from DK9.out.at 1 4 rfl rfl)
  have k0 : ∀ d os, Calls Try.prog 73 #[.agg #[.int .i64 dl, .int .i64 dh], .agg #[.int .i64 al, .int .i64 ah]] (Go.Sort.grow (redrawn v4 d) os) fun e w'' => e = .returned (.agg #[.int .i64 p1.lo, .int .i64 p1.hi]) ∧ ∃ p : Regrown, w'' = Go.Sort.grow (redrawn v4 p.d) p.os := regrown_calls (fun w => by exact part_up HUD.out hV HUA.out Ep1.out w)
  have k1 : ∀ d os, Calls Try.prog 73 #[.agg #[.int .i64 wl, .int .i64 wh], .agg #[.int .i64 al, .int .i64 ah]] (Go.Sort.grow (redrawn v4 d) os) fun e w'' => e = .returned (.agg #[.int .i64 p2.lo, .int .i64 p2.hi]) ∧ ∃ p : Regrown, w'' = Go.Sort.grow (redrawn v4 p.d) p.os := regrown_calls (fun w => by exact part_up HUW.out hV HUA.out Ep2.out w)
  refine region_split_below 11 (by kernel_rfl) (by kernel_rfl) (by kernel_rfl) ?_
  simp only [List.take_succ_cons, List.take_zero, List.drop_succ_cons, List.drop_zero]
  repeat (go_big_quiet_step (first | (with_reducible exact k0 _ _) | (with_reducible exact k1 _ _)))
  refine wpQuiet_nil ?_
  intro v5 hw'
  have hb8 : Below v4.heap.size v4 v5 := by obtain ⟨⟨dq, osq⟩, hw''⟩ := hw'; rw [hw'']; exact below_regrown v4 dq osq
  clear hw' q0 q1 q2 q3 q4 q5 k0 k1
  have DK10 := Lib.hid (show Desk w v5 (fun _ => False) C B bef aft l c made N kv tv m [(gD, 57, [.int .i64 kind, .int .i64 day, .string code, .string other, .int .i64 al, .int .i64 ah, .int .i64 bl, .int .i64 bh]), (gS, 48, [.string code, .int .i64 dl, .int .i64 dh, .int .i64 wl, .int .i64 wh, .int .i64 pil, .int .i64 boi, .slice fa src.length fc]), (gO, 48, [.string other, .int .i64 dl, .int .i64 dh, .int .i64 wl, .int .i64 wh, .int .i64 pil, .int .i64 boi, .slice (some ⟨gc, 0, none⟩) src.length cc]), (gc, 3, cur.toList)] from DK9.out.below hb8)
  clear DK9
  clear hb8
  have HE := Lib.hid (show v5.there gO 1 2 from (DK10.out.loc 2 _ _ _ rfl).1.there (o := 1) (n := 2) (Nat.le_of_ble_eq_true rfl))
  have HO := Lib.hid (show (#[.int .i64 p1.lo, .int .i64 p1.hi] : Array Value).all (·.oneCell') = true from by simp [Value.oneCell'])
  refine wpList_store_mid rfl 23 (.tmp 32) (.tmp 26) rfl gO 1 #[.int .i64 p1.lo, .int .i64 p1.hi] rfl rfl HE.out size_bounds HO.out ?_
  change wpList _ _ _ _ _ (v5.setCells gO 1 [.int .i64 p1.lo, .int .i64 p1.hi])
  clear HE HO
  have DK11 := Lib.hid (show Desk w (v5.setCells gO 1 [.int .i64 p1.lo, .int .i64 p1.hi]) (fun _ => False) C B bef aft l c made N kv tv m [(gD, 57, [.int .i64 kind, .int .i64 day, .string code, .string other, .int .i64 al, .int .i64 ah, .int .i64 bl, .int .i64 bh]), (gS, 48, [.string code, .int .i64 dl, .int .i64 dh, .int .i64 wl, .int .i64 wh, .int .i64 pil, .int .i64 boi, .slice fa src.length fc]), (gO, 48, [.string other, .int .i64 p1.lo, .int .i64 p1.hi, .int .i64 wl, .int .i64 wh, .int .i64 pil, .int .i64 boi, .slice (some ⟨gc, 0, none⟩) src.length cc]), (gc, 3, cur.toList)] from DK10.out.setLoc 2 [.string other] [.int .i64 dl, .int .i64 dh] [.int .i64 wl, .int .i64 wh, .int .i64 pil, .int .i64 boi, .slice (some ⟨gc, 0, none⟩) src.length cc] [.int .i64 p1.lo, .int .i64 p1.hi] rfl rfl (by decide))
  clear DK10
  generalize (v5.setCells gO 1 [.int .i64 p1.lo, .int .i64 p1.hi]) = v6 at DK11 ⊢
  simp only [Act.put]
  have HE := Lib.hid (show v6.there gO 3 2 from (DK11.out.loc 2 _ _ _ rfl).1.there (o := 3) (n := 2) (Nat.le_of_ble_eq_true rfl))
  have HO := Lib.hid (show (#[.int .i64 p2.lo, .int .i64 p2.hi] : Array Value).all (·.oneCell') = true from by simp [Value.oneCell'])
  go_upto_region 6 with ((with_reducible refine at_store 23 (.tmp 33) (.tmp 31) ?_); go_must (refine wpList_store_mid rfl 23 (.tmp 33) (.tmp 31) rfl gO 3 #[.int .i64 p2.lo, .int .i64 p2.hi] rfl rfl HE.out size_bounds HO.out ?_))
  clear HE HO
  have DK12 := Lib.hid (show Desk w (v6.setCells gO 3 [.int .i64 p2.lo, .int .i64 p2.hi]) (fun _ => False) C B bef aft l c made N kv tv m [(gD, 57, [.int .i64 kind, .int .i64 day, .string code, .string other, .int .i64 al, .int .i64 ah, .int .i64 bl, .int .i64 bh]), (gS, 48, [.string code, .int .i64 dl, .int .i64 dh, .int .i64 wl, .int .i64 wh, .int .i64 pil, .int .i64 boi, .slice fa src.length fc]), (gO, 48, [.string other, .int .i64 p1.lo, .int .i64 p1.hi, .int .i64 p2.lo, .int .i64 p2.hi, .int .i64 pil, .int .i64 boi, .slice (some ⟨gc, 0, none⟩) src.length cc]), (gc, 3, cur.toList)] from DK11.out.setLoc 2 [.string other, .int .i64 p1.lo, .int .i64 p1.hi] [.int .i64 wl, .int .i64 wh] [.int .i64 pil, .int .i64 boi, .slice (some ⟨gc, 0, none⟩) src.length cc] [.int .i64 p2.lo, .int .i64 p2.hi] rfl rfl (by decide))
  clear DK11
  generalize (v6.setCells gO 3 [.int .i64 p2.lo, .int .i64 p2.hi]) = v7 at DK12 ⊢
  try simp only [Act.put]
  have q0 := cell_regrown (show v7.cell? ⟨gS, 1, none⟩ = some (.int .i64 dl) from DK12.out.at 1 1 rfl rfl)
  have q1 := cell_regrown (show v7.cell? ⟨gS, 2, none⟩ = some (.int .i64 dh) from DK12.out.at 1 2 rfl rfl)
  have q2 := cell_regrown (show v7.cell? ⟨gD, 4, none⟩ = some (.int .i64 al) from DK12.out.at 0 4 rfl rfl)
  have q3 := cell_regrown (show v7.cell? ⟨gD, 5, none⟩ = some (.int .i64 ah) from DK12.out.at 0 5 rfl rfl)
  have q4 := cell_regrown (show v7.cell? ⟨gS, 3, none⟩ = some (.int .i64 wl) from DK12.out.at 1 3 rfl rfl)
  have q5 := cell_regrown (show v7.cell? ⟨gS, 4, none⟩ = some (.int .i64 wh) from DK12.out.at 1 4 rfl rfl)
  have k0 : ∀ d os, Calls Try.prog 74 #[.agg #[.int .i64 dl, .int .i64 dh], .agg #[.int .i64 al, .int .i64 ah]] (Go.Sort.grow (redrawn v7 d) os) fun e w'' => e = .returned (.agg #[.int .i64 r1.lo, .int .i64 r1.hi]) ∧ ∃ p : Regrown, w'' = Go.Sort.grow (redrawn v7 p.d) p.os := regrown_calls (fun w => by exact left_up HUD.out hV HUA.out Er1.out w)
  have k1 : ∀ d os, Calls Try.prog 74 #[.agg #[.int .i64 wl, .int .i64 wh], .agg #[.int .i64 al, .int .i64 ah]] (Go.Sort.grow (redrawn v7 d) os) fun e w'' => e = .returned (.agg #[.int .i64 r2.lo, .int .i64 r2.hi]) ∧ ∃ p : Regrown, w'' = Go.Sort.grow (redrawn v7 p.d) p.os := regrown_calls (fun w => by exact left_up HUW.out hV HUA.out Er2.out w)
  refine region_split_below 11 (by kernel_rfl) (by kernel_rfl) (by kernel_rfl) ?_
  simp only [List.take_succ_cons, List.take_zero, List.drop_succ_cons, List.drop_zero]
  repeat (go_big_quiet_step (first | (with_reducible exact k0 _ _) | (with_reducible exact k1 _ _)))
  refine wpQuiet_nil ?_
  intro v8 hw'
  have hb8 : Below v7.heap.size v7 v8 := by obtain ⟨⟨dq, osq⟩, hw''⟩ := hw'; rw [hw'']; exact below_regrown v7 dq osq
  clear hw' q0 q1 q2 q3 q4 q5 k0 k1
  have DK13 := Lib.hid (show Desk w v8 (fun _ => False) C B bef aft l c made N kv tv m [(gD, 57, [.int .i64 kind, .int .i64 day, .string code, .string other, .int .i64 al, .int .i64 ah, .int .i64 bl, .int .i64 bh]), (gS, 48, [.string code, .int .i64 dl, .int .i64 dh, .int .i64 wl, .int .i64 wh, .int .i64 pil, .int .i64 boi, .slice fa src.length fc]), (gO, 48, [.string other, .int .i64 p1.lo, .int .i64 p1.hi, .int .i64 p2.lo, .int .i64 p2.hi, .int .i64 pil, .int .i64 boi, .slice (some ⟨gc, 0, none⟩) src.length cc]), (gc, 3, cur.toList)] from DK12.out.below hb8)
  clear DK12
  clear hb8
  have HE := Lib.hid (show v8.there gS 1 2 from (DK13.out.loc 1 _ _ _ rfl).1.there (o := 1) (n := 2) (Nat.le_of_ble_eq_true rfl))
  have HO := Lib.hid (show (#[.int .i64 r1.lo, .int .i64 r1.hi] : Array Value).all (·.oneCell') = true from by simp [Value.oneCell'])
  refine wpList_store_mid rfl 23 (.tmp 44) (.tmp 38) rfl gS 1 #[.int .i64 r1.lo, .int .i64 r1.hi] rfl rfl HE.out size_bounds HO.out ?_
  change wpList _ _ _ _ _ (v8.setCells gS 1 [.int .i64 r1.lo, .int .i64 r1.hi])
  clear HE HO
  have DK14 := Lib.hid (show Desk w (v8.setCells gS 1 [.int .i64 r1.lo, .int .i64 r1.hi]) (fun _ => False) C B bef aft l c made N kv tv m [(gD, 57, [.int .i64 kind, .int .i64 day, .string code, .string other, .int .i64 al, .int .i64 ah, .int .i64 bl, .int .i64 bh]), (gS, 48, [.string code, .int .i64 r1.lo, .int .i64 r1.hi, .int .i64 wl, .int .i64 wh, .int .i64 pil, .int .i64 boi, .slice fa src.length fc]), (gO, 48, [.string other, .int .i64 p1.lo, .int .i64 p1.hi, .int .i64 p2.lo, .int .i64 p2.hi, .int .i64 pil, .int .i64 boi, .slice (some ⟨gc, 0, none⟩) src.length cc]), (gc, 3, cur.toList)] from DK13.out.setLoc 1 [.string code] [.int .i64 dl, .int .i64 dh] [.int .i64 wl, .int .i64 wh, .int .i64 pil, .int .i64 boi, .slice fa src.length fc] [.int .i64 r1.lo, .int .i64 r1.hi] rfl rfl (by decide))
  clear DK13
  generalize (v8.setCells gS 1 [.int .i64 r1.lo, .int .i64 r1.hi]) = v9 at DK14 ⊢
  simp only [Act.put]
  have HE := Lib.hid (show v9.there gS 3 2 from (DK14.out.loc 1 _ _ _ rfl).1.there (o := 3) (n := 2) (Nat.le_of_ble_eq_true rfl))
  have HO := Lib.hid (show (#[.int .i64 r2.lo, .int .i64 r2.hi] : Array Value).all (·.oneCell') = true from by simp [Value.oneCell'])
  go_upto_region 7 with ((with_reducible refine at_store 23 (.tmp 45) (.tmp 43) ?_); go_must (refine wpList_store_mid rfl 23 (.tmp 45) (.tmp 43) rfl gS 3 #[.int .i64 r2.lo, .int .i64 r2.hi] rfl rfl HE.out size_bounds HO.out ?_))
  clear HE HO
  have DK15 := Lib.hid (show Desk w (v9.setCells gS 3 [.int .i64 r2.lo, .int .i64 r2.hi]) (fun _ => False) C B bef aft l c made N kv tv m [(gD, 57, [.int .i64 kind, .int .i64 day, .string code, .string other, .int .i64 al, .int .i64 ah, .int .i64 bl, .int .i64 bh]), (gS, 48, [.string code, .int .i64 r1.lo, .int .i64 r1.hi, .int .i64 r2.lo, .int .i64 r2.hi, .int .i64 pil, .int .i64 boi, .slice fa src.length fc]), (gO, 48, [.string other, .int .i64 p1.lo, .int .i64 p1.hi, .int .i64 p2.lo, .int .i64 p2.hi, .int .i64 pil, .int .i64 boi, .slice (some ⟨gc, 0, none⟩) src.length cc]), (gc, 3, cur.toList)] from DK14.out.setLoc 1 [.string code, .int .i64 r1.lo, .int .i64 r1.hi] [.int .i64 wl, .int .i64 wh] [.int .i64 pil, .int .i64 boi, .slice fa src.length fc] [.int .i64 r2.lo, .int .i64 r2.hi] rfl rfl (by decide))
  clear DK14
  generalize (v9.setCells gS 3 [.int .i64 r2.lo, .int .i64 r2.hi]) = v10 at DK15 ⊢
  try simp only [Act.put]
  have s0 := (show v10.cell? ⟨gS, 0, none⟩ = some (.string code) from DK15.out.at 1 0 rfl rfl)
  have s1 := (show v10.cell? ⟨gS, 1, none⟩ = some (.int .i64 r1.lo) from DK15.out.at 1 1 rfl rfl)
  have s2 := (show v10.cell? ⟨gS, 2, none⟩ = some (.int .i64 r1.hi) from DK15.out.at 1 2 rfl rfl)
  have s3 := (show v10.cell? ⟨gS, 3, none⟩ = some (.int .i64 r2.lo) from DK15.out.at 1 3 rfl rfl)
  have s4 := (show v10.cell? ⟨gS, 4, none⟩ = some (.int .i64 r2.hi) from DK15.out.at 1 4 rfl rfl)
  have s5 := (show v10.cell? ⟨gS, 5, none⟩ = some (.int .i64 pil) from DK15.out.at 1 5 rfl rfl)
  have s6 := (show v10.cell? ⟨gS, 6, none⟩ = some (.int .i64 boi) from DK15.out.at 1 6 rfl rfl)
  have s7 := (show v10.cell? ⟨gS, 7, none⟩ = some (.slice fa src.length fc) from DK15.out.at 1 7 rfl rfl)
  go_upto_region 8 with (go_at_call 70; go_must (refine (keep_old DK15.out.book ⟨code, r1, r2, pil, boi, src⟩ fa src.length fc HP.out HK.out rfl (DK15.out.book.froms _ (List.mem_of_getElem? HP.out)) HL1.out).mono ?_); rintro e w9 ⟨rfl, hb9, hk9⟩; have HB9 := Lib.hid hb9; have HK9 := Lib.hid hk9; clear hb9 hk9)
  clear s0 s1 s2 s3 s4 s5 s6 s7
  have HO9 := Lib.hid (HB9.out.blk (DK15.out.loc 2 _ _ _ rfl).1 (DK15.out.far 2 rfl).2.2.1)
  have HC9 := Lib.hid (HB9.out.blk (DK15.out.loc 3 _ _ _ rfl).1 (DK15.out.far 3 rfl).2.2.1)
  have s0 := (show w9.cell? ⟨gO, 0, none⟩ = some (.string other) from HO9.out.at 0 _ rfl)
  have s1 := (show w9.cell? ⟨gO, 1, none⟩ = some (.int .i64 p1.lo) from HO9.out.at 1 _ rfl)
  have s2 := (show w9.cell? ⟨gO, 2, none⟩ = some (.int .i64 p1.hi) from HO9.out.at 2 _ rfl)
  have s3 := (show w9.cell? ⟨gO, 3, none⟩ = some (.int .i64 p2.lo) from HO9.out.at 3 _ rfl)
  have s4 := (show w9.cell? ⟨gO, 4, none⟩ = some (.int .i64 p2.hi) from HO9.out.at 4 _ rfl)
  have s5 := (show w9.cell? ⟨gO, 5, none⟩ = some (.int .i64 pil) from HO9.out.at 5 _ rfl)
  have s6 := (show w9.cell? ⟨gO, 6, none⟩ = some (.int .i64 boi) from HO9.out.at 6 _ rfl)
  have s7 := (show w9.cell? ⟨gO, 7, none⟩ = some (.slice (some ⟨gc, 0, none⟩) src.length cc) from HO9.out.at 7 _ rfl)
  have HQ := Lib.hid (show w9.ownsRow 0 3 1 (.slice (some ⟨gc, 0, none⟩) src.length cc) src.length (intCells src) from by rw [← HCC.out.2.2.2]; exact row_of_block (by simpa using HC9.out) HCC.out.1 HCC.out.2.1 HCC.out.2.2.1)
  have HN9 := Lib.hid (show ixOf (l.set k ((⟨code, r1, r2, pil, boi, src⟩ : Stk Code), Value.slice fa src.length fc)) other = none from (ixOf_codes (codes_set (q := ((⟨code, r1, r2, pil, boi, src⟩ : Stk Code), Value.slice fa src.length fc)) HP.out rfl) other).trans HN.out)
  have H89 := Lib.hid (show (l.set k ((⟨code, r1, r2, pil, boi, src⟩ : Stk Code), Value.slice fa src.length fc)).length < 8 from by rw [List.length_set]; exact H8.out)
  go_wp2_with (go_at_call 70; go_must (refine (keep_new HK9.out ⟨other, p1, p2, pil, boi, src⟩ (some ⟨gc, 0, none⟩) src.length cc HSO.out HN9.out H89.out HQ.out HL1.out HNN.out).mono ?_); rintro e wa ⟨rfl, hba, kva, tva, hka⟩; have HBA := Lib.hid hba; have HKA := Lib.hid hka; clear hba hka)
  go_end0
  have zp1 := Ep1.out; have zp2 := Ep2.out; have zr1 := Er1.out; have zr2 := Er2.out
  subst zr2 zr1 zp2 zp1
  refine ⟨rfl, ((DK15.out.beside.mono (C1 := C) (fun _ f => f.elim)).trans HB9.out (fun k hk => .inl hk)).trans HBA.out (fun k hk => .inl hk), _, kva, tva, ?_, HKA.out.wide (fun k hk => ?_)⟩
  · have hkl := HKL.out
    rw [List.set_append_left _ _ (by simpa using hkl)]
    simp [List.map_set]
  · rcases hk with hk | hk
    · exact .inl hk
    · refine .inr (Nat.le_trans (Nat.le_trans DK15.out.beside.size HB9.out.size) hk)
end Go.Proofs.Ytbgojeppfhldjaa
