/- A deed: merge. -/
import Derived.Test.YtbgojeppfhldjaaYMergeFacts
namespace Go.Proofs.Ytbgojeppfhldjaa
open Go Go.RowKit Yd

set_option maxRecDepth 100000 in
set_option maxHeartbeats 1000000 in
theorem merge_ok {w : World} {C : Nat → Prop} {B : Nat} {bef aft : Int} {l : List SRow} {c : Yd.Acc} {made : Int} {N : Nat} {kv tv : Value} {m : Nat} (h : Book w C B bef aft l c made N kv tv m)
    (kind day : Int) (code other : Code) (al ah bl bh : Int) (hs : code.size ≤ maxLen) (hC : ∀ k, C k → k < w.heap.size) (dl dh wl wh pil boi : Int) (src : List Int) (fa : Option Addr) (fn fc : Nat) (V : Int) (hV : V ≤ 2000000000000000) {k : Nat} (hk : ixOf l code = some k) (hp : l[k]? = some (⟨code, ⟨dl, dh⟩, ⟨wl, wh⟩, pil, boi, src⟩, .slice fa fn fc)) (dl2 dh2 wl2 wh2 pil2 boi2 : Int) (src2 : List Int) (fa2 : Option Addr) (fn2 fc2 : Nat) {k2 : Nat} (hk2 : ixOf l other = some k2) (hp2 : l[k2]? = some (⟨other, ⟨dl2, dh2⟩, ⟨wl2, wh2⟩, pil2, boi2, src2⟩, .slice fa2 fn2 fc2)) (hso : other.size ≤ maxLen) (hne : other ≠ code) (hN : N + 10 ≤ 1000000) (ud : Bd.Up ⟨dl, dh⟩ V) (uw : Bd.Up ⟨wl, wh⟩ V) (ud2 : Bd.Up ⟨dl2, dh2⟩ V) (uw2 : Bd.Up ⟨wl2, wh2⟩ V) (hb1 : -1 ≤ boi ∧ boi ≤ 2000) (hb2 : -1 ≤ boi2 ∧ boi2 ≤ 2000) (a1 : Asc src) (a2 : Asc src2) (n1 : 0 < src.length) (n2 : 0 < src2.length) (hl : (both src src2).length ≤ 1000) :
    Calls Try.prog 66 #[.pointer (some ⟨B, 0, none⟩), .agg #[.int .i64 kind, .int .i64 day, .string code, .string other, .int .i64 al, .int .i64 ah, .int .i64 bl, .int .i64 bh]] w (DeedDone w C B bef aft ((List.set (l.map (fun p : SRow => p.1)) k (⟨code, Bd.add ⟨dl, dh⟩ ⟨dl2, dh2⟩, Bd.add ⟨wl, wh⟩ ⟨wl2, wh2⟩, max pil pil2, lastBoil boi boi2, both src src2⟩ : Stk Code)).eraseIdx k2) c made (N + 10) m) := by
  have HS := Lib.hid hs; have HK := Lib.hid hk; have HP := Lib.hid hp; have HSO := Lib.hid hso; have HK2 := Lib.hid hk2; have HP2 := Lib.hid hp2
  have HC := Lib.hid hC
  have HUD := Lib.hid ud; have HUW := Lib.hid uw; have HUD2 := Lib.hid ud2; have HUW2 := Lib.hid uw2; have HBO := Lib.hid hb1; have HBO2 := Lib.hid hb2; have HA1 := Lib.hid a1; have HA2 := Lib.hid a2; have HN1 := Lib.hid n1; have HN2 := Lib.hid n2; have HN := Lib.hid hN; have HLB := Lib.hid hl
  have HV8 := Lib.hid (show V ≤ 8000000000000000 from Int.le_trans hV (by decide))
  have HL1 := Lib.hid (h.fromsLen _ (List.mem_of_getElem? hp)); have HL2 := Lib.hid (h.fromsLen _ (List.mem_of_getElem? hp2))
  have HNE := Lib.hid (show k2 ≠ k from fun e => by
    subst e
    rw [hp] at hp2
    simp only [Option.some.injEq, Prod.mk.injEq, Stk.mk.injEq] at hp2
    exact hne hp2.1.1.symm)
  have HKL := Lib.hid (List.getElem?_eq_some_iff.1 hp).1
  have bne : (ByteArray.toList code == ByteArray.toList other) = false := by rw [codes_beq]; simpa using Ne.symm hne
  clear hs hk hp hso hk2 hp2 hne ud uw ud2 uw2 hb1 hb2 a1 a2 n1 n2 hN hl
  obtain ⟨p1, hp1⟩ : ∃ b : Bd, b = Bd.add ⟨dl, dh⟩ ⟨dl2, dh2⟩ := ⟨_, rfl⟩
  have Ep1 := Lib.hid hp1; clear hp1
  obtain ⟨p2, hp2⟩ : ∃ b : Bd, b = Bd.add ⟨wl, wh⟩ ⟨wl2, wh2⟩ := ⟨_, rfl⟩
  have Ep2 := Lib.hid hp2; clear hp2
  obtain ⟨lb, hlb⟩ : ∃ b : Int, b = lastBoil boi boi2 := ⟨_, rfl⟩
  have Elb := Lib.hid hlb; clear hlb
  have DK1 := Lib.hid (boxed_deed h hC [.int .i64 kind, .int .i64 day, .string code, .string other, .int .i64 al, .int .i64 ah, .int .i64 bl, .int .i64 bh])
  go_enter Try.func66, Try.ntmps66
  go_upto_region 1 with fail
  generalize (w.alloc (.cells #[.int .i64 kind, .int .i64 day, .string code, .string other, .int .i64 al, .int .i64 ah, .int .i64 bl, .int .i64 bh] 57)) = w1 at DK1 ⊢
  obtain ⟨gD, hgD⟩ : ∃ g, g = w.heap.size := ⟨_, rfl⟩
  rw [← hgD] at DK1 ⊢
  clear hgD
  go_cut [4, 5] from 6 to 13 (fun u v wx => ∃ gS gO : Nat, u = .pointer (some ⟨gS, 0, none⟩) ∧ v = .pointer (some ⟨gO, 0, none⟩) ∧ Hid (Desk w wx (fun _ => False) C B bef aft l c made N kv tv m [(gD, 57, [.int .i64 kind, .int .i64 day, .string code, .string other, .int .i64 al, .int .i64 ah, .int .i64 bl, .int .i64 bh]), (gS, 48, [.string code, .int .i64 dl, .int .i64 dh, .int .i64 wl, .int .i64 wh, .int .i64 pil, .int .i64 boi, .slice fa fn fc]), (gO, 48, [.string other, .int .i64 dl2, .int .i64 dh2, .int .i64 wl2, .int .i64 wh2, .int .i64 pil2, .int .i64 boi2, .slice fa2 fn2 fc2])]))
  case first =>
    have hmix : Try.prog.follows .mixedOrders = true := by kernel_rfl
    refine region_till [11] (fun w' => Blk w' gD 57 #[.int .i64 kind, .int .i64 day, .string code, .string other, .int .i64 al, .int .i64 ah, .int .i64 bl, .int .i64 bh]) 12 [false, false, false, false, false, false, false, false, false, false, false, false] hmix rfl rfl ?_
    have DK2 := Lib.hid (DK1.out.drew)
    clear DK1 hmix
    generalize w1.drew = v0 at DK2 ⊢
    have HT := Lib.hid (show (fun w' => Blk w' gD 57 #[.int .i64 kind, .int .i64 day, .string code, .string other, .int .i64 al, .int .i64 ah, .int .i64 bl, .int .i64 bh]) v0 from (DK2.out.loc 0 _ _ _ rfl).1)
    refine till_pure (i := 0) (v := .pointer (some ⟨B, 0, none⟩)) rfl rfl (by kernel_rfl) (fun _ _ _ h => h) (yields_of rfl (fun w' _ => by simp [go_sem])) (fun _ => HT.out) ?_
    simp only [List.setIfInBounds_toArray, List.set_cons_succ, List.set_cons_zero]
    refine till_pure (i := 1) (v := .pointer (some ⟨gD, 2, none⟩)) rfl rfl (by kernel_rfl) (fun _ _ _ h => h) (yields_of rfl (fun w' _ => by simp [go_sem])) (fun _ => HT.out) ?_
    simp only [List.setIfInBounds_toArray, List.set_cons_succ, List.set_cons_zero]
    refine till_load (i := 2) (v := .string code) rfl rfl (by kernel_rfl) (fun _ _ _ h => h) (yields_of rfl (fun w' hw' => by have hcx := Blk.at hw' 2 (.string code) rfl; simp [go_sem, hcx])) (fun _ => HT.out) ?_
    simp only [List.setIfInBounds_toArray, List.set_cons_succ, List.set_cons_zero]
    refine till_pure (i := 4) (v := .pointer (some ⟨B, 0, none⟩)) rfl rfl (by kernel_rfl) (fun _ _ _ h => h) (yields_of rfl (fun w' _ => by simp [go_sem])) (fun _ => HT.out) ?_
    simp only [List.setIfInBounds_toArray, List.set_cons_succ, List.set_cons_zero]
    refine till_pure (i := 5) (v := .pointer (some ⟨gD, 3, none⟩)) rfl rfl (by kernel_rfl) (fun _ _ _ h => h) (yields_of rfl (fun w' _ => by simp [go_sem])) (fun _ => HT.out) ?_
    simp only [List.setIfInBounds_toArray, List.set_cons_succ, List.set_cons_zero]
    refine till_load (i := 6) (v := .string other) rfl rfl (by kernel_rfl) (fun _ _ _ h => h) (yields_of rfl (fun w' hw' => by have hcx := Blk.at hw' 3 (.string other) rfl; simp [go_sem, hcx])) (fun _ => HT.out) ?_
    simp only [List.setIfInBounds_toArray, List.set_cons_succ, List.set_cons_zero]
    refine till_three (i := 3) (j := 8) (k := 9) (by kernel_rfl) rfl rfl rfl ?_ ?_ ?_
    · go_wp2_with (go_at_call 71; refine (stack_yes DK2.out.book code HS.out HK.out HP.out).mono ?_; rintro e v1 ⟨rfl, hb⟩; have DK3 := Lib.hid (DK2.out.below hb); clear hb)
      have HT := Lib.hid (show (fun w' => Blk w' gD 57 #[.int .i64 kind, .int .i64 day, .string code, .string other, .int .i64 al, .int .i64 ah, .int .i64 bl, .int .i64 bh]) v1 from (DK3.out.loc 0 _ _ _ rfl).1)
      refine ⟨fun _ => HT.out, ?_⟩
      try simp only [List.setIfInBounds_toArray, List.set_cons_succ, List.set_cons_zero]
      refine till_three (i := 7) (j := 8) (k := 9) (by kernel_rfl) rfl rfl rfl ?_ ?_ ?_
      · go_wp2_with (go_at_call 71; refine (stack_yes DK3.out.book other HSO.out HK2.out HP2.out).mono ?_; rintro e v2 ⟨rfl, hb⟩; have DK4 := Lib.hid (DK3.out.below hb); clear hb)
        have HT := Lib.hid (show (fun w' => Blk w' gD 57 #[.int .i64 kind, .int .i64 day, .string code, .string other, .int .i64 al, .int .i64 ah, .int .i64 bl, .int .i64 bh]) v2 from (DK4.out.loc 0 _ _ _ rfl).1)
        refine ⟨fun _ => HT.out, ?_⟩
        try simp only [List.setIfInBounds_toArray, List.set_cons_succ, List.set_cons_zero]
        refine till_two (i := 8) (j := 9) (by kernel_rfl) rfl rfl ?_ ?_
        · go_wp2_with fail
          have DK5 := Lib.hid (show Desk w (v2.alloc (.cells #[.string ⟨#[]⟩, .int .i64 0, .int .i64 0, .int .i64 0, .int .i64 0, .int .i64 0, .int .i64 0, .slice none 0 0] 48)) (fun _ => False) C B bef aft l c made N kv tv m [(gD, 57, [.int .i64 kind, .int .i64 day, .string code, .string other, .int .i64 al, .int .i64 ah, .int .i64 bl, .int .i64 bh]), (v2.heap.size, 48, [.string ⟨#[]⟩, .int .i64 0, .int .i64 0, .int .i64 0, .int .i64 0, .int .i64 0, .int .i64 0, .slice none 0 0])] from DK4.out.alloc 48 [.string ⟨#[]⟩, .int .i64 0, .int .i64 0, .int .i64 0, .int .i64 0, .int .i64 0, .int .i64 0, .slice none 0 0] rfl)
          generalize (v2.alloc (.cells #[.string ⟨#[]⟩, .int .i64 0, .int .i64 0, .int .i64 0, .int .i64 0, .int .i64 0, .int .i64 0, .slice none 0 0] 48)) = v3 at DK5 ⊢
          generalize v2.heap.size = gS at DK5 ⊢
          have HT := Lib.hid (show (fun w' => Blk w' gD 57 #[.int .i64 kind, .int .i64 day, .string code, .string other, .int .i64 al, .int .i64 ah, .int .i64 bl, .int .i64 bh]) v3 from (DK5.out.loc 0 _ _ _ rfl).1)
          refine ⟨fun _ => HT.out, ?_⟩
          try simp only [List.setIfInBounds_toArray, List.set_cons_succ, List.set_cons_zero]
          refine till_only (j := 9) (by kernel_rfl) rfl ?_
          go_wp2_with fail
          have DK6 := Lib.hid (show Desk w (v3.alloc (.cells #[.string ⟨#[]⟩, .int .i64 0, .int .i64 0, .int .i64 0, .int .i64 0, .int .i64 0, .int .i64 0, .slice none 0 0] 48)) (fun _ => False) C B bef aft l c made N kv tv m [(gD, 57, [.int .i64 kind, .int .i64 day, .string code, .string other, .int .i64 al, .int .i64 ah, .int .i64 bl, .int .i64 bh]), (gS, 48, [.string ⟨#[]⟩, .int .i64 0, .int .i64 0, .int .i64 0, .int .i64 0, .int .i64 0, .int .i64 0, .slice none 0 0]), (v3.heap.size, 48, [.string ⟨#[]⟩, .int .i64 0, .int .i64 0, .int .i64 0, .int .i64 0, .int .i64 0, .int .i64 0, .slice none 0 0])] from DK5.out.alloc 48 [.string ⟨#[]⟩, .int .i64 0, .int .i64 0, .int .i64 0, .int .i64 0, .int .i64 0, .int .i64 0, .slice none 0 0] rfl)
          generalize (v3.alloc (.cells #[.string ⟨#[]⟩, .int .i64 0, .int .i64 0, .int .i64 0, .int .i64 0, .int .i64 0, .int .i64 0, .slice none 0 0] 48)) = v4 at DK6 ⊢
          generalize v3.heap.size = gO at DK6 ⊢
          have HT := Lib.hid (show (fun w' => Blk w' gD 57 #[.int .i64 kind, .int .i64 day, .string code, .string other, .int .i64 al, .int .i64 ah, .int .i64 bl, .int .i64 bh]) v4 from (DK6.out.loc 0 _ _ _ rfl).1)
          refine ⟨fun _ => HT.out, ?_⟩
          try simp only [List.setIfInBounds_toArray, List.set_cons_succ, List.set_cons_zero]
          refine till_only (j := 10) (by kernel_rfl) rfl ?_
          have HE := Lib.hid (show v4.there gS 0 8 from (DK6.out.loc 1 _ _ _ rfl).1.there (o := 0) (n := 8) (Nat.le_of_ble_eq_true rfl))
          have HO := Lib.hid (show (#[.string code, .int .i64 dl, .int .i64 dh, .int .i64 wl, .int .i64 wh, .int .i64 pil, .int .i64 boi, .slice fa fn fc] : Array Value).all (·.oneCell') = true from by simp [Value.oneCell'])
          refine wpList_store_mid rfl 48 (.tmp 4) (.tmp 9) rfl gS 0 #[.string code, .int .i64 dl, .int .i64 dh, .int .i64 wl, .int .i64 wh, .int .i64 pil, .int .i64 boi, .slice fa fn fc] rfl rfl HE.out size_stack HO.out ?_
          change wpList _ _ _ _ _ (v4.setCells gS 0 [.string code, .int .i64 dl, .int .i64 dh, .int .i64 wl, .int .i64 wh, .int .i64 pil, .int .i64 boi, .slice fa fn fc])
          clear HE HO
          have DK7 := Lib.hid (show Desk w (v4.setCells gS 0 [.string code, .int .i64 dl, .int .i64 dh, .int .i64 wl, .int .i64 wh, .int .i64 pil, .int .i64 boi, .slice fa fn fc]) (fun _ => False) C B bef aft l c made N kv tv m [(gD, 57, [.int .i64 kind, .int .i64 day, .string code, .string other, .int .i64 al, .int .i64 ah, .int .i64 bl, .int .i64 bh]), (gS, 48, [.string code, .int .i64 dl, .int .i64 dh, .int .i64 wl, .int .i64 wh, .int .i64 pil, .int .i64 boi, .slice fa fn fc]), (gO, 48, [.string ⟨#[]⟩, .int .i64 0, .int .i64 0, .int .i64 0, .int .i64 0, .int .i64 0, .int .i64 0, .slice none 0 0])] from DK6.out.setLoc 1 [] [.string ⟨#[]⟩, .int .i64 0, .int .i64 0, .int .i64 0, .int .i64 0, .int .i64 0, .int .i64 0, .slice none 0 0] [] [.string code, .int .i64 dl, .int .i64 dh, .int .i64 wl, .int .i64 wh, .int .i64 pil, .int .i64 boi, .slice fa fn fc] rfl rfl (by decide))
          clear DK6
          generalize (v4.setCells gS 0 [.string code, .int .i64 dl, .int .i64 dh, .int .i64 wl, .int .i64 wh, .int .i64 pil, .int .i64 boi, .slice fa fn fc]) = v5 at DK7 ⊢
          change Till _ _ _ _ ∧ wpAnyT _ _ _ _ _ _ _ _ _ _
          have HT := Lib.hid (show (fun w' => Blk w' gD 57 #[.int .i64 kind, .int .i64 day, .string code, .string other, .int .i64 al, .int .i64 ah, .int .i64 bl, .int .i64 bh]) v5 from (DK7.out.loc 0 _ _ _ rfl).1)
          refine ⟨fun _ => HT.out, ?_⟩
          try simp only [List.setIfInBounds_toArray, List.set_cons_succ, List.set_cons_zero]
          refine till_only (j := 11) (by kernel_rfl) rfl ?_
          have HE := Lib.hid (show v5.there gO 0 8 from (DK7.out.loc 2 _ _ _ rfl).1.there (o := 0) (n := 8) (Nat.le_of_ble_eq_true rfl))
          have HO := Lib.hid (show (#[.string other, .int .i64 dl2, .int .i64 dh2, .int .i64 wl2, .int .i64 wh2, .int .i64 pil2, .int .i64 boi2, .slice fa2 fn2 fc2] : Array Value).all (·.oneCell') = true from by simp [Value.oneCell'])
          refine wpList_store_mid rfl 48 (.tmp 5) (.tmp 13) rfl gO 0 #[.string other, .int .i64 dl2, .int .i64 dh2, .int .i64 wl2, .int .i64 wh2, .int .i64 pil2, .int .i64 boi2, .slice fa2 fn2 fc2] rfl rfl HE.out size_stack HO.out ?_
          change wpList _ _ _ _ _ (v5.setCells gO 0 [.string other, .int .i64 dl2, .int .i64 dh2, .int .i64 wl2, .int .i64 wh2, .int .i64 pil2, .int .i64 boi2, .slice fa2 fn2 fc2])
          clear HE HO
          have DK8 := Lib.hid (show Desk w (v5.setCells gO 0 [.string other, .int .i64 dl2, .int .i64 dh2, .int .i64 wl2, .int .i64 wh2, .int .i64 pil2, .int .i64 boi2, .slice fa2 fn2 fc2]) (fun _ => False) C B bef aft l c made N kv tv m [(gD, 57, [.int .i64 kind, .int .i64 day, .string code, .string other, .int .i64 al, .int .i64 ah, .int .i64 bl, .int .i64 bh]), (gS, 48, [.string code, .int .i64 dl, .int .i64 dh, .int .i64 wl, .int .i64 wh, .int .i64 pil, .int .i64 boi, .slice fa fn fc]), (gO, 48, [.string other, .int .i64 dl2, .int .i64 dh2, .int .i64 wl2, .int .i64 wh2, .int .i64 pil2, .int .i64 boi2, .slice fa2 fn2 fc2])] from DK7.out.setLoc 2 [] [.string ⟨#[]⟩, .int .i64 0, .int .i64 0, .int .i64 0, .int .i64 0, .int .i64 0, .int .i64 0, .slice none 0 0] [] [.string other, .int .i64 dl2, .int .i64 dh2, .int .i64 wl2, .int .i64 wh2, .int .i64 pil2, .int .i64 boi2, .slice fa2 fn2 fc2] rfl rfl (by decide))
          clear DK7
          generalize (v5.setCells gO 0 [.string other, .int .i64 dl2, .int .i64 dh2, .int .i64 wl2, .int .i64 wh2, .int .i64 pil2, .int .i64 boi2, .slice fa2 fn2 fc2]) = v6 at DK8 ⊢
          change Till _ _ _ _ ∧ wpAnyT _ _ _ _ _ _ _ _ _ _
          refine ⟨fun h => by simp at h, ?_⟩
          try simp only [List.setIfInBounds_toArray, List.set_cons_succ, List.set_cons_zero]
          refine till_done (by kernel_rfl) ?_
          go_wp2_with fail
          go_meet
          case rel => exact ⟨_, _, rfl, rfl, DK8⟩
        · go_wp2_with fail
          have DK5 := Lib.hid (show Desk w (v2.alloc (.cells #[.string ⟨#[]⟩, .int .i64 0, .int .i64 0, .int .i64 0, .int .i64 0, .int .i64 0, .int .i64 0, .slice none 0 0] 48)) (fun _ => False) C B bef aft l c made N kv tv m [(gD, 57, [.int .i64 kind, .int .i64 day, .string code, .string other, .int .i64 al, .int .i64 ah, .int .i64 bl, .int .i64 bh]), (v2.heap.size, 48, [.string ⟨#[]⟩, .int .i64 0, .int .i64 0, .int .i64 0, .int .i64 0, .int .i64 0, .int .i64 0, .slice none 0 0])] from DK4.out.alloc 48 [.string ⟨#[]⟩, .int .i64 0, .int .i64 0, .int .i64 0, .int .i64 0, .int .i64 0, .int .i64 0, .slice none 0 0] rfl)
          generalize (v2.alloc (.cells #[.string ⟨#[]⟩, .int .i64 0, .int .i64 0, .int .i64 0, .int .i64 0, .int .i64 0, .int .i64 0, .slice none 0 0] 48)) = v3 at DK5 ⊢
          generalize v2.heap.size = gO at DK5 ⊢
          have HT := Lib.hid (show (fun w' => Blk w' gD 57 #[.int .i64 kind, .int .i64 day, .string code, .string other, .int .i64 al, .int .i64 ah, .int .i64 bl, .int .i64 bh]) v3 from (DK5.out.loc 0 _ _ _ rfl).1)
          refine ⟨fun _ => HT.out, ?_⟩
          try simp only [List.setIfInBounds_toArray, List.set_cons_succ, List.set_cons_zero]
          refine till_only (j := 8) (by kernel_rfl) rfl ?_
          go_wp2_with fail
          have DK6 := Lib.hid (show Desk w (v3.alloc (.cells #[.string ⟨#[]⟩, .int .i64 0, .int .i64 0, .int .i64 0, .int .i64 0, .int .i64 0, .int .i64 0, .slice none 0 0] 48)) (fun _ => False) C B bef aft l c made N kv tv m [(gD, 57, [.int .i64 kind, .int .i64 day, .string code, .string other, .int .i64 al, .int .i64 ah, .int .i64 bl, .int .i64 bh]), (gO, 48, [.string ⟨#[]⟩, .int .i64 0, .int .i64 0, .int .i64 0, .int .i64 0, .int .i64 0, .int .i64 0, .slice none 0 0]), (v3.heap.size, 48, [.string ⟨#[]⟩, .int .i64 0, .int .i64 0, .int .i64 0, .int .i64 0, .int .i64 0, .int .i64 0, .slice none 0 0])] from DK5.out.alloc 48 [.string ⟨#[]⟩, .int .i64 0, .int .i64 0, .int .i64 0, .int .i64 0, .int .i64 0, .int .i64 0, .slice none 0 0] rfl)
          generalize (v3.alloc (.cells #[.string ⟨#[]⟩, .int .i64 0, .int .i64 0, .int .i64 0, .int .i64 0, .int .i64 0, .int .i64 0, .slice none 0 0] 48)) = v4 at DK6 ⊢
          generalize v3.heap.size = gS at DK6 ⊢
          have HT := Lib.hid (show (fun w' => Blk w' gD 57 #[.int .i64 kind, .int .i64 day, .string code, .string other, .int .i64 al, .int .i64 ah, .int .i64 bl, .int .i64 bh]) v4 from (DK6.out.loc 0 _ _ _ rfl).1)
          refine ⟨fun _ => HT.out, ?_⟩
          try simp only [List.setIfInBounds_toArray, List.set_cons_succ, List.set_cons_zero]
          refine till_only (j := 10) (by kernel_rfl) rfl ?_
          have HE := Lib.hid (show v4.there gS 0 8 from (DK6.out.loc 2 _ _ _ rfl).1.there (o := 0) (n := 8) (Nat.le_of_ble_eq_true rfl))
          have HO := Lib.hid (show (#[.string code, .int .i64 dl, .int .i64 dh, .int .i64 wl, .int .i64 wh, .int .i64 pil, .int .i64 boi, .slice fa fn fc] : Array Value).all (·.oneCell') = true from by simp [Value.oneCell'])
          refine wpList_store_mid rfl 48 (.tmp 4) (.tmp 9) rfl gS 0 #[.string code, .int .i64 dl, .int .i64 dh, .int .i64 wl, .int .i64 wh, .int .i64 pil, .int .i64 boi, .slice fa fn fc] rfl rfl HE.out size_stack HO.out ?_
          change wpList _ _ _ _ _ (v4.setCells gS 0 [.string code, .int .i64 dl, .int .i64 dh, .int .i64 wl, .int .i64 wh, .int .i64 pil, .int .i64 boi, .slice fa fn fc])
          clear HE HO
          have DK7 := Lib.hid (show Desk w (v4.setCells gS 0 [.string code, .int .i64 dl, .int .i64 dh, .int .i64 wl, .int .i64 wh, .int .i64 pil, .int .i64 boi, .slice fa fn fc]) (fun _ => False) C B bef aft l c made N kv tv m [(gD, 57, [.int .i64 kind, .int .i64 day, .string code, .string other, .int .i64 al, .int .i64 ah, .int .i64 bl, .int .i64 bh]), (gO, 48, [.string ⟨#[]⟩, .int .i64 0, .int .i64 0, .int .i64 0, .int .i64 0, .int .i64 0, .int .i64 0, .slice none 0 0]), (gS, 48, [.string code, .int .i64 dl, .int .i64 dh, .int .i64 wl, .int .i64 wh, .int .i64 pil, .int .i64 boi, .slice fa fn fc])] from DK6.out.setLoc 2 [] [.string ⟨#[]⟩, .int .i64 0, .int .i64 0, .int .i64 0, .int .i64 0, .int .i64 0, .int .i64 0, .slice none 0 0] [] [.string code, .int .i64 dl, .int .i64 dh, .int .i64 wl, .int .i64 wh, .int .i64 pil, .int .i64 boi, .slice fa fn fc] rfl rfl (by decide))
          clear DK6
          generalize (v4.setCells gS 0 [.string code, .int .i64 dl, .int .i64 dh, .int .i64 wl, .int .i64 wh, .int .i64 pil, .int .i64 boi, .slice fa fn fc]) = v5 at DK7 ⊢
          change Till _ _ _ _ ∧ wpAnyT _ _ _ _ _ _ _ _ _ _
          have HT := Lib.hid (show (fun w' => Blk w' gD 57 #[.int .i64 kind, .int .i64 day, .string code, .string other, .int .i64 al, .int .i64 ah, .int .i64 bl, .int .i64 bh]) v5 from (DK7.out.loc 0 _ _ _ rfl).1)
          refine ⟨fun _ => HT.out, ?_⟩
          try simp only [List.setIfInBounds_toArray, List.set_cons_succ, List.set_cons_zero]
          refine till_only (j := 11) (by kernel_rfl) rfl ?_
          have HE := Lib.hid (show v5.there gO 0 8 from (DK7.out.loc 1 _ _ _ rfl).1.there (o := 0) (n := 8) (Nat.le_of_ble_eq_true rfl))
          have HO := Lib.hid (show (#[.string other, .int .i64 dl2, .int .i64 dh2, .int .i64 wl2, .int .i64 wh2, .int .i64 pil2, .int .i64 boi2, .slice fa2 fn2 fc2] : Array Value).all (·.oneCell') = true from by simp [Value.oneCell'])
          refine wpList_store_mid rfl 48 (.tmp 5) (.tmp 13) rfl gO 0 #[.string other, .int .i64 dl2, .int .i64 dh2, .int .i64 wl2, .int .i64 wh2, .int .i64 pil2, .int .i64 boi2, .slice fa2 fn2 fc2] rfl rfl HE.out size_stack HO.out ?_
          change wpList _ _ _ _ _ (v5.setCells gO 0 [.string other, .int .i64 dl2, .int .i64 dh2, .int .i64 wl2, .int .i64 wh2, .int .i64 pil2, .int .i64 boi2, .slice fa2 fn2 fc2])
          clear HE HO
          have DK8 := Lib.hid (show Desk w (v5.setCells gO 0 [.string other, .int .i64 dl2, .int .i64 dh2, .int .i64 wl2, .int .i64 wh2, .int .i64 pil2, .int .i64 boi2, .slice fa2 fn2 fc2]) (fun _ => False) C B bef aft l c made N kv tv m [(gD, 57, [.int .i64 kind, .int .i64 day, .string code, .string other, .int .i64 al, .int .i64 ah, .int .i64 bl, .int .i64 bh]), (gO, 48, [.string other, .int .i64 dl2, .int .i64 dh2, .int .i64 wl2, .int .i64 wh2, .int .i64 pil2, .int .i64 boi2, .slice fa2 fn2 fc2]), (gS, 48, [.string code, .int .i64 dl, .int .i64 dh, .int .i64 wl, .int .i64 wh, .int .i64 pil, .int .i64 boi, .slice fa fn fc])] from DK7.out.setLoc 1 [] [.string ⟨#[]⟩, .int .i64 0, .int .i64 0, .int .i64 0, .int .i64 0, .int .i64 0, .int .i64 0, .slice none 0 0] [] [.string other, .int .i64 dl2, .int .i64 dh2, .int .i64 wl2, .int .i64 wh2, .int .i64 pil2, .int .i64 boi2, .slice fa2 fn2 fc2] rfl rfl (by decide))
          clear DK7
          generalize (v5.setCells gO 0 [.string other, .int .i64 dl2, .int .i64 dh2, .int .i64 wl2, .int .i64 wh2, .int .i64 pil2, .int .i64 boi2, .slice fa2 fn2 fc2]) = v6 at DK8 ⊢
          change Till _ _ _ _ ∧ wpAnyT _ _ _ _ _ _ _ _ _ _
          refine ⟨fun h => by simp at h, ?_⟩
          try simp only [List.setIfInBounds_toArray, List.set_cons_succ, List.set_cons_zero]
          refine till_done (by kernel_rfl) ?_
          go_wp2_with fail
          go_meet
          case rel => exact ⟨_, _, rfl, rfl, Lib.hid DK8.out.swap⟩
      · go_wp2_with fail
        have DK4 := Lib.hid (show Desk w (v1.alloc (.cells #[.string ⟨#[]⟩, .int .i64 0, .int .i64 0, .int .i64 0, .int .i64 0, .int .i64 0, .int .i64 0, .slice none 0 0] 48)) (fun _ => False) C B bef aft l c made N kv tv m [(gD, 57, [.int .i64 kind, .int .i64 day, .string code, .string other, .int .i64 al, .int .i64 ah, .int .i64 bl, .int .i64 bh]), (v1.heap.size, 48, [.string ⟨#[]⟩, .int .i64 0, .int .i64 0, .int .i64 0, .int .i64 0, .int .i64 0, .int .i64 0, .slice none 0 0])] from DK3.out.alloc 48 [.string ⟨#[]⟩, .int .i64 0, .int .i64 0, .int .i64 0, .int .i64 0, .int .i64 0, .int .i64 0, .slice none 0 0] rfl)
        generalize (v1.alloc (.cells #[.string ⟨#[]⟩, .int .i64 0, .int .i64 0, .int .i64 0, .int .i64 0, .int .i64 0, .int .i64 0, .slice none 0 0] 48)) = v2 at DK4 ⊢
        generalize v1.heap.size = gS at DK4 ⊢
        have HT := Lib.hid (show (fun w' => Blk w' gD 57 #[.int .i64 kind, .int .i64 day, .string code, .string other, .int .i64 al, .int .i64 ah, .int .i64 bl, .int .i64 bh]) v2 from (DK4.out.loc 0 _ _ _ rfl).1)
        refine ⟨fun _ => HT.out, ?_⟩
        try simp only [List.setIfInBounds_toArray, List.set_cons_succ, List.set_cons_zero]
        refine till_two (i := 7) (j := 9) (by kernel_rfl) rfl rfl ?_ ?_
        · go_wp2_with (go_at_call 71; refine (stack_yes DK4.out.book other HSO.out HK2.out HP2.out).mono ?_; rintro e v3 ⟨rfl, hb⟩; have DK5 := Lib.hid (DK4.out.below hb); clear hb)
          have HT := Lib.hid (show (fun w' => Blk w' gD 57 #[.int .i64 kind, .int .i64 day, .string code, .string other, .int .i64 al, .int .i64 ah, .int .i64 bl, .int .i64 bh]) v3 from (DK5.out.loc 0 _ _ _ rfl).1)
          refine ⟨fun _ => HT.out, ?_⟩
          try simp only [List.setIfInBounds_toArray, List.set_cons_succ, List.set_cons_zero]
          refine till_only (j := 9) (by kernel_rfl) rfl ?_
          go_wp2_with fail
          have DK6 := Lib.hid (show Desk w (v3.alloc (.cells #[.string ⟨#[]⟩, .int .i64 0, .int .i64 0, .int .i64 0, .int .i64 0, .int .i64 0, .int .i64 0, .slice none 0 0] 48)) (fun _ => False) C B bef aft l c made N kv tv m [(gD, 57, [.int .i64 kind, .int .i64 day, .string code, .string other, .int .i64 al, .int .i64 ah, .int .i64 bl, .int .i64 bh]), (gS, 48, [.string ⟨#[]⟩, .int .i64 0, .int .i64 0, .int .i64 0, .int .i64 0, .int .i64 0, .int .i64 0, .slice none 0 0]), (v3.heap.size, 48, [.string ⟨#[]⟩, .int .i64 0, .int .i64 0, .int .i64 0, .int .i64 0, .int .i64 0, .int .i64 0, .slice none 0 0])] from DK5.out.alloc 48 [.string ⟨#[]⟩, .int .i64 0, .int .i64 0, .int .i64 0, .int .i64 0, .int .i64 0, .int .i64 0, .slice none 0 0] rfl)
          generalize (v3.alloc (.cells #[.string ⟨#[]⟩, .int .i64 0, .int .i64 0, .int .i64 0, .int .i64 0, .int .i64 0, .int .i64 0, .slice none 0 0] 48)) = v4 at DK6 ⊢
          generalize v3.heap.size = gO at DK6 ⊢
          have HT := Lib.hid (show (fun w' => Blk w' gD 57 #[.int .i64 kind, .int .i64 day, .string code, .string other, .int .i64 al, .int .i64 ah, .int .i64 bl, .int .i64 bh]) v4 from (DK6.out.loc 0 _ _ _ rfl).1)
          refine ⟨fun _ => HT.out, ?_⟩
          try simp only [List.setIfInBounds_toArray, List.set_cons_succ, List.set_cons_zero]
          refine till_only (j := 10) (by kernel_rfl) rfl ?_
          have HE := Lib.hid (show v4.there gS 0 8 from (DK6.out.loc 1 _ _ _ rfl).1.there (o := 0) (n := 8) (Nat.le_of_ble_eq_true rfl))
          have HO := Lib.hid (show (#[.string code, .int .i64 dl, .int .i64 dh, .int .i64 wl, .int .i64 wh, .int .i64 pil, .int .i64 boi, .slice fa fn fc] : Array Value).all (·.oneCell') = true from by simp [Value.oneCell'])
          refine wpList_store_mid rfl 48 (.tmp 4) (.tmp 9) rfl gS 0 #[.string code, .int .i64 dl, .int .i64 dh, .int .i64 wl, .int .i64 wh, .int .i64 pil, .int .i64 boi, .slice fa fn fc] rfl rfl HE.out size_stack HO.out ?_
          change wpList _ _ _ _ _ (v4.setCells gS 0 [.string code, .int .i64 dl, .int .i64 dh, .int .i64 wl, .int .i64 wh, .int .i64 pil, .int .i64 boi, .slice fa fn fc])
          clear HE HO
          have DK7 := Lib.hid (show Desk w (v4.setCells gS 0 [.string code, .int .i64 dl, .int .i64 dh, .int .i64 wl, .int .i64 wh, .int .i64 pil, .int .i64 boi, .slice fa fn fc]) (fun _ => False) C B bef aft l c made N kv tv m [(gD, 57, [.int .i64 kind, .int .i64 day, .string code, .string other, .int .i64 al, .int .i64 ah, .int .i64 bl, .int .i64 bh]), (gS, 48, [.string code, .int .i64 dl, .int .i64 dh, .int .i64 wl, .int .i64 wh, .int .i64 pil, .int .i64 boi, .slice fa fn fc]), (gO, 48, [.string ⟨#[]⟩, .int .i64 0, .int .i64 0, .int .i64 0, .int .i64 0, .int .i64 0, .int .i64 0, .slice none 0 0])] from DK6.out.setLoc 1 [] [.string ⟨#[]⟩, .int .i64 0, .int .i64 0, .int .i64 0, .int .i64 0, .int .i64 0, .int .i64 0, .slice none 0 0] [] [.string code, .int .i64 dl, .int .i64 dh, .int .i64 wl, .int .i64 wh, .int .i64 pil, .int .i64 boi, .slice fa fn fc] rfl rfl (by decide))
          clear DK6
          generalize (v4.setCells gS 0 [.string code, .int .i64 dl, .int .i64 dh, .int .i64 wl, .int .i64 wh, .int .i64 pil, .int .i64 boi, .slice fa fn fc]) = v5 at DK7 ⊢
          change Till _ _ _ _ ∧ wpAnyT _ _ _ _ _ _ _ _ _ _
          have HT := Lib.hid (show (fun w' => Blk w' gD 57 #[.int .i64 kind, .int .i64 day, .string code, .string other, .int .i64 al, .int .i64 ah, .int .i64 bl, .int .i64 bh]) v5 from (DK7.out.loc 0 _ _ _ rfl).1)
          refine ⟨fun _ => HT.out, ?_⟩
          try simp only [List.setIfInBounds_toArray, List.set_cons_succ, List.set_cons_zero]
          refine till_only (j := 11) (by kernel_rfl) rfl ?_
          have HE := Lib.hid (show v5.there gO 0 8 from (DK7.out.loc 2 _ _ _ rfl).1.there (o := 0) (n := 8) (Nat.le_of_ble_eq_true rfl))
          have HO := Lib.hid (show (#[.string other, .int .i64 dl2, .int .i64 dh2, .int .i64 wl2, .int .i64 wh2, .int .i64 pil2, .int .i64 boi2, .slice fa2 fn2 fc2] : Array Value).all (·.oneCell') = true from by simp [Value.oneCell'])
          refine wpList_store_mid rfl 48 (.tmp 5) (.tmp 13) rfl gO 0 #[.string other, .int .i64 dl2, .int .i64 dh2, .int .i64 wl2, .int .i64 wh2, .int .i64 pil2, .int .i64 boi2, .slice fa2 fn2 fc2] rfl rfl HE.out size_stack HO.out ?_
          change wpList _ _ _ _ _ (v5.setCells gO 0 [.string other, .int .i64 dl2, .int .i64 dh2, .int .i64 wl2, .int .i64 wh2, .int .i64 pil2, .int .i64 boi2, .slice fa2 fn2 fc2])
          clear HE HO
          have DK8 := Lib.hid (show Desk w (v5.setCells gO 0 [.string other, .int .i64 dl2, .int .i64 dh2, .int .i64 wl2, .int .i64 wh2, .int .i64 pil2, .int .i64 boi2, .slice fa2 fn2 fc2]) (fun _ => False) C B bef aft l c made N kv tv m [(gD, 57, [.int .i64 kind, .int .i64 day, .string code, .string other, .int .i64 al, .int .i64 ah, .int .i64 bl, .int .i64 bh]), (gS, 48, [.string code, .int .i64 dl, .int .i64 dh, .int .i64 wl, .int .i64 wh, .int .i64 pil, .int .i64 boi, .slice fa fn fc]), (gO, 48, [.string other, .int .i64 dl2, .int .i64 dh2, .int .i64 wl2, .int .i64 wh2, .int .i64 pil2, .int .i64 boi2, .slice fa2 fn2 fc2])] from DK7.out.setLoc 2 [] [.string ⟨#[]⟩, .int .i64 0, .int .i64 0, .int .i64 0, .int .i64 0, .int .i64 0, .int .i64 0, .slice none 0 0] [] [.string other, .int .i64 dl2, .int .i64 dh2, .int .i64 wl2, .int .i64 wh2, .int .i64 pil2, .int .i64 boi2, .slice fa2 fn2 fc2] rfl rfl (by decide))
          clear DK7
          generalize (v5.setCells gO 0 [.string other, .int .i64 dl2, .int .i64 dh2, .int .i64 wl2, .int .i64 wh2, .int .i64 pil2, .int .i64 boi2, .slice fa2 fn2 fc2]) = v6 at DK8 ⊢
          change Till _ _ _ _ ∧ wpAnyT _ _ _ _ _ _ _ _ _ _
          refine ⟨fun h => by simp at h, ?_⟩
          try simp only [List.setIfInBounds_toArray, List.set_cons_succ, List.set_cons_zero]
          refine till_done (by kernel_rfl) ?_
          go_wp2_with fail
          go_meet
          case rel => exact ⟨_, _, rfl, rfl, DK8⟩
        · go_wp2_with fail
          have DK5 := Lib.hid (show Desk w (v2.alloc (.cells #[.string ⟨#[]⟩, .int .i64 0, .int .i64 0, .int .i64 0, .int .i64 0, .int .i64 0, .int .i64 0, .slice none 0 0] 48)) (fun _ => False) C B bef aft l c made N kv tv m [(gD, 57, [.int .i64 kind, .int .i64 day, .string code, .string other, .int .i64 al, .int .i64 ah, .int .i64 bl, .int .i64 bh]), (gS, 48, [.string ⟨#[]⟩, .int .i64 0, .int .i64 0, .int .i64 0, .int .i64 0, .int .i64 0, .int .i64 0, .slice none 0 0]), (v2.heap.size, 48, [.string ⟨#[]⟩, .int .i64 0, .int .i64 0, .int .i64 0, .int .i64 0, .int .i64 0, .int .i64 0, .slice none 0 0])] from DK4.out.alloc 48 [.string ⟨#[]⟩, .int .i64 0, .int .i64 0, .int .i64 0, .int .i64 0, .int .i64 0, .int .i64 0, .slice none 0 0] rfl)
          generalize (v2.alloc (.cells #[.string ⟨#[]⟩, .int .i64 0, .int .i64 0, .int .i64 0, .int .i64 0, .int .i64 0, .int .i64 0, .slice none 0 0] 48)) = v3 at DK5 ⊢
          generalize v2.heap.size = gO at DK5 ⊢
          have HT := Lib.hid (show (fun w' => Blk w' gD 57 #[.int .i64 kind, .int .i64 day, .string code, .string other, .int .i64 al, .int .i64 ah, .int .i64 bl, .int .i64 bh]) v3 from (DK5.out.loc 0 _ _ _ rfl).1)
          refine ⟨fun _ => HT.out, ?_⟩
          try simp only [List.setIfInBounds_toArray, List.set_cons_succ, List.set_cons_zero]
          refine till_only (j := 7) (by kernel_rfl) rfl ?_
          go_wp2_with (go_at_call 71; refine (stack_yes DK5.out.book other HSO.out HK2.out HP2.out).mono ?_; rintro e v4 ⟨rfl, hb⟩; have DK6 := Lib.hid (DK5.out.below hb); clear hb)
          have HT := Lib.hid (show (fun w' => Blk w' gD 57 #[.int .i64 kind, .int .i64 day, .string code, .string other, .int .i64 al, .int .i64 ah, .int .i64 bl, .int .i64 bh]) v4 from (DK6.out.loc 0 _ _ _ rfl).1)
          refine ⟨fun _ => HT.out, ?_⟩
          try simp only [List.setIfInBounds_toArray, List.set_cons_succ, List.set_cons_zero]
          refine till_only (j := 10) (by kernel_rfl) rfl ?_
          have HE := Lib.hid (show v4.there gS 0 8 from (DK6.out.loc 1 _ _ _ rfl).1.there (o := 0) (n := 8) (Nat.le_of_ble_eq_true rfl))
          have HO := Lib.hid (show (#[.string code, .int .i64 dl, .int .i64 dh, .int .i64 wl, .int .i64 wh, .int .i64 pil, .int .i64 boi, .slice fa fn fc] : Array Value).all (·.oneCell') = true from by simp [Value.oneCell'])
          refine wpList_store_mid rfl 48 (.tmp 4) (.tmp 9) rfl gS 0 #[.string code, .int .i64 dl, .int .i64 dh, .int .i64 wl, .int .i64 wh, .int .i64 pil, .int .i64 boi, .slice fa fn fc] rfl rfl HE.out size_stack HO.out ?_
          change wpList _ _ _ _ _ (v4.setCells gS 0 [.string code, .int .i64 dl, .int .i64 dh, .int .i64 wl, .int .i64 wh, .int .i64 pil, .int .i64 boi, .slice fa fn fc])
          clear HE HO
          have DK7 := Lib.hid (show Desk w (v4.setCells gS 0 [.string code, .int .i64 dl, .int .i64 dh, .int .i64 wl, .int .i64 wh, .int .i64 pil, .int .i64 boi, .slice fa fn fc]) (fun _ => False) C B bef aft l c made N kv tv m [(gD, 57, [.int .i64 kind, .int .i64 day, .string code, .string other, .int .i64 al, .int .i64 ah, .int .i64 bl, .int .i64 bh]), (gS, 48, [.string code, .int .i64 dl, .int .i64 dh, .int .i64 wl, .int .i64 wh, .int .i64 pil, .int .i64 boi, .slice fa fn fc]), (gO, 48, [.string ⟨#[]⟩, .int .i64 0, .int .i64 0, .int .i64 0, .int .i64 0, .int .i64 0, .int .i64 0, .slice none 0 0])] from DK6.out.setLoc 1 [] [.string ⟨#[]⟩, .int .i64 0, .int .i64 0, .int .i64 0, .int .i64 0, .int .i64 0, .int .i64 0, .slice none 0 0] [] [.string code, .int .i64 dl, .int .i64 dh, .int .i64 wl, .int .i64 wh, .int .i64 pil, .int .i64 boi, .slice fa fn fc] rfl rfl (by decide))
          clear DK6
          generalize (v4.setCells gS 0 [.string code, .int .i64 dl, .int .i64 dh, .int .i64 wl, .int .i64 wh, .int .i64 pil, .int .i64 boi, .slice fa fn fc]) = v5 at DK7 ⊢
          change Till _ _ _ _ ∧ wpAnyT _ _ _ _ _ _ _ _ _ _
          have HT := Lib.hid (show (fun w' => Blk w' gD 57 #[.int .i64 kind, .int .i64 day, .string code, .string other, .int .i64 al, .int .i64 ah, .int .i64 bl, .int .i64 bh]) v5 from (DK7.out.loc 0 _ _ _ rfl).1)
          refine ⟨fun _ => HT.out, ?_⟩
          try simp only [List.setIfInBounds_toArray, List.set_cons_succ, List.set_cons_zero]
          refine till_only (j := 11) (by kernel_rfl) rfl ?_
          have HE := Lib.hid (show v5.there gO 0 8 from (DK7.out.loc 2 _ _ _ rfl).1.there (o := 0) (n := 8) (Nat.le_of_ble_eq_true rfl))
          have HO := Lib.hid (show (#[.string other, .int .i64 dl2, .int .i64 dh2, .int .i64 wl2, .int .i64 wh2, .int .i64 pil2, .int .i64 boi2, .slice fa2 fn2 fc2] : Array Value).all (·.oneCell') = true from by simp [Value.oneCell'])
          refine wpList_store_mid rfl 48 (.tmp 5) (.tmp 13) rfl gO 0 #[.string other, .int .i64 dl2, .int .i64 dh2, .int .i64 wl2, .int .i64 wh2, .int .i64 pil2, .int .i64 boi2, .slice fa2 fn2 fc2] rfl rfl HE.out size_stack HO.out ?_
          change wpList _ _ _ _ _ (v5.setCells gO 0 [.string other, .int .i64 dl2, .int .i64 dh2, .int .i64 wl2, .int .i64 wh2, .int .i64 pil2, .int .i64 boi2, .slice fa2 fn2 fc2])
          clear HE HO
          have DK8 := Lib.hid (show Desk w (v5.setCells gO 0 [.string other, .int .i64 dl2, .int .i64 dh2, .int .i64 wl2, .int .i64 wh2, .int .i64 pil2, .int .i64 boi2, .slice fa2 fn2 fc2]) (fun _ => False) C B bef aft l c made N kv tv m [(gD, 57, [.int .i64 kind, .int .i64 day, .string code, .string other, .int .i64 al, .int .i64 ah, .int .i64 bl, .int .i64 bh]), (gS, 48, [.string code, .int .i64 dl, .int .i64 dh, .int .i64 wl, .int .i64 wh, .int .i64 pil, .int .i64 boi, .slice fa fn fc]), (gO, 48, [.string other, .int .i64 dl2, .int .i64 dh2, .int .i64 wl2, .int .i64 wh2, .int .i64 pil2, .int .i64 boi2, .slice fa2 fn2 fc2])] from DK7.out.setLoc 2 [] [.string ⟨#[]⟩, .int .i64 0, .int .i64 0, .int .i64 0, .int .i64 0, .int .i64 0, .int .i64 0, .slice none 0 0] [] [.string other, .int .i64 dl2, .int .i64 dh2, .int .i64 wl2, .int .i64 wh2, .int .i64 pil2, .int .i64 boi2, .slice fa2 fn2 fc2] rfl rfl (by decide))
          clear DK7
          generalize (v5.setCells gO 0 [.string other, .int .i64 dl2, .int .i64 dh2, .int .i64 wl2, .int .i64 wh2, .int .i64 pil2, .int .i64 boi2, .slice fa2 fn2 fc2]) = v6 at DK8 ⊢
          change Till _ _ _ _ ∧ wpAnyT _ _ _ _ _ _ _ _ _ _
          refine ⟨fun h => by simp at h, ?_⟩
          try simp only [List.setIfInBounds_toArray, List.set_cons_succ, List.set_cons_zero]
          refine till_done (by kernel_rfl) ?_
          go_wp2_with fail
          go_meet
          case rel => exact ⟨_, _, rfl, rfl, DK8⟩
      · go_wp2_with fail
        have DK4 := Lib.hid (show Desk w (v1.alloc (.cells #[.string ⟨#[]⟩, .int .i64 0, .int .i64 0, .int .i64 0, .int .i64 0, .int .i64 0, .int .i64 0, .slice none 0 0] 48)) (fun _ => False) C B bef aft l c made N kv tv m [(gD, 57, [.int .i64 kind, .int .i64 day, .string code, .string other, .int .i64 al, .int .i64 ah, .int .i64 bl, .int .i64 bh]), (v1.heap.size, 48, [.string ⟨#[]⟩, .int .i64 0, .int .i64 0, .int .i64 0, .int .i64 0, .int .i64 0, .int .i64 0, .slice none 0 0])] from DK3.out.alloc 48 [.string ⟨#[]⟩, .int .i64 0, .int .i64 0, .int .i64 0, .int .i64 0, .int .i64 0, .int .i64 0, .slice none 0 0] rfl)
        generalize (v1.alloc (.cells #[.string ⟨#[]⟩, .int .i64 0, .int .i64 0, .int .i64 0, .int .i64 0, .int .i64 0, .int .i64 0, .slice none 0 0] 48)) = v2 at DK4 ⊢
        generalize v1.heap.size = gO at DK4 ⊢
        have HT := Lib.hid (show (fun w' => Blk w' gD 57 #[.int .i64 kind, .int .i64 day, .string code, .string other, .int .i64 al, .int .i64 ah, .int .i64 bl, .int .i64 bh]) v2 from (DK4.out.loc 0 _ _ _ rfl).1)
        refine ⟨fun _ => HT.out, ?_⟩
        try simp only [List.setIfInBounds_toArray, List.set_cons_succ, List.set_cons_zero]
        refine till_two (i := 7) (j := 8) (by kernel_rfl) rfl rfl ?_ ?_
        · go_wp2_with (go_at_call 71; refine (stack_yes DK4.out.book other HSO.out HK2.out HP2.out).mono ?_; rintro e v3 ⟨rfl, hb⟩; have DK5 := Lib.hid (DK4.out.below hb); clear hb)
          have HT := Lib.hid (show (fun w' => Blk w' gD 57 #[.int .i64 kind, .int .i64 day, .string code, .string other, .int .i64 al, .int .i64 ah, .int .i64 bl, .int .i64 bh]) v3 from (DK5.out.loc 0 _ _ _ rfl).1)
          refine ⟨fun _ => HT.out, ?_⟩
          try simp only [List.setIfInBounds_toArray, List.set_cons_succ, List.set_cons_zero]
          refine till_only (j := 8) (by kernel_rfl) rfl ?_
          go_wp2_with fail
          have DK6 := Lib.hid (show Desk w (v3.alloc (.cells #[.string ⟨#[]⟩, .int .i64 0, .int .i64 0, .int .i64 0, .int .i64 0, .int .i64 0, .int .i64 0, .slice none 0 0] 48)) (fun _ => False) C B bef aft l c made N kv tv m [(gD, 57, [.int .i64 kind, .int .i64 day, .string code, .string other, .int .i64 al, .int .i64 ah, .int .i64 bl, .int .i64 bh]), (gO, 48, [.string ⟨#[]⟩, .int .i64 0, .int .i64 0, .int .i64 0, .int .i64 0, .int .i64 0, .int .i64 0, .slice none 0 0]), (v3.heap.size, 48, [.string ⟨#[]⟩, .int .i64 0, .int .i64 0, .int .i64 0, .int .i64 0, .int .i64 0, .int .i64 0, .slice none 0 0])] from DK5.out.alloc 48 [.string ⟨#[]⟩, .int .i64 0, .int .i64 0, .int .i64 0, .int .i64 0, .int .i64 0, .int .i64 0, .slice none 0 0] rfl)
          generalize (v3.alloc (.cells #[.string ⟨#[]⟩, .int .i64 0, .int .i64 0, .int .i64 0, .int .i64 0, .int .i64 0, .int .i64 0, .slice none 0 0] 48)) = v4 at DK6 ⊢
          generalize v3.heap.size = gS at DK6 ⊢
          have HT := Lib.hid (show (fun w' => Blk w' gD 57 #[.int .i64 kind, .int .i64 day, .string code, .string other, .int .i64 al, .int .i64 ah, .int .i64 bl, .int .i64 bh]) v4 from (DK6.out.loc 0 _ _ _ rfl).1)
          refine ⟨fun _ => HT.out, ?_⟩
          try simp only [List.setIfInBounds_toArray, List.set_cons_succ, List.set_cons_zero]
          refine till_only (j := 10) (by kernel_rfl) rfl ?_
          have HE := Lib.hid (show v4.there gS 0 8 from (DK6.out.loc 2 _ _ _ rfl).1.there (o := 0) (n := 8) (Nat.le_of_ble_eq_true rfl))
          have HO := Lib.hid (show (#[.string code, .int .i64 dl, .int .i64 dh, .int .i64 wl, .int .i64 wh, .int .i64 pil, .int .i64 boi, .slice fa fn fc] : Array Value).all (·.oneCell') = true from by simp [Value.oneCell'])
          refine wpList_store_mid rfl 48 (.tmp 4) (.tmp 9) rfl gS 0 #[.string code, .int .i64 dl, .int .i64 dh, .int .i64 wl, .int .i64 wh, .int .i64 pil, .int .i64 boi, .slice fa fn fc] rfl rfl HE.out size_stack HO.out ?_
          change wpList _ _ _ _ _ (v4.setCells gS 0 [.string code, .int .i64 dl, .int .i64 dh, .int .i64 wl, .int .i64 wh, .int .i64 pil, .int .i64 boi, .slice fa fn fc])
          clear HE HO
          have DK7 := Lib.hid (show Desk w (v4.setCells gS 0 [.string code, .int .i64 dl, .int .i64 dh, .int .i64 wl, .int .i64 wh, .int .i64 pil, .int .i64 boi, .slice fa fn fc]) (fun _ => False) C B bef aft l c made N kv tv m [(gD, 57, [.int .i64 kind, .int .i64 day, .string code, .string other, .int .i64 al, .int .i64 ah, .int .i64 bl, .int .i64 bh]), (gO, 48, [.string ⟨#[]⟩, .int .i64 0, .int .i64 0, .int .i64 0, .int .i64 0, .int .i64 0, .int .i64 0, .slice none 0 0]), (gS, 48, [.string code, .int .i64 dl, .int .i64 dh, .int .i64 wl, .int .i64 wh, .int .i64 pil, .int .i64 boi, .slice fa fn fc])] from DK6.out.setLoc 2 [] [.string ⟨#[]⟩, .int .i64 0, .int .i64 0, .int .i64 0, .int .i64 0, .int .i64 0, .int .i64 0, .slice none 0 0] [] [.string code, .int .i64 dl, .int .i64 dh, .int .i64 wl, .int .i64 wh, .int .i64 pil, .int .i64 boi, .slice fa fn fc] rfl rfl (by decide))
          clear DK6
          generalize (v4.setCells gS 0 [.string code, .int .i64 dl, .int .i64 dh, .int .i64 wl, .int .i64 wh, .int .i64 pil, .int .i64 boi, .slice fa fn fc]) = v5 at DK7 ⊢
          change Till _ _ _ _ ∧ wpAnyT _ _ _ _ _ _ _ _ _ _
          have HT := Lib.hid (show (fun w' => Blk w' gD 57 #[.int .i64 kind, .int .i64 day, .string code, .string other, .int .i64 al, .int .i64 ah, .int .i64 bl, .int .i64 bh]) v5 from (DK7.out.loc 0 _ _ _ rfl).1)
          refine ⟨fun _ => HT.out, ?_⟩
          try simp only [List.setIfInBounds_toArray, List.set_cons_succ, List.set_cons_zero]
          refine till_only (j := 11) (by kernel_rfl) rfl ?_
          have HE := Lib.hid (show v5.there gO 0 8 from (DK7.out.loc 1 _ _ _ rfl).1.there (o := 0) (n := 8) (Nat.le_of_ble_eq_true rfl))
          have HO := Lib.hid (show (#[.string other, .int .i64 dl2, .int .i64 dh2, .int .i64 wl2, .int .i64 wh2, .int .i64 pil2, .int .i64 boi2, .slice fa2 fn2 fc2] : Array Value).all (·.oneCell') = true from by simp [Value.oneCell'])
          refine wpList_store_mid rfl 48 (.tmp 5) (.tmp 13) rfl gO 0 #[.string other, .int .i64 dl2, .int .i64 dh2, .int .i64 wl2, .int .i64 wh2, .int .i64 pil2, .int .i64 boi2, .slice fa2 fn2 fc2] rfl rfl HE.out size_stack HO.out ?_
          change wpList _ _ _ _ _ (v5.setCells gO 0 [.string other, .int .i64 dl2, .int .i64 dh2, .int .i64 wl2, .int .i64 wh2, .int .i64 pil2, .int .i64 boi2, .slice fa2 fn2 fc2])
          clear HE HO
          have DK8 := Lib.hid (show Desk w (v5.setCells gO 0 [.string other, .int .i64 dl2, .int .i64 dh2, .int .i64 wl2, .int .i64 wh2, .int .i64 pil2, .int .i64 boi2, .slice fa2 fn2 fc2]) (fun _ => False) C B bef aft l c made N kv tv m [(gD, 57, [.int .i64 kind, .int .i64 day, .string code, .string other, .int .i64 al, .int .i64 ah, .int .i64 bl, .int .i64 bh]), (gO, 48, [.string other, .int .i64 dl2, .int .i64 dh2, .int .i64 wl2, .int .i64 wh2, .int .i64 pil2, .int .i64 boi2, .slice fa2 fn2 fc2]), (gS, 48, [.string code, .int .i64 dl, .int .i64 dh, .int .i64 wl, .int .i64 wh, .int .i64 pil, .int .i64 boi, .slice fa fn fc])] from DK7.out.setLoc 1 [] [.string ⟨#[]⟩, .int .i64 0, .int .i64 0, .int .i64 0, .int .i64 0, .int .i64 0, .int .i64 0, .slice none 0 0] [] [.string other, .int .i64 dl2, .int .i64 dh2, .int .i64 wl2, .int .i64 wh2, .int .i64 pil2, .int .i64 boi2, .slice fa2 fn2 fc2] rfl rfl (by decide))
          clear DK7
          generalize (v5.setCells gO 0 [.string other, .int .i64 dl2, .int .i64 dh2, .int .i64 wl2, .int .i64 wh2, .int .i64 pil2, .int .i64 boi2, .slice fa2 fn2 fc2]) = v6 at DK8 ⊢
          change Till _ _ _ _ ∧ wpAnyT _ _ _ _ _ _ _ _ _ _
          refine ⟨fun h => by simp at h, ?_⟩
          try simp only [List.setIfInBounds_toArray, List.set_cons_succ, List.set_cons_zero]
          refine till_done (by kernel_rfl) ?_
          go_wp2_with fail
          go_meet
          case rel => exact ⟨_, _, rfl, rfl, Lib.hid DK8.out.swap⟩
        · go_wp2_with fail
          have DK5 := Lib.hid (show Desk w (v2.alloc (.cells #[.string ⟨#[]⟩, .int .i64 0, .int .i64 0, .int .i64 0, .int .i64 0, .int .i64 0, .int .i64 0, .slice none 0 0] 48)) (fun _ => False) C B bef aft l c made N kv tv m [(gD, 57, [.int .i64 kind, .int .i64 day, .string code, .string other, .int .i64 al, .int .i64 ah, .int .i64 bl, .int .i64 bh]), (gO, 48, [.string ⟨#[]⟩, .int .i64 0, .int .i64 0, .int .i64 0, .int .i64 0, .int .i64 0, .int .i64 0, .slice none 0 0]), (v2.heap.size, 48, [.string ⟨#[]⟩, .int .i64 0, .int .i64 0, .int .i64 0, .int .i64 0, .int .i64 0, .int .i64 0, .slice none 0 0])] from DK4.out.alloc 48 [.string ⟨#[]⟩, .int .i64 0, .int .i64 0, .int .i64 0, .int .i64 0, .int .i64 0, .int .i64 0, .slice none 0 0] rfl)
          generalize (v2.alloc (.cells #[.string ⟨#[]⟩, .int .i64 0, .int .i64 0, .int .i64 0, .int .i64 0, .int .i64 0, .int .i64 0, .slice none 0 0] 48)) = v3 at DK5 ⊢
          generalize v2.heap.size = gS at DK5 ⊢
          have HT := Lib.hid (show (fun w' => Blk w' gD 57 #[.int .i64 kind, .int .i64 day, .string code, .string other, .int .i64 al, .int .i64 ah, .int .i64 bl, .int .i64 bh]) v3 from (DK5.out.loc 0 _ _ _ rfl).1)
          refine ⟨fun _ => HT.out, ?_⟩
          try simp only [List.setIfInBounds_toArray, List.set_cons_succ, List.set_cons_zero]
          refine till_only (j := 7) (by kernel_rfl) rfl ?_
          go_wp2_with (go_at_call 71; refine (stack_yes DK5.out.book other HSO.out HK2.out HP2.out).mono ?_; rintro e v4 ⟨rfl, hb⟩; have DK6 := Lib.hid (DK5.out.below hb); clear hb)
          have HT := Lib.hid (show (fun w' => Blk w' gD 57 #[.int .i64 kind, .int .i64 day, .string code, .string other, .int .i64 al, .int .i64 ah, .int .i64 bl, .int .i64 bh]) v4 from (DK6.out.loc 0 _ _ _ rfl).1)
          refine ⟨fun _ => HT.out, ?_⟩
          try simp only [List.setIfInBounds_toArray, List.set_cons_succ, List.set_cons_zero]
          refine till_only (j := 10) (by kernel_rfl) rfl ?_
          have HE := Lib.hid (show v4.there gS 0 8 from (DK6.out.loc 2 _ _ _ rfl).1.there (o := 0) (n := 8) (Nat.le_of_ble_eq_true rfl))
          have HO := Lib.hid (show (#[.string code, .int .i64 dl, .int .i64 dh, .int .i64 wl, .int .i64 wh, .int .i64 pil, .int .i64 boi, .slice fa fn fc] : Array Value).all (·.oneCell') = true from by simp [Value.oneCell'])
          refine wpList_store_mid rfl 48 (.tmp 4) (.tmp 9) rfl gS 0 #[.string code, .int .i64 dl, .int .i64 dh, .int .i64 wl, .int .i64 wh, .int .i64 pil, .int .i64 boi, .slice fa fn fc] rfl rfl HE.out size_stack HO.out ?_
          change wpList _ _ _ _ _ (v4.setCells gS 0 [.string code, .int .i64 dl, .int .i64 dh, .int .i64 wl, .int .i64 wh, .int .i64 pil, .int .i64 boi, .slice fa fn fc])
          clear HE HO
          have DK7 := Lib.hid (show Desk w (v4.setCells gS 0 [.string code, .int .i64 dl, .int .i64 dh, .int .i64 wl, .int .i64 wh, .int .i64 pil, .int .i64 boi, .slice fa fn fc]) (fun _ => False) C B bef aft l c made N kv tv m [(gD, 57, [.int .i64 kind, .int .i64 day, .string code, .string other, .int .i64 al, .int .i64 ah, .int .i64 bl, .int .i64 bh]), (gO, 48, [.string ⟨#[]⟩, .int .i64 0, .int .i64 0, .int .i64 0, .int .i64 0, .int .i64 0, .int .i64 0, .slice none 0 0]), (gS, 48, [.string code, .int .i64 dl, .int .i64 dh, .int .i64 wl, .int .i64 wh, .int .i64 pil, .int .i64 boi, .slice fa fn fc])] from DK6.out.setLoc 2 [] [.string ⟨#[]⟩, .int .i64 0, .int .i64 0, .int .i64 0, .int .i64 0, .int .i64 0, .int .i64 0, .slice none 0 0] [] [.string code, .int .i64 dl, .int .i64 dh, .int .i64 wl, .int .i64 wh, .int .i64 pil, .int .i64 boi, .slice fa fn fc] rfl rfl (by decide))
          clear DK6
          generalize (v4.setCells gS 0 [.string code, .int .i64 dl, .int .i64 dh, .int .i64 wl, .int .i64 wh, .int .i64 pil, .int .i64 boi, .slice fa fn fc]) = v5 at DK7 ⊢
          change Till _ _ _ _ ∧ wpAnyT _ _ _ _ _ _ _ _ _ _
          have HT := Lib.hid (show (fun w' => Blk w' gD 57 #[.int .i64 kind, .int .i64 day, .string code, .string other, .int .i64 al, .int .i64 ah, .int .i64 bl, .int .i64 bh]) v5 from (DK7.out.loc 0 _ _ _ rfl).1)
          refine ⟨fun _ => HT.out, ?_⟩
          try simp only [List.setIfInBounds_toArray, List.set_cons_succ, List.set_cons_zero]
          refine till_only (j := 11) (by kernel_rfl) rfl ?_
          have HE := Lib.hid (show v5.there gO 0 8 from (DK7.out.loc 1 _ _ _ rfl).1.there (o := 0) (n := 8) (Nat.le_of_ble_eq_true rfl))
          have HO := Lib.hid (show (#[.string other, .int .i64 dl2, .int .i64 dh2, .int .i64 wl2, .int .i64 wh2, .int .i64 pil2, .int .i64 boi2, .slice fa2 fn2 fc2] : Array Value).all (·.oneCell') = true from by simp [Value.oneCell'])
          refine wpList_store_mid rfl 48 (.tmp 5) (.tmp 13) rfl gO 0 #[.string other, .int .i64 dl2, .int .i64 dh2, .int .i64 wl2, .int .i64 wh2, .int .i64 pil2, .int .i64 boi2, .slice fa2 fn2 fc2] rfl rfl HE.out size_stack HO.out ?_
          change wpList _ _ _ _ _ (v5.setCells gO 0 [.string other, .int .i64 dl2, .int .i64 dh2, .int .i64 wl2, .int .i64 wh2, .int .i64 pil2, .int .i64 boi2, .slice fa2 fn2 fc2])
          clear HE HO
          have DK8 := Lib.hid (show Desk w (v5.setCells gO 0 [.string other, .int .i64 dl2, .int .i64 dh2, .int .i64 wl2, .int .i64 wh2, .int .i64 pil2, .int .i64 boi2, .slice fa2 fn2 fc2]) (fun _ => False) C B bef aft l c made N kv tv m [(gD, 57, [.int .i64 kind, .int .i64 day, .string code, .string other, .int .i64 al, .int .i64 ah, .int .i64 bl, .int .i64 bh]), (gO, 48, [.string other, .int .i64 dl2, .int .i64 dh2, .int .i64 wl2, .int .i64 wh2, .int .i64 pil2, .int .i64 boi2, .slice fa2 fn2 fc2]), (gS, 48, [.string code, .int .i64 dl, .int .i64 dh, .int .i64 wl, .int .i64 wh, .int .i64 pil, .int .i64 boi, .slice fa fn fc])] from DK7.out.setLoc 1 [] [.string ⟨#[]⟩, .int .i64 0, .int .i64 0, .int .i64 0, .int .i64 0, .int .i64 0, .int .i64 0, .slice none 0 0] [] [.string other, .int .i64 dl2, .int .i64 dh2, .int .i64 wl2, .int .i64 wh2, .int .i64 pil2, .int .i64 boi2, .slice fa2 fn2 fc2] rfl rfl (by decide))
          clear DK7
          generalize (v5.setCells gO 0 [.string other, .int .i64 dl2, .int .i64 dh2, .int .i64 wl2, .int .i64 wh2, .int .i64 pil2, .int .i64 boi2, .slice fa2 fn2 fc2]) = v6 at DK8 ⊢
          change Till _ _ _ _ ∧ wpAnyT _ _ _ _ _ _ _ _ _ _
          refine ⟨fun h => by simp at h, ?_⟩
          try simp only [List.setIfInBounds_toArray, List.set_cons_succ, List.set_cons_zero]
          refine till_done (by kernel_rfl) ?_
          go_wp2_with fail
          go_meet
          case rel => exact ⟨_, _, rfl, rfl, Lib.hid DK8.out.swap⟩
    · go_wp2_with fail
      have DK3 := Lib.hid (show Desk w (v0.alloc (.cells #[.string ⟨#[]⟩, .int .i64 0, .int .i64 0, .int .i64 0, .int .i64 0, .int .i64 0, .int .i64 0, .slice none 0 0] 48)) (fun _ => False) C B bef aft l c made N kv tv m [(gD, 57, [.int .i64 kind, .int .i64 day, .string code, .string other, .int .i64 al, .int .i64 ah, .int .i64 bl, .int .i64 bh]), (v0.heap.size, 48, [.string ⟨#[]⟩, .int .i64 0, .int .i64 0, .int .i64 0, .int .i64 0, .int .i64 0, .int .i64 0, .slice none 0 0])] from DK2.out.alloc 48 [.string ⟨#[]⟩, .int .i64 0, .int .i64 0, .int .i64 0, .int .i64 0, .int .i64 0, .int .i64 0, .slice none 0 0] rfl)
      generalize (v0.alloc (.cells #[.string ⟨#[]⟩, .int .i64 0, .int .i64 0, .int .i64 0, .int .i64 0, .int .i64 0, .int .i64 0, .slice none 0 0] 48)) = v1 at DK3 ⊢
      generalize v0.heap.size = gS at DK3 ⊢
      have HT := Lib.hid (show (fun w' => Blk w' gD 57 #[.int .i64 kind, .int .i64 day, .string code, .string other, .int .i64 al, .int .i64 ah, .int .i64 bl, .int .i64 bh]) v1 from (DK3.out.loc 0 _ _ _ rfl).1)
      refine ⟨fun _ => HT.out, ?_⟩
      try simp only [List.setIfInBounds_toArray, List.set_cons_succ, List.set_cons_zero]
      refine till_two (i := 3) (j := 9) (by kernel_rfl) rfl rfl ?_ ?_
      · go_wp2_with (go_at_call 71; refine (stack_yes DK3.out.book code HS.out HK.out HP.out).mono ?_; rintro e v2 ⟨rfl, hb⟩; have DK4 := Lib.hid (DK3.out.below hb); clear hb)
        have HT := Lib.hid (show (fun w' => Blk w' gD 57 #[.int .i64 kind, .int .i64 day, .string code, .string other, .int .i64 al, .int .i64 ah, .int .i64 bl, .int .i64 bh]) v2 from (DK4.out.loc 0 _ _ _ rfl).1)
        refine ⟨fun _ => HT.out, ?_⟩
        try simp only [List.setIfInBounds_toArray, List.set_cons_succ, List.set_cons_zero]
        refine till_two (i := 7) (j := 9) (by kernel_rfl) rfl rfl ?_ ?_
        · go_wp2_with (go_at_call 71; refine (stack_yes DK4.out.book other HSO.out HK2.out HP2.out).mono ?_; rintro e v3 ⟨rfl, hb⟩; have DK5 := Lib.hid (DK4.out.below hb); clear hb)
          have HT := Lib.hid (show (fun w' => Blk w' gD 57 #[.int .i64 kind, .int .i64 day, .string code, .string other, .int .i64 al, .int .i64 ah, .int .i64 bl, .int .i64 bh]) v3 from (DK5.out.loc 0 _ _ _ rfl).1)
          refine ⟨fun _ => HT.out, ?_⟩
          try simp only [List.setIfInBounds_toArray, List.set_cons_succ, List.set_cons_zero]
          refine till_only (j := 9) (by kernel_rfl) rfl ?_
          go_wp2_with fail
          have DK6 := Lib.hid (show Desk w (v3.alloc (.cells #[.string ⟨#[]⟩, .int .i64 0, .int .i64 0, .int .i64 0, .int .i64 0, .int .i64 0, .int .i64 0, .slice none 0 0] 48)) (fun _ => False) C B bef aft l c made N kv tv m [(gD, 57, [.int .i64 kind, .int .i64 day, .string code, .string other, .int .i64 al, .int .i64 ah, .int .i64 bl, .int .i64 bh]), (gS, 48, [.string ⟨#[]⟩, .int .i64 0, .int .i64 0, .int .i64 0, .int .i64 0, .int .i64 0, .int .i64 0, .slice none 0 0]), (v3.heap.size, 48, [.string ⟨#[]⟩, .int .i64 0, .int .i64 0, .int .i64 0, .int .i64 0, .int .i64 0, .int .i64 0, .slice none 0 0])] from DK5.out.alloc 48 [.string ⟨#[]⟩, .int .i64 0, .int .i64 0, .int .i64 0, .int .i64 0, .int .i64 0, .int .i64 0, .slice none 0 0] rfl)
          generalize (v3.alloc (.cells #[.string ⟨#[]⟩, .int .i64 0, .int .i64 0, .int .i64 0, .int .i64 0, .int .i64 0, .int .i64 0, .slice none 0 0] 48)) = v4 at DK6 ⊢
          generalize v3.heap.size = gO at DK6 ⊢
          have HT := Lib.hid (show (fun w' => Blk w' gD 57 #[.int .i64 kind, .int .i64 day, .string code, .string other, .int .i64 al, .int .i64 ah, .int .i64 bl, .int .i64 bh]) v4 from (DK6.out.loc 0 _ _ _ rfl).1)
          refine ⟨fun _ => HT.out, ?_⟩
          try simp only [List.setIfInBounds_toArray, List.set_cons_succ, List.set_cons_zero]
          refine till_only (j := 10) (by kernel_rfl) rfl ?_
          have HE := Lib.hid (show v4.there gS 0 8 from (DK6.out.loc 1 _ _ _ rfl).1.there (o := 0) (n := 8) (Nat.le_of_ble_eq_true rfl))
          have HO := Lib.hid (show (#[.string code, .int .i64 dl, .int .i64 dh, .int .i64 wl, .int .i64 wh, .int .i64 pil, .int .i64 boi, .slice fa fn fc] : Array Value).all (·.oneCell') = true from by simp [Value.oneCell'])
          refine wpList_store_mid rfl 48 (.tmp 4) (.tmp 9) rfl gS 0 #[.string code, .int .i64 dl, .int .i64 dh, .int .i64 wl, .int .i64 wh, .int .i64 pil, .int .i64 boi, .slice fa fn fc] rfl rfl HE.out size_stack HO.out ?_
          change wpList _ _ _ _ _ (v4.setCells gS 0 [.string code, .int .i64 dl, .int .i64 dh, .int .i64 wl, .int .i64 wh, .int .i64 pil, .int .i64 boi, .slice fa fn fc])
          clear HE HO
          have DK7 := Lib.hid (show Desk w (v4.setCells gS 0 [.string code, .int .i64 dl, .int .i64 dh, .int .i64 wl, .int .i64 wh, .int .i64 pil, .int .i64 boi, .slice fa fn fc]) (fun _ => False) C B bef aft l c made N kv tv m [(gD, 57, [.int .i64 kind, .int .i64 day, .string code, .string other, .int .i64 al, .int .i64 ah, .int .i64 bl, .int .i64 bh]), (gS, 48, [.string code, .int .i64 dl, .int .i64 dh, .int .i64 wl, .int .i64 wh, .int .i64 pil, .int .i64 boi, .slice fa fn fc]), (gO, 48, [.string ⟨#[]⟩, .int .i64 0, .int .i64 0, .int .i64 0, .int .i64 0, .int .i64 0, .int .i64 0, .slice none 0 0])] from DK6.out.setLoc 1 [] [.string ⟨#[]⟩, .int .i64 0, .int .i64 0, .int .i64 0, .int .i64 0, .int .i64 0, .int .i64 0, .slice none 0 0] [] [.string code, .int .i64 dl, .int .i64 dh, .int .i64 wl, .int .i64 wh, .int .i64 pil, .int .i64 boi, .slice fa fn fc] rfl rfl (by decide))
          clear DK6
          generalize (v4.setCells gS 0 [.string code, .int .i64 dl, .int .i64 dh, .int .i64 wl, .int .i64 wh, .int .i64 pil, .int .i64 boi, .slice fa fn fc]) = v5 at DK7 ⊢
          change Till _ _ _ _ ∧ wpAnyT _ _ _ _ _ _ _ _ _ _
          have HT := Lib.hid (show (fun w' => Blk w' gD 57 #[.int .i64 kind, .int .i64 day, .string code, .string other, .int .i64 al, .int .i64 ah, .int .i64 bl, .int .i64 bh]) v5 from (DK7.out.loc 0 _ _ _ rfl).1)
          refine ⟨fun _ => HT.out, ?_⟩
          try simp only [List.setIfInBounds_toArray, List.set_cons_succ, List.set_cons_zero]
          refine till_only (j := 11) (by kernel_rfl) rfl ?_
          have HE := Lib.hid (show v5.there gO 0 8 from (DK7.out.loc 2 _ _ _ rfl).1.there (o := 0) (n := 8) (Nat.le_of_ble_eq_true rfl))
          have HO := Lib.hid (show (#[.string other, .int .i64 dl2, .int .i64 dh2, .int .i64 wl2, .int .i64 wh2, .int .i64 pil2, .int .i64 boi2, .slice fa2 fn2 fc2] : Array Value).all (·.oneCell') = true from by simp [Value.oneCell'])
          refine wpList_store_mid rfl 48 (.tmp 5) (.tmp 13) rfl gO 0 #[.string other, .int .i64 dl2, .int .i64 dh2, .int .i64 wl2, .int .i64 wh2, .int .i64 pil2, .int .i64 boi2, .slice fa2 fn2 fc2] rfl rfl HE.out size_stack HO.out ?_
          change wpList _ _ _ _ _ (v5.setCells gO 0 [.string other, .int .i64 dl2, .int .i64 dh2, .int .i64 wl2, .int .i64 wh2, .int .i64 pil2, .int .i64 boi2, .slice fa2 fn2 fc2])
          clear HE HO
          have DK8 := Lib.hid (show Desk w (v5.setCells gO 0 [.string other, .int .i64 dl2, .int .i64 dh2, .int .i64 wl2, .int .i64 wh2, .int .i64 pil2, .int .i64 boi2, .slice fa2 fn2 fc2]) (fun _ => False) C B bef aft l c made N kv tv m [(gD, 57, [.int .i64 kind, .int .i64 day, .string code, .string other, .int .i64 al, .int .i64 ah, .int .i64 bl, .int .i64 bh]), (gS, 48, [.string code, .int .i64 dl, .int .i64 dh, .int .i64 wl, .int .i64 wh, .int .i64 pil, .int .i64 boi, .slice fa fn fc]), (gO, 48, [.string other, .int .i64 dl2, .int .i64 dh2, .int .i64 wl2, .int .i64 wh2, .int .i64 pil2, .int .i64 boi2, .slice fa2 fn2 fc2])] from DK7.out.setLoc 2 [] [.string ⟨#[]⟩, .int .i64 0, .int .i64 0, .int .i64 0, .int .i64 0, .int .i64 0, .int .i64 0, .slice none 0 0] [] [.string other, .int .i64 dl2, .int .i64 dh2, .int .i64 wl2, .int .i64 wh2, .int .i64 pil2, .int .i64 boi2, .slice fa2 fn2 fc2] rfl rfl (by decide))
          clear DK7
          generalize (v5.setCells gO 0 [.string other, .int .i64 dl2, .int .i64 dh2, .int .i64 wl2, .int .i64 wh2, .int .i64 pil2, .int .i64 boi2, .slice fa2 fn2 fc2]) = v6 at DK8 ⊢
          change Till _ _ _ _ ∧ wpAnyT _ _ _ _ _ _ _ _ _ _
          refine ⟨fun h => by simp at h, ?_⟩
          try simp only [List.setIfInBounds_toArray, List.set_cons_succ, List.set_cons_zero]
          refine till_done (by kernel_rfl) ?_
          go_wp2_with fail
          go_meet
          case rel => exact ⟨_, _, rfl, rfl, DK8⟩
        · go_wp2_with fail
          have DK5 := Lib.hid (show Desk w (v2.alloc (.cells #[.string ⟨#[]⟩, .int .i64 0, .int .i64 0, .int .i64 0, .int .i64 0, .int .i64 0, .int .i64 0, .slice none 0 0] 48)) (fun _ => False) C B bef aft l c made N kv tv m [(gD, 57, [.int .i64 kind, .int .i64 day, .string code, .string other, .int .i64 al, .int .i64 ah, .int .i64 bl, .int .i64 bh]), (gS, 48, [.string ⟨#[]⟩, .int .i64 0, .int .i64 0, .int .i64 0, .int .i64 0, .int .i64 0, .int .i64 0, .slice none 0 0]), (v2.heap.size, 48, [.string ⟨#[]⟩, .int .i64 0, .int .i64 0, .int .i64 0, .int .i64 0, .int .i64 0, .int .i64 0, .slice none 0 0])] from DK4.out.alloc 48 [.string ⟨#[]⟩, .int .i64 0, .int .i64 0, .int .i64 0, .int .i64 0, .int .i64 0, .int .i64 0, .slice none 0 0] rfl)
          generalize (v2.alloc (.cells #[.string ⟨#[]⟩, .int .i64 0, .int .i64 0, .int .i64 0, .int .i64 0, .int .i64 0, .int .i64 0, .slice none 0 0] 48)) = v3 at DK5 ⊢
          generalize v2.heap.size = gO at DK5 ⊢
          have HT := Lib.hid (show (fun w' => Blk w' gD 57 #[.int .i64 kind, .int .i64 day, .string code, .string other, .int .i64 al, .int .i64 ah, .int .i64 bl, .int .i64 bh]) v3 from (DK5.out.loc 0 _ _ _ rfl).1)
          refine ⟨fun _ => HT.out, ?_⟩
          try simp only [List.setIfInBounds_toArray, List.set_cons_succ, List.set_cons_zero]
          refine till_only (j := 7) (by kernel_rfl) rfl ?_
          go_wp2_with (go_at_call 71; refine (stack_yes DK5.out.book other HSO.out HK2.out HP2.out).mono ?_; rintro e v4 ⟨rfl, hb⟩; have DK6 := Lib.hid (DK5.out.below hb); clear hb)
          have HT := Lib.hid (show (fun w' => Blk w' gD 57 #[.int .i64 kind, .int .i64 day, .string code, .string other, .int .i64 al, .int .i64 ah, .int .i64 bl, .int .i64 bh]) v4 from (DK6.out.loc 0 _ _ _ rfl).1)
          refine ⟨fun _ => HT.out, ?_⟩
          try simp only [List.setIfInBounds_toArray, List.set_cons_succ, List.set_cons_zero]
          refine till_only (j := 10) (by kernel_rfl) rfl ?_
          have HE := Lib.hid (show v4.there gS 0 8 from (DK6.out.loc 1 _ _ _ rfl).1.there (o := 0) (n := 8) (Nat.le_of_ble_eq_true rfl))
          have HO := Lib.hid (show (#[.string code, .int .i64 dl, .int .i64 dh, .int .i64 wl, .int .i64 wh, .int .i64 pil, .int .i64 boi, .slice fa fn fc] : Array Value).all (·.oneCell') = true from by simp [Value.oneCell'])
          refine wpList_store_mid rfl 48 (.tmp 4) (.tmp 9) rfl gS 0 #[.string code, .int .i64 dl, .int .i64 dh, .int .i64 wl, .int .i64 wh, .int .i64 pil, .int .i64 boi, .slice fa fn fc] rfl rfl HE.out size_stack HO.out ?_
          change wpList _ _ _ _ _ (v4.setCells gS 0 [.string code, .int .i64 dl, .int .i64 dh, .int .i64 wl, .int .i64 wh, .int .i64 pil, .int .i64 boi, .slice fa fn fc])
          clear HE HO
          have DK7 := Lib.hid (show Desk w (v4.setCells gS 0 [.string code, .int .i64 dl, .int .i64 dh, .int .i64 wl, .int .i64 wh, .int .i64 pil, .int .i64 boi, .slice fa fn fc]) (fun _ => False) C B bef aft l c made N kv tv m [(gD, 57, [.int .i64 kind, .int .i64 day, .string code, .string other, .int .i64 al, .int .i64 ah, .int .i64 bl, .int .i64 bh]), (gS, 48, [.string code, .int .i64 dl, .int .i64 dh, .int .i64 wl, .int .i64 wh, .int .i64 pil, .int .i64 boi, .slice fa fn fc]), (gO, 48, [.string ⟨#[]⟩, .int .i64 0, .int .i64 0, .int .i64 0, .int .i64 0, .int .i64 0, .int .i64 0, .slice none 0 0])] from DK6.out.setLoc 1 [] [.string ⟨#[]⟩, .int .i64 0, .int .i64 0, .int .i64 0, .int .i64 0, .int .i64 0, .int .i64 0, .slice none 0 0] [] [.string code, .int .i64 dl, .int .i64 dh, .int .i64 wl, .int .i64 wh, .int .i64 pil, .int .i64 boi, .slice fa fn fc] rfl rfl (by decide))
          clear DK6
          generalize (v4.setCells gS 0 [.string code, .int .i64 dl, .int .i64 dh, .int .i64 wl, .int .i64 wh, .int .i64 pil, .int .i64 boi, .slice fa fn fc]) = v5 at DK7 ⊢
          change Till _ _ _ _ ∧ wpAnyT _ _ _ _ _ _ _ _ _ _
          have HT := Lib.hid (show (fun w' => Blk w' gD 57 #[.int .i64 kind, .int .i64 day, .string code, .string other, .int .i64 al, .int .i64 ah, .int .i64 bl, .int .i64 bh]) v5 from (DK7.out.loc 0 _ _ _ rfl).1)
          refine ⟨fun _ => HT.out, ?_⟩
          try simp only [List.setIfInBounds_toArray, List.set_cons_succ, List.set_cons_zero]
          refine till_only (j := 11) (by kernel_rfl) rfl ?_
          have HE := Lib.hid (show v5.there gO 0 8 from (DK7.out.loc 2 _ _ _ rfl).1.there (o := 0) (n := 8) (Nat.le_of_ble_eq_true rfl))
          have HO := Lib.hid (show (#[.string other, .int .i64 dl2, .int .i64 dh2, .int .i64 wl2, .int .i64 wh2, .int .i64 pil2, .int .i64 boi2, .slice fa2 fn2 fc2] : Array Value).all (·.oneCell') = true from by simp [Value.oneCell'])
          refine wpList_store_mid rfl 48 (.tmp 5) (.tmp 13) rfl gO 0 #[.string other, .int .i64 dl2, .int .i64 dh2, .int .i64 wl2, .int .i64 wh2, .int .i64 pil2, .int .i64 boi2, .slice fa2 fn2 fc2] rfl rfl HE.out size_stack HO.out ?_
          change wpList _ _ _ _ _ (v5.setCells gO 0 [.string other, .int .i64 dl2, .int .i64 dh2, .int .i64 wl2, .int .i64 wh2, .int .i64 pil2, .int .i64 boi2, .slice fa2 fn2 fc2])
          clear HE HO
          have DK8 := Lib.hid (show Desk w (v5.setCells gO 0 [.string other, .int .i64 dl2, .int .i64 dh2, .int .i64 wl2, .int .i64 wh2, .int .i64 pil2, .int .i64 boi2, .slice fa2 fn2 fc2]) (fun _ => False) C B bef aft l c made N kv tv m [(gD, 57, [.int .i64 kind, .int .i64 day, .string code, .string other, .int .i64 al, .int .i64 ah, .int .i64 bl, .int .i64 bh]), (gS, 48, [.string code, .int .i64 dl, .int .i64 dh, .int .i64 wl, .int .i64 wh, .int .i64 pil, .int .i64 boi, .slice fa fn fc]), (gO, 48, [.string other, .int .i64 dl2, .int .i64 dh2, .int .i64 wl2, .int .i64 wh2, .int .i64 pil2, .int .i64 boi2, .slice fa2 fn2 fc2])] from DK7.out.setLoc 2 [] [.string ⟨#[]⟩, .int .i64 0, .int .i64 0, .int .i64 0, .int .i64 0, .int .i64 0, .int .i64 0, .slice none 0 0] [] [.string other, .int .i64 dl2, .int .i64 dh2, .int .i64 wl2, .int .i64 wh2, .int .i64 pil2, .int .i64 boi2, .slice fa2 fn2 fc2] rfl rfl (by decide))
          clear DK7
          generalize (v5.setCells gO 0 [.string other, .int .i64 dl2, .int .i64 dh2, .int .i64 wl2, .int .i64 wh2, .int .i64 pil2, .int .i64 boi2, .slice fa2 fn2 fc2]) = v6 at DK8 ⊢
          change Till _ _ _ _ ∧ wpAnyT _ _ _ _ _ _ _ _ _ _
          refine ⟨fun h => by simp at h, ?_⟩
          try simp only [List.setIfInBounds_toArray, List.set_cons_succ, List.set_cons_zero]
          refine till_done (by kernel_rfl) ?_
          go_wp2_with fail
          go_meet
          case rel => exact ⟨_, _, rfl, rfl, DK8⟩
      · go_wp2_with fail
        have DK4 := Lib.hid (show Desk w (v1.alloc (.cells #[.string ⟨#[]⟩, .int .i64 0, .int .i64 0, .int .i64 0, .int .i64 0, .int .i64 0, .int .i64 0, .slice none 0 0] 48)) (fun _ => False) C B bef aft l c made N kv tv m [(gD, 57, [.int .i64 kind, .int .i64 day, .string code, .string other, .int .i64 al, .int .i64 ah, .int .i64 bl, .int .i64 bh]), (gS, 48, [.string ⟨#[]⟩, .int .i64 0, .int .i64 0, .int .i64 0, .int .i64 0, .int .i64 0, .int .i64 0, .slice none 0 0]), (v1.heap.size, 48, [.string ⟨#[]⟩, .int .i64 0, .int .i64 0, .int .i64 0, .int .i64 0, .int .i64 0, .int .i64 0, .slice none 0 0])] from DK3.out.alloc 48 [.string ⟨#[]⟩, .int .i64 0, .int .i64 0, .int .i64 0, .int .i64 0, .int .i64 0, .int .i64 0, .slice none 0 0] rfl)
        generalize (v1.alloc (.cells #[.string ⟨#[]⟩, .int .i64 0, .int .i64 0, .int .i64 0, .int .i64 0, .int .i64 0, .int .i64 0, .slice none 0 0] 48)) = v2 at DK4 ⊢
        generalize v1.heap.size = gO at DK4 ⊢
        have HT := Lib.hid (show (fun w' => Blk w' gD 57 #[.int .i64 kind, .int .i64 day, .string code, .string other, .int .i64 al, .int .i64 ah, .int .i64 bl, .int .i64 bh]) v2 from (DK4.out.loc 0 _ _ _ rfl).1)
        refine ⟨fun _ => HT.out, ?_⟩
        try simp only [List.setIfInBounds_toArray, List.set_cons_succ, List.set_cons_zero]
        refine till_only (j := 3) (by kernel_rfl) rfl ?_
        go_wp2_with (go_at_call 71; refine (stack_yes DK4.out.book code HS.out HK.out HP.out).mono ?_; rintro e v3 ⟨rfl, hb⟩; have DK5 := Lib.hid (DK4.out.below hb); clear hb)
        have HT := Lib.hid (show (fun w' => Blk w' gD 57 #[.int .i64 kind, .int .i64 day, .string code, .string other, .int .i64 al, .int .i64 ah, .int .i64 bl, .int .i64 bh]) v3 from (DK5.out.loc 0 _ _ _ rfl).1)
        refine ⟨fun _ => HT.out, ?_⟩
        try simp only [List.setIfInBounds_toArray, List.set_cons_succ, List.set_cons_zero]
        refine till_only (j := 7) (by kernel_rfl) rfl ?_
        go_wp2_with (go_at_call 71; refine (stack_yes DK5.out.book other HSO.out HK2.out HP2.out).mono ?_; rintro e v4 ⟨rfl, hb⟩; have DK6 := Lib.hid (DK5.out.below hb); clear hb)
        have HT := Lib.hid (show (fun w' => Blk w' gD 57 #[.int .i64 kind, .int .i64 day, .string code, .string other, .int .i64 al, .int .i64 ah, .int .i64 bl, .int .i64 bh]) v4 from (DK6.out.loc 0 _ _ _ rfl).1)
        refine ⟨fun _ => HT.out, ?_⟩
        try simp only [List.setIfInBounds_toArray, List.set_cons_succ, List.set_cons_zero]
        refine till_only (j := 10) (by kernel_rfl) rfl ?_
        have HE := Lib.hid (show v4.there gS 0 8 from (DK6.out.loc 1 _ _ _ rfl).1.there (o := 0) (n := 8) (Nat.le_of_ble_eq_true rfl))
        have HO := Lib.hid (show (#[.string code, .int .i64 dl, .int .i64 dh, .int .i64 wl, .int .i64 wh, .int .i64 pil, .int .i64 boi, .slice fa fn fc] : Array Value).all (·.oneCell') = true from by simp [Value.oneCell'])
        refine wpList_store_mid rfl 48 (.tmp 4) (.tmp 9) rfl gS 0 #[.string code, .int .i64 dl, .int .i64 dh, .int .i64 wl, .int .i64 wh, .int .i64 pil, .int .i64 boi, .slice fa fn fc] rfl rfl HE.out size_stack HO.out ?_
        change wpList _ _ _ _ _ (v4.setCells gS 0 [.string code, .int .i64 dl, .int .i64 dh, .int .i64 wl, .int .i64 wh, .int .i64 pil, .int .i64 boi, .slice fa fn fc])
        clear HE HO
        have DK7 := Lib.hid (show Desk w (v4.setCells gS 0 [.string code, .int .i64 dl, .int .i64 dh, .int .i64 wl, .int .i64 wh, .int .i64 pil, .int .i64 boi, .slice fa fn fc]) (fun _ => False) C B bef aft l c made N kv tv m [(gD, 57, [.int .i64 kind, .int .i64 day, .string code, .string other, .int .i64 al, .int .i64 ah, .int .i64 bl, .int .i64 bh]), (gS, 48, [.string code, .int .i64 dl, .int .i64 dh, .int .i64 wl, .int .i64 wh, .int .i64 pil, .int .i64 boi, .slice fa fn fc]), (gO, 48, [.string ⟨#[]⟩, .int .i64 0, .int .i64 0, .int .i64 0, .int .i64 0, .int .i64 0, .int .i64 0, .slice none 0 0])] from DK6.out.setLoc 1 [] [.string ⟨#[]⟩, .int .i64 0, .int .i64 0, .int .i64 0, .int .i64 0, .int .i64 0, .int .i64 0, .slice none 0 0] [] [.string code, .int .i64 dl, .int .i64 dh, .int .i64 wl, .int .i64 wh, .int .i64 pil, .int .i64 boi, .slice fa fn fc] rfl rfl (by decide))
        clear DK6
        generalize (v4.setCells gS 0 [.string code, .int .i64 dl, .int .i64 dh, .int .i64 wl, .int .i64 wh, .int .i64 pil, .int .i64 boi, .slice fa fn fc]) = v5 at DK7 ⊢
        change Till _ _ _ _ ∧ wpAnyT _ _ _ _ _ _ _ _ _ _
        have HT := Lib.hid (show (fun w' => Blk w' gD 57 #[.int .i64 kind, .int .i64 day, .string code, .string other, .int .i64 al, .int .i64 ah, .int .i64 bl, .int .i64 bh]) v5 from (DK7.out.loc 0 _ _ _ rfl).1)
        refine ⟨fun _ => HT.out, ?_⟩
        try simp only [List.setIfInBounds_toArray, List.set_cons_succ, List.set_cons_zero]
        refine till_only (j := 11) (by kernel_rfl) rfl ?_
        have HE := Lib.hid (show v5.there gO 0 8 from (DK7.out.loc 2 _ _ _ rfl).1.there (o := 0) (n := 8) (Nat.le_of_ble_eq_true rfl))
        have HO := Lib.hid (show (#[.string other, .int .i64 dl2, .int .i64 dh2, .int .i64 wl2, .int .i64 wh2, .int .i64 pil2, .int .i64 boi2, .slice fa2 fn2 fc2] : Array Value).all (·.oneCell') = true from by simp [Value.oneCell'])
        refine wpList_store_mid rfl 48 (.tmp 5) (.tmp 13) rfl gO 0 #[.string other, .int .i64 dl2, .int .i64 dh2, .int .i64 wl2, .int .i64 wh2, .int .i64 pil2, .int .i64 boi2, .slice fa2 fn2 fc2] rfl rfl HE.out size_stack HO.out ?_
        change wpList _ _ _ _ _ (v5.setCells gO 0 [.string other, .int .i64 dl2, .int .i64 dh2, .int .i64 wl2, .int .i64 wh2, .int .i64 pil2, .int .i64 boi2, .slice fa2 fn2 fc2])
        clear HE HO
        have DK8 := Lib.hid (show Desk w (v5.setCells gO 0 [.string other, .int .i64 dl2, .int .i64 dh2, .int .i64 wl2, .int .i64 wh2, .int .i64 pil2, .int .i64 boi2, .slice fa2 fn2 fc2]) (fun _ => False) C B bef aft l c made N kv tv m [(gD, 57, [.int .i64 kind, .int .i64 day, .string code, .string other, .int .i64 al, .int .i64 ah, .int .i64 bl, .int .i64 bh]), (gS, 48, [.string code, .int .i64 dl, .int .i64 dh, .int .i64 wl, .int .i64 wh, .int .i64 pil, .int .i64 boi, .slice fa fn fc]), (gO, 48, [.string other, .int .i64 dl2, .int .i64 dh2, .int .i64 wl2, .int .i64 wh2, .int .i64 pil2, .int .i64 boi2, .slice fa2 fn2 fc2])] from DK7.out.setLoc 2 [] [.string ⟨#[]⟩, .int .i64 0, .int .i64 0, .int .i64 0, .int .i64 0, .int .i64 0, .int .i64 0, .slice none 0 0] [] [.string other, .int .i64 dl2, .int .i64 dh2, .int .i64 wl2, .int .i64 wh2, .int .i64 pil2, .int .i64 boi2, .slice fa2 fn2 fc2] rfl rfl (by decide))
        clear DK7
        generalize (v5.setCells gO 0 [.string other, .int .i64 dl2, .int .i64 dh2, .int .i64 wl2, .int .i64 wh2, .int .i64 pil2, .int .i64 boi2, .slice fa2 fn2 fc2]) = v6 at DK8 ⊢
        change Till _ _ _ _ ∧ wpAnyT _ _ _ _ _ _ _ _ _ _
        refine ⟨fun h => by simp at h, ?_⟩
        try simp only [List.setIfInBounds_toArray, List.set_cons_succ, List.set_cons_zero]
        refine till_done (by kernel_rfl) ?_
        go_wp2_with fail
        go_meet
        case rel => exact ⟨_, _, rfl, rfl, DK8⟩
    · go_wp2_with fail
      have DK3 := Lib.hid (show Desk w (v0.alloc (.cells #[.string ⟨#[]⟩, .int .i64 0, .int .i64 0, .int .i64 0, .int .i64 0, .int .i64 0, .int .i64 0, .slice none 0 0] 48)) (fun _ => False) C B bef aft l c made N kv tv m [(gD, 57, [.int .i64 kind, .int .i64 day, .string code, .string other, .int .i64 al, .int .i64 ah, .int .i64 bl, .int .i64 bh]), (v0.heap.size, 48, [.string ⟨#[]⟩, .int .i64 0, .int .i64 0, .int .i64 0, .int .i64 0, .int .i64 0, .int .i64 0, .slice none 0 0])] from DK2.out.alloc 48 [.string ⟨#[]⟩, .int .i64 0, .int .i64 0, .int .i64 0, .int .i64 0, .int .i64 0, .int .i64 0, .slice none 0 0] rfl)
      generalize (v0.alloc (.cells #[.string ⟨#[]⟩, .int .i64 0, .int .i64 0, .int .i64 0, .int .i64 0, .int .i64 0, .int .i64 0, .slice none 0 0] 48)) = v1 at DK3 ⊢
      generalize v0.heap.size = gO at DK3 ⊢
      have HT := Lib.hid (show (fun w' => Blk w' gD 57 #[.int .i64 kind, .int .i64 day, .string code, .string other, .int .i64 al, .int .i64 ah, .int .i64 bl, .int .i64 bh]) v1 from (DK3.out.loc 0 _ _ _ rfl).1)
      refine ⟨fun _ => HT.out, ?_⟩
      try simp only [List.setIfInBounds_toArray, List.set_cons_succ, List.set_cons_zero]
      refine till_two (i := 3) (j := 8) (by kernel_rfl) rfl rfl ?_ ?_
      · go_wp2_with (go_at_call 71; refine (stack_yes DK3.out.book code HS.out HK.out HP.out).mono ?_; rintro e v2 ⟨rfl, hb⟩; have DK4 := Lib.hid (DK3.out.below hb); clear hb)
        have HT := Lib.hid (show (fun w' => Blk w' gD 57 #[.int .i64 kind, .int .i64 day, .string code, .string other, .int .i64 al, .int .i64 ah, .int .i64 bl, .int .i64 bh]) v2 from (DK4.out.loc 0 _ _ _ rfl).1)
        refine ⟨fun _ => HT.out, ?_⟩
        try simp only [List.setIfInBounds_toArray, List.set_cons_succ, List.set_cons_zero]
        refine till_two (i := 7) (j := 8) (by kernel_rfl) rfl rfl ?_ ?_
        · go_wp2_with (go_at_call 71; refine (stack_yes DK4.out.book other HSO.out HK2.out HP2.out).mono ?_; rintro e v3 ⟨rfl, hb⟩; have DK5 := Lib.hid (DK4.out.below hb); clear hb)
          have HT := Lib.hid (show (fun w' => Blk w' gD 57 #[.int .i64 kind, .int .i64 day, .string code, .string other, .int .i64 al, .int .i64 ah, .int .i64 bl, .int .i64 bh]) v3 from (DK5.out.loc 0 _ _ _ rfl).1)
          refine ⟨fun _ => HT.out, ?_⟩
          try simp only [List.setIfInBounds_toArray, List.set_cons_succ, List.set_cons_zero]
          refine till_only (j := 8) (by kernel_rfl) rfl ?_
          go_wp2_with fail
          have DK6 := Lib.hid (show Desk w (v3.alloc (.cells #[.string ⟨#[]⟩, .int .i64 0, .int .i64 0, .int .i64 0, .int .i64 0, .int .i64 0, .int .i64 0, .slice none 0 0] 48)) (fun _ => False) C B bef aft l c made N kv tv m [(gD, 57, [.int .i64 kind, .int .i64 day, .string code, .string other, .int .i64 al, .int .i64 ah, .int .i64 bl, .int .i64 bh]), (gO, 48, [.string ⟨#[]⟩, .int .i64 0, .int .i64 0, .int .i64 0, .int .i64 0, .int .i64 0, .int .i64 0, .slice none 0 0]), (v3.heap.size, 48, [.string ⟨#[]⟩, .int .i64 0, .int .i64 0, .int .i64 0, .int .i64 0, .int .i64 0, .int .i64 0, .slice none 0 0])] from DK5.out.alloc 48 [.string ⟨#[]⟩, .int .i64 0, .int .i64 0, .int .i64 0, .int .i64 0, .int .i64 0, .int .i64 0, .slice none 0 0] rfl)
          generalize (v3.alloc (.cells #[.string ⟨#[]⟩, .int .i64 0, .int .i64 0, .int .i64 0, .int .i64 0, .int .i64 0, .int .i64 0, .slice none 0 0] 48)) = v4 at DK6 ⊢
          generalize v3.heap.size = gS at DK6 ⊢
          have HT := Lib.hid (show (fun w' => Blk w' gD 57 #[.int .i64 kind, .int .i64 day, .string code, .string other, .int .i64 al, .int .i64 ah, .int .i64 bl, .int .i64 bh]) v4 from (DK6.out.loc 0 _ _ _ rfl).1)
          refine ⟨fun _ => HT.out, ?_⟩
          try simp only [List.setIfInBounds_toArray, List.set_cons_succ, List.set_cons_zero]
          refine till_only (j := 10) (by kernel_rfl) rfl ?_
          have HE := Lib.hid (show v4.there gS 0 8 from (DK6.out.loc 2 _ _ _ rfl).1.there (o := 0) (n := 8) (Nat.le_of_ble_eq_true rfl))
          have HO := Lib.hid (show (#[.string code, .int .i64 dl, .int .i64 dh, .int .i64 wl, .int .i64 wh, .int .i64 pil, .int .i64 boi, .slice fa fn fc] : Array Value).all (·.oneCell') = true from by simp [Value.oneCell'])
          refine wpList_store_mid rfl 48 (.tmp 4) (.tmp 9) rfl gS 0 #[.string code, .int .i64 dl, .int .i64 dh, .int .i64 wl, .int .i64 wh, .int .i64 pil, .int .i64 boi, .slice fa fn fc] rfl rfl HE.out size_stack HO.out ?_
          change wpList _ _ _ _ _ (v4.setCells gS 0 [.string code, .int .i64 dl, .int .i64 dh, .int .i64 wl, .int .i64 wh, .int .i64 pil, .int .i64 boi, .slice fa fn fc])
          clear HE HO
          have DK7 := Lib.hid (show Desk w (v4.setCells gS 0 [.string code, .int .i64 dl, .int .i64 dh, .int .i64 wl, .int .i64 wh, .int .i64 pil, .int .i64 boi, .slice fa fn fc]) (fun _ => False) C B bef aft l c made N kv tv m [(gD, 57, [.int .i64 kind, .int .i64 day, .string code, .string other, .int .i64 al, .int .i64 ah, .int .i64 bl, .int .i64 bh]), (gO, 48, [.string ⟨#[]⟩, .int .i64 0, .int .i64 0, .int .i64 0, .int .i64 0, .int .i64 0, .int .i64 0, .slice none 0 0]), (gS, 48, [.string code, .int .i64 dl, .int .i64 dh, .int .i64 wl, .int .i64 wh, .int .i64 pil, .int .i64 boi, .slice fa fn fc])] from DK6.out.setLoc 2 [] [.string ⟨#[]⟩, .int .i64 0, .int .i64 0, .int .i64 0, .int .i64 0, .int .i64 0, .int .i64 0, .slice none 0 0] [] [.string code, .int .i64 dl, .int .i64 dh, .int .i64 wl, .int .i64 wh, .int .i64 pil, .int .i64 boi, .slice fa fn fc] rfl rfl (by decide))
          clear DK6
          generalize (v4.setCells gS 0 [.string code, .int .i64 dl, .int .i64 dh, .int .i64 wl, .int .i64 wh, .int .i64 pil, .int .i64 boi, .slice fa fn fc]) = v5 at DK7 ⊢
          change Till _ _ _ _ ∧ wpAnyT _ _ _ _ _ _ _ _ _ _
          have HT := Lib.hid (show (fun w' => Blk w' gD 57 #[.int .i64 kind, .int .i64 day, .string code, .string other, .int .i64 al, .int .i64 ah, .int .i64 bl, .int .i64 bh]) v5 from (DK7.out.loc 0 _ _ _ rfl).1)
          refine ⟨fun _ => HT.out, ?_⟩
          try simp only [List.setIfInBounds_toArray, List.set_cons_succ, List.set_cons_zero]
          refine till_only (j := 11) (by kernel_rfl) rfl ?_
          have HE := Lib.hid (show v5.there gO 0 8 from (DK7.out.loc 1 _ _ _ rfl).1.there (o := 0) (n := 8) (Nat.le_of_ble_eq_true rfl))
          have HO := Lib.hid (show (#[.string other, .int .i64 dl2, .int .i64 dh2, .int .i64 wl2, .int .i64 wh2, .int .i64 pil2, .int .i64 boi2, .slice fa2 fn2 fc2] : Array Value).all (·.oneCell') = true from by simp [Value.oneCell'])
          refine wpList_store_mid rfl 48 (.tmp 5) (.tmp 13) rfl gO 0 #[.string other, .int .i64 dl2, .int .i64 dh2, .int .i64 wl2, .int .i64 wh2, .int .i64 pil2, .int .i64 boi2, .slice fa2 fn2 fc2] rfl rfl HE.out size_stack HO.out ?_
          change wpList _ _ _ _ _ (v5.setCells gO 0 [.string other, .int .i64 dl2, .int .i64 dh2, .int .i64 wl2, .int .i64 wh2, .int .i64 pil2, .int .i64 boi2, .slice fa2 fn2 fc2])
          clear HE HO
          have DK8 := Lib.hid (show Desk w (v5.setCells gO 0 [.string other, .int .i64 dl2, .int .i64 dh2, .int .i64 wl2, .int .i64 wh2, .int .i64 pil2, .int .i64 boi2, .slice fa2 fn2 fc2]) (fun _ => False) C B bef aft l c made N kv tv m [(gD, 57, [.int .i64 kind, .int .i64 day, .string code, .string other, .int .i64 al, .int .i64 ah, .int .i64 bl, .int .i64 bh]), (gO, 48, [.string other, .int .i64 dl2, .int .i64 dh2, .int .i64 wl2, .int .i64 wh2, .int .i64 pil2, .int .i64 boi2, .slice fa2 fn2 fc2]), (gS, 48, [.string code, .int .i64 dl, .int .i64 dh, .int .i64 wl, .int .i64 wh, .int .i64 pil, .int .i64 boi, .slice fa fn fc])] from DK7.out.setLoc 1 [] [.string ⟨#[]⟩, .int .i64 0, .int .i64 0, .int .i64 0, .int .i64 0, .int .i64 0, .int .i64 0, .slice none 0 0] [] [.string other, .int .i64 dl2, .int .i64 dh2, .int .i64 wl2, .int .i64 wh2, .int .i64 pil2, .int .i64 boi2, .slice fa2 fn2 fc2] rfl rfl (by decide))
          clear DK7
          generalize (v5.setCells gO 0 [.string other, .int .i64 dl2, .int .i64 dh2, .int .i64 wl2, .int .i64 wh2, .int .i64 pil2, .int .i64 boi2, .slice fa2 fn2 fc2]) = v6 at DK8 ⊢
          change Till _ _ _ _ ∧ wpAnyT _ _ _ _ _ _ _ _ _ _
          refine ⟨fun h => by simp at h, ?_⟩
          try simp only [List.setIfInBounds_toArray, List.set_cons_succ, List.set_cons_zero]
          refine till_done (by kernel_rfl) ?_
          go_wp2_with fail
          go_meet
          case rel => exact ⟨_, _, rfl, rfl, Lib.hid DK8.out.swap⟩
        · go_wp2_with fail
          have DK5 := Lib.hid (show Desk w (v2.alloc (.cells #[.string ⟨#[]⟩, .int .i64 0, .int .i64 0, .int .i64 0, .int .i64 0, .int .i64 0, .int .i64 0, .slice none 0 0] 48)) (fun _ => False) C B bef aft l c made N kv tv m [(gD, 57, [.int .i64 kind, .int .i64 day, .string code, .string other, .int .i64 al, .int .i64 ah, .int .i64 bl, .int .i64 bh]), (gO, 48, [.string ⟨#[]⟩, .int .i64 0, .int .i64 0, .int .i64 0, .int .i64 0, .int .i64 0, .int .i64 0, .slice none 0 0]), (v2.heap.size, 48, [.string ⟨#[]⟩, .int .i64 0, .int .i64 0, .int .i64 0, .int .i64 0, .int .i64 0, .int .i64 0, .slice none 0 0])] from DK4.out.alloc 48 [.string ⟨#[]⟩, .int .i64 0, .int .i64 0, .int .i64 0, .int .i64 0, .int .i64 0, .int .i64 0, .slice none 0 0] rfl)
          generalize (v2.alloc (.cells #[.string ⟨#[]⟩, .int .i64 0, .int .i64 0, .int .i64 0, .int .i64 0, .int .i64 0, .int .i64 0, .slice none 0 0] 48)) = v3 at DK5 ⊢
          generalize v2.heap.size = gS at DK5 ⊢
          have HT := Lib.hid (show (fun w' => Blk w' gD 57 #[.int .i64 kind, .int .i64 day, .string code, .string other, .int .i64 al, .int .i64 ah, .int .i64 bl, .int .i64 bh]) v3 from (DK5.out.loc 0 _ _ _ rfl).1)
          refine ⟨fun _ => HT.out, ?_⟩
          try simp only [List.setIfInBounds_toArray, List.set_cons_succ, List.set_cons_zero]
          refine till_only (j := 7) (by kernel_rfl) rfl ?_
          go_wp2_with (go_at_call 71; refine (stack_yes DK5.out.book other HSO.out HK2.out HP2.out).mono ?_; rintro e v4 ⟨rfl, hb⟩; have DK6 := Lib.hid (DK5.out.below hb); clear hb)
          have HT := Lib.hid (show (fun w' => Blk w' gD 57 #[.int .i64 kind, .int .i64 day, .string code, .string other, .int .i64 al, .int .i64 ah, .int .i64 bl, .int .i64 bh]) v4 from (DK6.out.loc 0 _ _ _ rfl).1)
          refine ⟨fun _ => HT.out, ?_⟩
          try simp only [List.setIfInBounds_toArray, List.set_cons_succ, List.set_cons_zero]
          refine till_only (j := 10) (by kernel_rfl) rfl ?_
          have HE := Lib.hid (show v4.there gS 0 8 from (DK6.out.loc 2 _ _ _ rfl).1.there (o := 0) (n := 8) (Nat.le_of_ble_eq_true rfl))
          have HO := Lib.hid (show (#[.string code, .int .i64 dl, .int .i64 dh, .int .i64 wl, .int .i64 wh, .int .i64 pil, .int .i64 boi, .slice fa fn fc] : Array Value).all (·.oneCell') = true from by simp [Value.oneCell'])
          refine wpList_store_mid rfl 48 (.tmp 4) (.tmp 9) rfl gS 0 #[.string code, .int .i64 dl, .int .i64 dh, .int .i64 wl, .int .i64 wh, .int .i64 pil, .int .i64 boi, .slice fa fn fc] rfl rfl HE.out size_stack HO.out ?_
          change wpList _ _ _ _ _ (v4.setCells gS 0 [.string code, .int .i64 dl, .int .i64 dh, .int .i64 wl, .int .i64 wh, .int .i64 pil, .int .i64 boi, .slice fa fn fc])
          clear HE HO
          have DK7 := Lib.hid (show Desk w (v4.setCells gS 0 [.string code, .int .i64 dl, .int .i64 dh, .int .i64 wl, .int .i64 wh, .int .i64 pil, .int .i64 boi, .slice fa fn fc]) (fun _ => False) C B bef aft l c made N kv tv m [(gD, 57, [.int .i64 kind, .int .i64 day, .string code, .string other, .int .i64 al, .int .i64 ah, .int .i64 bl, .int .i64 bh]), (gO, 48, [.string ⟨#[]⟩, .int .i64 0, .int .i64 0, .int .i64 0, .int .i64 0, .int .i64 0, .int .i64 0, .slice none 0 0]), (gS, 48, [.string code, .int .i64 dl, .int .i64 dh, .int .i64 wl, .int .i64 wh, .int .i64 pil, .int .i64 boi, .slice fa fn fc])] from DK6.out.setLoc 2 [] [.string ⟨#[]⟩, .int .i64 0, .int .i64 0, .int .i64 0, .int .i64 0, .int .i64 0, .int .i64 0, .slice none 0 0] [] [.string code, .int .i64 dl, .int .i64 dh, .int .i64 wl, .int .i64 wh, .int .i64 pil, .int .i64 boi, .slice fa fn fc] rfl rfl (by decide))
          clear DK6
          generalize (v4.setCells gS 0 [.string code, .int .i64 dl, .int .i64 dh, .int .i64 wl, .int .i64 wh, .int .i64 pil, .int .i64 boi, .slice fa fn fc]) = v5 at DK7 ⊢
          change Till _ _ _ _ ∧ wpAnyT _ _ _ _ _ _ _ _ _ _
          have HT := Lib.hid (show (fun w' => Blk w' gD 57 #[.int .i64 kind, .int .i64 day, .string code, .string other, .int .i64 al, .int .i64 ah, .int .i64 bl, .int .i64 bh]) v5 from (DK7.out.loc 0 _ _ _ rfl).1)
          refine ⟨fun _ => HT.out, ?_⟩
          try simp only [List.setIfInBounds_toArray, List.set_cons_succ, List.set_cons_zero]
          refine till_only (j := 11) (by kernel_rfl) rfl ?_
          have HE := Lib.hid (show v5.there gO 0 8 from (DK7.out.loc 1 _ _ _ rfl).1.there (o := 0) (n := 8) (Nat.le_of_ble_eq_true rfl))
          have HO := Lib.hid (show (#[.string other, .int .i64 dl2, .int .i64 dh2, .int .i64 wl2, .int .i64 wh2, .int .i64 pil2, .int .i64 boi2, .slice fa2 fn2 fc2] : Array Value).all (·.oneCell') = true from by simp [Value.oneCell'])
          refine wpList_store_mid rfl 48 (.tmp 5) (.tmp 13) rfl gO 0 #[.string other, .int .i64 dl2, .int .i64 dh2, .int .i64 wl2, .int .i64 wh2, .int .i64 pil2, .int .i64 boi2, .slice fa2 fn2 fc2] rfl rfl HE.out size_stack HO.out ?_
          change wpList _ _ _ _ _ (v5.setCells gO 0 [.string other, .int .i64 dl2, .int .i64 dh2, .int .i64 wl2, .int .i64 wh2, .int .i64 pil2, .int .i64 boi2, .slice fa2 fn2 fc2])
          clear HE HO
          have DK8 := Lib.hid (show Desk w (v5.setCells gO 0 [.string other, .int .i64 dl2, .int .i64 dh2, .int .i64 wl2, .int .i64 wh2, .int .i64 pil2, .int .i64 boi2, .slice fa2 fn2 fc2]) (fun _ => False) C B bef aft l c made N kv tv m [(gD, 57, [.int .i64 kind, .int .i64 day, .string code, .string other, .int .i64 al, .int .i64 ah, .int .i64 bl, .int .i64 bh]), (gO, 48, [.string other, .int .i64 dl2, .int .i64 dh2, .int .i64 wl2, .int .i64 wh2, .int .i64 pil2, .int .i64 boi2, .slice fa2 fn2 fc2]), (gS, 48, [.string code, .int .i64 dl, .int .i64 dh, .int .i64 wl, .int .i64 wh, .int .i64 pil, .int .i64 boi, .slice fa fn fc])] from DK7.out.setLoc 1 [] [.string ⟨#[]⟩, .int .i64 0, .int .i64 0, .int .i64 0, .int .i64 0, .int .i64 0, .int .i64 0, .slice none 0 0] [] [.string other, .int .i64 dl2, .int .i64 dh2, .int .i64 wl2, .int .i64 wh2, .int .i64 pil2, .int .i64 boi2, .slice fa2 fn2 fc2] rfl rfl (by decide))
          clear DK7
          generalize (v5.setCells gO 0 [.string other, .int .i64 dl2, .int .i64 dh2, .int .i64 wl2, .int .i64 wh2, .int .i64 pil2, .int .i64 boi2, .slice fa2 fn2 fc2]) = v6 at DK8 ⊢
          change Till _ _ _ _ ∧ wpAnyT _ _ _ _ _ _ _ _ _ _
          refine ⟨fun h => by simp at h, ?_⟩
          try simp only [List.setIfInBounds_toArray, List.set_cons_succ, List.set_cons_zero]
          refine till_done (by kernel_rfl) ?_
          go_wp2_with fail
          go_meet
          case rel => exact ⟨_, _, rfl, rfl, Lib.hid DK8.out.swap⟩
      · go_wp2_with fail
        have DK4 := Lib.hid (show Desk w (v1.alloc (.cells #[.string ⟨#[]⟩, .int .i64 0, .int .i64 0, .int .i64 0, .int .i64 0, .int .i64 0, .int .i64 0, .slice none 0 0] 48)) (fun _ => False) C B bef aft l c made N kv tv m [(gD, 57, [.int .i64 kind, .int .i64 day, .string code, .string other, .int .i64 al, .int .i64 ah, .int .i64 bl, .int .i64 bh]), (gO, 48, [.string ⟨#[]⟩, .int .i64 0, .int .i64 0, .int .i64 0, .int .i64 0, .int .i64 0, .int .i64 0, .slice none 0 0]), (v1.heap.size, 48, [.string ⟨#[]⟩, .int .i64 0, .int .i64 0, .int .i64 0, .int .i64 0, .int .i64 0, .int .i64 0, .slice none 0 0])] from DK3.out.alloc 48 [.string ⟨#[]⟩, .int .i64 0, .int .i64 0, .int .i64 0, .int .i64 0, .int .i64 0, .int .i64 0, .slice none 0 0] rfl)
        generalize (v1.alloc (.cells #[.string ⟨#[]⟩, .int .i64 0, .int .i64 0, .int .i64 0, .int .i64 0, .int .i64 0, .int .i64 0, .slice none 0 0] 48)) = v2 at DK4 ⊢
        generalize v1.heap.size = gS at DK4 ⊢
        have HT := Lib.hid (show (fun w' => Blk w' gD 57 #[.int .i64 kind, .int .i64 day, .string code, .string other, .int .i64 al, .int .i64 ah, .int .i64 bl, .int .i64 bh]) v2 from (DK4.out.loc 0 _ _ _ rfl).1)
        refine ⟨fun _ => HT.out, ?_⟩
        try simp only [List.setIfInBounds_toArray, List.set_cons_succ, List.set_cons_zero]
        refine till_only (j := 3) (by kernel_rfl) rfl ?_
        go_wp2_with (go_at_call 71; refine (stack_yes DK4.out.book code HS.out HK.out HP.out).mono ?_; rintro e v3 ⟨rfl, hb⟩; have DK5 := Lib.hid (DK4.out.below hb); clear hb)
        have HT := Lib.hid (show (fun w' => Blk w' gD 57 #[.int .i64 kind, .int .i64 day, .string code, .string other, .int .i64 al, .int .i64 ah, .int .i64 bl, .int .i64 bh]) v3 from (DK5.out.loc 0 _ _ _ rfl).1)
        refine ⟨fun _ => HT.out, ?_⟩
        try simp only [List.setIfInBounds_toArray, List.set_cons_succ, List.set_cons_zero]
        refine till_only (j := 7) (by kernel_rfl) rfl ?_
        go_wp2_with (go_at_call 71; refine (stack_yes DK5.out.book other HSO.out HK2.out HP2.out).mono ?_; rintro e v4 ⟨rfl, hb⟩; have DK6 := Lib.hid (DK5.out.below hb); clear hb)
        have HT := Lib.hid (show (fun w' => Blk w' gD 57 #[.int .i64 kind, .int .i64 day, .string code, .string other, .int .i64 al, .int .i64 ah, .int .i64 bl, .int .i64 bh]) v4 from (DK6.out.loc 0 _ _ _ rfl).1)
        refine ⟨fun _ => HT.out, ?_⟩
        try simp only [List.setIfInBounds_toArray, List.set_cons_succ, List.set_cons_zero]
        refine till_only (j := 10) (by kernel_rfl) rfl ?_
        have HE := Lib.hid (show v4.there gS 0 8 from (DK6.out.loc 2 _ _ _ rfl).1.there (o := 0) (n := 8) (Nat.le_of_ble_eq_true rfl))
        have HO := Lib.hid (show (#[.string code, .int .i64 dl, .int .i64 dh, .int .i64 wl, .int .i64 wh, .int .i64 pil, .int .i64 boi, .slice fa fn fc] : Array Value).all (·.oneCell') = true from by simp [Value.oneCell'])
        refine wpList_store_mid rfl 48 (.tmp 4) (.tmp 9) rfl gS 0 #[.string code, .int .i64 dl, .int .i64 dh, .int .i64 wl, .int .i64 wh, .int .i64 pil, .int .i64 boi, .slice fa fn fc] rfl rfl HE.out size_stack HO.out ?_
        change wpList _ _ _ _ _ (v4.setCells gS 0 [.string code, .int .i64 dl, .int .i64 dh, .int .i64 wl, .int .i64 wh, .int .i64 pil, .int .i64 boi, .slice fa fn fc])
        clear HE HO
        have DK7 := Lib.hid (show Desk w (v4.setCells gS 0 [.string code, .int .i64 dl, .int .i64 dh, .int .i64 wl, .int .i64 wh, .int .i64 pil, .int .i64 boi, .slice fa fn fc]) (fun _ => False) C B bef aft l c made N kv tv m [(gD, 57, [.int .i64 kind, .int .i64 day, .string code, .string other, .int .i64 al, .int .i64 ah, .int .i64 bl, .int .i64 bh]), (gO, 48, [.string ⟨#[]⟩, .int .i64 0, .int .i64 0, .int .i64 0, .int .i64 0, .int .i64 0, .int .i64 0, .slice none 0 0]), (gS, 48, [.string code, .int .i64 dl, .int .i64 dh, .int .i64 wl, .int .i64 wh, .int .i64 pil, .int .i64 boi, .slice fa fn fc])] from DK6.out.setLoc 2 [] [.string ⟨#[]⟩, .int .i64 0, .int .i64 0, .int .i64 0, .int .i64 0, .int .i64 0, .int .i64 0, .slice none 0 0] [] [.string code, .int .i64 dl, .int .i64 dh, .int .i64 wl, .int .i64 wh, .int .i64 pil, .int .i64 boi, .slice fa fn fc] rfl rfl (by decide))
        clear DK6
        generalize (v4.setCells gS 0 [.string code, .int .i64 dl, .int .i64 dh, .int .i64 wl, .int .i64 wh, .int .i64 pil, .int .i64 boi, .slice fa fn fc]) = v5 at DK7 ⊢
        change Till _ _ _ _ ∧ wpAnyT _ _ _ _ _ _ _ _ _ _
        have HT := Lib.hid (show (fun w' => Blk w' gD 57 #[.int .i64 kind, .int .i64 day, .string code, .string other, .int .i64 al, .int .i64 ah, .int .i64 bl, .int .i64 bh]) v5 from (DK7.out.loc 0 _ _ _ rfl).1)
        refine ⟨fun _ => HT.out, ?_⟩
        try simp only [List.setIfInBounds_toArray, List.set_cons_succ, List.set_cons_zero]
        refine till_only (j := 11) (by kernel_rfl) rfl ?_
        have HE := Lib.hid (show v5.there gO 0 8 from (DK7.out.loc 1 _ _ _ rfl).1.there (o := 0) (n := 8) (Nat.le_of_ble_eq_true rfl))
        have HO := Lib.hid (show (#[.string other, .int .i64 dl2, .int .i64 dh2, .int .i64 wl2, .int .i64 wh2, .int .i64 pil2, .int .i64 boi2, .slice fa2 fn2 fc2] : Array Value).all (·.oneCell') = true from by simp [Value.oneCell'])
        refine wpList_store_mid rfl 48 (.tmp 5) (.tmp 13) rfl gO 0 #[.string other, .int .i64 dl2, .int .i64 dh2, .int .i64 wl2, .int .i64 wh2, .int .i64 pil2, .int .i64 boi2, .slice fa2 fn2 fc2] rfl rfl HE.out size_stack HO.out ?_
        change wpList _ _ _ _ _ (v5.setCells gO 0 [.string other, .int .i64 dl2, .int .i64 dh2, .int .i64 wl2, .int .i64 wh2, .int .i64 pil2, .int .i64 boi2, .slice fa2 fn2 fc2])
        clear HE HO
        have DK8 := Lib.hid (show Desk w (v5.setCells gO 0 [.string other, .int .i64 dl2, .int .i64 dh2, .int .i64 wl2, .int .i64 wh2, .int .i64 pil2, .int .i64 boi2, .slice fa2 fn2 fc2]) (fun _ => False) C B bef aft l c made N kv tv m [(gD, 57, [.int .i64 kind, .int .i64 day, .string code, .string other, .int .i64 al, .int .i64 ah, .int .i64 bl, .int .i64 bh]), (gO, 48, [.string other, .int .i64 dl2, .int .i64 dh2, .int .i64 wl2, .int .i64 wh2, .int .i64 pil2, .int .i64 boi2, .slice fa2 fn2 fc2]), (gS, 48, [.string code, .int .i64 dl, .int .i64 dh, .int .i64 wl, .int .i64 wh, .int .i64 pil, .int .i64 boi, .slice fa fn fc])] from DK7.out.setLoc 1 [] [.string ⟨#[]⟩, .int .i64 0, .int .i64 0, .int .i64 0, .int .i64 0, .int .i64 0, .int .i64 0, .slice none 0 0] [] [.string other, .int .i64 dl2, .int .i64 dh2, .int .i64 wl2, .int .i64 wh2, .int .i64 pil2, .int .i64 boi2, .slice fa2 fn2 fc2] rfl rfl (by decide))
        clear DK7
        generalize (v5.setCells gO 0 [.string other, .int .i64 dl2, .int .i64 dh2, .int .i64 wl2, .int .i64 wh2, .int .i64 pil2, .int .i64 boi2, .slice fa2 fn2 fc2]) = v6 at DK8 ⊢
        change Till _ _ _ _ ∧ wpAnyT _ _ _ _ _ _ _ _ _ _
        refine ⟨fun h => by simp at h, ?_⟩
        try simp only [List.setIfInBounds_toArray, List.set_cons_succ, List.set_cons_zero]
        refine till_done (by kernel_rfl) ?_
        go_wp2_with fail
        go_meet
        case rel => exact ⟨_, _, rfl, rfl, Lib.hid DK8.out.swap⟩
  case rest =>
    obtain ⟨gS, gO, rfl, rfl, DK2⟩ := hcut
    clear DK1
    have t2 := (show wc.cell? ⟨gD, 2, none⟩ = some (.string code) from DK2.out.at 0 2 rfl rfl)
    have t3 := (show wc.cell? ⟨gD, 3, none⟩ = some (.string other) from DK2.out.at 0 3 rfl rfl)
    go_upto_region 3 with (go_at_call 75; refine (need_true _ _).mono ?_; rintro e w2 ⟨rfl, rfl⟩)
    clear t2 t3
    have q0 := cell_regrown (show wc.cell? ⟨gS, 1, none⟩ = some (.int .i64 dl) from DK2.out.at 1 1 rfl rfl)
    have q1 := cell_regrown (show wc.cell? ⟨gS, 2, none⟩ = some (.int .i64 dh) from DK2.out.at 1 2 rfl rfl)
    have q2 := cell_regrown (show wc.cell? ⟨gO, 1, none⟩ = some (.int .i64 dl2) from DK2.out.at 2 1 rfl rfl)
    have q3 := cell_regrown (show wc.cell? ⟨gO, 2, none⟩ = some (.int .i64 dh2) from DK2.out.at 2 2 rfl rfl)
    have q4 := cell_regrown (show wc.cell? ⟨gS, 3, none⟩ = some (.int .i64 wl) from DK2.out.at 1 3 rfl rfl)
    have q5 := cell_regrown (show wc.cell? ⟨gS, 4, none⟩ = some (.int .i64 wh) from DK2.out.at 1 4 rfl rfl)
    have q6 := cell_regrown (show wc.cell? ⟨gO, 3, none⟩ = some (.int .i64 wl2) from DK2.out.at 2 3 rfl rfl)
    have q7 := cell_regrown (show wc.cell? ⟨gO, 4, none⟩ = some (.int .i64 wh2) from DK2.out.at 2 4 rfl rfl)
    have k0 : ∀ d os, Calls Try.prog 72 #[.agg #[.int .i64 dl, .int .i64 dh], .agg #[.int .i64 dl2, .int .i64 dh2]] (Go.Sort.grow (redrawn wc d) os) fun e w'' => e = .returned (.agg #[.int .i64 p1.lo, .int .i64 p1.hi]) ∧ ∃ p : Regrown, w'' = Go.Sort.grow (redrawn wc p.d) p.os := regrown_calls (fun w => by exact sum_up HUD.out HV8.out HUD2.out HV8.out Ep1.out w)
    have k1 : ∀ d os, Calls Try.prog 72 #[.agg #[.int .i64 wl, .int .i64 wh], .agg #[.int .i64 wl2, .int .i64 wh2]] (Go.Sort.grow (redrawn wc d) os) fun e w'' => e = .returned (.agg #[.int .i64 p2.lo, .int .i64 p2.hi]) ∧ ∃ p : Regrown, w'' = Go.Sort.grow (redrawn wc p.d) p.os := regrown_calls (fun w => by exact sum_up HUW.out HV8.out HUW2.out HV8.out Ep2.out w)
    refine region_split_below 11 (by kernel_rfl) (by kernel_rfl) (by kernel_rfl) ?_
    simp only [List.take_succ_cons, List.take_zero, List.drop_succ_cons, List.drop_zero]
    repeat (go_big_quiet_step (first | (with_reducible exact k0 _ _) | (with_reducible exact k1 _ _)))
    refine wpQuiet_nil ?_
    intro v0 hw'
    have hb8 : Below wc.heap.size wc v0 := by obtain ⟨⟨dq, osq⟩, hw''⟩ := hw'; rw [hw'']; exact below_regrown wc dq osq
    clear hw' q0 q1 q2 q3 q4 q5 q6 q7 k0 k1
    have DK3 := Lib.hid (show Desk w v0 (fun _ => False) C B bef aft l c made N kv tv m [(gD, 57, [.int .i64 kind, .int .i64 day, .string code, .string other, .int .i64 al, .int .i64 ah, .int .i64 bl, .int .i64 bh]), (gS, 48, [.string code, .int .i64 dl, .int .i64 dh, .int .i64 wl, .int .i64 wh, .int .i64 pil, .int .i64 boi, .slice fa fn fc]), (gO, 48, [.string other, .int .i64 dl2, .int .i64 dh2, .int .i64 wl2, .int .i64 wh2, .int .i64 pil2, .int .i64 boi2, .slice fa2 fn2 fc2])] from DK2.out.below hb8)
    clear DK2
    have HB8 := Lib.hid hb8; clear hb8
    have HE := Lib.hid (show v0.there gS 1 2 from (DK3.out.loc 1 _ _ _ rfl).1.there (o := 1) (n := 2) (Nat.le_of_ble_eq_true rfl))
    have HO := Lib.hid (show (#[.int .i64 p1.lo, .int .i64 p1.hi] : Array Value).all (·.oneCell') = true from by simp [Value.oneCell'])
    refine wpList_store_mid rfl 23 (.tmp 30) (.tmp 24) rfl gS 1 #[.int .i64 p1.lo, .int .i64 p1.hi] rfl rfl HE.out size_bounds HO.out ?_
    change wpList _ _ _ _ _ (v0.setCells gS 1 [.int .i64 p1.lo, .int .i64 p1.hi])
    clear HE HO
    have DK4 := Lib.hid (show Desk w (v0.setCells gS 1 [.int .i64 p1.lo, .int .i64 p1.hi]) (fun _ => False) C B bef aft l c made N kv tv m [(gD, 57, [.int .i64 kind, .int .i64 day, .string code, .string other, .int .i64 al, .int .i64 ah, .int .i64 bl, .int .i64 bh]), (gS, 48, [.string code, .int .i64 p1.lo, .int .i64 p1.hi, .int .i64 wl, .int .i64 wh, .int .i64 pil, .int .i64 boi, .slice fa fn fc]), (gO, 48, [.string other, .int .i64 dl2, .int .i64 dh2, .int .i64 wl2, .int .i64 wh2, .int .i64 pil2, .int .i64 boi2, .slice fa2 fn2 fc2])] from DK3.out.setLoc 1 [.string code] [.int .i64 dl, .int .i64 dh] [.int .i64 wl, .int .i64 wh, .int .i64 pil, .int .i64 boi, .slice fa fn fc] [.int .i64 p1.lo, .int .i64 p1.hi] rfl rfl (by decide))
    clear DK3
    generalize (v0.setCells gS 1 [.int .i64 p1.lo, .int .i64 p1.hi]) = v1 at DK4 ⊢
    simp only [Act.put]
    have HE := Lib.hid (show v1.there gS 3 2 from (DK4.out.loc 1 _ _ _ rfl).1.there (o := 3) (n := 2) (Nat.le_of_ble_eq_true rfl))
    have HO := Lib.hid (show (#[.int .i64 p2.lo, .int .i64 p2.hi] : Array Value).all (·.oneCell') = true from by simp [Value.oneCell'])
    go_upto_region 4 with ((with_reducible refine at_store 23 (.tmp 31) (.tmp 29) ?_); go_must (refine wpList_store_mid rfl 23 (.tmp 31) (.tmp 29) rfl gS 3 #[.int .i64 p2.lo, .int .i64 p2.hi] rfl rfl HE.out size_bounds HO.out ?_))
    clear HE HO
    have DK5 := Lib.hid (show Desk w (v1.setCells gS 3 [.int .i64 p2.lo, .int .i64 p2.hi]) (fun _ => False) C B bef aft l c made N kv tv m [(gD, 57, [.int .i64 kind, .int .i64 day, .string code, .string other, .int .i64 al, .int .i64 ah, .int .i64 bl, .int .i64 bh]), (gS, 48, [.string code, .int .i64 p1.lo, .int .i64 p1.hi, .int .i64 p2.lo, .int .i64 p2.hi, .int .i64 pil, .int .i64 boi, .slice fa fn fc]), (gO, 48, [.string other, .int .i64 dl2, .int .i64 dh2, .int .i64 wl2, .int .i64 wh2, .int .i64 pil2, .int .i64 boi2, .slice fa2 fn2 fc2])] from DK4.out.setLoc 1 [.string code, .int .i64 p1.lo, .int .i64 p1.hi] [.int .i64 wl, .int .i64 wh] [.int .i64 pil, .int .i64 boi, .slice fa fn fc] [.int .i64 p2.lo, .int .i64 p2.hi] rfl rfl (by decide))
    clear DK4
    generalize (v1.setCells gS 3 [.int .i64 p2.lo, .int .i64 p2.hi]) = v2 at DK5 ⊢
    try simp only [Act.put]
    have q0 := cell_regrown (show v2.cell? ⟨gS, 5, none⟩ = some (.int .i64 pil) from DK5.out.at 1 5 rfl rfl)
    have q1 := cell_regrown (show v2.cell? ⟨gO, 5, none⟩ = some (.int .i64 pil2) from DK5.out.at 2 5 rfl rfl)
    have q2 := cell_regrown (show v2.cell? ⟨gS, 6, none⟩ = some (.int .i64 boi) from DK5.out.at 1 6 rfl rfl)
    have q3 := cell_regrown (show v2.cell? ⟨gO, 6, none⟩ = some (.int .i64 boi2) from DK5.out.at 2 6 rfl rfl)
    have k0 : ∀ d os, Calls Try.prog 79 #[.int .i64 boi, .int .i64 boi2] (Go.Sort.grow (redrawn v2 d) os) fun e w'' => e = .returned (.int .i64 lb) ∧ ∃ p : Regrown, w'' = Go.Sort.grow (redrawn v2 p.d) p.os := regrown_calls (fun w => by exact laterBoiled_calls boi boi2 lb w HBO.out HBO2.out Elb.out)
    refine region_split_below 11 (by kernel_rfl) (by kernel_rfl) (by kernel_rfl) ?_
    simp only [List.take_succ_cons, List.take_zero, List.drop_succ_cons, List.drop_zero]
    repeat (go_big_quiet_step (first | (with_reducible exact k0 _ _)))
    refine wpQuiet_nil ?_
    intro v3 hw'
    have hb8 : Below v2.heap.size v2 v3 := by obtain ⟨⟨dq, osq⟩, hw''⟩ := hw'; rw [hw'']; exact below_regrown v2 dq osq
    clear hw' q0 q1 q2 q3 k0
    have DK6 := Lib.hid (show Desk w v3 (fun _ => False) C B bef aft l c made N kv tv m [(gD, 57, [.int .i64 kind, .int .i64 day, .string code, .string other, .int .i64 al, .int .i64 ah, .int .i64 bl, .int .i64 bh]), (gS, 48, [.string code, .int .i64 p1.lo, .int .i64 p1.hi, .int .i64 p2.lo, .int .i64 p2.hi, .int .i64 pil, .int .i64 boi, .slice fa fn fc]), (gO, 48, [.string other, .int .i64 dl2, .int .i64 dh2, .int .i64 wl2, .int .i64 wh2, .int .i64 pil2, .int .i64 boi2, .slice fa2 fn2 fc2])] from DK5.out.below hb8)
    clear DK5
    have HB8 := Lib.hid hb8; clear hb8
    generalize hmx : (if pil < pil2 then pil2 else pil) = mx
    have HMX := Lib.hid hmx; clear hmx
    have hc5 := (show v3.cell? ⟨gS, 5, none⟩ = some (.int .i64 pil) from DK6.out.at 1 5 rfl rfl)
    have hf5 := (DK6.out.loc 1 _ _ _ rfl).1.frozen 5
    have DA := Lib.hid (show Desk w (v3.setCell ⟨gS, 5, none⟩ (.int .i64 mx)) (fun _ => False) C B bef aft l c made N kv tv m _ from DK6.out.setLoc1 1 [.string code, .int .i64 p1.lo, .int .i64 p1.hi, .int .i64 p2.lo, .int .i64 p2.hi] [.int .i64 boi, .slice fa fn fc] (.int .i64 pil) (.int .i64 mx) 5 rfl rfl (by decide))
    have DA2 := Lib.hid (show Desk w (v3.setCell ⟨gS, 5, none⟩ (.int .i64 mx)) (fun _ => False) C B bef aft l c made N kv tv m [(gD, 57, [.int .i64 kind, .int .i64 day, .string code, .string other, .int .i64 al, .int .i64 ah, .int .i64 bl, .int .i64 bh]), (gS, 48, [.string code, .int .i64 p1.lo, .int .i64 p1.hi, .int .i64 p2.lo, .int .i64 p2.hi, .int .i64 mx, .int .i64 boi, .slice fa fn fc]), (gO, 48, [.string other, .int .i64 dl2, .int .i64 dh2, .int .i64 wl2, .int .i64 wh2, .int .i64 pil2, .int .i64 boi2, .slice fa2 fn2 fc2])] from DA.out); clear DA
    have hc6 := (show (v3.setCell ⟨gS, 5, none⟩ (.int .i64 mx)).cell? ⟨gS, 6, none⟩ = some (.int .i64 boi) from DA2.out.at 1 6 rfl rfl)
    have hf6 := (DA2.out.loc 1 _ _ _ rfl).1.frozen 6
    go_upto_region 5 with fail
    clear hc5 hf5 hc6 hf6 DK6
    have DK7 := Lib.hid (show Desk w ((v3.setCell ⟨gS, 5, none⟩ (.int .i64 mx)).setCell ⟨gS, 6, none⟩ (.int .i64 lb)) (fun _ => False) C B bef aft l c made N kv tv m [(gD, 57, [.int .i64 kind, .int .i64 day, .string code, .string other, .int .i64 al, .int .i64 ah, .int .i64 bl, .int .i64 bh]), (gS, 48, [.string code, .int .i64 p1.lo, .int .i64 p1.hi, .int .i64 p2.lo, .int .i64 p2.hi, .int .i64 mx, .int .i64 lb, .slice fa fn fc]), (gO, 48, [.string other, .int .i64 dl2, .int .i64 dh2, .int .i64 wl2, .int .i64 wh2, .int .i64 pil2, .int .i64 boi2, .slice fa2 fn2 fc2])] from DA2.out.setLoc1 1 [.string code, .int .i64 p1.lo, .int .i64 p1.hi, .int .i64 p2.lo, .int .i64 p2.hi, .int .i64 mx] [.slice fa fn fc] (.int .i64 boi) (.int .i64 lb) 6 rfl rfl (by decide))
    clear DA2
    generalize ((v3.setCell ⟨gS, 5, none⟩ (.int .i64 mx)).setCell ⟨gS, 6, none⟩ (.int .i64 lb)) = v50 at DK7 ⊢
    have s7 := (show v50.cell? ⟨gS, 7, none⟩ = some (.slice fa fn fc) from DK7.out.at 1 7 rfl rfl)
    have o7 := (show v50.cell? ⟨gO, 7, none⟩ = some (.slice fa2 fn2 fc2) from DK7.out.at 2 7 rfl rfl)
    have HR1 := Lib.hid (show v50.ownsRow 0 3 1 (.slice fa fn fc) src.length (intCells src) from DK7.out.book.froms _ (List.mem_of_getElem? HP.out))
    have HR2 := Lib.hid (show v50.ownsRow 0 3 1 (.slice fa2 fn2 fc2) src2.length (intCells src2) from DK7.out.book.froms _ (List.mem_of_getElem? HP2.out))
    go_upto_region 6 with (go_at_call 80; go_must (refine (joined_calls HR1.out HR2.out HN1.out HN2.out HL1.out HL2.out HA1.out HA2.out).mono ?_); rintro e v51 ⟨v, rfl, hb, ho⟩; obtain ⟨va, vn, vc, rfl⟩ := row_slice ho; have DK8 := Lib.hid (DK7.out.below hb); have HOV := Lib.hid ho; have HZV := Lib.hid hb.size; have hc7 := (show v51.cell? ⟨gS, 7, none⟩ = some (.slice fa fn fc) from DK8.out.at 1 7 rfl rfl); have hf7 := (DK8.out.loc 1 _ _ _ rfl).1.frozen 7; clear hb ho)
    clear hc7 hf7 s7 o7 HR1 HR2
    have HOV2 := Lib.hid (row_setCell HOV.out (DK8.out.loc 1 _ _ _ rfl).1 (by decide) 7 (.slice va vn vc))
    have HFG := Lib.hid (show ∀ g, (Value.slice va vn vc).ownBlock = some g → w.heap.size ≤ g from fun g hg => Nat.le_trans DK7.out.beside.size (HOV.out.lt g hg).1)
    have DK9 := Lib.hid (show Desk w (v51.setCell ⟨gS, 7, none⟩ (.slice va vn vc)) (fun _ => False) C B bef aft l c made N kv tv m [(gD, 57, [.int .i64 kind, .int .i64 day, .string code, .string other, .int .i64 al, .int .i64 ah, .int .i64 bl, .int .i64 bh]), (gS, 48, [.string code, .int .i64 p1.lo, .int .i64 p1.hi, .int .i64 p2.lo, .int .i64 p2.hi, .int .i64 mx, .int .i64 lb, .slice va vn vc]), (gO, 48, [.string other, .int .i64 dl2, .int .i64 dh2, .int .i64 wl2, .int .i64 wh2, .int .i64 pil2, .int .i64 boi2, .slice fa2 fn2 fc2])] from DK8.out.setLoc1 1 [.string code, .int .i64 p1.lo, .int .i64 p1.hi, .int .i64 p2.lo, .int .i64 p2.hi, .int .i64 mx, .int .i64 lb] [] (.slice fa fn fc) (.slice va vn vc) 7 rfl rfl (by decide))
    clear DK8
    generalize (v51.setCell ⟨gS, 7, none⟩ (.slice va vn vc)) = v52 at DK9 HOV2 ⊢
    have q0 := cell_regrown (show v52.cell? ⟨gO, 0, none⟩ = some (.string other) from DK9.out.at 2 0 rfl rfl)
    refine region_split_below 5 (by kernel_rfl) (by kernel_rfl) (by kernel_rfl) ?_
    simp only [List.take_succ_cons, List.take_zero, List.drop_succ_cons, List.drop_zero]
    repeat (go_big_quiet_step (fail))
    refine wpQuiet_nil ?_
    intro v53 hw'
    have hb8 : Below v52.heap.size v52 v53 := by obtain ⟨⟨dq, osq⟩, hw''⟩ := hw'; rw [hw'']; exact below_regrown v52 dq osq
    clear hw' q0
    have DK10 := Lib.hid (show Desk w v53 (fun _ => False) C B bef aft l c made N kv tv m [(gD, 57, [.int .i64 kind, .int .i64 day, .string code, .string other, .int .i64 al, .int .i64 ah, .int .i64 bl, .int .i64 bh]), (gS, 48, [.string code, .int .i64 p1.lo, .int .i64 p1.hi, .int .i64 p2.lo, .int .i64 p2.hi, .int .i64 mx, .int .i64 lb, .slice va vn vc]), (gO, 48, [.string other, .int .i64 dl2, .int .i64 dh2, .int .i64 wl2, .int .i64 wh2, .int .i64 pil2, .int .i64 boi2, .slice fa2 fn2 fc2])] from DK9.out.below hb8)
    clear DK9
    have HB8 := Lib.hid hb8; clear hb8
    have HOV3 := Lib.hid (row_same HOV2.out (fun g hg => HB8.out.block g (row_lt HOV2.out hg)))
    go_upto_region 7 with (go_at_call 81; go_must (refine (drop_calls DK10.out.book other HSO.out HK2.out HP2.out HN.out).mono ?_); rintro e w9 ⟨rfl, hb9, kv9, tv9, hk9⟩; have HB9 := Lib.hid hb9; have HK9 := Lib.hid hk9; clear hb9 hk9)
    have HS9 := Lib.hid (HB9.out.blk (DK10.out.loc 1 _ _ _ rfl).1 (DK10.out.far 1 rfl).2.2.1)
    have s0 := (show w9.cell? ⟨gS, 0, none⟩ = some (.string code) from HS9.out.at 0 _ rfl)
    have s1 := (show w9.cell? ⟨gS, 1, none⟩ = some (.int .i64 p1.lo) from HS9.out.at 1 _ rfl)
    have s2 := (show w9.cell? ⟨gS, 2, none⟩ = some (.int .i64 p1.hi) from HS9.out.at 2 _ rfl)
    have s3 := (show w9.cell? ⟨gS, 3, none⟩ = some (.int .i64 p2.lo) from HS9.out.at 3 _ rfl)
    have s4 := (show w9.cell? ⟨gS, 4, none⟩ = some (.int .i64 p2.hi) from HS9.out.at 4 _ rfl)
    have s5 := (show w9.cell? ⟨gS, 5, none⟩ = some (.int .i64 mx) from HS9.out.at 5 _ rfl)
    have s6 := (show w9.cell? ⟨gS, 6, none⟩ = some (.int .i64 lb) from HS9.out.at 6 _ rfl)
    have s7 := (show w9.cell? ⟨gS, 7, none⟩ = some (.slice va vn vc) from HS9.out.at 7 _ rfl)
    have HQ := Lib.hid (row_base (row_same HOV3.out (fun g hg => HB9.out.block g (row_lt HOV3.out hg) (fun hc => absurd (HC.out g hc) (Nat.not_lt.2 (HFG.out g hg))))))
    have HP9 := Lib.hid (get_less HP.out HNE.out)
    have HK9i := Lib.hid (show ixOf (l.eraseIdx k2) code = some (lessIx k k2) from ixOf_at (erase_codes DK10.out.book.codes k2) HP9.out)
    go_wp2_with (go_at_call 70; go_must (refine (keep_old HK9.out ⟨code, p1, p2, mx, lb, both src src2⟩ va vn vc HP9.out HK9i.out rfl HQ.out HLB.out).mono ?_); rintro e wa ⟨rfl, hba, hka⟩; have HBA := Lib.hid hba; have HKA := Lib.hid hka; clear hba hka)
    go_end0
    have emx : mx = max pil pil2 := by rw [← HMX.out]; exact if_max2 pil pil2
    have zlb := Elb.out; have zp1 := Ep1.out; have zp2 := Ep2.out
    subst zlb zp1 zp2 emx
    refine ⟨rfl, ((DK10.out.beside.mono (C1 := C) (fun _ f => f.elim)).trans HB9.out (fun k hk => .inl hk)).trans HBA.out (fun k hk => .inl hk), _, kv9, tv9, ?_, HKA.out.wide (fun k hk => .inl hk)⟩
    rw [set_less _ (by simpa using HKL.out) HNE.out]
    simp [List.map_set, map_erase]

set_option maxRecDepth 100000 in
set_option maxHeartbeats 1000000 in
theorem merge_same {w : World} {C : Nat → Prop} {B : Nat} {bef aft : Int} {l : List SRow} {c : Yd.Acc} {made : Int} {N : Nat} {kv tv : Value} {m : Nat} (h : Book w C B bef aft l c made N kv tv m)
    (kind day : Int) (code : Code) (al ah bl bh : Int) (hs : code.size ≤ maxLen) (hC : ∀ k, C k → k < w.heap.size) (dl dh wl wh pil boi : Int) (src : List Int) (fa : Option Addr) (fn fc : Nat) {k : Nat} (hk : ixOf l code = some k) (hp : l[k]? = some (⟨code, ⟨dl, dh⟩, ⟨wl, wh⟩, pil, boi, src⟩, .slice fa fn fc)) :
    Calls Try.prog 66 #[.pointer (some ⟨B, 0, none⟩), .agg #[.int .i64 kind, .int .i64 day, .string code, .string code, .int .i64 al, .int .i64 ah, .int .i64 bl, .int .i64 bh]] w fun e w' => e = .panicked (faulty 1) ∧ Below w.heap.size w w' := by
  have HS := Lib.hid hs; have HK := Lib.hid hk; have HP := Lib.hid hp
  clear hs hk hp
  have DK1 := Lib.hid (boxed_deed h hC [.int .i64 kind, .int .i64 day, .string code, .string code, .int .i64 al, .int .i64 ah, .int .i64 bl, .int .i64 bh])
  go_enter Try.func66, Try.ntmps66
  go_upto_region 1 with fail
  generalize (w.alloc (.cells #[.int .i64 kind, .int .i64 day, .string code, .string code, .int .i64 al, .int .i64 ah, .int .i64 bl, .int .i64 bh] 57)) = w1 at DK1 ⊢
  obtain ⟨gD, hgD⟩ : ∃ g, g = w.heap.size := ⟨_, rfl⟩
  rw [← hgD] at DK1 ⊢
  clear hgD
  go_cut [4, 5] from 6 to 13 (fun u v wx => ∃ gS gO : Nat, u = .pointer (some ⟨gS, 0, none⟩) ∧ v = .pointer (some ⟨gO, 0, none⟩) ∧ Hid (Desk w wx (fun _ => False) C B bef aft l c made N kv tv m [(gD, 57, [.int .i64 kind, .int .i64 day, .string code, .string code, .int .i64 al, .int .i64 ah, .int .i64 bl, .int .i64 bh]), (gS, 48, [.string code, .int .i64 dl, .int .i64 dh, .int .i64 wl, .int .i64 wh, .int .i64 pil, .int .i64 boi, .slice fa fn fc]), (gO, 48, [.string code, .int .i64 dl, .int .i64 dh, .int .i64 wl, .int .i64 wh, .int .i64 pil, .int .i64 boi, .slice fa fn fc])]))
  case first =>
    have hmix : Try.prog.follows .mixedOrders = true := by kernel_rfl
    refine region_till [11] (fun w' => Blk w' gD 57 #[.int .i64 kind, .int .i64 day, .string code, .string code, .int .i64 al, .int .i64 ah, .int .i64 bl, .int .i64 bh]) 12 [false, false, false, false, false, false, false, false, false, false, false, false] hmix rfl rfl ?_
    have DK2 := Lib.hid (DK1.out.drew)
    clear DK1 hmix
    generalize w1.drew = v0 at DK2 ⊢
    have HT := Lib.hid (show (fun w' => Blk w' gD 57 #[.int .i64 kind, .int .i64 day, .string code, .string code, .int .i64 al, .int .i64 ah, .int .i64 bl, .int .i64 bh]) v0 from (DK2.out.loc 0 _ _ _ rfl).1)
    refine till_pure (i := 0) (v := .pointer (some ⟨B, 0, none⟩)) rfl rfl (by kernel_rfl) (fun _ _ _ h => h) (yields_of rfl (fun w' _ => by simp [go_sem])) (fun _ => HT.out) ?_
    simp only [List.setIfInBounds_toArray, List.set_cons_succ, List.set_cons_zero]
    refine till_pure (i := 1) (v := .pointer (some ⟨gD, 2, none⟩)) rfl rfl (by kernel_rfl) (fun _ _ _ h => h) (yields_of rfl (fun w' _ => by simp [go_sem])) (fun _ => HT.out) ?_
    simp only [List.setIfInBounds_toArray, List.set_cons_succ, List.set_cons_zero]
    refine till_load (i := 2) (v := .string code) rfl rfl (by kernel_rfl) (fun _ _ _ h => h) (yields_of rfl (fun w' hw' => by have hcx := Blk.at hw' 2 (.string code) rfl; simp [go_sem, hcx])) (fun _ => HT.out) ?_
    simp only [List.setIfInBounds_toArray, List.set_cons_succ, List.set_cons_zero]
    refine till_pure (i := 4) (v := .pointer (some ⟨B, 0, none⟩)) rfl rfl (by kernel_rfl) (fun _ _ _ h => h) (yields_of rfl (fun w' _ => by simp [go_sem])) (fun _ => HT.out) ?_
    simp only [List.setIfInBounds_toArray, List.set_cons_succ, List.set_cons_zero]
    refine till_pure (i := 5) (v := .pointer (some ⟨gD, 3, none⟩)) rfl rfl (by kernel_rfl) (fun _ _ _ h => h) (yields_of rfl (fun w' _ => by simp [go_sem])) (fun _ => HT.out) ?_
    simp only [List.setIfInBounds_toArray, List.set_cons_succ, List.set_cons_zero]
    refine till_load (i := 6) (v := .string code) rfl rfl (by kernel_rfl) (fun _ _ _ h => h) (yields_of rfl (fun w' hw' => by have hcx := Blk.at hw' 3 (.string code) rfl; simp [go_sem, hcx])) (fun _ => HT.out) ?_
    simp only [List.setIfInBounds_toArray, List.set_cons_succ, List.set_cons_zero]
    refine till_three (i := 3) (j := 8) (k := 9) (by kernel_rfl) rfl rfl rfl ?_ ?_ ?_
    · go_wp2_with (go_at_call 71; refine (stack_yes DK2.out.book code HS.out HK.out HP.out).mono ?_; rintro e v1 ⟨rfl, hb⟩; have DK3 := Lib.hid (DK2.out.below hb); clear hb)
      have HT := Lib.hid (show (fun w' => Blk w' gD 57 #[.int .i64 kind, .int .i64 day, .string code, .string code, .int .i64 al, .int .i64 ah, .int .i64 bl, .int .i64 bh]) v1 from (DK3.out.loc 0 _ _ _ rfl).1)
      refine ⟨fun _ => HT.out, ?_⟩
      try simp only [List.setIfInBounds_toArray, List.set_cons_succ, List.set_cons_zero]
      refine till_three (i := 7) (j := 8) (k := 9) (by kernel_rfl) rfl rfl rfl ?_ ?_ ?_
      · go_wp2_with (go_at_call 71; refine (stack_yes DK3.out.book code HS.out HK.out HP.out).mono ?_; rintro e v2 ⟨rfl, hb⟩; have DK4 := Lib.hid (DK3.out.below hb); clear hb)
        have HT := Lib.hid (show (fun w' => Blk w' gD 57 #[.int .i64 kind, .int .i64 day, .string code, .string code, .int .i64 al, .int .i64 ah, .int .i64 bl, .int .i64 bh]) v2 from (DK4.out.loc 0 _ _ _ rfl).1)
        refine ⟨fun _ => HT.out, ?_⟩
        try simp only [List.setIfInBounds_toArray, List.set_cons_succ, List.set_cons_zero]
        refine till_two (i := 8) (j := 9) (by kernel_rfl) rfl rfl ?_ ?_
        · go_wp2_with fail
          have DK5 := Lib.hid (show Desk w (v2.alloc (.cells #[.string ⟨#[]⟩, .int .i64 0, .int .i64 0, .int .i64 0, .int .i64 0, .int .i64 0, .int .i64 0, .slice none 0 0] 48)) (fun _ => False) C B bef aft l c made N kv tv m [(gD, 57, [.int .i64 kind, .int .i64 day, .string code, .string code, .int .i64 al, .int .i64 ah, .int .i64 bl, .int .i64 bh]), (v2.heap.size, 48, [.string ⟨#[]⟩, .int .i64 0, .int .i64 0, .int .i64 0, .int .i64 0, .int .i64 0, .int .i64 0, .slice none 0 0])] from DK4.out.alloc 48 [.string ⟨#[]⟩, .int .i64 0, .int .i64 0, .int .i64 0, .int .i64 0, .int .i64 0, .int .i64 0, .slice none 0 0] rfl)
          generalize (v2.alloc (.cells #[.string ⟨#[]⟩, .int .i64 0, .int .i64 0, .int .i64 0, .int .i64 0, .int .i64 0, .int .i64 0, .slice none 0 0] 48)) = v3 at DK5 ⊢
          generalize v2.heap.size = gS at DK5 ⊢
          have HT := Lib.hid (show (fun w' => Blk w' gD 57 #[.int .i64 kind, .int .i64 day, .string code, .string code, .int .i64 al, .int .i64 ah, .int .i64 bl, .int .i64 bh]) v3 from (DK5.out.loc 0 _ _ _ rfl).1)
          refine ⟨fun _ => HT.out, ?_⟩
          try simp only [List.setIfInBounds_toArray, List.set_cons_succ, List.set_cons_zero]
          refine till_only (j := 9) (by kernel_rfl) rfl ?_
          go_wp2_with fail
          have DK6 := Lib.hid (show Desk w (v3.alloc (.cells #[.string ⟨#[]⟩, .int .i64 0, .int .i64 0, .int .i64 0, .int .i64 0, .int .i64 0, .int .i64 0, .slice none 0 0] 48)) (fun _ => False) C B bef aft l c made N kv tv m [(gD, 57, [.int .i64 kind, .int .i64 day, .string code, .string code, .int .i64 al, .int .i64 ah, .int .i64 bl, .int .i64 bh]), (gS, 48, [.string ⟨#[]⟩, .int .i64 0, .int .i64 0, .int .i64 0, .int .i64 0, .int .i64 0, .int .i64 0, .slice none 0 0]), (v3.heap.size, 48, [.string ⟨#[]⟩, .int .i64 0, .int .i64 0, .int .i64 0, .int .i64 0, .int .i64 0, .int .i64 0, .slice none 0 0])] from DK5.out.alloc 48 [.string ⟨#[]⟩, .int .i64 0, .int .i64 0, .int .i64 0, .int .i64 0, .int .i64 0, .int .i64 0, .slice none 0 0] rfl)
          generalize (v3.alloc (.cells #[.string ⟨#[]⟩, .int .i64 0, .int .i64 0, .int .i64 0, .int .i64 0, .int .i64 0, .int .i64 0, .slice none 0 0] 48)) = v4 at DK6 ⊢
          generalize v3.heap.size = gO at DK6 ⊢
          have HT := Lib.hid (show (fun w' => Blk w' gD 57 #[.int .i64 kind, .int .i64 day, .string code, .string code, .int .i64 al, .int .i64 ah, .int .i64 bl, .int .i64 bh]) v4 from (DK6.out.loc 0 _ _ _ rfl).1)
          refine ⟨fun _ => HT.out, ?_⟩
          try simp only [List.setIfInBounds_toArray, List.set_cons_succ, List.set_cons_zero]
          refine till_only (j := 10) (by kernel_rfl) rfl ?_
          have HE := Lib.hid (show v4.there gS 0 8 from (DK6.out.loc 1 _ _ _ rfl).1.there (o := 0) (n := 8) (Nat.le_of_ble_eq_true rfl))
          have HO := Lib.hid (show (#[.string code, .int .i64 dl, .int .i64 dh, .int .i64 wl, .int .i64 wh, .int .i64 pil, .int .i64 boi, .slice fa fn fc] : Array Value).all (·.oneCell') = true from by simp [Value.oneCell'])
          refine wpList_store_mid rfl 48 (.tmp 4) (.tmp 9) rfl gS 0 #[.string code, .int .i64 dl, .int .i64 dh, .int .i64 wl, .int .i64 wh, .int .i64 pil, .int .i64 boi, .slice fa fn fc] rfl rfl HE.out size_stack HO.out ?_
          change wpList _ _ _ _ _ (v4.setCells gS 0 [.string code, .int .i64 dl, .int .i64 dh, .int .i64 wl, .int .i64 wh, .int .i64 pil, .int .i64 boi, .slice fa fn fc])
          clear HE HO
          have DK7 := Lib.hid (show Desk w (v4.setCells gS 0 [.string code, .int .i64 dl, .int .i64 dh, .int .i64 wl, .int .i64 wh, .int .i64 pil, .int .i64 boi, .slice fa fn fc]) (fun _ => False) C B bef aft l c made N kv tv m [(gD, 57, [.int .i64 kind, .int .i64 day, .string code, .string code, .int .i64 al, .int .i64 ah, .int .i64 bl, .int .i64 bh]), (gS, 48, [.string code, .int .i64 dl, .int .i64 dh, .int .i64 wl, .int .i64 wh, .int .i64 pil, .int .i64 boi, .slice fa fn fc]), (gO, 48, [.string ⟨#[]⟩, .int .i64 0, .int .i64 0, .int .i64 0, .int .i64 0, .int .i64 0, .int .i64 0, .slice none 0 0])] from DK6.out.setLoc 1 [] [.string ⟨#[]⟩, .int .i64 0, .int .i64 0, .int .i64 0, .int .i64 0, .int .i64 0, .int .i64 0, .slice none 0 0] [] [.string code, .int .i64 dl, .int .i64 dh, .int .i64 wl, .int .i64 wh, .int .i64 pil, .int .i64 boi, .slice fa fn fc] rfl rfl (by decide))
          clear DK6
          generalize (v4.setCells gS 0 [.string code, .int .i64 dl, .int .i64 dh, .int .i64 wl, .int .i64 wh, .int .i64 pil, .int .i64 boi, .slice fa fn fc]) = v5 at DK7 ⊢
          change Till _ _ _ _ ∧ wpAnyT _ _ _ _ _ _ _ _ _ _
          have HT := Lib.hid (show (fun w' => Blk w' gD 57 #[.int .i64 kind, .int .i64 day, .string code, .string code, .int .i64 al, .int .i64 ah, .int .i64 bl, .int .i64 bh]) v5 from (DK7.out.loc 0 _ _ _ rfl).1)
          refine ⟨fun _ => HT.out, ?_⟩
          try simp only [List.setIfInBounds_toArray, List.set_cons_succ, List.set_cons_zero]
          refine till_only (j := 11) (by kernel_rfl) rfl ?_
          have HE := Lib.hid (show v5.there gO 0 8 from (DK7.out.loc 2 _ _ _ rfl).1.there (o := 0) (n := 8) (Nat.le_of_ble_eq_true rfl))
          have HO := Lib.hid (show (#[.string code, .int .i64 dl, .int .i64 dh, .int .i64 wl, .int .i64 wh, .int .i64 pil, .int .i64 boi, .slice fa fn fc] : Array Value).all (·.oneCell') = true from by simp [Value.oneCell'])
          refine wpList_store_mid rfl 48 (.tmp 5) (.tmp 13) rfl gO 0 #[.string code, .int .i64 dl, .int .i64 dh, .int .i64 wl, .int .i64 wh, .int .i64 pil, .int .i64 boi, .slice fa fn fc] rfl rfl HE.out size_stack HO.out ?_
          change wpList _ _ _ _ _ (v5.setCells gO 0 [.string code, .int .i64 dl, .int .i64 dh, .int .i64 wl, .int .i64 wh, .int .i64 pil, .int .i64 boi, .slice fa fn fc])
          clear HE HO
          have DK8 := Lib.hid (show Desk w (v5.setCells gO 0 [.string code, .int .i64 dl, .int .i64 dh, .int .i64 wl, .int .i64 wh, .int .i64 pil, .int .i64 boi, .slice fa fn fc]) (fun _ => False) C B bef aft l c made N kv tv m [(gD, 57, [.int .i64 kind, .int .i64 day, .string code, .string code, .int .i64 al, .int .i64 ah, .int .i64 bl, .int .i64 bh]), (gS, 48, [.string code, .int .i64 dl, .int .i64 dh, .int .i64 wl, .int .i64 wh, .int .i64 pil, .int .i64 boi, .slice fa fn fc]), (gO, 48, [.string code, .int .i64 dl, .int .i64 dh, .int .i64 wl, .int .i64 wh, .int .i64 pil, .int .i64 boi, .slice fa fn fc])] from DK7.out.setLoc 2 [] [.string ⟨#[]⟩, .int .i64 0, .int .i64 0, .int .i64 0, .int .i64 0, .int .i64 0, .int .i64 0, .slice none 0 0] [] [.string code, .int .i64 dl, .int .i64 dh, .int .i64 wl, .int .i64 wh, .int .i64 pil, .int .i64 boi, .slice fa fn fc] rfl rfl (by decide))
          clear DK7
          generalize (v5.setCells gO 0 [.string code, .int .i64 dl, .int .i64 dh, .int .i64 wl, .int .i64 wh, .int .i64 pil, .int .i64 boi, .slice fa fn fc]) = v6 at DK8 ⊢
          change Till _ _ _ _ ∧ wpAnyT _ _ _ _ _ _ _ _ _ _
          refine ⟨fun h => by simp at h, ?_⟩
          try simp only [List.setIfInBounds_toArray, List.set_cons_succ, List.set_cons_zero]
          refine till_done (by kernel_rfl) ?_
          go_wp2_with fail
          go_meet
          case rel => exact ⟨_, _, rfl, rfl, DK8⟩
        · go_wp2_with fail
          have DK5 := Lib.hid (show Desk w (v2.alloc (.cells #[.string ⟨#[]⟩, .int .i64 0, .int .i64 0, .int .i64 0, .int .i64 0, .int .i64 0, .int .i64 0, .slice none 0 0] 48)) (fun _ => False) C B bef aft l c made N kv tv m [(gD, 57, [.int .i64 kind, .int .i64 day, .string code, .string code, .int .i64 al, .int .i64 ah, .int .i64 bl, .int .i64 bh]), (v2.heap.size, 48, [.string ⟨#[]⟩, .int .i64 0, .int .i64 0, .int .i64 0, .int .i64 0, .int .i64 0, .int .i64 0, .slice none 0 0])] from DK4.out.alloc 48 [.string ⟨#[]⟩, .int .i64 0, .int .i64 0, .int .i64 0, .int .i64 0, .int .i64 0, .int .i64 0, .slice none 0 0] rfl)
          generalize (v2.alloc (.cells #[.string ⟨#[]⟩, .int .i64 0, .int .i64 0, .int .i64 0, .int .i64 0, .int .i64 0, .int .i64 0, .slice none 0 0] 48)) = v3 at DK5 ⊢
          generalize v2.heap.size = gO at DK5 ⊢
          have HT := Lib.hid (show (fun w' => Blk w' gD 57 #[.int .i64 kind, .int .i64 day, .string code, .string code, .int .i64 al, .int .i64 ah, .int .i64 bl, .int .i64 bh]) v3 from (DK5.out.loc 0 _ _ _ rfl).1)
          refine ⟨fun _ => HT.out, ?_⟩
          try simp only [List.setIfInBounds_toArray, List.set_cons_succ, List.set_cons_zero]
          refine till_only (j := 8) (by kernel_rfl) rfl ?_
          go_wp2_with fail
          have DK6 := Lib.hid (show Desk w (v3.alloc (.cells #[.string ⟨#[]⟩, .int .i64 0, .int .i64 0, .int .i64 0, .int .i64 0, .int .i64 0, .int .i64 0, .slice none 0 0] 48)) (fun _ => False) C B bef aft l c made N kv tv m [(gD, 57, [.int .i64 kind, .int .i64 day, .string code, .string code, .int .i64 al, .int .i64 ah, .int .i64 bl, .int .i64 bh]), (gO, 48, [.string ⟨#[]⟩, .int .i64 0, .int .i64 0, .int .i64 0, .int .i64 0, .int .i64 0, .int .i64 0, .slice none 0 0]), (v3.heap.size, 48, [.string ⟨#[]⟩, .int .i64 0, .int .i64 0, .int .i64 0, .int .i64 0, .int .i64 0, .int .i64 0, .slice none 0 0])] from DK5.out.alloc 48 [.string ⟨#[]⟩, .int .i64 0, .int .i64 0, .int .i64 0, .int .i64 0, .int .i64 0, .int .i64 0, .slice none 0 0] rfl)
          generalize (v3.alloc (.cells #[.string ⟨#[]⟩, .int .i64 0, .int .i64 0, .int .i64 0, .int .i64 0, .int .i64 0, .int .i64 0, .slice none 0 0] 48)) = v4 at DK6 ⊢
          generalize v3.heap.size = gS at DK6 ⊢
          have HT := Lib.hid (show (fun w' => Blk w' gD 57 #[.int .i64 kind, .int .i64 day, .string code, .string code, .int .i64 al, .int .i64 ah, .int .i64 bl, .int .i64 bh]) v4 from (DK6.out.loc 0 _ _ _ rfl).1)
          refine ⟨fun _ => HT.out, ?_⟩
          try simp only [List.setIfInBounds_toArray, List.set_cons_succ, List.set_cons_zero]
          refine till_only (j := 10) (by kernel_rfl) rfl ?_
          have HE := Lib.hid (show v4.there gS 0 8 from (DK6.out.loc 2 _ _ _ rfl).1.there (o := 0) (n := 8) (Nat.le_of_ble_eq_true rfl))
          have HO := Lib.hid (show (#[.string code, .int .i64 dl, .int .i64 dh, .int .i64 wl, .int .i64 wh, .int .i64 pil, .int .i64 boi, .slice fa fn fc] : Array Value).all (·.oneCell') = true from by simp [Value.oneCell'])
          refine wpList_store_mid rfl 48 (.tmp 4) (.tmp 9) rfl gS 0 #[.string code, .int .i64 dl, .int .i64 dh, .int .i64 wl, .int .i64 wh, .int .i64 pil, .int .i64 boi, .slice fa fn fc] rfl rfl HE.out size_stack HO.out ?_
          change wpList _ _ _ _ _ (v4.setCells gS 0 [.string code, .int .i64 dl, .int .i64 dh, .int .i64 wl, .int .i64 wh, .int .i64 pil, .int .i64 boi, .slice fa fn fc])
          clear HE HO
          have DK7 := Lib.hid (show Desk w (v4.setCells gS 0 [.string code, .int .i64 dl, .int .i64 dh, .int .i64 wl, .int .i64 wh, .int .i64 pil, .int .i64 boi, .slice fa fn fc]) (fun _ => False) C B bef aft l c made N kv tv m [(gD, 57, [.int .i64 kind, .int .i64 day, .string code, .string code, .int .i64 al, .int .i64 ah, .int .i64 bl, .int .i64 bh]), (gO, 48, [.string ⟨#[]⟩, .int .i64 0, .int .i64 0, .int .i64 0, .int .i64 0, .int .i64 0, .int .i64 0, .slice none 0 0]), (gS, 48, [.string code, .int .i64 dl, .int .i64 dh, .int .i64 wl, .int .i64 wh, .int .i64 pil, .int .i64 boi, .slice fa fn fc])] from DK6.out.setLoc 2 [] [.string ⟨#[]⟩, .int .i64 0, .int .i64 0, .int .i64 0, .int .i64 0, .int .i64 0, .int .i64 0, .slice none 0 0] [] [.string code, .int .i64 dl, .int .i64 dh, .int .i64 wl, .int .i64 wh, .int .i64 pil, .int .i64 boi, .slice fa fn fc] rfl rfl (by decide))
          clear DK6
          generalize (v4.setCells gS 0 [.string code, .int .i64 dl, .int .i64 dh, .int .i64 wl, .int .i64 wh, .int .i64 pil, .int .i64 boi, .slice fa fn fc]) = v5 at DK7 ⊢
          change Till _ _ _ _ ∧ wpAnyT _ _ _ _ _ _ _ _ _ _
          have HT := Lib.hid (show (fun w' => Blk w' gD 57 #[.int .i64 kind, .int .i64 day, .string code, .string code, .int .i64 al, .int .i64 ah, .int .i64 bl, .int .i64 bh]) v5 from (DK7.out.loc 0 _ _ _ rfl).1)
          refine ⟨fun _ => HT.out, ?_⟩
          try simp only [List.setIfInBounds_toArray, List.set_cons_succ, List.set_cons_zero]
          refine till_only (j := 11) (by kernel_rfl) rfl ?_
          have HE := Lib.hid (show v5.there gO 0 8 from (DK7.out.loc 1 _ _ _ rfl).1.there (o := 0) (n := 8) (Nat.le_of_ble_eq_true rfl))
          have HO := Lib.hid (show (#[.string code, .int .i64 dl, .int .i64 dh, .int .i64 wl, .int .i64 wh, .int .i64 pil, .int .i64 boi, .slice fa fn fc] : Array Value).all (·.oneCell') = true from by simp [Value.oneCell'])
          refine wpList_store_mid rfl 48 (.tmp 5) (.tmp 13) rfl gO 0 #[.string code, .int .i64 dl, .int .i64 dh, .int .i64 wl, .int .i64 wh, .int .i64 pil, .int .i64 boi, .slice fa fn fc] rfl rfl HE.out size_stack HO.out ?_
          change wpList _ _ _ _ _ (v5.setCells gO 0 [.string code, .int .i64 dl, .int .i64 dh, .int .i64 wl, .int .i64 wh, .int .i64 pil, .int .i64 boi, .slice fa fn fc])
          clear HE HO
          have DK8 := Lib.hid (show Desk w (v5.setCells gO 0 [.string code, .int .i64 dl, .int .i64 dh, .int .i64 wl, .int .i64 wh, .int .i64 pil, .int .i64 boi, .slice fa fn fc]) (fun _ => False) C B bef aft l c made N kv tv m [(gD, 57, [.int .i64 kind, .int .i64 day, .string code, .string code, .int .i64 al, .int .i64 ah, .int .i64 bl, .int .i64 bh]), (gO, 48, [.string code, .int .i64 dl, .int .i64 dh, .int .i64 wl, .int .i64 wh, .int .i64 pil, .int .i64 boi, .slice fa fn fc]), (gS, 48, [.string code, .int .i64 dl, .int .i64 dh, .int .i64 wl, .int .i64 wh, .int .i64 pil, .int .i64 boi, .slice fa fn fc])] from DK7.out.setLoc 1 [] [.string ⟨#[]⟩, .int .i64 0, .int .i64 0, .int .i64 0, .int .i64 0, .int .i64 0, .int .i64 0, .slice none 0 0] [] [.string code, .int .i64 dl, .int .i64 dh, .int .i64 wl, .int .i64 wh, .int .i64 pil, .int .i64 boi, .slice fa fn fc] rfl rfl (by decide))
          clear DK7
          generalize (v5.setCells gO 0 [.string code, .int .i64 dl, .int .i64 dh, .int .i64 wl, .int .i64 wh, .int .i64 pil, .int .i64 boi, .slice fa fn fc]) = v6 at DK8 ⊢
          change Till _ _ _ _ ∧ wpAnyT _ _ _ _ _ _ _ _ _ _
          refine ⟨fun h => by simp at h, ?_⟩
          try simp only [List.setIfInBounds_toArray, List.set_cons_succ, List.set_cons_zero]
          refine till_done (by kernel_rfl) ?_
          go_wp2_with fail
          go_meet
          case rel => exact ⟨_, _, rfl, rfl, Lib.hid DK8.out.swap⟩
      · go_wp2_with fail
        have DK4 := Lib.hid (show Desk w (v1.alloc (.cells #[.string ⟨#[]⟩, .int .i64 0, .int .i64 0, .int .i64 0, .int .i64 0, .int .i64 0, .int .i64 0, .slice none 0 0] 48)) (fun _ => False) C B bef aft l c made N kv tv m [(gD, 57, [.int .i64 kind, .int .i64 day, .string code, .string code, .int .i64 al, .int .i64 ah, .int .i64 bl, .int .i64 bh]), (v1.heap.size, 48, [.string ⟨#[]⟩, .int .i64 0, .int .i64 0, .int .i64 0, .int .i64 0, .int .i64 0, .int .i64 0, .slice none 0 0])] from DK3.out.alloc 48 [.string ⟨#[]⟩, .int .i64 0, .int .i64 0, .int .i64 0, .int .i64 0, .int .i64 0, .int .i64 0, .slice none 0 0] rfl)
        generalize (v1.alloc (.cells #[.string ⟨#[]⟩, .int .i64 0, .int .i64 0, .int .i64 0, .int .i64 0, .int .i64 0, .int .i64 0, .slice none 0 0] 48)) = v2 at DK4 ⊢
        generalize v1.heap.size = gS at DK4 ⊢
        have HT := Lib.hid (show (fun w' => Blk w' gD 57 #[.int .i64 kind, .int .i64 day, .string code, .string code, .int .i64 al, .int .i64 ah, .int .i64 bl, .int .i64 bh]) v2 from (DK4.out.loc 0 _ _ _ rfl).1)
        refine ⟨fun _ => HT.out, ?_⟩
        try simp only [List.setIfInBounds_toArray, List.set_cons_succ, List.set_cons_zero]
        refine till_two (i := 7) (j := 9) (by kernel_rfl) rfl rfl ?_ ?_
        · go_wp2_with (go_at_call 71; refine (stack_yes DK4.out.book code HS.out HK.out HP.out).mono ?_; rintro e v3 ⟨rfl, hb⟩; have DK5 := Lib.hid (DK4.out.below hb); clear hb)
          have HT := Lib.hid (show (fun w' => Blk w' gD 57 #[.int .i64 kind, .int .i64 day, .string code, .string code, .int .i64 al, .int .i64 ah, .int .i64 bl, .int .i64 bh]) v3 from (DK5.out.loc 0 _ _ _ rfl).1)
          refine ⟨fun _ => HT.out, ?_⟩
          try simp only [List.setIfInBounds_toArray, List.set_cons_succ, List.set_cons_zero]
          refine till_only (j := 9) (by kernel_rfl) rfl ?_
          go_wp2_with fail
          have DK6 := Lib.hid (show Desk w (v3.alloc (.cells #[.string ⟨#[]⟩, .int .i64 0, .int .i64 0, .int .i64 0, .int .i64 0, .int .i64 0, .int .i64 0, .slice none 0 0] 48)) (fun _ => False) C B bef aft l c made N kv tv m [(gD, 57, [.int .i64 kind, .int .i64 day, .string code, .string code, .int .i64 al, .int .i64 ah, .int .i64 bl, .int .i64 bh]), (gS, 48, [.string ⟨#[]⟩, .int .i64 0, .int .i64 0, .int .i64 0, .int .i64 0, .int .i64 0, .int .i64 0, .slice none 0 0]), (v3.heap.size, 48, [.string ⟨#[]⟩, .int .i64 0, .int .i64 0, .int .i64 0, .int .i64 0, .int .i64 0, .int .i64 0, .slice none 0 0])] from DK5.out.alloc 48 [.string ⟨#[]⟩, .int .i64 0, .int .i64 0, .int .i64 0, .int .i64 0, .int .i64 0, .int .i64 0, .slice none 0 0] rfl)
          generalize (v3.alloc (.cells #[.string ⟨#[]⟩, .int .i64 0, .int .i64 0, .int .i64 0, .int .i64 0, .int .i64 0, .int .i64 0, .slice none 0 0] 48)) = v4 at DK6 ⊢
          generalize v3.heap.size = gO at DK6 ⊢
          have HT := Lib.hid (show (fun w' => Blk w' gD 57 #[.int .i64 kind, .int .i64 day, .string code, .string code, .int .i64 al, .int .i64 ah, .int .i64 bl, .int .i64 bh]) v4 from (DK6.out.loc 0 _ _ _ rfl).1)
          refine ⟨fun _ => HT.out, ?_⟩
          try simp only [List.setIfInBounds_toArray, List.set_cons_succ, List.set_cons_zero]
          refine till_only (j := 10) (by kernel_rfl) rfl ?_
          have HE := Lib.hid (show v4.there gS 0 8 from (DK6.out.loc 1 _ _ _ rfl).1.there (o := 0) (n := 8) (Nat.le_of_ble_eq_true rfl))
          have HO := Lib.hid (show (#[.string code, .int .i64 dl, .int .i64 dh, .int .i64 wl, .int .i64 wh, .int .i64 pil, .int .i64 boi, .slice fa fn fc] : Array Value).all (·.oneCell') = true from by simp [Value.oneCell'])
          refine wpList_store_mid rfl 48 (.tmp 4) (.tmp 9) rfl gS 0 #[.string code, .int .i64 dl, .int .i64 dh, .int .i64 wl, .int .i64 wh, .int .i64 pil, .int .i64 boi, .slice fa fn fc] rfl rfl HE.out size_stack HO.out ?_
          change wpList _ _ _ _ _ (v4.setCells gS 0 [.string code, .int .i64 dl, .int .i64 dh, .int .i64 wl, .int .i64 wh, .int .i64 pil, .int .i64 boi, .slice fa fn fc])
          clear HE HO
          have DK7 := Lib.hid (show Desk w (v4.setCells gS 0 [.string code, .int .i64 dl, .int .i64 dh, .int .i64 wl, .int .i64 wh, .int .i64 pil, .int .i64 boi, .slice fa fn fc]) (fun _ => False) C B bef aft l c made N kv tv m [(gD, 57, [.int .i64 kind, .int .i64 day, .string code, .string code, .int .i64 al, .int .i64 ah, .int .i64 bl, .int .i64 bh]), (gS, 48, [.string code, .int .i64 dl, .int .i64 dh, .int .i64 wl, .int .i64 wh, .int .i64 pil, .int .i64 boi, .slice fa fn fc]), (gO, 48, [.string ⟨#[]⟩, .int .i64 0, .int .i64 0, .int .i64 0, .int .i64 0, .int .i64 0, .int .i64 0, .slice none 0 0])] from DK6.out.setLoc 1 [] [.string ⟨#[]⟩, .int .i64 0, .int .i64 0, .int .i64 0, .int .i64 0, .int .i64 0, .int .i64 0, .slice none 0 0] [] [.string code, .int .i64 dl, .int .i64 dh, .int .i64 wl, .int .i64 wh, .int .i64 pil, .int .i64 boi, .slice fa fn fc] rfl rfl (by decide))
          clear DK6
          generalize (v4.setCells gS 0 [.string code, .int .i64 dl, .int .i64 dh, .int .i64 wl, .int .i64 wh, .int .i64 pil, .int .i64 boi, .slice fa fn fc]) = v5 at DK7 ⊢
          change Till _ _ _ _ ∧ wpAnyT _ _ _ _ _ _ _ _ _ _
          have HT := Lib.hid (show (fun w' => Blk w' gD 57 #[.int .i64 kind, .int .i64 day, .string code, .string code, .int .i64 al, .int .i64 ah, .int .i64 bl, .int .i64 bh]) v5 from (DK7.out.loc 0 _ _ _ rfl).1)
          refine ⟨fun _ => HT.out, ?_⟩
          try simp only [List.setIfInBounds_toArray, List.set_cons_succ, List.set_cons_zero]
          refine till_only (j := 11) (by kernel_rfl) rfl ?_
          have HE := Lib.hid (show v5.there gO 0 8 from (DK7.out.loc 2 _ _ _ rfl).1.there (o := 0) (n := 8) (Nat.le_of_ble_eq_true rfl))
          have HO := Lib.hid (show (#[.string code, .int .i64 dl, .int .i64 dh, .int .i64 wl, .int .i64 wh, .int .i64 pil, .int .i64 boi, .slice fa fn fc] : Array Value).all (·.oneCell') = true from by simp [Value.oneCell'])
          refine wpList_store_mid rfl 48 (.tmp 5) (.tmp 13) rfl gO 0 #[.string code, .int .i64 dl, .int .i64 dh, .int .i64 wl, .int .i64 wh, .int .i64 pil, .int .i64 boi, .slice fa fn fc] rfl rfl HE.out size_stack HO.out ?_
          change wpList _ _ _ _ _ (v5.setCells gO 0 [.string code, .int .i64 dl, .int .i64 dh, .int .i64 wl, .int .i64 wh, .int .i64 pil, .int .i64 boi, .slice fa fn fc])
          clear HE HO
          have DK8 := Lib.hid (show Desk w (v5.setCells gO 0 [.string code, .int .i64 dl, .int .i64 dh, .int .i64 wl, .int .i64 wh, .int .i64 pil, .int .i64 boi, .slice fa fn fc]) (fun _ => False) C B bef aft l c made N kv tv m [(gD, 57, [.int .i64 kind, .int .i64 day, .string code, .string code, .int .i64 al, .int .i64 ah, .int .i64 bl, .int .i64 bh]), (gS, 48, [.string code, .int .i64 dl, .int .i64 dh, .int .i64 wl, .int .i64 wh, .int .i64 pil, .int .i64 boi, .slice fa fn fc]), (gO, 48, [.string code, .int .i64 dl, .int .i64 dh, .int .i64 wl, .int .i64 wh, .int .i64 pil, .int .i64 boi, .slice fa fn fc])] from DK7.out.setLoc 2 [] [.string ⟨#[]⟩, .int .i64 0, .int .i64 0, .int .i64 0, .int .i64 0, .int .i64 0, .int .i64 0, .slice none 0 0] [] [.string code, .int .i64 dl, .int .i64 dh, .int .i64 wl, .int .i64 wh, .int .i64 pil, .int .i64 boi, .slice fa fn fc] rfl rfl (by decide))
          clear DK7
          generalize (v5.setCells gO 0 [.string code, .int .i64 dl, .int .i64 dh, .int .i64 wl, .int .i64 wh, .int .i64 pil, .int .i64 boi, .slice fa fn fc]) = v6 at DK8 ⊢
          change Till _ _ _ _ ∧ wpAnyT _ _ _ _ _ _ _ _ _ _
          refine ⟨fun h => by simp at h, ?_⟩
          try simp only [List.setIfInBounds_toArray, List.set_cons_succ, List.set_cons_zero]
          refine till_done (by kernel_rfl) ?_
          go_wp2_with fail
          go_meet
          case rel => exact ⟨_, _, rfl, rfl, DK8⟩
        · go_wp2_with fail
          have DK5 := Lib.hid (show Desk w (v2.alloc (.cells #[.string ⟨#[]⟩, .int .i64 0, .int .i64 0, .int .i64 0, .int .i64 0, .int .i64 0, .int .i64 0, .slice none 0 0] 48)) (fun _ => False) C B bef aft l c made N kv tv m [(gD, 57, [.int .i64 kind, .int .i64 day, .string code, .string code, .int .i64 al, .int .i64 ah, .int .i64 bl, .int .i64 bh]), (gS, 48, [.string ⟨#[]⟩, .int .i64 0, .int .i64 0, .int .i64 0, .int .i64 0, .int .i64 0, .int .i64 0, .slice none 0 0]), (v2.heap.size, 48, [.string ⟨#[]⟩, .int .i64 0, .int .i64 0, .int .i64 0, .int .i64 0, .int .i64 0, .int .i64 0, .slice none 0 0])] from DK4.out.alloc 48 [.string ⟨#[]⟩, .int .i64 0, .int .i64 0, .int .i64 0, .int .i64 0, .int .i64 0, .int .i64 0, .slice none 0 0] rfl)
          generalize (v2.alloc (.cells #[.string ⟨#[]⟩, .int .i64 0, .int .i64 0, .int .i64 0, .int .i64 0, .int .i64 0, .int .i64 0, .slice none 0 0] 48)) = v3 at DK5 ⊢
          generalize v2.heap.size = gO at DK5 ⊢
          have HT := Lib.hid (show (fun w' => Blk w' gD 57 #[.int .i64 kind, .int .i64 day, .string code, .string code, .int .i64 al, .int .i64 ah, .int .i64 bl, .int .i64 bh]) v3 from (DK5.out.loc 0 _ _ _ rfl).1)
          refine ⟨fun _ => HT.out, ?_⟩
          try simp only [List.setIfInBounds_toArray, List.set_cons_succ, List.set_cons_zero]
          refine till_only (j := 7) (by kernel_rfl) rfl ?_
          go_wp2_with (go_at_call 71; refine (stack_yes DK5.out.book code HS.out HK.out HP.out).mono ?_; rintro e v4 ⟨rfl, hb⟩; have DK6 := Lib.hid (DK5.out.below hb); clear hb)
          have HT := Lib.hid (show (fun w' => Blk w' gD 57 #[.int .i64 kind, .int .i64 day, .string code, .string code, .int .i64 al, .int .i64 ah, .int .i64 bl, .int .i64 bh]) v4 from (DK6.out.loc 0 _ _ _ rfl).1)
          refine ⟨fun _ => HT.out, ?_⟩
          try simp only [List.setIfInBounds_toArray, List.set_cons_succ, List.set_cons_zero]
          refine till_only (j := 10) (by kernel_rfl) rfl ?_
          have HE := Lib.hid (show v4.there gS 0 8 from (DK6.out.loc 1 _ _ _ rfl).1.there (o := 0) (n := 8) (Nat.le_of_ble_eq_true rfl))
          have HO := Lib.hid (show (#[.string code, .int .i64 dl, .int .i64 dh, .int .i64 wl, .int .i64 wh, .int .i64 pil, .int .i64 boi, .slice fa fn fc] : Array Value).all (·.oneCell') = true from by simp [Value.oneCell'])
          refine wpList_store_mid rfl 48 (.tmp 4) (.tmp 9) rfl gS 0 #[.string code, .int .i64 dl, .int .i64 dh, .int .i64 wl, .int .i64 wh, .int .i64 pil, .int .i64 boi, .slice fa fn fc] rfl rfl HE.out size_stack HO.out ?_
          change wpList _ _ _ _ _ (v4.setCells gS 0 [.string code, .int .i64 dl, .int .i64 dh, .int .i64 wl, .int .i64 wh, .int .i64 pil, .int .i64 boi, .slice fa fn fc])
          clear HE HO
          have DK7 := Lib.hid (show Desk w (v4.setCells gS 0 [.string code, .int .i64 dl, .int .i64 dh, .int .i64 wl, .int .i64 wh, .int .i64 pil, .int .i64 boi, .slice fa fn fc]) (fun _ => False) C B bef aft l c made N kv tv m [(gD, 57, [.int .i64 kind, .int .i64 day, .string code, .string code, .int .i64 al, .int .i64 ah, .int .i64 bl, .int .i64 bh]), (gS, 48, [.string code, .int .i64 dl, .int .i64 dh, .int .i64 wl, .int .i64 wh, .int .i64 pil, .int .i64 boi, .slice fa fn fc]), (gO, 48, [.string ⟨#[]⟩, .int .i64 0, .int .i64 0, .int .i64 0, .int .i64 0, .int .i64 0, .int .i64 0, .slice none 0 0])] from DK6.out.setLoc 1 [] [.string ⟨#[]⟩, .int .i64 0, .int .i64 0, .int .i64 0, .int .i64 0, .int .i64 0, .int .i64 0, .slice none 0 0] [] [.string code, .int .i64 dl, .int .i64 dh, .int .i64 wl, .int .i64 wh, .int .i64 pil, .int .i64 boi, .slice fa fn fc] rfl rfl (by decide))
          clear DK6
          generalize (v4.setCells gS 0 [.string code, .int .i64 dl, .int .i64 dh, .int .i64 wl, .int .i64 wh, .int .i64 pil, .int .i64 boi, .slice fa fn fc]) = v5 at DK7 ⊢
          change Till _ _ _ _ ∧ wpAnyT _ _ _ _ _ _ _ _ _ _
          have HT := Lib.hid (show (fun w' => Blk w' gD 57 #[.int .i64 kind, .int .i64 day, .string code, .string code, .int .i64 al, .int .i64 ah, .int .i64 bl, .int .i64 bh]) v5 from (DK7.out.loc 0 _ _ _ rfl).1)
          refine ⟨fun _ => HT.out, ?_⟩
          try simp only [List.setIfInBounds_toArray, List.set_cons_succ, List.set_cons_zero]
          refine till_only (j := 11) (by kernel_rfl) rfl ?_
          have HE := Lib.hid (show v5.there gO 0 8 from (DK7.out.loc 2 _ _ _ rfl).1.there (o := 0) (n := 8) (Nat.le_of_ble_eq_true rfl))
          have HO := Lib.hid (show (#[.string code, .int .i64 dl, .int .i64 dh, .int .i64 wl, .int .i64 wh, .int .i64 pil, .int .i64 boi, .slice fa fn fc] : Array Value).all (·.oneCell') = true from by simp [Value.oneCell'])
          refine wpList_store_mid rfl 48 (.tmp 5) (.tmp 13) rfl gO 0 #[.string code, .int .i64 dl, .int .i64 dh, .int .i64 wl, .int .i64 wh, .int .i64 pil, .int .i64 boi, .slice fa fn fc] rfl rfl HE.out size_stack HO.out ?_
          change wpList _ _ _ _ _ (v5.setCells gO 0 [.string code, .int .i64 dl, .int .i64 dh, .int .i64 wl, .int .i64 wh, .int .i64 pil, .int .i64 boi, .slice fa fn fc])
          clear HE HO
          have DK8 := Lib.hid (show Desk w (v5.setCells gO 0 [.string code, .int .i64 dl, .int .i64 dh, .int .i64 wl, .int .i64 wh, .int .i64 pil, .int .i64 boi, .slice fa fn fc]) (fun _ => False) C B bef aft l c made N kv tv m [(gD, 57, [.int .i64 kind, .int .i64 day, .string code, .string code, .int .i64 al, .int .i64 ah, .int .i64 bl, .int .i64 bh]), (gS, 48, [.string code, .int .i64 dl, .int .i64 dh, .int .i64 wl, .int .i64 wh, .int .i64 pil, .int .i64 boi, .slice fa fn fc]), (gO, 48, [.string code, .int .i64 dl, .int .i64 dh, .int .i64 wl, .int .i64 wh, .int .i64 pil, .int .i64 boi, .slice fa fn fc])] from DK7.out.setLoc 2 [] [.string ⟨#[]⟩, .int .i64 0, .int .i64 0, .int .i64 0, .int .i64 0, .int .i64 0, .int .i64 0, .slice none 0 0] [] [.string code, .int .i64 dl, .int .i64 dh, .int .i64 wl, .int .i64 wh, .int .i64 pil, .int .i64 boi, .slice fa fn fc] rfl rfl (by decide))
          clear DK7
          generalize (v5.setCells gO 0 [.string code, .int .i64 dl, .int .i64 dh, .int .i64 wl, .int .i64 wh, .int .i64 pil, .int .i64 boi, .slice fa fn fc]) = v6 at DK8 ⊢
          change Till _ _ _ _ ∧ wpAnyT _ _ _ _ _ _ _ _ _ _
          refine ⟨fun h => by simp at h, ?_⟩
          try simp only [List.setIfInBounds_toArray, List.set_cons_succ, List.set_cons_zero]
          refine till_done (by kernel_rfl) ?_
          go_wp2_with fail
          go_meet
          case rel => exact ⟨_, _, rfl, rfl, DK8⟩
      · go_wp2_with fail
        have DK4 := Lib.hid (show Desk w (v1.alloc (.cells #[.string ⟨#[]⟩, .int .i64 0, .int .i64 0, .int .i64 0, .int .i64 0, .int .i64 0, .int .i64 0, .slice none 0 0] 48)) (fun _ => False) C B bef aft l c made N kv tv m [(gD, 57, [.int .i64 kind, .int .i64 day, .string code, .string code, .int .i64 al, .int .i64 ah, .int .i64 bl, .int .i64 bh]), (v1.heap.size, 48, [.string ⟨#[]⟩, .int .i64 0, .int .i64 0, .int .i64 0, .int .i64 0, .int .i64 0, .int .i64 0, .slice none 0 0])] from DK3.out.alloc 48 [.string ⟨#[]⟩, .int .i64 0, .int .i64 0, .int .i64 0, .int .i64 0, .int .i64 0, .int .i64 0, .slice none 0 0] rfl)
        generalize (v1.alloc (.cells #[.string ⟨#[]⟩, .int .i64 0, .int .i64 0, .int .i64 0, .int .i64 0, .int .i64 0, .int .i64 0, .slice none 0 0] 48)) = v2 at DK4 ⊢
        generalize v1.heap.size = gO at DK4 ⊢
        have HT := Lib.hid (show (fun w' => Blk w' gD 57 #[.int .i64 kind, .int .i64 day, .string code, .string code, .int .i64 al, .int .i64 ah, .int .i64 bl, .int .i64 bh]) v2 from (DK4.out.loc 0 _ _ _ rfl).1)
        refine ⟨fun _ => HT.out, ?_⟩
        try simp only [List.setIfInBounds_toArray, List.set_cons_succ, List.set_cons_zero]
        refine till_two (i := 7) (j := 8) (by kernel_rfl) rfl rfl ?_ ?_
        · go_wp2_with (go_at_call 71; refine (stack_yes DK4.out.book code HS.out HK.out HP.out).mono ?_; rintro e v3 ⟨rfl, hb⟩; have DK5 := Lib.hid (DK4.out.below hb); clear hb)
          have HT := Lib.hid (show (fun w' => Blk w' gD 57 #[.int .i64 kind, .int .i64 day, .string code, .string code, .int .i64 al, .int .i64 ah, .int .i64 bl, .int .i64 bh]) v3 from (DK5.out.loc 0 _ _ _ rfl).1)
          refine ⟨fun _ => HT.out, ?_⟩
          try simp only [List.setIfInBounds_toArray, List.set_cons_succ, List.set_cons_zero]
          refine till_only (j := 8) (by kernel_rfl) rfl ?_
          go_wp2_with fail
          have DK6 := Lib.hid (show Desk w (v3.alloc (.cells #[.string ⟨#[]⟩, .int .i64 0, .int .i64 0, .int .i64 0, .int .i64 0, .int .i64 0, .int .i64 0, .slice none 0 0] 48)) (fun _ => False) C B bef aft l c made N kv tv m [(gD, 57, [.int .i64 kind, .int .i64 day, .string code, .string code, .int .i64 al, .int .i64 ah, .int .i64 bl, .int .i64 bh]), (gO, 48, [.string ⟨#[]⟩, .int .i64 0, .int .i64 0, .int .i64 0, .int .i64 0, .int .i64 0, .int .i64 0, .slice none 0 0]), (v3.heap.size, 48, [.string ⟨#[]⟩, .int .i64 0, .int .i64 0, .int .i64 0, .int .i64 0, .int .i64 0, .int .i64 0, .slice none 0 0])] from DK5.out.alloc 48 [.string ⟨#[]⟩, .int .i64 0, .int .i64 0, .int .i64 0, .int .i64 0, .int .i64 0, .int .i64 0, .slice none 0 0] rfl)
          generalize (v3.alloc (.cells #[.string ⟨#[]⟩, .int .i64 0, .int .i64 0, .int .i64 0, .int .i64 0, .int .i64 0, .int .i64 0, .slice none 0 0] 48)) = v4 at DK6 ⊢
          generalize v3.heap.size = gS at DK6 ⊢
          have HT := Lib.hid (show (fun w' => Blk w' gD 57 #[.int .i64 kind, .int .i64 day, .string code, .string code, .int .i64 al, .int .i64 ah, .int .i64 bl, .int .i64 bh]) v4 from (DK6.out.loc 0 _ _ _ rfl).1)
          refine ⟨fun _ => HT.out, ?_⟩
          try simp only [List.setIfInBounds_toArray, List.set_cons_succ, List.set_cons_zero]
          refine till_only (j := 10) (by kernel_rfl) rfl ?_
          have HE := Lib.hid (show v4.there gS 0 8 from (DK6.out.loc 2 _ _ _ rfl).1.there (o := 0) (n := 8) (Nat.le_of_ble_eq_true rfl))
          have HO := Lib.hid (show (#[.string code, .int .i64 dl, .int .i64 dh, .int .i64 wl, .int .i64 wh, .int .i64 pil, .int .i64 boi, .slice fa fn fc] : Array Value).all (·.oneCell') = true from by simp [Value.oneCell'])
          refine wpList_store_mid rfl 48 (.tmp 4) (.tmp 9) rfl gS 0 #[.string code, .int .i64 dl, .int .i64 dh, .int .i64 wl, .int .i64 wh, .int .i64 pil, .int .i64 boi, .slice fa fn fc] rfl rfl HE.out size_stack HO.out ?_
          change wpList _ _ _ _ _ (v4.setCells gS 0 [.string code, .int .i64 dl, .int .i64 dh, .int .i64 wl, .int .i64 wh, .int .i64 pil, .int .i64 boi, .slice fa fn fc])
          clear HE HO
          have DK7 := Lib.hid (show Desk w (v4.setCells gS 0 [.string code, .int .i64 dl, .int .i64 dh, .int .i64 wl, .int .i64 wh, .int .i64 pil, .int .i64 boi, .slice fa fn fc]) (fun _ => False) C B bef aft l c made N kv tv m [(gD, 57, [.int .i64 kind, .int .i64 day, .string code, .string code, .int .i64 al, .int .i64 ah, .int .i64 bl, .int .i64 bh]), (gO, 48, [.string ⟨#[]⟩, .int .i64 0, .int .i64 0, .int .i64 0, .int .i64 0, .int .i64 0, .int .i64 0, .slice none 0 0]), (gS, 48, [.string code, .int .i64 dl, .int .i64 dh, .int .i64 wl, .int .i64 wh, .int .i64 pil, .int .i64 boi, .slice fa fn fc])] from DK6.out.setLoc 2 [] [.string ⟨#[]⟩, .int .i64 0, .int .i64 0, .int .i64 0, .int .i64 0, .int .i64 0, .int .i64 0, .slice none 0 0] [] [.string code, .int .i64 dl, .int .i64 dh, .int .i64 wl, .int .i64 wh, .int .i64 pil, .int .i64 boi, .slice fa fn fc] rfl rfl (by decide))
          clear DK6
          generalize (v4.setCells gS 0 [.string code, .int .i64 dl, .int .i64 dh, .int .i64 wl, .int .i64 wh, .int .i64 pil, .int .i64 boi, .slice fa fn fc]) = v5 at DK7 ⊢
          change Till _ _ _ _ ∧ wpAnyT _ _ _ _ _ _ _ _ _ _
          have HT := Lib.hid (show (fun w' => Blk w' gD 57 #[.int .i64 kind, .int .i64 day, .string code, .string code, .int .i64 al, .int .i64 ah, .int .i64 bl, .int .i64 bh]) v5 from (DK7.out.loc 0 _ _ _ rfl).1)
          refine ⟨fun _ => HT.out, ?_⟩
          try simp only [List.setIfInBounds_toArray, List.set_cons_succ, List.set_cons_zero]
          refine till_only (j := 11) (by kernel_rfl) rfl ?_
          have HE := Lib.hid (show v5.there gO 0 8 from (DK7.out.loc 1 _ _ _ rfl).1.there (o := 0) (n := 8) (Nat.le_of_ble_eq_true rfl))
          have HO := Lib.hid (show (#[.string code, .int .i64 dl, .int .i64 dh, .int .i64 wl, .int .i64 wh, .int .i64 pil, .int .i64 boi, .slice fa fn fc] : Array Value).all (·.oneCell') = true from by simp [Value.oneCell'])
          refine wpList_store_mid rfl 48 (.tmp 5) (.tmp 13) rfl gO 0 #[.string code, .int .i64 dl, .int .i64 dh, .int .i64 wl, .int .i64 wh, .int .i64 pil, .int .i64 boi, .slice fa fn fc] rfl rfl HE.out size_stack HO.out ?_
          change wpList _ _ _ _ _ (v5.setCells gO 0 [.string code, .int .i64 dl, .int .i64 dh, .int .i64 wl, .int .i64 wh, .int .i64 pil, .int .i64 boi, .slice fa fn fc])
          clear HE HO
          have DK8 := Lib.hid (show Desk w (v5.setCells gO 0 [.string code, .int .i64 dl, .int .i64 dh, .int .i64 wl, .int .i64 wh, .int .i64 pil, .int .i64 boi, .slice fa fn fc]) (fun _ => False) C B bef aft l c made N kv tv m [(gD, 57, [.int .i64 kind, .int .i64 day, .string code, .string code, .int .i64 al, .int .i64 ah, .int .i64 bl, .int .i64 bh]), (gO, 48, [.string code, .int .i64 dl, .int .i64 dh, .int .i64 wl, .int .i64 wh, .int .i64 pil, .int .i64 boi, .slice fa fn fc]), (gS, 48, [.string code, .int .i64 dl, .int .i64 dh, .int .i64 wl, .int .i64 wh, .int .i64 pil, .int .i64 boi, .slice fa fn fc])] from DK7.out.setLoc 1 [] [.string ⟨#[]⟩, .int .i64 0, .int .i64 0, .int .i64 0, .int .i64 0, .int .i64 0, .int .i64 0, .slice none 0 0] [] [.string code, .int .i64 dl, .int .i64 dh, .int .i64 wl, .int .i64 wh, .int .i64 pil, .int .i64 boi, .slice fa fn fc] rfl rfl (by decide))
          clear DK7
          generalize (v5.setCells gO 0 [.string code, .int .i64 dl, .int .i64 dh, .int .i64 wl, .int .i64 wh, .int .i64 pil, .int .i64 boi, .slice fa fn fc]) = v6 at DK8 ⊢
          change Till _ _ _ _ ∧ wpAnyT _ _ _ _ _ _ _ _ _ _
          refine ⟨fun h => by simp at h, ?_⟩
          try simp only [List.setIfInBounds_toArray, List.set_cons_succ, List.set_cons_zero]
          refine till_done (by kernel_rfl) ?_
          go_wp2_with fail
          go_meet
          case rel => exact ⟨_, _, rfl, rfl, Lib.hid DK8.out.swap⟩
        · go_wp2_with fail
          have DK5 := Lib.hid (show Desk w (v2.alloc (.cells #[.string ⟨#[]⟩, .int .i64 0, .int .i64 0, .int .i64 0, .int .i64 0, .int .i64 0, .int .i64 0, .slice none 0 0] 48)) (fun _ => False) C B bef aft l c made N kv tv m [(gD, 57, [.int .i64 kind, .int .i64 day, .string code, .string code, .int .i64 al, .int .i64 ah, .int .i64 bl, .int .i64 bh]), (gO, 48, [.string ⟨#[]⟩, .int .i64 0, .int .i64 0, .int .i64 0, .int .i64 0, .int .i64 0, .int .i64 0, .slice none 0 0]), (v2.heap.size, 48, [.string ⟨#[]⟩, .int .i64 0, .int .i64 0, .int .i64 0, .int .i64 0, .int .i64 0, .int .i64 0, .slice none 0 0])] from DK4.out.alloc 48 [.string ⟨#[]⟩, .int .i64 0, .int .i64 0, .int .i64 0, .int .i64 0, .int .i64 0, .int .i64 0, .slice none 0 0] rfl)
          generalize (v2.alloc (.cells #[.string ⟨#[]⟩, .int .i64 0, .int .i64 0, .int .i64 0, .int .i64 0, .int .i64 0, .int .i64 0, .slice none 0 0] 48)) = v3 at DK5 ⊢
          generalize v2.heap.size = gS at DK5 ⊢
          have HT := Lib.hid (show (fun w' => Blk w' gD 57 #[.int .i64 kind, .int .i64 day, .string code, .string code, .int .i64 al, .int .i64 ah, .int .i64 bl, .int .i64 bh]) v3 from (DK5.out.loc 0 _ _ _ rfl).1)
          refine ⟨fun _ => HT.out, ?_⟩
          try simp only [List.setIfInBounds_toArray, List.set_cons_succ, List.set_cons_zero]
          refine till_only (j := 7) (by kernel_rfl) rfl ?_
          go_wp2_with (go_at_call 71; refine (stack_yes DK5.out.book code HS.out HK.out HP.out).mono ?_; rintro e v4 ⟨rfl, hb⟩; have DK6 := Lib.hid (DK5.out.below hb); clear hb)
          have HT := Lib.hid (show (fun w' => Blk w' gD 57 #[.int .i64 kind, .int .i64 day, .string code, .string code, .int .i64 al, .int .i64 ah, .int .i64 bl, .int .i64 bh]) v4 from (DK6.out.loc 0 _ _ _ rfl).1)
          refine ⟨fun _ => HT.out, ?_⟩
          try simp only [List.setIfInBounds_toArray, List.set_cons_succ, List.set_cons_zero]
          refine till_only (j := 10) (by kernel_rfl) rfl ?_
          have HE := Lib.hid (show v4.there gS 0 8 from (DK6.out.loc 2 _ _ _ rfl).1.there (o := 0) (n := 8) (Nat.le_of_ble_eq_true rfl))
          have HO := Lib.hid (show (#[.string code, .int .i64 dl, .int .i64 dh, .int .i64 wl, .int .i64 wh, .int .i64 pil, .int .i64 boi, .slice fa fn fc] : Array Value).all (·.oneCell') = true from by simp [Value.oneCell'])
          refine wpList_store_mid rfl 48 (.tmp 4) (.tmp 9) rfl gS 0 #[.string code, .int .i64 dl, .int .i64 dh, .int .i64 wl, .int .i64 wh, .int .i64 pil, .int .i64 boi, .slice fa fn fc] rfl rfl HE.out size_stack HO.out ?_
          change wpList _ _ _ _ _ (v4.setCells gS 0 [.string code, .int .i64 dl, .int .i64 dh, .int .i64 wl, .int .i64 wh, .int .i64 pil, .int .i64 boi, .slice fa fn fc])
          clear HE HO
          have DK7 := Lib.hid (show Desk w (v4.setCells gS 0 [.string code, .int .i64 dl, .int .i64 dh, .int .i64 wl, .int .i64 wh, .int .i64 pil, .int .i64 boi, .slice fa fn fc]) (fun _ => False) C B bef aft l c made N kv tv m [(gD, 57, [.int .i64 kind, .int .i64 day, .string code, .string code, .int .i64 al, .int .i64 ah, .int .i64 bl, .int .i64 bh]), (gO, 48, [.string ⟨#[]⟩, .int .i64 0, .int .i64 0, .int .i64 0, .int .i64 0, .int .i64 0, .int .i64 0, .slice none 0 0]), (gS, 48, [.string code, .int .i64 dl, .int .i64 dh, .int .i64 wl, .int .i64 wh, .int .i64 pil, .int .i64 boi, .slice fa fn fc])] from DK6.out.setLoc 2 [] [.string ⟨#[]⟩, .int .i64 0, .int .i64 0, .int .i64 0, .int .i64 0, .int .i64 0, .int .i64 0, .slice none 0 0] [] [.string code, .int .i64 dl, .int .i64 dh, .int .i64 wl, .int .i64 wh, .int .i64 pil, .int .i64 boi, .slice fa fn fc] rfl rfl (by decide))
          clear DK6
          generalize (v4.setCells gS 0 [.string code, .int .i64 dl, .int .i64 dh, .int .i64 wl, .int .i64 wh, .int .i64 pil, .int .i64 boi, .slice fa fn fc]) = v5 at DK7 ⊢
          change Till _ _ _ _ ∧ wpAnyT _ _ _ _ _ _ _ _ _ _
          have HT := Lib.hid (show (fun w' => Blk w' gD 57 #[.int .i64 kind, .int .i64 day, .string code, .string code, .int .i64 al, .int .i64 ah, .int .i64 bl, .int .i64 bh]) v5 from (DK7.out.loc 0 _ _ _ rfl).1)
          refine ⟨fun _ => HT.out, ?_⟩
          try simp only [List.setIfInBounds_toArray, List.set_cons_succ, List.set_cons_zero]
          refine till_only (j := 11) (by kernel_rfl) rfl ?_
          have HE := Lib.hid (show v5.there gO 0 8 from (DK7.out.loc 1 _ _ _ rfl).1.there (o := 0) (n := 8) (Nat.le_of_ble_eq_true rfl))
          have HO := Lib.hid (show (#[.string code, .int .i64 dl, .int .i64 dh, .int .i64 wl, .int .i64 wh, .int .i64 pil, .int .i64 boi, .slice fa fn fc] : Array Value).all (·.oneCell') = true from by simp [Value.oneCell'])
          refine wpList_store_mid rfl 48 (.tmp 5) (.tmp 13) rfl gO 0 #[.string code, .int .i64 dl, .int .i64 dh, .int .i64 wl, .int .i64 wh, .int .i64 pil, .int .i64 boi, .slice fa fn fc] rfl rfl HE.out size_stack HO.out ?_
          change wpList _ _ _ _ _ (v5.setCells gO 0 [.string code, .int .i64 dl, .int .i64 dh, .int .i64 wl, .int .i64 wh, .int .i64 pil, .int .i64 boi, .slice fa fn fc])
          clear HE HO
          have DK8 := Lib.hid (show Desk w (v5.setCells gO 0 [.string code, .int .i64 dl, .int .i64 dh, .int .i64 wl, .int .i64 wh, .int .i64 pil, .int .i64 boi, .slice fa fn fc]) (fun _ => False) C B bef aft l c made N kv tv m [(gD, 57, [.int .i64 kind, .int .i64 day, .string code, .string code, .int .i64 al, .int .i64 ah, .int .i64 bl, .int .i64 bh]), (gO, 48, [.string code, .int .i64 dl, .int .i64 dh, .int .i64 wl, .int .i64 wh, .int .i64 pil, .int .i64 boi, .slice fa fn fc]), (gS, 48, [.string code, .int .i64 dl, .int .i64 dh, .int .i64 wl, .int .i64 wh, .int .i64 pil, .int .i64 boi, .slice fa fn fc])] from DK7.out.setLoc 1 [] [.string ⟨#[]⟩, .int .i64 0, .int .i64 0, .int .i64 0, .int .i64 0, .int .i64 0, .int .i64 0, .slice none 0 0] [] [.string code, .int .i64 dl, .int .i64 dh, .int .i64 wl, .int .i64 wh, .int .i64 pil, .int .i64 boi, .slice fa fn fc] rfl rfl (by decide))
          clear DK7
          generalize (v5.setCells gO 0 [.string code, .int .i64 dl, .int .i64 dh, .int .i64 wl, .int .i64 wh, .int .i64 pil, .int .i64 boi, .slice fa fn fc]) = v6 at DK8 ⊢
          change Till _ _ _ _ ∧ wpAnyT _ _ _ _ _ _ _ _ _ _
          refine ⟨fun h => by simp at h, ?_⟩
          try simp only [List.setIfInBounds_toArray, List.set_cons_succ, List.set_cons_zero]
          refine till_done (by kernel_rfl) ?_
          go_wp2_with fail
          go_meet
          case rel => exact ⟨_, _, rfl, rfl, Lib.hid DK8.out.swap⟩
    · go_wp2_with fail
      have DK3 := Lib.hid (show Desk w (v0.alloc (.cells #[.string ⟨#[]⟩, .int .i64 0, .int .i64 0, .int .i64 0, .int .i64 0, .int .i64 0, .int .i64 0, .slice none 0 0] 48)) (fun _ => False) C B bef aft l c made N kv tv m [(gD, 57, [.int .i64 kind, .int .i64 day, .string code, .string code, .int .i64 al, .int .i64 ah, .int .i64 bl, .int .i64 bh]), (v0.heap.size, 48, [.string ⟨#[]⟩, .int .i64 0, .int .i64 0, .int .i64 0, .int .i64 0, .int .i64 0, .int .i64 0, .slice none 0 0])] from DK2.out.alloc 48 [.string ⟨#[]⟩, .int .i64 0, .int .i64 0, .int .i64 0, .int .i64 0, .int .i64 0, .int .i64 0, .slice none 0 0] rfl)
      generalize (v0.alloc (.cells #[.string ⟨#[]⟩, .int .i64 0, .int .i64 0, .int .i64 0, .int .i64 0, .int .i64 0, .int .i64 0, .slice none 0 0] 48)) = v1 at DK3 ⊢
      generalize v0.heap.size = gS at DK3 ⊢
      have HT := Lib.hid (show (fun w' => Blk w' gD 57 #[.int .i64 kind, .int .i64 day, .string code, .string code, .int .i64 al, .int .i64 ah, .int .i64 bl, .int .i64 bh]) v1 from (DK3.out.loc 0 _ _ _ rfl).1)
      refine ⟨fun _ => HT.out, ?_⟩
      try simp only [List.setIfInBounds_toArray, List.set_cons_succ, List.set_cons_zero]
      refine till_two (i := 3) (j := 9) (by kernel_rfl) rfl rfl ?_ ?_
      · go_wp2_with (go_at_call 71; refine (stack_yes DK3.out.book code HS.out HK.out HP.out).mono ?_; rintro e v2 ⟨rfl, hb⟩; have DK4 := Lib.hid (DK3.out.below hb); clear hb)
        have HT := Lib.hid (show (fun w' => Blk w' gD 57 #[.int .i64 kind, .int .i64 day, .string code, .string code, .int .i64 al, .int .i64 ah, .int .i64 bl, .int .i64 bh]) v2 from (DK4.out.loc 0 _ _ _ rfl).1)
        refine ⟨fun _ => HT.out, ?_⟩
        try simp only [List.setIfInBounds_toArray, List.set_cons_succ, List.set_cons_zero]
        refine till_two (i := 7) (j := 9) (by kernel_rfl) rfl rfl ?_ ?_
        · go_wp2_with (go_at_call 71; refine (stack_yes DK4.out.book code HS.out HK.out HP.out).mono ?_; rintro e v3 ⟨rfl, hb⟩; have DK5 := Lib.hid (DK4.out.below hb); clear hb)
          have HT := Lib.hid (show (fun w' => Blk w' gD 57 #[.int .i64 kind, .int .i64 day, .string code, .string code, .int .i64 al, .int .i64 ah, .int .i64 bl, .int .i64 bh]) v3 from (DK5.out.loc 0 _ _ _ rfl).1)
          refine ⟨fun _ => HT.out, ?_⟩
          try simp only [List.setIfInBounds_toArray, List.set_cons_succ, List.set_cons_zero]
          refine till_only (j := 9) (by kernel_rfl) rfl ?_
          go_wp2_with fail
          have DK6 := Lib.hid (show Desk w (v3.alloc (.cells #[.string ⟨#[]⟩, .int .i64 0, .int .i64 0, .int .i64 0, .int .i64 0, .int .i64 0, .int .i64 0, .slice none 0 0] 48)) (fun _ => False) C B bef aft l c made N kv tv m [(gD, 57, [.int .i64 kind, .int .i64 day, .string code, .string code, .int .i64 al, .int .i64 ah, .int .i64 bl, .int .i64 bh]), (gS, 48, [.string ⟨#[]⟩, .int .i64 0, .int .i64 0, .int .i64 0, .int .i64 0, .int .i64 0, .int .i64 0, .slice none 0 0]), (v3.heap.size, 48, [.string ⟨#[]⟩, .int .i64 0, .int .i64 0, .int .i64 0, .int .i64 0, .int .i64 0, .int .i64 0, .slice none 0 0])] from DK5.out.alloc 48 [.string ⟨#[]⟩, .int .i64 0, .int .i64 0, .int .i64 0, .int .i64 0, .int .i64 0, .int .i64 0, .slice none 0 0] rfl)
          generalize (v3.alloc (.cells #[.string ⟨#[]⟩, .int .i64 0, .int .i64 0, .int .i64 0, .int .i64 0, .int .i64 0, .int .i64 0, .slice none 0 0] 48)) = v4 at DK6 ⊢
          generalize v3.heap.size = gO at DK6 ⊢
          have HT := Lib.hid (show (fun w' => Blk w' gD 57 #[.int .i64 kind, .int .i64 day, .string code, .string code, .int .i64 al, .int .i64 ah, .int .i64 bl, .int .i64 bh]) v4 from (DK6.out.loc 0 _ _ _ rfl).1)
          refine ⟨fun _ => HT.out, ?_⟩
          try simp only [List.setIfInBounds_toArray, List.set_cons_succ, List.set_cons_zero]
          refine till_only (j := 10) (by kernel_rfl) rfl ?_
          have HE := Lib.hid (show v4.there gS 0 8 from (DK6.out.loc 1 _ _ _ rfl).1.there (o := 0) (n := 8) (Nat.le_of_ble_eq_true rfl))
          have HO := Lib.hid (show (#[.string code, .int .i64 dl, .int .i64 dh, .int .i64 wl, .int .i64 wh, .int .i64 pil, .int .i64 boi, .slice fa fn fc] : Array Value).all (·.oneCell') = true from by simp [Value.oneCell'])
          refine wpList_store_mid rfl 48 (.tmp 4) (.tmp 9) rfl gS 0 #[.string code, .int .i64 dl, .int .i64 dh, .int .i64 wl, .int .i64 wh, .int .i64 pil, .int .i64 boi, .slice fa fn fc] rfl rfl HE.out size_stack HO.out ?_
          change wpList _ _ _ _ _ (v4.setCells gS 0 [.string code, .int .i64 dl, .int .i64 dh, .int .i64 wl, .int .i64 wh, .int .i64 pil, .int .i64 boi, .slice fa fn fc])
          clear HE HO
          have DK7 := Lib.hid (show Desk w (v4.setCells gS 0 [.string code, .int .i64 dl, .int .i64 dh, .int .i64 wl, .int .i64 wh, .int .i64 pil, .int .i64 boi, .slice fa fn fc]) (fun _ => False) C B bef aft l c made N kv tv m [(gD, 57, [.int .i64 kind, .int .i64 day, .string code, .string code, .int .i64 al, .int .i64 ah, .int .i64 bl, .int .i64 bh]), (gS, 48, [.string code, .int .i64 dl, .int .i64 dh, .int .i64 wl, .int .i64 wh, .int .i64 pil, .int .i64 boi, .slice fa fn fc]), (gO, 48, [.string ⟨#[]⟩, .int .i64 0, .int .i64 0, .int .i64 0, .int .i64 0, .int .i64 0, .int .i64 0, .slice none 0 0])] from DK6.out.setLoc 1 [] [.string ⟨#[]⟩, .int .i64 0, .int .i64 0, .int .i64 0, .int .i64 0, .int .i64 0, .int .i64 0, .slice none 0 0] [] [.string code, .int .i64 dl, .int .i64 dh, .int .i64 wl, .int .i64 wh, .int .i64 pil, .int .i64 boi, .slice fa fn fc] rfl rfl (by decide))
          clear DK6
          generalize (v4.setCells gS 0 [.string code, .int .i64 dl, .int .i64 dh, .int .i64 wl, .int .i64 wh, .int .i64 pil, .int .i64 boi, .slice fa fn fc]) = v5 at DK7 ⊢
          change Till _ _ _ _ ∧ wpAnyT _ _ _ _ _ _ _ _ _ _
          have HT := Lib.hid (show (fun w' => Blk w' gD 57 #[.int .i64 kind, .int .i64 day, .string code, .string code, .int .i64 al, .int .i64 ah, .int .i64 bl, .int .i64 bh]) v5 from (DK7.out.loc 0 _ _ _ rfl).1)
          refine ⟨fun _ => HT.out, ?_⟩
          try simp only [List.setIfInBounds_toArray, List.set_cons_succ, List.set_cons_zero]
          refine till_only (j := 11) (by kernel_rfl) rfl ?_
          have HE := Lib.hid (show v5.there gO 0 8 from (DK7.out.loc 2 _ _ _ rfl).1.there (o := 0) (n := 8) (Nat.le_of_ble_eq_true rfl))
          have HO := Lib.hid (show (#[.string code, .int .i64 dl, .int .i64 dh, .int .i64 wl, .int .i64 wh, .int .i64 pil, .int .i64 boi, .slice fa fn fc] : Array Value).all (·.oneCell') = true from by simp [Value.oneCell'])
          refine wpList_store_mid rfl 48 (.tmp 5) (.tmp 13) rfl gO 0 #[.string code, .int .i64 dl, .int .i64 dh, .int .i64 wl, .int .i64 wh, .int .i64 pil, .int .i64 boi, .slice fa fn fc] rfl rfl HE.out size_stack HO.out ?_
          change wpList _ _ _ _ _ (v5.setCells gO 0 [.string code, .int .i64 dl, .int .i64 dh, .int .i64 wl, .int .i64 wh, .int .i64 pil, .int .i64 boi, .slice fa fn fc])
          clear HE HO
          have DK8 := Lib.hid (show Desk w (v5.setCells gO 0 [.string code, .int .i64 dl, .int .i64 dh, .int .i64 wl, .int .i64 wh, .int .i64 pil, .int .i64 boi, .slice fa fn fc]) (fun _ => False) C B bef aft l c made N kv tv m [(gD, 57, [.int .i64 kind, .int .i64 day, .string code, .string code, .int .i64 al, .int .i64 ah, .int .i64 bl, .int .i64 bh]), (gS, 48, [.string code, .int .i64 dl, .int .i64 dh, .int .i64 wl, .int .i64 wh, .int .i64 pil, .int .i64 boi, .slice fa fn fc]), (gO, 48, [.string code, .int .i64 dl, .int .i64 dh, .int .i64 wl, .int .i64 wh, .int .i64 pil, .int .i64 boi, .slice fa fn fc])] from DK7.out.setLoc 2 [] [.string ⟨#[]⟩, .int .i64 0, .int .i64 0, .int .i64 0, .int .i64 0, .int .i64 0, .int .i64 0, .slice none 0 0] [] [.string code, .int .i64 dl, .int .i64 dh, .int .i64 wl, .int .i64 wh, .int .i64 pil, .int .i64 boi, .slice fa fn fc] rfl rfl (by decide))
          clear DK7
          generalize (v5.setCells gO 0 [.string code, .int .i64 dl, .int .i64 dh, .int .i64 wl, .int .i64 wh, .int .i64 pil, .int .i64 boi, .slice fa fn fc]) = v6 at DK8 ⊢
          change Till _ _ _ _ ∧ wpAnyT _ _ _ _ _ _ _ _ _ _
          refine ⟨fun h => by simp at h, ?_⟩
          try simp only [List.setIfInBounds_toArray, List.set_cons_succ, List.set_cons_zero]
          refine till_done (by kernel_rfl) ?_
          go_wp2_with fail
          go_meet
          case rel => exact ⟨_, _, rfl, rfl, DK8⟩
        · go_wp2_with fail
          have DK5 := Lib.hid (show Desk w (v2.alloc (.cells #[.string ⟨#[]⟩, .int .i64 0, .int .i64 0, .int .i64 0, .int .i64 0, .int .i64 0, .int .i64 0, .slice none 0 0] 48)) (fun _ => False) C B bef aft l c made N kv tv m [(gD, 57, [.int .i64 kind, .int .i64 day, .string code, .string code, .int .i64 al, .int .i64 ah, .int .i64 bl, .int .i64 bh]), (gS, 48, [.string ⟨#[]⟩, .int .i64 0, .int .i64 0, .int .i64 0, .int .i64 0, .int .i64 0, .int .i64 0, .slice none 0 0]), (v2.heap.size, 48, [.string ⟨#[]⟩, .int .i64 0, .int .i64 0, .int .i64 0, .int .i64 0, .int .i64 0, .int .i64 0, .slice none 0 0])] from DK4.out.alloc 48 [.string ⟨#[]⟩, .int .i64 0, .int .i64 0, .int .i64 0, .int .i64 0, .int .i64 0, .int .i64 0, .slice none 0 0] rfl)
          generalize (v2.alloc (.cells #[.string ⟨#[]⟩, .int .i64 0, .int .i64 0, .int .i64 0, .int .i64 0, .int .i64 0, .int .i64 0, .slice none 0 0] 48)) = v3 at DK5 ⊢
          generalize v2.heap.size = gO at DK5 ⊢
          have HT := Lib.hid (show (fun w' => Blk w' gD 57 #[.int .i64 kind, .int .i64 day, .string code, .string code, .int .i64 al, .int .i64 ah, .int .i64 bl, .int .i64 bh]) v3 from (DK5.out.loc 0 _ _ _ rfl).1)
          refine ⟨fun _ => HT.out, ?_⟩
          try simp only [List.setIfInBounds_toArray, List.set_cons_succ, List.set_cons_zero]
          refine till_only (j := 7) (by kernel_rfl) rfl ?_
          go_wp2_with (go_at_call 71; refine (stack_yes DK5.out.book code HS.out HK.out HP.out).mono ?_; rintro e v4 ⟨rfl, hb⟩; have DK6 := Lib.hid (DK5.out.below hb); clear hb)
          have HT := Lib.hid (show (fun w' => Blk w' gD 57 #[.int .i64 kind, .int .i64 day, .string code, .string code, .int .i64 al, .int .i64 ah, .int .i64 bl, .int .i64 bh]) v4 from (DK6.out.loc 0 _ _ _ rfl).1)
          refine ⟨fun _ => HT.out, ?_⟩
          try simp only [List.setIfInBounds_toArray, List.set_cons_succ, List.set_cons_zero]
          refine till_only (j := 10) (by kernel_rfl) rfl ?_
          have HE := Lib.hid (show v4.there gS 0 8 from (DK6.out.loc 1 _ _ _ rfl).1.there (o := 0) (n := 8) (Nat.le_of_ble_eq_true rfl))
          have HO := Lib.hid (show (#[.string code, .int .i64 dl, .int .i64 dh, .int .i64 wl, .int .i64 wh, .int .i64 pil, .int .i64 boi, .slice fa fn fc] : Array Value).all (·.oneCell') = true from by simp [Value.oneCell'])
          refine wpList_store_mid rfl 48 (.tmp 4) (.tmp 9) rfl gS 0 #[.string code, .int .i64 dl, .int .i64 dh, .int .i64 wl, .int .i64 wh, .int .i64 pil, .int .i64 boi, .slice fa fn fc] rfl rfl HE.out size_stack HO.out ?_
          change wpList _ _ _ _ _ (v4.setCells gS 0 [.string code, .int .i64 dl, .int .i64 dh, .int .i64 wl, .int .i64 wh, .int .i64 pil, .int .i64 boi, .slice fa fn fc])
          clear HE HO
          have DK7 := Lib.hid (show Desk w (v4.setCells gS 0 [.string code, .int .i64 dl, .int .i64 dh, .int .i64 wl, .int .i64 wh, .int .i64 pil, .int .i64 boi, .slice fa fn fc]) (fun _ => False) C B bef aft l c made N kv tv m [(gD, 57, [.int .i64 kind, .int .i64 day, .string code, .string code, .int .i64 al, .int .i64 ah, .int .i64 bl, .int .i64 bh]), (gS, 48, [.string code, .int .i64 dl, .int .i64 dh, .int .i64 wl, .int .i64 wh, .int .i64 pil, .int .i64 boi, .slice fa fn fc]), (gO, 48, [.string ⟨#[]⟩, .int .i64 0, .int .i64 0, .int .i64 0, .int .i64 0, .int .i64 0, .int .i64 0, .slice none 0 0])] from DK6.out.setLoc 1 [] [.string ⟨#[]⟩, .int .i64 0, .int .i64 0, .int .i64 0, .int .i64 0, .int .i64 0, .int .i64 0, .slice none 0 0] [] [.string code, .int .i64 dl, .int .i64 dh, .int .i64 wl, .int .i64 wh, .int .i64 pil, .int .i64 boi, .slice fa fn fc] rfl rfl (by decide))
          clear DK6
          generalize (v4.setCells gS 0 [.string code, .int .i64 dl, .int .i64 dh, .int .i64 wl, .int .i64 wh, .int .i64 pil, .int .i64 boi, .slice fa fn fc]) = v5 at DK7 ⊢
          change Till _ _ _ _ ∧ wpAnyT _ _ _ _ _ _ _ _ _ _
          have HT := Lib.hid (show (fun w' => Blk w' gD 57 #[.int .i64 kind, .int .i64 day, .string code, .string code, .int .i64 al, .int .i64 ah, .int .i64 bl, .int .i64 bh]) v5 from (DK7.out.loc 0 _ _ _ rfl).1)
          refine ⟨fun _ => HT.out, ?_⟩
          try simp only [List.setIfInBounds_toArray, List.set_cons_succ, List.set_cons_zero]
          refine till_only (j := 11) (by kernel_rfl) rfl ?_
          have HE := Lib.hid (show v5.there gO 0 8 from (DK7.out.loc 2 _ _ _ rfl).1.there (o := 0) (n := 8) (Nat.le_of_ble_eq_true rfl))
          have HO := Lib.hid (show (#[.string code, .int .i64 dl, .int .i64 dh, .int .i64 wl, .int .i64 wh, .int .i64 pil, .int .i64 boi, .slice fa fn fc] : Array Value).all (·.oneCell') = true from by simp [Value.oneCell'])
          refine wpList_store_mid rfl 48 (.tmp 5) (.tmp 13) rfl gO 0 #[.string code, .int .i64 dl, .int .i64 dh, .int .i64 wl, .int .i64 wh, .int .i64 pil, .int .i64 boi, .slice fa fn fc] rfl rfl HE.out size_stack HO.out ?_
          change wpList _ _ _ _ _ (v5.setCells gO 0 [.string code, .int .i64 dl, .int .i64 dh, .int .i64 wl, .int .i64 wh, .int .i64 pil, .int .i64 boi, .slice fa fn fc])
          clear HE HO
          have DK8 := Lib.hid (show Desk w (v5.setCells gO 0 [.string code, .int .i64 dl, .int .i64 dh, .int .i64 wl, .int .i64 wh, .int .i64 pil, .int .i64 boi, .slice fa fn fc]) (fun _ => False) C B bef aft l c made N kv tv m [(gD, 57, [.int .i64 kind, .int .i64 day, .string code, .string code, .int .i64 al, .int .i64 ah, .int .i64 bl, .int .i64 bh]), (gS, 48, [.string code, .int .i64 dl, .int .i64 dh, .int .i64 wl, .int .i64 wh, .int .i64 pil, .int .i64 boi, .slice fa fn fc]), (gO, 48, [.string code, .int .i64 dl, .int .i64 dh, .int .i64 wl, .int .i64 wh, .int .i64 pil, .int .i64 boi, .slice fa fn fc])] from DK7.out.setLoc 2 [] [.string ⟨#[]⟩, .int .i64 0, .int .i64 0, .int .i64 0, .int .i64 0, .int .i64 0, .int .i64 0, .slice none 0 0] [] [.string code, .int .i64 dl, .int .i64 dh, .int .i64 wl, .int .i64 wh, .int .i64 pil, .int .i64 boi, .slice fa fn fc] rfl rfl (by decide))
          clear DK7
          generalize (v5.setCells gO 0 [.string code, .int .i64 dl, .int .i64 dh, .int .i64 wl, .int .i64 wh, .int .i64 pil, .int .i64 boi, .slice fa fn fc]) = v6 at DK8 ⊢
          change Till _ _ _ _ ∧ wpAnyT _ _ _ _ _ _ _ _ _ _
          refine ⟨fun h => by simp at h, ?_⟩
          try simp only [List.setIfInBounds_toArray, List.set_cons_succ, List.set_cons_zero]
          refine till_done (by kernel_rfl) ?_
          go_wp2_with fail
          go_meet
          case rel => exact ⟨_, _, rfl, rfl, DK8⟩
      · go_wp2_with fail
        have DK4 := Lib.hid (show Desk w (v1.alloc (.cells #[.string ⟨#[]⟩, .int .i64 0, .int .i64 0, .int .i64 0, .int .i64 0, .int .i64 0, .int .i64 0, .slice none 0 0] 48)) (fun _ => False) C B bef aft l c made N kv tv m [(gD, 57, [.int .i64 kind, .int .i64 day, .string code, .string code, .int .i64 al, .int .i64 ah, .int .i64 bl, .int .i64 bh]), (gS, 48, [.string ⟨#[]⟩, .int .i64 0, .int .i64 0, .int .i64 0, .int .i64 0, .int .i64 0, .int .i64 0, .slice none 0 0]), (v1.heap.size, 48, [.string ⟨#[]⟩, .int .i64 0, .int .i64 0, .int .i64 0, .int .i64 0, .int .i64 0, .int .i64 0, .slice none 0 0])] from DK3.out.alloc 48 [.string ⟨#[]⟩, .int .i64 0, .int .i64 0, .int .i64 0, .int .i64 0, .int .i64 0, .int .i64 0, .slice none 0 0] rfl)
        generalize (v1.alloc (.cells #[.string ⟨#[]⟩, .int .i64 0, .int .i64 0, .int .i64 0, .int .i64 0, .int .i64 0, .int .i64 0, .slice none 0 0] 48)) = v2 at DK4 ⊢
        generalize v1.heap.size = gO at DK4 ⊢
        have HT := Lib.hid (show (fun w' => Blk w' gD 57 #[.int .i64 kind, .int .i64 day, .string code, .string code, .int .i64 al, .int .i64 ah, .int .i64 bl, .int .i64 bh]) v2 from (DK4.out.loc 0 _ _ _ rfl).1)
        refine ⟨fun _ => HT.out, ?_⟩
        try simp only [List.setIfInBounds_toArray, List.set_cons_succ, List.set_cons_zero]
        refine till_only (j := 3) (by kernel_rfl) rfl ?_
        go_wp2_with (go_at_call 71; refine (stack_yes DK4.out.book code HS.out HK.out HP.out).mono ?_; rintro e v3 ⟨rfl, hb⟩; have DK5 := Lib.hid (DK4.out.below hb); clear hb)
        have HT := Lib.hid (show (fun w' => Blk w' gD 57 #[.int .i64 kind, .int .i64 day, .string code, .string code, .int .i64 al, .int .i64 ah, .int .i64 bl, .int .i64 bh]) v3 from (DK5.out.loc 0 _ _ _ rfl).1)
        refine ⟨fun _ => HT.out, ?_⟩
        try simp only [List.setIfInBounds_toArray, List.set_cons_succ, List.set_cons_zero]
        refine till_only (j := 7) (by kernel_rfl) rfl ?_
        go_wp2_with (go_at_call 71; refine (stack_yes DK5.out.book code HS.out HK.out HP.out).mono ?_; rintro e v4 ⟨rfl, hb⟩; have DK6 := Lib.hid (DK5.out.below hb); clear hb)
        have HT := Lib.hid (show (fun w' => Blk w' gD 57 #[.int .i64 kind, .int .i64 day, .string code, .string code, .int .i64 al, .int .i64 ah, .int .i64 bl, .int .i64 bh]) v4 from (DK6.out.loc 0 _ _ _ rfl).1)
        refine ⟨fun _ => HT.out, ?_⟩
        try simp only [List.setIfInBounds_toArray, List.set_cons_succ, List.set_cons_zero]
        refine till_only (j := 10) (by kernel_rfl) rfl ?_
        have HE := Lib.hid (show v4.there gS 0 8 from (DK6.out.loc 1 _ _ _ rfl).1.there (o := 0) (n := 8) (Nat.le_of_ble_eq_true rfl))
        have HO := Lib.hid (show (#[.string code, .int .i64 dl, .int .i64 dh, .int .i64 wl, .int .i64 wh, .int .i64 pil, .int .i64 boi, .slice fa fn fc] : Array Value).all (·.oneCell') = true from by simp [Value.oneCell'])
        refine wpList_store_mid rfl 48 (.tmp 4) (.tmp 9) rfl gS 0 #[.string code, .int .i64 dl, .int .i64 dh, .int .i64 wl, .int .i64 wh, .int .i64 pil, .int .i64 boi, .slice fa fn fc] rfl rfl HE.out size_stack HO.out ?_
        change wpList _ _ _ _ _ (v4.setCells gS 0 [.string code, .int .i64 dl, .int .i64 dh, .int .i64 wl, .int .i64 wh, .int .i64 pil, .int .i64 boi, .slice fa fn fc])
        clear HE HO
        have DK7 := Lib.hid (show Desk w (v4.setCells gS 0 [.string code, .int .i64 dl, .int .i64 dh, .int .i64 wl, .int .i64 wh, .int .i64 pil, .int .i64 boi, .slice fa fn fc]) (fun _ => False) C B bef aft l c made N kv tv m [(gD, 57, [.int .i64 kind, .int .i64 day, .string code, .string code, .int .i64 al, .int .i64 ah, .int .i64 bl, .int .i64 bh]), (gS, 48, [.string code, .int .i64 dl, .int .i64 dh, .int .i64 wl, .int .i64 wh, .int .i64 pil, .int .i64 boi, .slice fa fn fc]), (gO, 48, [.string ⟨#[]⟩, .int .i64 0, .int .i64 0, .int .i64 0, .int .i64 0, .int .i64 0, .int .i64 0, .slice none 0 0])] from DK6.out.setLoc 1 [] [.string ⟨#[]⟩, .int .i64 0, .int .i64 0, .int .i64 0, .int .i64 0, .int .i64 0, .int .i64 0, .slice none 0 0] [] [.string code, .int .i64 dl, .int .i64 dh, .int .i64 wl, .int .i64 wh, .int .i64 pil, .int .i64 boi, .slice fa fn fc] rfl rfl (by decide))
        clear DK6
        generalize (v4.setCells gS 0 [.string code, .int .i64 dl, .int .i64 dh, .int .i64 wl, .int .i64 wh, .int .i64 pil, .int .i64 boi, .slice fa fn fc]) = v5 at DK7 ⊢
        change Till _ _ _ _ ∧ wpAnyT _ _ _ _ _ _ _ _ _ _
        have HT := Lib.hid (show (fun w' => Blk w' gD 57 #[.int .i64 kind, .int .i64 day, .string code, .string code, .int .i64 al, .int .i64 ah, .int .i64 bl, .int .i64 bh]) v5 from (DK7.out.loc 0 _ _ _ rfl).1)
        refine ⟨fun _ => HT.out, ?_⟩
        try simp only [List.setIfInBounds_toArray, List.set_cons_succ, List.set_cons_zero]
        refine till_only (j := 11) (by kernel_rfl) rfl ?_
        have HE := Lib.hid (show v5.there gO 0 8 from (DK7.out.loc 2 _ _ _ rfl).1.there (o := 0) (n := 8) (Nat.le_of_ble_eq_true rfl))
        have HO := Lib.hid (show (#[.string code, .int .i64 dl, .int .i64 dh, .int .i64 wl, .int .i64 wh, .int .i64 pil, .int .i64 boi, .slice fa fn fc] : Array Value).all (·.oneCell') = true from by simp [Value.oneCell'])
        refine wpList_store_mid rfl 48 (.tmp 5) (.tmp 13) rfl gO 0 #[.string code, .int .i64 dl, .int .i64 dh, .int .i64 wl, .int .i64 wh, .int .i64 pil, .int .i64 boi, .slice fa fn fc] rfl rfl HE.out size_stack HO.out ?_
        change wpList _ _ _ _ _ (v5.setCells gO 0 [.string code, .int .i64 dl, .int .i64 dh, .int .i64 wl, .int .i64 wh, .int .i64 pil, .int .i64 boi, .slice fa fn fc])
        clear HE HO
        have DK8 := Lib.hid (show Desk w (v5.setCells gO 0 [.string code, .int .i64 dl, .int .i64 dh, .int .i64 wl, .int .i64 wh, .int .i64 pil, .int .i64 boi, .slice fa fn fc]) (fun _ => False) C B bef aft l c made N kv tv m [(gD, 57, [.int .i64 kind, .int .i64 day, .string code, .string code, .int .i64 al, .int .i64 ah, .int .i64 bl, .int .i64 bh]), (gS, 48, [.string code, .int .i64 dl, .int .i64 dh, .int .i64 wl, .int .i64 wh, .int .i64 pil, .int .i64 boi, .slice fa fn fc]), (gO, 48, [.string code, .int .i64 dl, .int .i64 dh, .int .i64 wl, .int .i64 wh, .int .i64 pil, .int .i64 boi, .slice fa fn fc])] from DK7.out.setLoc 2 [] [.string ⟨#[]⟩, .int .i64 0, .int .i64 0, .int .i64 0, .int .i64 0, .int .i64 0, .int .i64 0, .slice none 0 0] [] [.string code, .int .i64 dl, .int .i64 dh, .int .i64 wl, .int .i64 wh, .int .i64 pil, .int .i64 boi, .slice fa fn fc] rfl rfl (by decide))
        clear DK7
        generalize (v5.setCells gO 0 [.string code, .int .i64 dl, .int .i64 dh, .int .i64 wl, .int .i64 wh, .int .i64 pil, .int .i64 boi, .slice fa fn fc]) = v6 at DK8 ⊢
        change Till _ _ _ _ ∧ wpAnyT _ _ _ _ _ _ _ _ _ _
        refine ⟨fun h => by simp at h, ?_⟩
        try simp only [List.setIfInBounds_toArray, List.set_cons_succ, List.set_cons_zero]
        refine till_done (by kernel_rfl) ?_
        go_wp2_with fail
        go_meet
        case rel => exact ⟨_, _, rfl, rfl, DK8⟩
    · go_wp2_with fail
      have DK3 := Lib.hid (show Desk w (v0.alloc (.cells #[.string ⟨#[]⟩, .int .i64 0, .int .i64 0, .int .i64 0, .int .i64 0, .int .i64 0, .int .i64 0, .slice none 0 0] 48)) (fun _ => False) C B bef aft l c made N kv tv m [(gD, 57, [.int .i64 kind, .int .i64 day, .string code, .string code, .int .i64 al, .int .i64 ah, .int .i64 bl, .int .i64 bh]), (v0.heap.size, 48, [.string ⟨#[]⟩, .int .i64 0, .int .i64 0, .int .i64 0, .int .i64 0, .int .i64 0, .int .i64 0, .slice none 0 0])] from DK2.out.alloc 48 [.string ⟨#[]⟩, .int .i64 0, .int .i64 0, .int .i64 0, .int .i64 0, .int .i64 0, .int .i64 0, .slice none 0 0] rfl)
      generalize (v0.alloc (.cells #[.string ⟨#[]⟩, .int .i64 0, .int .i64 0, .int .i64 0, .int .i64 0, .int .i64 0, .int .i64 0, .slice none 0 0] 48)) = v1 at DK3 ⊢
      generalize v0.heap.size = gO at DK3 ⊢
      have HT := Lib.hid (show (fun w' => Blk w' gD 57 #[.int .i64 kind, .int .i64 day, .string code, .string code, .int .i64 al, .int .i64 ah, .int .i64 bl, .int .i64 bh]) v1 from (DK3.out.loc 0 _ _ _ rfl).1)
      refine ⟨fun _ => HT.out, ?_⟩
      try simp only [List.setIfInBounds_toArray, List.set_cons_succ, List.set_cons_zero]
      refine till_two (i := 3) (j := 8) (by kernel_rfl) rfl rfl ?_ ?_
      · go_wp2_with (go_at_call 71; refine (stack_yes DK3.out.book code HS.out HK.out HP.out).mono ?_; rintro e v2 ⟨rfl, hb⟩; have DK4 := Lib.hid (DK3.out.below hb); clear hb)
        have HT := Lib.hid (show (fun w' => Blk w' gD 57 #[.int .i64 kind, .int .i64 day, .string code, .string code, .int .i64 al, .int .i64 ah, .int .i64 bl, .int .i64 bh]) v2 from (DK4.out.loc 0 _ _ _ rfl).1)
        refine ⟨fun _ => HT.out, ?_⟩
        try simp only [List.setIfInBounds_toArray, List.set_cons_succ, List.set_cons_zero]
        refine till_two (i := 7) (j := 8) (by kernel_rfl) rfl rfl ?_ ?_
        · go_wp2_with (go_at_call 71; refine (stack_yes DK4.out.book code HS.out HK.out HP.out).mono ?_; rintro e v3 ⟨rfl, hb⟩; have DK5 := Lib.hid (DK4.out.below hb); clear hb)
          have HT := Lib.hid (show (fun w' => Blk w' gD 57 #[.int .i64 kind, .int .i64 day, .string code, .string code, .int .i64 al, .int .i64 ah, .int .i64 bl, .int .i64 bh]) v3 from (DK5.out.loc 0 _ _ _ rfl).1)
          refine ⟨fun _ => HT.out, ?_⟩
          try simp only [List.setIfInBounds_toArray, List.set_cons_succ, List.set_cons_zero]
          refine till_only (j := 8) (by kernel_rfl) rfl ?_
          go_wp2_with fail
          have DK6 := Lib.hid (show Desk w (v3.alloc (.cells #[.string ⟨#[]⟩, .int .i64 0, .int .i64 0, .int .i64 0, .int .i64 0, .int .i64 0, .int .i64 0, .slice none 0 0] 48)) (fun _ => False) C B bef aft l c made N kv tv m [(gD, 57, [.int .i64 kind, .int .i64 day, .string code, .string code, .int .i64 al, .int .i64 ah, .int .i64 bl, .int .i64 bh]), (gO, 48, [.string ⟨#[]⟩, .int .i64 0, .int .i64 0, .int .i64 0, .int .i64 0, .int .i64 0, .int .i64 0, .slice none 0 0]), (v3.heap.size, 48, [.string ⟨#[]⟩, .int .i64 0, .int .i64 0, .int .i64 0, .int .i64 0, .int .i64 0, .int .i64 0, .slice none 0 0])] from DK5.out.alloc 48 [.string ⟨#[]⟩, .int .i64 0, .int .i64 0, .int .i64 0, .int .i64 0, .int .i64 0, .int .i64 0, .slice none 0 0] rfl)
          generalize (v3.alloc (.cells #[.string ⟨#[]⟩, .int .i64 0, .int .i64 0, .int .i64 0, .int .i64 0, .int .i64 0, .int .i64 0, .slice none 0 0] 48)) = v4 at DK6 ⊢
          generalize v3.heap.size = gS at DK6 ⊢
          have HT := Lib.hid (show (fun w' => Blk w' gD 57 #[.int .i64 kind, .int .i64 day, .string code, .string code, .int .i64 al, .int .i64 ah, .int .i64 bl, .int .i64 bh]) v4 from (DK6.out.loc 0 _ _ _ rfl).1)
          refine ⟨fun _ => HT.out, ?_⟩
          try simp only [List.setIfInBounds_toArray, List.set_cons_succ, List.set_cons_zero]
          refine till_only (j := 10) (by kernel_rfl) rfl ?_
          have HE := Lib.hid (show v4.there gS 0 8 from (DK6.out.loc 2 _ _ _ rfl).1.there (o := 0) (n := 8) (Nat.le_of_ble_eq_true rfl))
          have HO := Lib.hid (show (#[.string code, .int .i64 dl, .int .i64 dh, .int .i64 wl, .int .i64 wh, .int .i64 pil, .int .i64 boi, .slice fa fn fc] : Array Value).all (·.oneCell') = true from by simp [Value.oneCell'])
          refine wpList_store_mid rfl 48 (.tmp 4) (.tmp 9) rfl gS 0 #[.string code, .int .i64 dl, .int .i64 dh, .int .i64 wl, .int .i64 wh, .int .i64 pil, .int .i64 boi, .slice fa fn fc] rfl rfl HE.out size_stack HO.out ?_
          change wpList _ _ _ _ _ (v4.setCells gS 0 [.string code, .int .i64 dl, .int .i64 dh, .int .i64 wl, .int .i64 wh, .int .i64 pil, .int .i64 boi, .slice fa fn fc])
          clear HE HO
          have DK7 := Lib.hid (show Desk w (v4.setCells gS 0 [.string code, .int .i64 dl, .int .i64 dh, .int .i64 wl, .int .i64 wh, .int .i64 pil, .int .i64 boi, .slice fa fn fc]) (fun _ => False) C B bef aft l c made N kv tv m [(gD, 57, [.int .i64 kind, .int .i64 day, .string code, .string code, .int .i64 al, .int .i64 ah, .int .i64 bl, .int .i64 bh]), (gO, 48, [.string ⟨#[]⟩, .int .i64 0, .int .i64 0, .int .i64 0, .int .i64 0, .int .i64 0, .int .i64 0, .slice none 0 0]), (gS, 48, [.string code, .int .i64 dl, .int .i64 dh, .int .i64 wl, .int .i64 wh, .int .i64 pil, .int .i64 boi, .slice fa fn fc])] from DK6.out.setLoc 2 [] [.string ⟨#[]⟩, .int .i64 0, .int .i64 0, .int .i64 0, .int .i64 0, .int .i64 0, .int .i64 0, .slice none 0 0] [] [.string code, .int .i64 dl, .int .i64 dh, .int .i64 wl, .int .i64 wh, .int .i64 pil, .int .i64 boi, .slice fa fn fc] rfl rfl (by decide))
          clear DK6
          generalize (v4.setCells gS 0 [.string code, .int .i64 dl, .int .i64 dh, .int .i64 wl, .int .i64 wh, .int .i64 pil, .int .i64 boi, .slice fa fn fc]) = v5 at DK7 ⊢
          change Till _ _ _ _ ∧ wpAnyT _ _ _ _ _ _ _ _ _ _
          have HT := Lib.hid (show (fun w' => Blk w' gD 57 #[.int .i64 kind, .int .i64 day, .string code, .string code, .int .i64 al, .int .i64 ah, .int .i64 bl, .int .i64 bh]) v5 from (DK7.out.loc 0 _ _ _ rfl).1)
          refine ⟨fun _ => HT.out, ?_⟩
          try simp only [List.setIfInBounds_toArray, List.set_cons_succ, List.set_cons_zero]
          refine till_only (j := 11) (by kernel_rfl) rfl ?_
          have HE := Lib.hid (show v5.there gO 0 8 from (DK7.out.loc 1 _ _ _ rfl).1.there (o := 0) (n := 8) (Nat.le_of_ble_eq_true rfl))
          have HO := Lib.hid (show (#[.string code, .int .i64 dl, .int .i64 dh, .int .i64 wl, .int .i64 wh, .int .i64 pil, .int .i64 boi, .slice fa fn fc] : Array Value).all (·.oneCell') = true from by simp [Value.oneCell'])
          refine wpList_store_mid rfl 48 (.tmp 5) (.tmp 13) rfl gO 0 #[.string code, .int .i64 dl, .int .i64 dh, .int .i64 wl, .int .i64 wh, .int .i64 pil, .int .i64 boi, .slice fa fn fc] rfl rfl HE.out size_stack HO.out ?_
          change wpList _ _ _ _ _ (v5.setCells gO 0 [.string code, .int .i64 dl, .int .i64 dh, .int .i64 wl, .int .i64 wh, .int .i64 pil, .int .i64 boi, .slice fa fn fc])
          clear HE HO
          have DK8 := Lib.hid (show Desk w (v5.setCells gO 0 [.string code, .int .i64 dl, .int .i64 dh, .int .i64 wl, .int .i64 wh, .int .i64 pil, .int .i64 boi, .slice fa fn fc]) (fun _ => False) C B bef aft l c made N kv tv m [(gD, 57, [.int .i64 kind, .int .i64 day, .string code, .string code, .int .i64 al, .int .i64 ah, .int .i64 bl, .int .i64 bh]), (gO, 48, [.string code, .int .i64 dl, .int .i64 dh, .int .i64 wl, .int .i64 wh, .int .i64 pil, .int .i64 boi, .slice fa fn fc]), (gS, 48, [.string code, .int .i64 dl, .int .i64 dh, .int .i64 wl, .int .i64 wh, .int .i64 pil, .int .i64 boi, .slice fa fn fc])] from DK7.out.setLoc 1 [] [.string ⟨#[]⟩, .int .i64 0, .int .i64 0, .int .i64 0, .int .i64 0, .int .i64 0, .int .i64 0, .slice none 0 0] [] [.string code, .int .i64 dl, .int .i64 dh, .int .i64 wl, .int .i64 wh, .int .i64 pil, .int .i64 boi, .slice fa fn fc] rfl rfl (by decide))
          clear DK7
          generalize (v5.setCells gO 0 [.string code, .int .i64 dl, .int .i64 dh, .int .i64 wl, .int .i64 wh, .int .i64 pil, .int .i64 boi, .slice fa fn fc]) = v6 at DK8 ⊢
          change Till _ _ _ _ ∧ wpAnyT _ _ _ _ _ _ _ _ _ _
          refine ⟨fun h => by simp at h, ?_⟩
          try simp only [List.setIfInBounds_toArray, List.set_cons_succ, List.set_cons_zero]
          refine till_done (by kernel_rfl) ?_
          go_wp2_with fail
          go_meet
          case rel => exact ⟨_, _, rfl, rfl, Lib.hid DK8.out.swap⟩
        · go_wp2_with fail
          have DK5 := Lib.hid (show Desk w (v2.alloc (.cells #[.string ⟨#[]⟩, .int .i64 0, .int .i64 0, .int .i64 0, .int .i64 0, .int .i64 0, .int .i64 0, .slice none 0 0] 48)) (fun _ => False) C B bef aft l c made N kv tv m [(gD, 57, [.int .i64 kind, .int .i64 day, .string code, .string code, .int .i64 al, .int .i64 ah, .int .i64 bl, .int .i64 bh]), (gO, 48, [.string ⟨#[]⟩, .int .i64 0, .int .i64 0, .int .i64 0, .int .i64 0, .int .i64 0, .int .i64 0, .slice none 0 0]), (v2.heap.size, 48, [.string ⟨#[]⟩, .int .i64 0, .int .i64 0, .int .i64 0, .int .i64 0, .int .i64 0, .int .i64 0, .slice none 0 0])] from DK4.out.alloc 48 [.string ⟨#[]⟩, .int .i64 0, .int .i64 0, .int .i64 0, .int .i64 0, .int .i64 0, .int .i64 0, .slice none 0 0] rfl)
          generalize (v2.alloc (.cells #[.string ⟨#[]⟩, .int .i64 0, .int .i64 0, .int .i64 0, .int .i64 0, .int .i64 0, .int .i64 0, .slice none 0 0] 48)) = v3 at DK5 ⊢
          generalize v2.heap.size = gS at DK5 ⊢
          have HT := Lib.hid (show (fun w' => Blk w' gD 57 #[.int .i64 kind, .int .i64 day, .string code, .string code, .int .i64 al, .int .i64 ah, .int .i64 bl, .int .i64 bh]) v3 from (DK5.out.loc 0 _ _ _ rfl).1)
          refine ⟨fun _ => HT.out, ?_⟩
          try simp only [List.setIfInBounds_toArray, List.set_cons_succ, List.set_cons_zero]
          refine till_only (j := 7) (by kernel_rfl) rfl ?_
          go_wp2_with (go_at_call 71; refine (stack_yes DK5.out.book code HS.out HK.out HP.out).mono ?_; rintro e v4 ⟨rfl, hb⟩; have DK6 := Lib.hid (DK5.out.below hb); clear hb)
          have HT := Lib.hid (show (fun w' => Blk w' gD 57 #[.int .i64 kind, .int .i64 day, .string code, .string code, .int .i64 al, .int .i64 ah, .int .i64 bl, .int .i64 bh]) v4 from (DK6.out.loc 0 _ _ _ rfl).1)
          refine ⟨fun _ => HT.out, ?_⟩
          try simp only [List.setIfInBounds_toArray, List.set_cons_succ, List.set_cons_zero]
          refine till_only (j := 10) (by kernel_rfl) rfl ?_
          have HE := Lib.hid (show v4.there gS 0 8 from (DK6.out.loc 2 _ _ _ rfl).1.there (o := 0) (n := 8) (Nat.le_of_ble_eq_true rfl))
          have HO := Lib.hid (show (#[.string code, .int .i64 dl, .int .i64 dh, .int .i64 wl, .int .i64 wh, .int .i64 pil, .int .i64 boi, .slice fa fn fc] : Array Value).all (·.oneCell') = true from by simp [Value.oneCell'])
          refine wpList_store_mid rfl 48 (.tmp 4) (.tmp 9) rfl gS 0 #[.string code, .int .i64 dl, .int .i64 dh, .int .i64 wl, .int .i64 wh, .int .i64 pil, .int .i64 boi, .slice fa fn fc] rfl rfl HE.out size_stack HO.out ?_
          change wpList _ _ _ _ _ (v4.setCells gS 0 [.string code, .int .i64 dl, .int .i64 dh, .int .i64 wl, .int .i64 wh, .int .i64 pil, .int .i64 boi, .slice fa fn fc])
          clear HE HO
          have DK7 := Lib.hid (show Desk w (v4.setCells gS 0 [.string code, .int .i64 dl, .int .i64 dh, .int .i64 wl, .int .i64 wh, .int .i64 pil, .int .i64 boi, .slice fa fn fc]) (fun _ => False) C B bef aft l c made N kv tv m [(gD, 57, [.int .i64 kind, .int .i64 day, .string code, .string code, .int .i64 al, .int .i64 ah, .int .i64 bl, .int .i64 bh]), (gO, 48, [.string ⟨#[]⟩, .int .i64 0, .int .i64 0, .int .i64 0, .int .i64 0, .int .i64 0, .int .i64 0, .slice none 0 0]), (gS, 48, [.string code, .int .i64 dl, .int .i64 dh, .int .i64 wl, .int .i64 wh, .int .i64 pil, .int .i64 boi, .slice fa fn fc])] from DK6.out.setLoc 2 [] [.string ⟨#[]⟩, .int .i64 0, .int .i64 0, .int .i64 0, .int .i64 0, .int .i64 0, .int .i64 0, .slice none 0 0] [] [.string code, .int .i64 dl, .int .i64 dh, .int .i64 wl, .int .i64 wh, .int .i64 pil, .int .i64 boi, .slice fa fn fc] rfl rfl (by decide))
          clear DK6
          generalize (v4.setCells gS 0 [.string code, .int .i64 dl, .int .i64 dh, .int .i64 wl, .int .i64 wh, .int .i64 pil, .int .i64 boi, .slice fa fn fc]) = v5 at DK7 ⊢
          change Till _ _ _ _ ∧ wpAnyT _ _ _ _ _ _ _ _ _ _
          have HT := Lib.hid (show (fun w' => Blk w' gD 57 #[.int .i64 kind, .int .i64 day, .string code, .string code, .int .i64 al, .int .i64 ah, .int .i64 bl, .int .i64 bh]) v5 from (DK7.out.loc 0 _ _ _ rfl).1)
          refine ⟨fun _ => HT.out, ?_⟩
          try simp only [List.setIfInBounds_toArray, List.set_cons_succ, List.set_cons_zero]
          refine till_only (j := 11) (by kernel_rfl) rfl ?_
          have HE := Lib.hid (show v5.there gO 0 8 from (DK7.out.loc 1 _ _ _ rfl).1.there (o := 0) (n := 8) (Nat.le_of_ble_eq_true rfl))
          have HO := Lib.hid (show (#[.string code, .int .i64 dl, .int .i64 dh, .int .i64 wl, .int .i64 wh, .int .i64 pil, .int .i64 boi, .slice fa fn fc] : Array Value).all (·.oneCell') = true from by simp [Value.oneCell'])
          refine wpList_store_mid rfl 48 (.tmp 5) (.tmp 13) rfl gO 0 #[.string code, .int .i64 dl, .int .i64 dh, .int .i64 wl, .int .i64 wh, .int .i64 pil, .int .i64 boi, .slice fa fn fc] rfl rfl HE.out size_stack HO.out ?_
          change wpList _ _ _ _ _ (v5.setCells gO 0 [.string code, .int .i64 dl, .int .i64 dh, .int .i64 wl, .int .i64 wh, .int .i64 pil, .int .i64 boi, .slice fa fn fc])
          clear HE HO
          have DK8 := Lib.hid (show Desk w (v5.setCells gO 0 [.string code, .int .i64 dl, .int .i64 dh, .int .i64 wl, .int .i64 wh, .int .i64 pil, .int .i64 boi, .slice fa fn fc]) (fun _ => False) C B bef aft l c made N kv tv m [(gD, 57, [.int .i64 kind, .int .i64 day, .string code, .string code, .int .i64 al, .int .i64 ah, .int .i64 bl, .int .i64 bh]), (gO, 48, [.string code, .int .i64 dl, .int .i64 dh, .int .i64 wl, .int .i64 wh, .int .i64 pil, .int .i64 boi, .slice fa fn fc]), (gS, 48, [.string code, .int .i64 dl, .int .i64 dh, .int .i64 wl, .int .i64 wh, .int .i64 pil, .int .i64 boi, .slice fa fn fc])] from DK7.out.setLoc 1 [] [.string ⟨#[]⟩, .int .i64 0, .int .i64 0, .int .i64 0, .int .i64 0, .int .i64 0, .int .i64 0, .slice none 0 0] [] [.string code, .int .i64 dl, .int .i64 dh, .int .i64 wl, .int .i64 wh, .int .i64 pil, .int .i64 boi, .slice fa fn fc] rfl rfl (by decide))
          clear DK7
          generalize (v5.setCells gO 0 [.string code, .int .i64 dl, .int .i64 dh, .int .i64 wl, .int .i64 wh, .int .i64 pil, .int .i64 boi, .slice fa fn fc]) = v6 at DK8 ⊢
          change Till _ _ _ _ ∧ wpAnyT _ _ _ _ _ _ _ _ _ _
          refine ⟨fun h => by simp at h, ?_⟩
          try simp only [List.setIfInBounds_toArray, List.set_cons_succ, List.set_cons_zero]
          refine till_done (by kernel_rfl) ?_
          go_wp2_with fail
          go_meet
          case rel => exact ⟨_, _, rfl, rfl, Lib.hid DK8.out.swap⟩
      · go_wp2_with fail
        have DK4 := Lib.hid (show Desk w (v1.alloc (.cells #[.string ⟨#[]⟩, .int .i64 0, .int .i64 0, .int .i64 0, .int .i64 0, .int .i64 0, .int .i64 0, .slice none 0 0] 48)) (fun _ => False) C B bef aft l c made N kv tv m [(gD, 57, [.int .i64 kind, .int .i64 day, .string code, .string code, .int .i64 al, .int .i64 ah, .int .i64 bl, .int .i64 bh]), (gO, 48, [.string ⟨#[]⟩, .int .i64 0, .int .i64 0, .int .i64 0, .int .i64 0, .int .i64 0, .int .i64 0, .slice none 0 0]), (v1.heap.size, 48, [.string ⟨#[]⟩, .int .i64 0, .int .i64 0, .int .i64 0, .int .i64 0, .int .i64 0, .int .i64 0, .slice none 0 0])] from DK3.out.alloc 48 [.string ⟨#[]⟩, .int .i64 0, .int .i64 0, .int .i64 0, .int .i64 0, .int .i64 0, .int .i64 0, .slice none 0 0] rfl)
        generalize (v1.alloc (.cells #[.string ⟨#[]⟩, .int .i64 0, .int .i64 0, .int .i64 0, .int .i64 0, .int .i64 0, .int .i64 0, .slice none 0 0] 48)) = v2 at DK4 ⊢
        generalize v1.heap.size = gS at DK4 ⊢
        have HT := Lib.hid (show (fun w' => Blk w' gD 57 #[.int .i64 kind, .int .i64 day, .string code, .string code, .int .i64 al, .int .i64 ah, .int .i64 bl, .int .i64 bh]) v2 from (DK4.out.loc 0 _ _ _ rfl).1)
        refine ⟨fun _ => HT.out, ?_⟩
        try simp only [List.setIfInBounds_toArray, List.set_cons_succ, List.set_cons_zero]
        refine till_only (j := 3) (by kernel_rfl) rfl ?_
        go_wp2_with (go_at_call 71; refine (stack_yes DK4.out.book code HS.out HK.out HP.out).mono ?_; rintro e v3 ⟨rfl, hb⟩; have DK5 := Lib.hid (DK4.out.below hb); clear hb)
        have HT := Lib.hid (show (fun w' => Blk w' gD 57 #[.int .i64 kind, .int .i64 day, .string code, .string code, .int .i64 al, .int .i64 ah, .int .i64 bl, .int .i64 bh]) v3 from (DK5.out.loc 0 _ _ _ rfl).1)
        refine ⟨fun _ => HT.out, ?_⟩
        try simp only [List.setIfInBounds_toArray, List.set_cons_succ, List.set_cons_zero]
        refine till_only (j := 7) (by kernel_rfl) rfl ?_
        go_wp2_with (go_at_call 71; refine (stack_yes DK5.out.book code HS.out HK.out HP.out).mono ?_; rintro e v4 ⟨rfl, hb⟩; have DK6 := Lib.hid (DK5.out.below hb); clear hb)
        have HT := Lib.hid (show (fun w' => Blk w' gD 57 #[.int .i64 kind, .int .i64 day, .string code, .string code, .int .i64 al, .int .i64 ah, .int .i64 bl, .int .i64 bh]) v4 from (DK6.out.loc 0 _ _ _ rfl).1)
        refine ⟨fun _ => HT.out, ?_⟩
        try simp only [List.setIfInBounds_toArray, List.set_cons_succ, List.set_cons_zero]
        refine till_only (j := 10) (by kernel_rfl) rfl ?_
        have HE := Lib.hid (show v4.there gS 0 8 from (DK6.out.loc 2 _ _ _ rfl).1.there (o := 0) (n := 8) (Nat.le_of_ble_eq_true rfl))
        have HO := Lib.hid (show (#[.string code, .int .i64 dl, .int .i64 dh, .int .i64 wl, .int .i64 wh, .int .i64 pil, .int .i64 boi, .slice fa fn fc] : Array Value).all (·.oneCell') = true from by simp [Value.oneCell'])
        refine wpList_store_mid rfl 48 (.tmp 4) (.tmp 9) rfl gS 0 #[.string code, .int .i64 dl, .int .i64 dh, .int .i64 wl, .int .i64 wh, .int .i64 pil, .int .i64 boi, .slice fa fn fc] rfl rfl HE.out size_stack HO.out ?_
        change wpList _ _ _ _ _ (v4.setCells gS 0 [.string code, .int .i64 dl, .int .i64 dh, .int .i64 wl, .int .i64 wh, .int .i64 pil, .int .i64 boi, .slice fa fn fc])
        clear HE HO
        have DK7 := Lib.hid (show Desk w (v4.setCells gS 0 [.string code, .int .i64 dl, .int .i64 dh, .int .i64 wl, .int .i64 wh, .int .i64 pil, .int .i64 boi, .slice fa fn fc]) (fun _ => False) C B bef aft l c made N kv tv m [(gD, 57, [.int .i64 kind, .int .i64 day, .string code, .string code, .int .i64 al, .int .i64 ah, .int .i64 bl, .int .i64 bh]), (gO, 48, [.string ⟨#[]⟩, .int .i64 0, .int .i64 0, .int .i64 0, .int .i64 0, .int .i64 0, .int .i64 0, .slice none 0 0]), (gS, 48, [.string code, .int .i64 dl, .int .i64 dh, .int .i64 wl, .int .i64 wh, .int .i64 pil, .int .i64 boi, .slice fa fn fc])] from DK6.out.setLoc 2 [] [.string ⟨#[]⟩, .int .i64 0, .int .i64 0, .int .i64 0, .int .i64 0, .int .i64 0, .int .i64 0, .slice none 0 0] [] [.string code, .int .i64 dl, .int .i64 dh, .int .i64 wl, .int .i64 wh, .int .i64 pil, .int .i64 boi, .slice fa fn fc] rfl rfl (by decide))
        clear DK6
        generalize (v4.setCells gS 0 [.string code, .int .i64 dl, .int .i64 dh, .int .i64 wl, .int .i64 wh, .int .i64 pil, .int .i64 boi, .slice fa fn fc]) = v5 at DK7 ⊢
        change Till _ _ _ _ ∧ wpAnyT _ _ _ _ _ _ _ _ _ _
        have HT := Lib.hid (show (fun w' => Blk w' gD 57 #[.int .i64 kind, .int .i64 day, .string code, .string code, .int .i64 al, .int .i64 ah, .int .i64 bl, .int .i64 bh]) v5 from (DK7.out.loc 0 _ _ _ rfl).1)
        refine ⟨fun _ => HT.out, ?_⟩
        try simp only [List.setIfInBounds_toArray, List.set_cons_succ, List.set_cons_zero]
        refine till_only (j := 11) (by kernel_rfl) rfl ?_
        have HE := Lib.hid (show v5.there gO 0 8 from (DK7.out.loc 1 _ _ _ rfl).1.there (o := 0) (n := 8) (Nat.le_of_ble_eq_true rfl))
        have HO := Lib.hid (show (#[.string code, .int .i64 dl, .int .i64 dh, .int .i64 wl, .int .i64 wh, .int .i64 pil, .int .i64 boi, .slice fa fn fc] : Array Value).all (·.oneCell') = true from by simp [Value.oneCell'])
        refine wpList_store_mid rfl 48 (.tmp 5) (.tmp 13) rfl gO 0 #[.string code, .int .i64 dl, .int .i64 dh, .int .i64 wl, .int .i64 wh, .int .i64 pil, .int .i64 boi, .slice fa fn fc] rfl rfl HE.out size_stack HO.out ?_
        change wpList _ _ _ _ _ (v5.setCells gO 0 [.string code, .int .i64 dl, .int .i64 dh, .int .i64 wl, .int .i64 wh, .int .i64 pil, .int .i64 boi, .slice fa fn fc])
        clear HE HO
        have DK8 := Lib.hid (show Desk w (v5.setCells gO 0 [.string code, .int .i64 dl, .int .i64 dh, .int .i64 wl, .int .i64 wh, .int .i64 pil, .int .i64 boi, .slice fa fn fc]) (fun _ => False) C B bef aft l c made N kv tv m [(gD, 57, [.int .i64 kind, .int .i64 day, .string code, .string code, .int .i64 al, .int .i64 ah, .int .i64 bl, .int .i64 bh]), (gO, 48, [.string code, .int .i64 dl, .int .i64 dh, .int .i64 wl, .int .i64 wh, .int .i64 pil, .int .i64 boi, .slice fa fn fc]), (gS, 48, [.string code, .int .i64 dl, .int .i64 dh, .int .i64 wl, .int .i64 wh, .int .i64 pil, .int .i64 boi, .slice fa fn fc])] from DK7.out.setLoc 1 [] [.string ⟨#[]⟩, .int .i64 0, .int .i64 0, .int .i64 0, .int .i64 0, .int .i64 0, .int .i64 0, .slice none 0 0] [] [.string code, .int .i64 dl, .int .i64 dh, .int .i64 wl, .int .i64 wh, .int .i64 pil, .int .i64 boi, .slice fa fn fc] rfl rfl (by decide))
        clear DK7
        generalize (v5.setCells gO 0 [.string code, .int .i64 dl, .int .i64 dh, .int .i64 wl, .int .i64 wh, .int .i64 pil, .int .i64 boi, .slice fa fn fc]) = v6 at DK8 ⊢
        change Till _ _ _ _ ∧ wpAnyT _ _ _ _ _ _ _ _ _ _
        refine ⟨fun h => by simp at h, ?_⟩
        try simp only [List.setIfInBounds_toArray, List.set_cons_succ, List.set_cons_zero]
        refine till_done (by kernel_rfl) ?_
        go_wp2_with fail
        go_meet
        case rel => exact ⟨_, _, rfl, rfl, Lib.hid DK8.out.swap⟩
  case rest =>
    obtain ⟨gS, gO, rfl, rfl, DK2⟩ := hcut
    clear DK1
    have t2 := (show wc.cell? ⟨gD, 2, none⟩ = some (.string code) from DK2.out.at 0 2 rfl rfl)
    have t3 := (show wc.cell? ⟨gD, 3, none⟩ = some (.string code) from DK2.out.at 0 3 rfl rfl)
    go_wp2_with (go_at_call 75; refine (need_false _ _).mono ?_; rintro e w2 ⟨rfl, rfl⟩)
    exact ⟨rfl, rfl, DK2.out.quiet⟩

end Go.Proofs.Ytbgojeppfhldjaa
