/- A deed: merge. -/
import Derived.Test.YtbgojeppfhldjaaYMergeFacts
namespace Go.Proofs.Ytbgojeppfhldjaa
open Go Go.RowKit Yd

set_option maxRecDepth 100000 in
set_option maxHeartbeats 1000000 in
theorem merge_no {w : World} {C : Nat → Prop} {B : Nat} {bef aft : Int} {l : List SRow} {c : Yd.Acc} {made : Int} {N : Nat} {kv tv : Value} {m : Nat} (h : Book w C B bef aft l c made N kv tv m)
    (kind day : Int) (code other : Code) (al ah bl bh : Int) (hs : code.size ≤ maxLen) (hC : ∀ k, C k → k < w.heap.size) (hn : ixOf l code = none) :
    Calls Try.prog 66 #[.pointer (some ⟨B, 0, none⟩), .agg #[.int .i64 kind, .int .i64 day, .string code, .string other, .int .i64 al, .int .i64 ah, .int .i64 bl, .int .i64 bh]] w fun e w' => e = .panicked (faulty 1) ∧ Below w.heap.size w w' := by
  have HS := Lib.hid hs; have HN := Lib.hid hn
  clear hs hn
  have DK1 := Lib.hid (boxed_deed h hC [.int .i64 kind, .int .i64 day, .string code, .string other, .int .i64 al, .int .i64 ah, .int .i64 bl, .int .i64 bh])
  go_enter Try.func66, Try.ntmps66
  go_upto_region 1 with fail
  generalize (w.alloc (.cells #[.int .i64 kind, .int .i64 day, .string code, .string other, .int .i64 al, .int .i64 ah, .int .i64 bl, .int .i64 bh] 57)) = w1 at DK1 ⊢
  obtain ⟨gD, hgD⟩ : ∃ g, g = w.heap.size := ⟨_, rfl⟩
  rw [← hgD] at DK1 ⊢
  clear hgD
  have hmix : Try.prog.follows .mixedOrders = true := by kernel_rfl
  refine region_till [11] (fun w' => Blk w' gD 57 #[.int .i64 kind, .int .i64 day, .string code, .string other, .int .i64 al, .int .i64 ah, .int .i64 bl, .int .i64 bh]) 12 [false, false, false, false, false, false, false, false, false, false, false, false] hmix rfl rfl ?_
  have DK2 := Lib.hid (DK1.out.drew)
  clear DK1 hmix
  generalize w1.drew = v0 at DK2 ⊢
  have HT := Lib.hid (show (fun w' => Blk w' gD 57 #[.int .i64 kind, .int .i64 day, .string code, .string other, .int .i64 al, .int .i64 ah, .int .i64 bl, .int .i64 bh]) v0 from (DK2.out.loc 0 _ _ _ rfl).1)
  refine till_pure (i := 0) (v := .pointer (some ⟨B, 0, none⟩)) rfl rfl (by kernel_rfl) (fun _ _ _ h => h) (yields_of rfl (fun w' _ => by simp [go_sem])) (fun _ => HT.out) ?_
  simp only [List.setIfInBounds_toArray, List.set_cons_succ, List.set_cons_zero]
  refine till_pure (i := 1) (v := .pointer (some ⟨gD, 2, none⟩)) rfl rfl (by kernel_rfl) (fun _ _ _ h => h) (yields_of rfl (fun w' _ => by simp [go_sem])) (fun _ => HT.out) ?_
  simp only [List.setIfInBounds_toArray, List.set_cons_succ, List.set_cons_zero]
  refine till_load (i := 2) (v := .string code) rfl rfl (by kernel_rfl) (fun _ _ _ h => h) (yields_of rfl (fun w' hw' => by have hcx := Blk.at hw' 2 (.string code) rfl; simp [go_sem, hcx])) (fun _ => HT.out) ?_
  simp only [List.setIfInBounds_toArray, List.set_cons_succ, List.set_cons_zero]
  refine till_pure (i := 4) (v := .pointer (some ⟨B, 0, none⟩)) rfl rfl (by kernel_rfl) (fun _ _ _ h => h) (yields_of rfl (fun w' _ => by simp [go_sem])) (fun _ => HT.out) ?_
  simp only [List.setIfInBounds_toArray, List.set_cons_succ, List.set_cons_zero]
  refine till_pure (i := 5) (v := .pointer (some ⟨gD, 3, none⟩)) rfl rfl (by kernel_rfl) (fun _ _ _ h => h) (yields_of rfl (fun w' _ => by simp [go_sem])) (fun _ => HT.out) ?_
  simp only [List.setIfInBounds_toArray, List.set_cons_succ, List.set_cons_zero]
  refine till_load (i := 6) (v := .string other) rfl rfl (by kernel_rfl) (fun _ _ _ h => h) (yields_of rfl (fun w' hw' => by have hcx := Blk.at hw' 3 (.string other) rfl; simp [go_sem, hcx])) (fun _ => HT.out) ?_
  simp only [List.setIfInBounds_toArray, List.set_cons_succ, List.set_cons_zero]
  refine till_three (i := 3) (j := 8) (k := 9) (by kernel_rfl) rfl rfl rfl ?_ ?_ ?_
  · go_wp2_with (go_at_call 71; refine (stack_no DK2.out.book code HS.out HN.out).mono ?_; rintro e v ⟨rfl, hb⟩; have DKe := Lib.hid (DK2.out.below hb); clear hb)
    exact ⟨rfl, rfl, DKe.out.quiet⟩
  · go_wp2_with fail
    have DK3 := Lib.hid (show Desk w (v0.alloc (.cells #[.string ⟨#[]⟩, .int .i64 0, .int .i64 0, .int .i64 0, .int .i64 0, .int .i64 0, .int .i64 0, .slice none 0 0] 48)) (fun _ => False) C B bef aft l c made N kv tv m [(gD, 57, [.int .i64 kind, .int .i64 day, .string code, .string other, .int .i64 al, .int .i64 ah, .int .i64 bl, .int .i64 bh]), (v0.heap.size, 48, [.string ⟨#[]⟩, .int .i64 0, .int .i64 0, .int .i64 0, .int .i64 0, .int .i64 0, .int .i64 0, .slice none 0 0])] from DK2.out.alloc 48 [.string ⟨#[]⟩, .int .i64 0, .int .i64 0, .int .i64 0, .int .i64 0, .int .i64 0, .int .i64 0, .slice none 0 0] rfl)
    generalize (v0.alloc (.cells #[.string ⟨#[]⟩, .int .i64 0, .int .i64 0, .int .i64 0, .int .i64 0, .int .i64 0, .int .i64 0, .slice none 0 0] 48)) = v1 at DK3 ⊢
    generalize v0.heap.size = gS at DK3 ⊢
    have HT := Lib.hid (show (fun w' => Blk w' gD 57 #[.int .i64 kind, .int .i64 day, .string code, .string other, .int .i64 al, .int .i64 ah, .int .i64 bl, .int .i64 bh]) v1 from (DK3.out.loc 0 _ _ _ rfl).1)
    refine ⟨fun _ => HT.out, ?_⟩
    try simp only [List.setIfInBounds_toArray, List.set_cons_succ, List.set_cons_zero]
    refine till_two (i := 3) (j := 9) (by kernel_rfl) rfl rfl ?_ ?_
    · go_wp2_with (go_at_call 71; refine (stack_no DK3.out.book code HS.out HN.out).mono ?_; rintro e v ⟨rfl, hb⟩; have DKe := Lib.hid (DK3.out.below hb); clear hb)
      exact ⟨rfl, rfl, DKe.out.quiet⟩
    · go_wp2_with fail
      have DK4 := Lib.hid (show Desk w (v1.alloc (.cells #[.string ⟨#[]⟩, .int .i64 0, .int .i64 0, .int .i64 0, .int .i64 0, .int .i64 0, .int .i64 0, .slice none 0 0] 48)) (fun _ => False) C B bef aft l c made N kv tv m [(gD, 57, [.int .i64 kind, .int .i64 day, .string code, .string other, .int .i64 al, .int .i64 ah, .int .i64 bl, .int .i64 bh]), (gS, 48, [.string ⟨#[]⟩, .int .i64 0, .int .i64 0, .int .i64 0, .int .i64 0, .int .i64 0, .int .i64 0, .slice none 0 0]), (v1.heap.size, 48, [.string ⟨#[]⟩, .int .i64 0, .int .i64 0, .int .i64 0, .int .i64 0, .int .i64 0, .int .i64 0, .slice none 0 0])] from DK3.out.alloc 48 [.string ⟨#[]⟩, .int .i64 0, .int .i64 0, .int .i64 0, .int .i64 0, .int .i64 0, .int .i64 0, .slice none 0 0] rfl)
      generalize (v1.alloc (.cells #[.string ⟨#[]⟩, .int .i64 0, .int .i64 0, .int .i64 0, .int .i64 0, .int .i64 0, .int .i64 0, .slice none 0 0] 48)) = v2 at DK4 ⊢
      generalize v1.heap.size = gO at DK4 ⊢
      have HT := Lib.hid (show (fun w' => Blk w' gD 57 #[.int .i64 kind, .int .i64 day, .string code, .string other, .int .i64 al, .int .i64 ah, .int .i64 bl, .int .i64 bh]) v2 from (DK4.out.loc 0 _ _ _ rfl).1)
      refine ⟨fun _ => HT.out, ?_⟩
      try simp only [List.setIfInBounds_toArray, List.set_cons_succ, List.set_cons_zero]
      refine till_only (j := 3) (by kernel_rfl) rfl ?_
      go_wp2_with (go_at_call 71; refine (stack_no DK4.out.book code HS.out HN.out).mono ?_; rintro e v ⟨rfl, hb⟩; have DKe := Lib.hid (DK4.out.below hb); clear hb)
      exact ⟨rfl, rfl, DKe.out.quiet⟩
  · go_wp2_with fail
    have DK3 := Lib.hid (show Desk w (v0.alloc (.cells #[.string ⟨#[]⟩, .int .i64 0, .int .i64 0, .int .i64 0, .int .i64 0, .int .i64 0, .int .i64 0, .slice none 0 0] 48)) (fun _ => False) C B bef aft l c made N kv tv m [(gD, 57, [.int .i64 kind, .int .i64 day, .string code, .string other, .int .i64 al, .int .i64 ah, .int .i64 bl, .int .i64 bh]), (v0.heap.size, 48, [.string ⟨#[]⟩, .int .i64 0, .int .i64 0, .int .i64 0, .int .i64 0, .int .i64 0, .int .i64 0, .slice none 0 0])] from DK2.out.alloc 48 [.string ⟨#[]⟩, .int .i64 0, .int .i64 0, .int .i64 0, .int .i64 0, .int .i64 0, .int .i64 0, .slice none 0 0] rfl)
    generalize (v0.alloc (.cells #[.string ⟨#[]⟩, .int .i64 0, .int .i64 0, .int .i64 0, .int .i64 0, .int .i64 0, .int .i64 0, .slice none 0 0] 48)) = v1 at DK3 ⊢
    generalize v0.heap.size = gO at DK3 ⊢
    have HT := Lib.hid (show (fun w' => Blk w' gD 57 #[.int .i64 kind, .int .i64 day, .string code, .string other, .int .i64 al, .int .i64 ah, .int .i64 bl, .int .i64 bh]) v1 from (DK3.out.loc 0 _ _ _ rfl).1)
    refine ⟨fun _ => HT.out, ?_⟩
    try simp only [List.setIfInBounds_toArray, List.set_cons_succ, List.set_cons_zero]
    refine till_two (i := 3) (j := 8) (by kernel_rfl) rfl rfl ?_ ?_
    · go_wp2_with (go_at_call 71; refine (stack_no DK3.out.book code HS.out HN.out).mono ?_; rintro e v ⟨rfl, hb⟩; have DKe := Lib.hid (DK3.out.below hb); clear hb)
      exact ⟨rfl, rfl, DKe.out.quiet⟩
    · go_wp2_with fail
      have DK4 := Lib.hid (show Desk w (v1.alloc (.cells #[.string ⟨#[]⟩, .int .i64 0, .int .i64 0, .int .i64 0, .int .i64 0, .int .i64 0, .int .i64 0, .slice none 0 0] 48)) (fun _ => False) C B bef aft l c made N kv tv m [(gD, 57, [.int .i64 kind, .int .i64 day, .string code, .string other, .int .i64 al, .int .i64 ah, .int .i64 bl, .int .i64 bh]), (gO, 48, [.string ⟨#[]⟩, .int .i64 0, .int .i64 0, .int .i64 0, .int .i64 0, .int .i64 0, .int .i64 0, .slice none 0 0]), (v1.heap.size, 48, [.string ⟨#[]⟩, .int .i64 0, .int .i64 0, .int .i64 0, .int .i64 0, .int .i64 0, .int .i64 0, .slice none 0 0])] from DK3.out.alloc 48 [.string ⟨#[]⟩, .int .i64 0, .int .i64 0, .int .i64 0, .int .i64 0, .int .i64 0, .int .i64 0, .slice none 0 0] rfl)
      generalize (v1.alloc (.cells #[.string ⟨#[]⟩, .int .i64 0, .int .i64 0, .int .i64 0, .int .i64 0, .int .i64 0, .int .i64 0, .slice none 0 0] 48)) = v2 at DK4 ⊢
      generalize v1.heap.size = gS at DK4 ⊢
      have HT := Lib.hid (show (fun w' => Blk w' gD 57 #[.int .i64 kind, .int .i64 day, .string code, .string other, .int .i64 al, .int .i64 ah, .int .i64 bl, .int .i64 bh]) v2 from (DK4.out.loc 0 _ _ _ rfl).1)
      refine ⟨fun _ => HT.out, ?_⟩
      try simp only [List.setIfInBounds_toArray, List.set_cons_succ, List.set_cons_zero]
      refine till_only (j := 3) (by kernel_rfl) rfl ?_
      go_wp2_with (go_at_call 71; refine (stack_no DK4.out.book code HS.out HN.out).mono ?_; rintro e v ⟨rfl, hb⟩; have DKe := Lib.hid (DK4.out.below hb); clear hb)
      exact ⟨rfl, rfl, DKe.out.quiet⟩

set_option maxRecDepth 100000 in
set_option maxHeartbeats 1000000 in
theorem merge_none {w : World} {C : Nat → Prop} {B : Nat} {bef aft : Int} {l : List SRow} {c : Yd.Acc} {made : Int} {N : Nat} {kv tv : Value} {m : Nat} (h : Book w C B bef aft l c made N kv tv m)
    (kind day : Int) (code other : Code) (al ah bl bh : Int) (hs : code.size ≤ maxLen) (hC : ∀ k, C k → k < w.heap.size) (dl dh wl wh pil boi : Int) (src : List Int) (fa : Option Addr) (fn fc : Nat) {k : Nat} (hk : ixOf l code = some k) (hp : l[k]? = some (⟨code, ⟨dl, dh⟩, ⟨wl, wh⟩, pil, boi, src⟩, .slice fa fn fc)) (hso : other.size ≤ maxLen) (hn : ixOf l other = none) :
    Calls Try.prog 66 #[.pointer (some ⟨B, 0, none⟩), .agg #[.int .i64 kind, .int .i64 day, .string code, .string other, .int .i64 al, .int .i64 ah, .int .i64 bl, .int .i64 bh]] w fun e w' => e = .panicked (faulty 1) ∧ Below w.heap.size w w' := by
  have HS := Lib.hid hs; have HK := Lib.hid hk; have HP := Lib.hid hp; have HSO := Lib.hid hso; have HN := Lib.hid hn
  clear hs hk hp hso hn
  have DK1 := Lib.hid (boxed_deed h hC [.int .i64 kind, .int .i64 day, .string code, .string other, .int .i64 al, .int .i64 ah, .int .i64 bl, .int .i64 bh])
  go_enter Try.func66, Try.ntmps66
  go_upto_region 1 with fail
  generalize (w.alloc (.cells #[.int .i64 kind, .int .i64 day, .string code, .string other, .int .i64 al, .int .i64 ah, .int .i64 bl, .int .i64 bh] 57)) = w1 at DK1 ⊢
  obtain ⟨gD, hgD⟩ : ∃ g, g = w.heap.size := ⟨_, rfl⟩
  rw [← hgD] at DK1 ⊢
  clear hgD
  have hmix : Try.prog.follows .mixedOrders = true := by kernel_rfl
  refine region_till [11] (fun w' => Blk w' gD 57 #[.int .i64 kind, .int .i64 day, .string code, .string other, .int .i64 al, .int .i64 ah, .int .i64 bl, .int .i64 bh]) 12 [false, false, false, false, false, false, false, false, false, false, false, false] hmix rfl rfl ?_
  have DK2 := Lib.hid (DK1.out.drew)
  clear DK1 hmix
  generalize w1.drew = v0 at DK2 ⊢
  have HT := Lib.hid (show (fun w' => Blk w' gD 57 #[.int .i64 kind, .int .i64 day, .string code, .string other, .int .i64 al, .int .i64 ah, .int .i64 bl, .int .i64 bh]) v0 from (DK2.out.loc 0 _ _ _ rfl).1)
  refine till_pure (i := 0) (v := .pointer (some ⟨B, 0, none⟩)) rfl rfl (by kernel_rfl) (fun _ _ _ h => h) (yields_of rfl (fun w' _ => by simp [go_sem])) (fun _ => HT.out) ?_
  simp only [List.setIfInBounds_toArray, List.set_cons_succ, List.set_cons_zero]
  refine till_pure (i := 1) (v := .pointer (some ⟨gD, 2, none⟩)) rfl rfl (by kernel_rfl) (fun _ _ _ h => h) (yields_of rfl (fun w' _ => by simp [go_sem])) (fun _ => HT.out) ?_
  simp only [List.setIfInBounds_toArray, List.set_cons_succ, List.set_cons_zero]
  refine till_load (i := 2) (v := .string code) rfl rfl (by kernel_rfl) (fun _ _ _ h => h) (yields_of rfl (fun w' hw' => by have hcx := Blk.at hw' 2 (.string code) rfl; simp [go_sem, hcx])) (fun _ => HT.out) ?_
  simp only [List.setIfInBounds_toArray, List.set_cons_succ, List.set_cons_zero]
  refine till_pure (i := 4) (v := .pointer (some ⟨B, 0, none⟩)) rfl rfl (by kernel_rfl) (fun _ _ _ h => h) (yields_of rfl (fun w' _ => by simp [go_sem])) (fun _ => HT.out) ?_
  simp only [List.setIfInBounds_toArray, List.set_cons_succ, List.set_cons_zero]
  refine till_pure (i := 5) (v := .pointer (some ⟨gD, 3, none⟩)) rfl rfl (by kernel_rfl) (fun _ _ _ h => h) (yields_of rfl (fun w' _ => by simp [go_sem])) (fun _ => HT.out) ?_
  simp only [List.setIfInBounds_toArray, List.set_cons_succ, List.set_cons_zero]
  refine till_load (i := 6) (v := .string other) rfl rfl (by kernel_rfl) (fun _ _ _ h => h) (yields_of rfl (fun w' hw' => by have hcx := Blk.at hw' 3 (.string other) rfl; simp [go_sem, hcx])) (fun _ => HT.out) ?_
  simp only [List.setIfInBounds_toArray, List.set_cons_succ, List.set_cons_zero]
  refine till_three (i := 3) (j := 8) (k := 9) (by kernel_rfl) rfl rfl rfl ?_ ?_ ?_
  · go_wp2_with (go_at_call 71; refine (stack_yes DK2.out.book code HS.out HK.out HP.out).mono ?_; rintro e v1 ⟨rfl, hb⟩; have DK3 := Lib.hid (DK2.out.below hb); clear hb)
    have HT := Lib.hid (show (fun w' => Blk w' gD 57 #[.int .i64 kind, .int .i64 day, .string code, .string other, .int .i64 al, .int .i64 ah, .int .i64 bl, .int .i64 bh]) v1 from (DK3.out.loc 0 _ _ _ rfl).1)
    refine ⟨fun _ => HT.out, ?_⟩
    try simp only [List.setIfInBounds_toArray, List.set_cons_succ, List.set_cons_zero]
    refine till_three (i := 7) (j := 8) (k := 9) (by kernel_rfl) rfl rfl rfl ?_ ?_ ?_
    · go_wp2_with (go_at_call 71; refine (stack_no DK3.out.book other HSO.out HN.out).mono ?_; rintro e v ⟨rfl, hb⟩; have DKe := Lib.hid (DK3.out.below hb); clear hb)
      exact ⟨rfl, rfl, DKe.out.quiet⟩
    · go_wp2_with fail
      have DK4 := Lib.hid (show Desk w (v1.alloc (.cells #[.string ⟨#[]⟩, .int .i64 0, .int .i64 0, .int .i64 0, .int .i64 0, .int .i64 0, .int .i64 0, .slice none 0 0] 48)) (fun _ => False) C B bef aft l c made N kv tv m [(gD, 57, [.int .i64 kind, .int .i64 day, .string code, .string other, .int .i64 al, .int .i64 ah, .int .i64 bl, .int .i64 bh]), (v1.heap.size, 48, [.string ⟨#[]⟩, .int .i64 0, .int .i64 0, .int .i64 0, .int .i64 0, .int .i64 0, .int .i64 0, .slice none 0 0])] from DK3.out.alloc 48 [.string ⟨#[]⟩, .int .i64 0, .int .i64 0, .int .i64 0, .int .i64 0, .int .i64 0, .int .i64 0, .slice none 0 0] rfl)
      generalize (v1.alloc (.cells #[.string ⟨#[]⟩, .int .i64 0, .int .i64 0, .int .i64 0, .int .i64 0, .int .i64 0, .int .i64 0, .slice none 0 0] 48)) = v2 at DK4 ⊢
      generalize v1.heap.size = gS at DK4 ⊢
      have HT := Lib.hid (show (fun w' => Blk w' gD 57 #[.int .i64 kind, .int .i64 day, .string code, .string other, .int .i64 al, .int .i64 ah, .int .i64 bl, .int .i64 bh]) v2 from (DK4.out.loc 0 _ _ _ rfl).1)
      refine ⟨fun _ => HT.out, ?_⟩
      try simp only [List.setIfInBounds_toArray, List.set_cons_succ, List.set_cons_zero]
      refine till_two (i := 7) (j := 9) (by kernel_rfl) rfl rfl ?_ ?_
      · go_wp2_with (go_at_call 71; refine (stack_no DK4.out.book other HSO.out HN.out).mono ?_; rintro e v ⟨rfl, hb⟩; have DKe := Lib.hid (DK4.out.below hb); clear hb)
        exact ⟨rfl, rfl, DKe.out.quiet⟩
      · go_wp2_with fail
        have DK5 := Lib.hid (show Desk w (v2.alloc (.cells #[.string ⟨#[]⟩, .int .i64 0, .int .i64 0, .int .i64 0, .int .i64 0, .int .i64 0, .int .i64 0, .slice none 0 0] 48)) (fun _ => False) C B bef aft l c made N kv tv m [(gD, 57, [.int .i64 kind, .int .i64 day, .string code, .string other, .int .i64 al, .int .i64 ah, .int .i64 bl, .int .i64 bh]), (gS, 48, [.string ⟨#[]⟩, .int .i64 0, .int .i64 0, .int .i64 0, .int .i64 0, .int .i64 0, .int .i64 0, .slice none 0 0]), (v2.heap.size, 48, [.string ⟨#[]⟩, .int .i64 0, .int .i64 0, .int .i64 0, .int .i64 0, .int .i64 0, .int .i64 0, .slice none 0 0])] from DK4.out.alloc 48 [.string ⟨#[]⟩, .int .i64 0, .int .i64 0, .int .i64 0, .int .i64 0, .int .i64 0, .int .i64 0, .slice none 0 0] rfl)
        generalize (v2.alloc (.cells #[.string ⟨#[]⟩, .int .i64 0, .int .i64 0, .int .i64 0, .int .i64 0, .int .i64 0, .int .i64 0, .slice none 0 0] 48)) = v3 at DK5 ⊢
        generalize v2.heap.size = gO at DK5 ⊢
        have HT := Lib.hid (show (fun w' => Blk w' gD 57 #[.int .i64 kind, .int .i64 day, .string code, .string other, .int .i64 al, .int .i64 ah, .int .i64 bl, .int .i64 bh]) v3 from (DK5.out.loc 0 _ _ _ rfl).1)
        refine ⟨fun _ => HT.out, ?_⟩
        try simp only [List.setIfInBounds_toArray, List.set_cons_succ, List.set_cons_zero]
        refine till_only (j := 7) (by kernel_rfl) rfl ?_
        go_wp2_with (go_at_call 71; refine (stack_no DK5.out.book other HSO.out HN.out).mono ?_; rintro e v ⟨rfl, hb⟩; have DKe := Lib.hid (DK5.out.below hb); clear hb)
        exact ⟨rfl, rfl, DKe.out.quiet⟩
    · go_wp2_with fail
      have DK4 := Lib.hid (show Desk w (v1.alloc (.cells #[.string ⟨#[]⟩, .int .i64 0, .int .i64 0, .int .i64 0, .int .i64 0, .int .i64 0, .int .i64 0, .slice none 0 0] 48)) (fun _ => False) C B bef aft l c made N kv tv m [(gD, 57, [.int .i64 kind, .int .i64 day, .string code, .string other, .int .i64 al, .int .i64 ah, .int .i64 bl, .int .i64 bh]), (v1.heap.size, 48, [.string ⟨#[]⟩, .int .i64 0, .int .i64 0, .int .i64 0, .int .i64 0, .int .i64 0, .int .i64 0, .slice none 0 0])] from DK3.out.alloc 48 [.string ⟨#[]⟩, .int .i64 0, .int .i64 0, .int .i64 0, .int .i64 0, .int .i64 0, .int .i64 0, .slice none 0 0] rfl)
      generalize (v1.alloc (.cells #[.string ⟨#[]⟩, .int .i64 0, .int .i64 0, .int .i64 0, .int .i64 0, .int .i64 0, .int .i64 0, .slice none 0 0] 48)) = v2 at DK4 ⊢
      generalize v1.heap.size = gO at DK4 ⊢
      have HT := Lib.hid (show (fun w' => Blk w' gD 57 #[.int .i64 kind, .int .i64 day, .string code, .string other, .int .i64 al, .int .i64 ah, .int .i64 bl, .int .i64 bh]) v2 from (DK4.out.loc 0 _ _ _ rfl).1)
      refine ⟨fun _ => HT.out, ?_⟩
      try simp only [List.setIfInBounds_toArray, List.set_cons_succ, List.set_cons_zero]
      refine till_two (i := 7) (j := 8) (by kernel_rfl) rfl rfl ?_ ?_
      · go_wp2_with (go_at_call 71; refine (stack_no DK4.out.book other HSO.out HN.out).mono ?_; rintro e v ⟨rfl, hb⟩; have DKe := Lib.hid (DK4.out.below hb); clear hb)
        exact ⟨rfl, rfl, DKe.out.quiet⟩
      · go_wp2_with fail
        have DK5 := Lib.hid (show Desk w (v2.alloc (.cells #[.string ⟨#[]⟩, .int .i64 0, .int .i64 0, .int .i64 0, .int .i64 0, .int .i64 0, .int .i64 0, .slice none 0 0] 48)) (fun _ => False) C B bef aft l c made N kv tv m [(gD, 57, [.int .i64 kind, .int .i64 day, .string code, .string other, .int .i64 al, .int .i64 ah, .int .i64 bl, .int .i64 bh]), (gO, 48, [.string ⟨#[]⟩, .int .i64 0, .int .i64 0, .int .i64 0, .int .i64 0, .int .i64 0, .int .i64 0, .slice none 0 0]), (v2.heap.size, 48, [.string ⟨#[]⟩, .int .i64 0, .int .i64 0, .int .i64 0, .int .i64 0, .int .i64 0, .int .i64 0, .slice none 0 0])] from DK4.out.alloc 48 [.string ⟨#[]⟩, .int .i64 0, .int .i64 0, .int .i64 0, .int .i64 0, .int .i64 0, .int .i64 0, .slice none 0 0] rfl)
        generalize (v2.alloc (.cells #[.string ⟨#[]⟩, .int .i64 0, .int .i64 0, .int .i64 0, .int .i64 0, .int .i64 0, .int .i64 0, .slice none 0 0] 48)) = v3 at DK5 ⊢
        generalize v2.heap.size = gS at DK5 ⊢
        have HT := Lib.hid (show (fun w' => Blk w' gD 57 #[.int .i64 kind, .int .i64 day, .string code, .string other, .int .i64 al, .int .i64 ah, .int .i64 bl, .int .i64 bh]) v3 from (DK5.out.loc 0 _ _ _ rfl).1)
        refine ⟨fun _ => HT.out, ?_⟩
        try simp only [List.setIfInBounds_toArray, List.set_cons_succ, List.set_cons_zero]
        refine till_only (j := 7) (by kernel_rfl) rfl ?_
        go_wp2_with (go_at_call 71; refine (stack_no DK5.out.book other HSO.out HN.out).mono ?_; rintro e v ⟨rfl, hb⟩; have DKe := Lib.hid (DK5.out.below hb); clear hb)
        exact ⟨rfl, rfl, DKe.out.quiet⟩
  · go_wp2_with fail
    have DK3 := Lib.hid (show Desk w (v0.alloc (.cells #[.string ⟨#[]⟩, .int .i64 0, .int .i64 0, .int .i64 0, .int .i64 0, .int .i64 0, .int .i64 0, .slice none 0 0] 48)) (fun _ => False) C B bef aft l c made N kv tv m [(gD, 57, [.int .i64 kind, .int .i64 day, .string code, .string other, .int .i64 al, .int .i64 ah, .int .i64 bl, .int .i64 bh]), (v0.heap.size, 48, [.string ⟨#[]⟩, .int .i64 0, .int .i64 0, .int .i64 0, .int .i64 0, .int .i64 0, .int .i64 0, .slice none 0 0])] from DK2.out.alloc 48 [.string ⟨#[]⟩, .int .i64 0, .int .i64 0, .int .i64 0, .int .i64 0, .int .i64 0, .int .i64 0, .slice none 0 0] rfl)
    generalize (v0.alloc (.cells #[.string ⟨#[]⟩, .int .i64 0, .int .i64 0, .int .i64 0, .int .i64 0, .int .i64 0, .int .i64 0, .slice none 0 0] 48)) = v1 at DK3 ⊢
    generalize v0.heap.size = gS at DK3 ⊢
    have HT := Lib.hid (show (fun w' => Blk w' gD 57 #[.int .i64 kind, .int .i64 day, .string code, .string other, .int .i64 al, .int .i64 ah, .int .i64 bl, .int .i64 bh]) v1 from (DK3.out.loc 0 _ _ _ rfl).1)
    refine ⟨fun _ => HT.out, ?_⟩
    try simp only [List.setIfInBounds_toArray, List.set_cons_succ, List.set_cons_zero]
    refine till_two (i := 3) (j := 9) (by kernel_rfl) rfl rfl ?_ ?_
    · go_wp2_with (go_at_call 71; refine (stack_yes DK3.out.book code HS.out HK.out HP.out).mono ?_; rintro e v2 ⟨rfl, hb⟩; have DK4 := Lib.hid (DK3.out.below hb); clear hb)
      have HT := Lib.hid (show (fun w' => Blk w' gD 57 #[.int .i64 kind, .int .i64 day, .string code, .string other, .int .i64 al, .int .i64 ah, .int .i64 bl, .int .i64 bh]) v2 from (DK4.out.loc 0 _ _ _ rfl).1)
      refine ⟨fun _ => HT.out, ?_⟩
      try simp only [List.setIfInBounds_toArray, List.set_cons_succ, List.set_cons_zero]
      refine till_two (i := 7) (j := 9) (by kernel_rfl) rfl rfl ?_ ?_
      · go_wp2_with (go_at_call 71; refine (stack_no DK4.out.book other HSO.out HN.out).mono ?_; rintro e v ⟨rfl, hb⟩; have DKe := Lib.hid (DK4.out.below hb); clear hb)
        exact ⟨rfl, rfl, DKe.out.quiet⟩
      · go_wp2_with fail
        have DK5 := Lib.hid (show Desk w (v2.alloc (.cells #[.string ⟨#[]⟩, .int .i64 0, .int .i64 0, .int .i64 0, .int .i64 0, .int .i64 0, .int .i64 0, .slice none 0 0] 48)) (fun _ => False) C B bef aft l c made N kv tv m [(gD, 57, [.int .i64 kind, .int .i64 day, .string code, .string other, .int .i64 al, .int .i64 ah, .int .i64 bl, .int .i64 bh]), (gS, 48, [.string ⟨#[]⟩, .int .i64 0, .int .i64 0, .int .i64 0, .int .i64 0, .int .i64 0, .int .i64 0, .slice none 0 0]), (v2.heap.size, 48, [.string ⟨#[]⟩, .int .i64 0, .int .i64 0, .int .i64 0, .int .i64 0, .int .i64 0, .int .i64 0, .slice none 0 0])] from DK4.out.alloc 48 [.string ⟨#[]⟩, .int .i64 0, .int .i64 0, .int .i64 0, .int .i64 0, .int .i64 0, .int .i64 0, .slice none 0 0] rfl)
        generalize (v2.alloc (.cells #[.string ⟨#[]⟩, .int .i64 0, .int .i64 0, .int .i64 0, .int .i64 0, .int .i64 0, .int .i64 0, .slice none 0 0] 48)) = v3 at DK5 ⊢
        generalize v2.heap.size = gO at DK5 ⊢
        have HT := Lib.hid (show (fun w' => Blk w' gD 57 #[.int .i64 kind, .int .i64 day, .string code, .string other, .int .i64 al, .int .i64 ah, .int .i64 bl, .int .i64 bh]) v3 from (DK5.out.loc 0 _ _ _ rfl).1)
        refine ⟨fun _ => HT.out, ?_⟩
        try simp only [List.setIfInBounds_toArray, List.set_cons_succ, List.set_cons_zero]
        refine till_only (j := 7) (by kernel_rfl) rfl ?_
        go_wp2_with (go_at_call 71; refine (stack_no DK5.out.book other HSO.out HN.out).mono ?_; rintro e v ⟨rfl, hb⟩; have DKe := Lib.hid (DK5.out.below hb); clear hb)
        exact ⟨rfl, rfl, DKe.out.quiet⟩
    · go_wp2_with fail
      have DK4 := Lib.hid (show Desk w (v1.alloc (.cells #[.string ⟨#[]⟩, .int .i64 0, .int .i64 0, .int .i64 0, .int .i64 0, .int .i64 0, .int .i64 0, .slice none 0 0] 48)) (fun _ => False) C B bef aft l c made N kv tv m [(gD, 57, [.int .i64 kind, .int .i64 day, .string code, .string other, .int .i64 al, .int .i64 ah, .int .i64 bl, .int .i64 bh]), (gS, 48, [.string ⟨#[]⟩, .int .i64 0, .int .i64 0, .int .i64 0, .int .i64 0, .int .i64 0, .int .i64 0, .slice none 0 0]), (v1.heap.size, 48, [.string ⟨#[]⟩, .int .i64 0, .int .i64 0, .int .i64 0, .int .i64 0, .int .i64 0, .int .i64 0, .slice none 0 0])] from DK3.out.alloc 48 [.string ⟨#[]⟩, .int .i64 0, .int .i64 0, .int .i64 0, .int .i64 0, .int .i64 0, .int .i64 0, .slice none 0 0] rfl)
      generalize (v1.alloc (.cells #[.string ⟨#[]⟩, .int .i64 0, .int .i64 0, .int .i64 0, .int .i64 0, .int .i64 0, .int .i64 0, .slice none 0 0] 48)) = v2 at DK4 ⊢
      generalize v1.heap.size = gO at DK4 ⊢
      have HT := Lib.hid (show (fun w' => Blk w' gD 57 #[.int .i64 kind, .int .i64 day, .string code, .string other, .int .i64 al, .int .i64 ah, .int .i64 bl, .int .i64 bh]) v2 from (DK4.out.loc 0 _ _ _ rfl).1)
      refine ⟨fun _ => HT.out, ?_⟩
      try simp only [List.setIfInBounds_toArray, List.set_cons_succ, List.set_cons_zero]
      refine till_only (j := 3) (by kernel_rfl) rfl ?_
      go_wp2_with (go_at_call 71; refine (stack_yes DK4.out.book code HS.out HK.out HP.out).mono ?_; rintro e v3 ⟨rfl, hb⟩; have DK5 := Lib.hid (DK4.out.below hb); clear hb)
      have HT := Lib.hid (show (fun w' => Blk w' gD 57 #[.int .i64 kind, .int .i64 day, .string code, .string other, .int .i64 al, .int .i64 ah, .int .i64 bl, .int .i64 bh]) v3 from (DK5.out.loc 0 _ _ _ rfl).1)
      refine ⟨fun _ => HT.out, ?_⟩
      try simp only [List.setIfInBounds_toArray, List.set_cons_succ, List.set_cons_zero]
      refine till_only (j := 7) (by kernel_rfl) rfl ?_
      go_wp2_with (go_at_call 71; refine (stack_no DK5.out.book other HSO.out HN.out).mono ?_; rintro e v ⟨rfl, hb⟩; have DKe := Lib.hid (DK5.out.below hb); clear hb)
      exact ⟨rfl, rfl, DKe.out.quiet⟩
  · go_wp2_with fail
    have DK3 := Lib.hid (show Desk w (v0.alloc (.cells #[.string ⟨#[]⟩, .int .i64 0, .int .i64 0, .int .i64 0, .int .i64 0, .int .i64 0, .int .i64 0, .slice none 0 0] 48)) (fun _ => False) C B bef aft l c made N kv tv m [(gD, 57, [.int .i64 kind, .int .i64 day, .string code, .string other, .int .i64 al, .int .i64 ah, .int .i64 bl, .int .i64 bh]), (v0.heap.size, 48, [.string ⟨#[]⟩, .int .i64 0, .int .i64 0, .int .i64 0, .int .i64 0, .int .i64 0, .int .i64 0, .slice none 0 0])] from DK2.out.alloc 48 [.string ⟨#[]⟩, .int .i64 0, .int .i64 0, .int .i64 0, .int .i64 0, .int .i64 0, .int .i64 0, .slice none 0 0] rfl)
    generalize (v0.alloc (.cells #[.string ⟨#[]⟩, .int .i64 0, .int .i64 0, .int .i64 0, .int .i64 0, .int .i64 0, .int .i64 0, .slice none 0 0] 48)) = v1 at DK3 ⊢
    generalize v0.heap.size = gO at DK3 ⊢
    have HT := Lib.hid (show (fun w' => Blk w' gD 57 #[.int .i64 kind, .int .i64 day, .string code, .string other, .int .i64 al, .int .i64 ah, .int .i64 bl, .int .i64 bh]) v1 from (DK3.out.loc 0 _ _ _ rfl).1)
    refine ⟨fun _ => HT.out, ?_⟩
    try simp only [List.setIfInBounds_toArray, List.set_cons_succ, List.set_cons_zero]
    refine till_two (i := 3) (j := 8) (by kernel_rfl) rfl rfl ?_ ?_
    · go_wp2_with (go_at_call 71; refine (stack_yes DK3.out.book code HS.out HK.out HP.out).mono ?_; rintro e v2 ⟨rfl, hb⟩; have DK4 := Lib.hid (DK3.out.below hb); clear hb)
      have HT := Lib.hid (show (fun w' => Blk w' gD 57 #[.int .i64 kind, .int .i64 day, .string code, .string other, .int .i64 al, .int .i64 ah, .int .i64 bl, .int .i64 bh]) v2 from (DK4.out.loc 0 _ _ _ rfl).1)
      refine ⟨fun _ => HT.out, ?_⟩
      try simp only [List.setIfInBounds_toArray, List.set_cons_succ, List.set_cons_zero]
      refine till_two (i := 7) (j := 8) (by kernel_rfl) rfl rfl ?_ ?_
      · go_wp2_with (go_at_call 71; refine (stack_no DK4.out.book other HSO.out HN.out).mono ?_; rintro e v ⟨rfl, hb⟩; have DKe := Lib.hid (DK4.out.below hb); clear hb)
        exact ⟨rfl, rfl, DKe.out.quiet⟩
      · go_wp2_with fail
        have DK5 := Lib.hid (show Desk w (v2.alloc (.cells #[.string ⟨#[]⟩, .int .i64 0, .int .i64 0, .int .i64 0, .int .i64 0, .int .i64 0, .int .i64 0, .slice none 0 0] 48)) (fun _ => False) C B bef aft l c made N kv tv m [(gD, 57, [.int .i64 kind, .int .i64 day, .string code, .string other, .int .i64 al, .int .i64 ah, .int .i64 bl, .int .i64 bh]), (gO, 48, [.string ⟨#[]⟩, .int .i64 0, .int .i64 0, .int .i64 0, .int .i64 0, .int .i64 0, .int .i64 0, .slice none 0 0]), (v2.heap.size, 48, [.string ⟨#[]⟩, .int .i64 0, .int .i64 0, .int .i64 0, .int .i64 0, .int .i64 0, .int .i64 0, .slice none 0 0])] from DK4.out.alloc 48 [.string ⟨#[]⟩, .int .i64 0, .int .i64 0, .int .i64 0, .int .i64 0, .int .i64 0, .int .i64 0, .slice none 0 0] rfl)
        generalize (v2.alloc (.cells #[.string ⟨#[]⟩, .int .i64 0, .int .i64 0, .int .i64 0, .int .i64 0, .int .i64 0, .int .i64 0, .slice none 0 0] 48)) = v3 at DK5 ⊢
        generalize v2.heap.size = gS at DK5 ⊢
        have HT := Lib.hid (show (fun w' => Blk w' gD 57 #[.int .i64 kind, .int .i64 day, .string code, .string other, .int .i64 al, .int .i64 ah, .int .i64 bl, .int .i64 bh]) v3 from (DK5.out.loc 0 _ _ _ rfl).1)
        refine ⟨fun _ => HT.out, ?_⟩
        try simp only [List.setIfInBounds_toArray, List.set_cons_succ, List.set_cons_zero]
        refine till_only (j := 7) (by kernel_rfl) rfl ?_
        go_wp2_with (go_at_call 71; refine (stack_no DK5.out.book other HSO.out HN.out).mono ?_; rintro e v ⟨rfl, hb⟩; have DKe := Lib.hid (DK5.out.below hb); clear hb)
        exact ⟨rfl, rfl, DKe.out.quiet⟩
    · go_wp2_with fail
      have DK4 := Lib.hid (show Desk w (v1.alloc (.cells #[.string ⟨#[]⟩, .int .i64 0, .int .i64 0, .int .i64 0, .int .i64 0, .int .i64 0, .int .i64 0, .slice none 0 0] 48)) (fun _ => False) C B bef aft l c made N kv tv m [(gD, 57, [.int .i64 kind, .int .i64 day, .string code, .string other, .int .i64 al, .int .i64 ah, .int .i64 bl, .int .i64 bh]), (gO, 48, [.string ⟨#[]⟩, .int .i64 0, .int .i64 0, .int .i64 0, .int .i64 0, .int .i64 0, .int .i64 0, .slice none 0 0]), (v1.heap.size, 48, [.string ⟨#[]⟩, .int .i64 0, .int .i64 0, .int .i64 0, .int .i64 0, .int .i64 0, .int .i64 0, .slice none 0 0])] from DK3.out.alloc 48 [.string ⟨#[]⟩, .int .i64 0, .int .i64 0, .int .i64 0, .int .i64 0, .int .i64 0, .int .i64 0, .slice none 0 0] rfl)
      generalize (v1.alloc (.cells #[.string ⟨#[]⟩, .int .i64 0, .int .i64 0, .int .i64 0, .int .i64 0, .int .i64 0, .int .i64 0, .slice none 0 0] 48)) = v2 at DK4 ⊢
      generalize v1.heap.size = gS at DK4 ⊢
      have HT := Lib.hid (show (fun w' => Blk w' gD 57 #[.int .i64 kind, .int .i64 day, .string code, .string other, .int .i64 al, .int .i64 ah, .int .i64 bl, .int .i64 bh]) v2 from (DK4.out.loc 0 _ _ _ rfl).1)
      refine ⟨fun _ => HT.out, ?_⟩
      try simp only [List.setIfInBounds_toArray, List.set_cons_succ, List.set_cons_zero]
      refine till_only (j := 3) (by kernel_rfl) rfl ?_
      go_wp2_with (go_at_call 71; refine (stack_yes DK4.out.book code HS.out HK.out HP.out).mono ?_; rintro e v3 ⟨rfl, hb⟩; have DK5 := Lib.hid (DK4.out.below hb); clear hb)
      have HT := Lib.hid (show (fun w' => Blk w' gD 57 #[.int .i64 kind, .int .i64 day, .string code, .string other, .int .i64 al, .int .i64 ah, .int .i64 bl, .int .i64 bh]) v3 from (DK5.out.loc 0 _ _ _ rfl).1)
      refine ⟨fun _ => HT.out, ?_⟩
      try simp only [List.setIfInBounds_toArray, List.set_cons_succ, List.set_cons_zero]
      refine till_only (j := 7) (by kernel_rfl) rfl ?_
      go_wp2_with (go_at_call 71; refine (stack_no DK5.out.book other HSO.out HN.out).mono ?_; rintro e v ⟨rfl, hb⟩; have DKe := Lib.hid (DK5.out.below hb); clear hb)
      exact ⟨rfl, rfl, DKe.out.quiet⟩

end Go.Proofs.Ytbgojeppfhldjaa
