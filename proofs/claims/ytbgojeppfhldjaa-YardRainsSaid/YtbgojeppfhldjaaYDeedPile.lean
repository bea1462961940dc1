/- A deed: pile. -/
import Derived.Test.YtbgojeppfhldjaaYClone
namespace Go.Proofs.Ytbgojeppfhldjaa
open Go Go.RowKit Yd

set_option maxRecDepth 100000 in
set_option maxHeartbeats 1000000 in
theorem pile_found {w : World} {C : Nat → Prop} {B : Nat} {bef aft : Int} {l : List SRow} {c : Yd.Acc} {made : Int} {N : Nat} {kv tv : Value} {m : Nat} (h : Book w C B bef aft l c made N kv tv m)
    (kind day : Int) (code other : Code) (al ah bl bh : Int) (hs : code.size ≤ maxLen) (hC : ∀ k, C k → k < w.heap.size) {k : Nat} (hk : ixOf l code = some k) {p : SRow} (hp : l[k]? = some p) :
    Calls Try.prog 61 #[.pointer (some ⟨B, 0, none⟩), .agg #[.int .i64 kind, .int .i64 day, .string code, .string other, .int .i64 al, .int .i64 ah, .int .i64 bl, .int .i64 bh]] w fun e w' => e = .panicked (faulty 1) ∧ Below w.heap.size w w' := by
  have HK := Lib.hid hk; have HP := Lib.hid hp; clear hk hp
  have DK1 := Lib.hid (boxed_deed h hC [.int .i64 kind, .int .i64 day, .string code, .string other, .int .i64 al, .int .i64 ah, .int .i64 bl, .int .i64 bh])
  have HS := Lib.hid hs; have HC := Lib.hid hC
  clear h hs hC
  go_enter Try.func61, Try.ntmps61
  go_wp2_with (go_at_call 69; refine (needNew_found DK1.out.book code HS.out HK.out HP.out).mono ?_; rintro e w1 ⟨rfl, hb1⟩; have DK2 := Lib.hid (DK1.out.below hb1); clear hb1)
  exact ⟨rfl, rfl, DK2.out.quiet⟩

set_option maxRecDepth 100000 in
set_option maxHeartbeats 1000000 in
theorem pile_full {w : World} {C : Nat → Prop} {B : Nat} {bef aft : Int} {l : List SRow} {c : Yd.Acc} {made : Int} {N : Nat} {kv tv : Value} {m : Nat} (h : Book w C B bef aft l c made N kv tv m)
    (kind day : Int) (code other : Code) (al ah bl bh : Int) (hs : code.size ≤ maxLen) (hC : ∀ k, C k → k < w.heap.size) (hn : ixOf l code = none) (h8 : 8 ≤ l.length) :
    Calls Try.prog 61 #[.pointer (some ⟨B, 0, none⟩), .agg #[.int .i64 kind, .int .i64 day, .string code, .string other, .int .i64 al, .int .i64 ah, .int .i64 bl, .int .i64 bh]] w fun e w' => e = .panicked (faulty 2) ∧ Below w.heap.size w w' := by
  have HN := Lib.hid hn; have H8 := Lib.hid h8; clear hn h8
  have DK1 := Lib.hid (boxed_deed h hC [.int .i64 kind, .int .i64 day, .string code, .string other, .int .i64 al, .int .i64 ah, .int .i64 bl, .int .i64 bh])
  have HS := Lib.hid hs; have HC := Lib.hid hC
  clear h hs hC
  go_enter Try.func61, Try.ntmps61
  go_wp2_with (go_at_call 69; refine (needNew_full DK1.out.book code HS.out HN.out H8.out).mono ?_; rintro e w1 ⟨rfl, hb1⟩; have DK2 := Lib.hid (DK1.out.below hb1); clear hb1)
  exact ⟨rfl, rfl, DK2.out.quiet⟩

set_option maxRecDepth 100000 in
set_option maxHeartbeats 1000000 in
theorem pile_ok {w : World} {C : Nat → Prop} {B : Nat} {bef aft : Int} {l : List SRow} {c : Yd.Acc} {made : Int} {N : Nat} {kv tv : Value} {m : Nat} (h : Book w C B bef aft l c made N kv tv m)
    (kind day : Int) (code other : Code) (al ah bl bh : Int) (hs : code.size ≤ maxLen) (hC : ∀ k, C k → k < w.heap.size) (hn : ixOf l code = none) (h8 : l.length < 8) (hN : N < 1000000) :
    Calls Try.prog 61 #[.pointer (some ⟨B, 0, none⟩), .agg #[.int .i64 kind, .int .i64 day, .string code, .string other, .int .i64 al, .int .i64 ah, .int .i64 bl, .int .i64 bh]] w (DeedDone w C B bef aft (l.map (·.1) ++ [⟨code, ⟨al, ah⟩, ⟨bl, bh⟩, day, -1, [made]⟩]) c made (N + 1) m) := by
  have HN := Lib.hid hn; have H8 := Lib.hid h8; have HNN := Lib.hid hN; clear hn h8 hN
  have DK1 := Lib.hid (boxed_deed h hC [.int .i64 kind, .int .i64 day, .string code, .string other, .int .i64 al, .int .i64 ah, .int .i64 bl, .int .i64 bh])
  have HS := Lib.hid hs; have HC := Lib.hid hC
  clear h hs hC
  go_enter Try.func61, Try.ntmps61
  go_upto_region 2 with (go_at_call 69; refine (needNew_ok DK1.out.book code HS.out HN.out H8.out).mono ?_; rintro e w1 ⟨rfl, hb1⟩; have DK2 := Lib.hid (DK1.out.below hb1); clear hb1)
  obtain ⟨gD, hgD⟩ : ∃ g, g = w.heap.size := ⟨_, rfl⟩
  rw [← hgD] at DK2 ⊢
  clear hgD DK1
  have hmix : Try.prog.follows .mixedOrders = true := by kernel_rfl
  refine region_till [] (fun w' => Blk w' gD 57 #[.int .i64 kind, .int .i64 day, .string code, .string other, .int .i64 al, .int .i64 ah, .int .i64 bl, .int .i64 bh] ∧ w'.cell? ⟨B, 17, none⟩ = some (.int .i64 made)) 16 [false, false, false, false, false, false, false, false, false, false, false, false, false, false, false, false] hmix rfl rfl ?_
  have DK3 := Lib.hid (DK2.out.drew)
  clear DK2 hmix
  generalize w1.drew = v0 at DK3 ⊢
  have HT := Lib.hid (show (fun w' => Blk w' gD 57 #[.int .i64 kind, .int .i64 day, .string code, .string other, .int .i64 al, .int .i64 ah, .int .i64 bl, .int .i64 bh] ∧ w'.cell? ⟨B, 17, none⟩ = some (.int .i64 made)) v0 from ⟨(DK3.out.loc 0 _ _ _ rfl).1, DK3.out.own 17 rfl⟩)
  refine till_pure (i := 0) (v := .pointer (some ⟨B, 0, none⟩)) rfl rfl (by kernel_rfl) (fun _ _ _ h => h) (yields_of rfl (fun w' _ => by simp [go_sem])) (fun _ => HT.out) ?_
  simp only [List.setIfInBounds_toArray, List.set_cons_succ, List.set_cons_zero]
  refine till_pure (i := 1) (v := .pointer (some ⟨gD, 2, none⟩)) rfl rfl (by kernel_rfl) (fun _ _ _ h => h) (yields_of rfl (fun w' _ => by simp [go_sem])) (fun _ => HT.out) ?_
  simp only [List.setIfInBounds_toArray, List.set_cons_succ, List.set_cons_zero]
  refine till_load (i := 2) (v := .string code) rfl rfl (by kernel_rfl) (fun _ _ _ h => h) (yields_of rfl (fun w' hw' => by have hcx := Blk.at hw'.1 2 (.string code) rfl; simp [go_sem, hcx])) (fun _ => HT.out) ?_
  simp only [List.setIfInBounds_toArray, List.set_cons_succ, List.set_cons_zero]
  refine till_pure (i := 3) (v := .pointer (some ⟨gD, 4, none⟩)) rfl rfl (by kernel_rfl) (fun _ _ _ h => h) (yields_of rfl (fun w' _ => by simp [go_sem])) (fun _ => HT.out) ?_
  simp only [List.setIfInBounds_toArray, List.set_cons_succ, List.set_cons_zero]
  refine till_load (i := 4) (v := .agg #[.int .i64 al, .int .i64 ah]) rfl rfl (by kernel_rfl) (fun _ _ _ h => h) (yields_mid rfl 23 (.tmp 11) rfl (gD) 4 rfl [.int .i64 al, .int .i64 ah] _ (fun w' hw' => Blk.range hw'.1 4 _ rfl) Try.underlying23 rfl (by kernel_rfl)) (fun _ => HT.out) ?_
  simp only [List.setIfInBounds_toArray, List.set_cons_succ, List.set_cons_zero]
  refine till_pure (i := 5) (v := .pointer (some ⟨gD, 6, none⟩)) rfl rfl (by kernel_rfl) (fun _ _ _ h => h) (yields_of rfl (fun w' _ => by simp [go_sem])) (fun _ => HT.out) ?_
  simp only [List.setIfInBounds_toArray, List.set_cons_succ, List.set_cons_zero]
  refine till_load (i := 6) (v := .agg #[.int .i64 bl, .int .i64 bh]) rfl rfl (by kernel_rfl) (fun _ _ _ h => h) (yields_mid rfl 23 (.tmp 13) rfl (gD) 6 rfl [.int .i64 bl, .int .i64 bh] _ (fun w' hw' => Blk.range hw'.1 6 _ rfl) Try.underlying23 rfl (by kernel_rfl)) (fun _ => HT.out) ?_
  simp only [List.setIfInBounds_toArray, List.set_cons_succ, List.set_cons_zero]
  refine till_pure (i := 7) (v := .pointer (some ⟨gD, 1, none⟩)) rfl rfl (by kernel_rfl) (fun _ _ _ h => h) (yields_of rfl (fun w' _ => by simp [go_sem])) (fun _ => HT.out) ?_
  simp only [List.setIfInBounds_toArray, List.set_cons_succ, List.set_cons_zero]
  refine till_load (i := 8) (v := .int .i64 day) rfl rfl (by kernel_rfl) (fun _ _ _ h => h) (yields_of rfl (fun w' hw' => by have hcx := Blk.at hw'.1 1 (.int .i64 day) rfl; simp [go_sem, hcx])) (fun _ => HT.out) ?_
  simp only [List.setIfInBounds_toArray, List.set_cons_succ, List.set_cons_zero]
  refine till_pure (i := 9) (v := .pointer (some ⟨B, 0, none⟩)) rfl rfl (by kernel_rfl) (fun _ _ _ h => h) (yields_of rfl (fun w' _ => by simp [go_sem])) (fun _ => HT.out) ?_
  simp only [List.setIfInBounds_toArray, List.set_cons_succ, List.set_cons_zero]
  refine till_pure (i := 10) (v := .pointer (some ⟨B, 0, none⟩)) rfl rfl (by kernel_rfl) (fun _ _ _ h => h) (yields_of rfl (fun w' _ => by simp [go_sem])) (fun _ => HT.out) ?_
  simp only [List.setIfInBounds_toArray, List.set_cons_succ, List.set_cons_zero]
  refine till_pure (i := 11) (v := .pointer (some ⟨B, 17, none⟩)) rfl rfl (by kernel_rfl) (fun _ _ _ h => h) (yields_of rfl (fun w' _ => by simp [go_sem])) (fun _ => HT.out) ?_
  simp only [List.setIfInBounds_toArray, List.set_cons_succ, List.set_cons_zero]
  refine till_load (i := 12) (v := .int .i64 made) rfl rfl (by kernel_rfl) (fun _ _ _ h => h) (yields_of rfl (fun w' hw' => by have hcx : w'.cell? ⟨B, 17, none⟩ = some (.int .i64 made) := hw'.2; simp [go_sem, hcx])) (fun _ => HT.out) ?_
  simp only [List.setIfInBounds_toArray, List.set_cons_succ, List.set_cons_zero]
  refine till_only (j := 13) (by kernel_rfl) rfl ?_
  go_wp2_with fail
  have DK4 := Lib.hid (show Desk w (v0.alloc (.cells #[.int .i64 made] 3)) (fun _ => False) C B bef aft l c made N kv tv m [(gD, 57, [.int .i64 kind, .int .i64 day, .string code, .string other, .int .i64 al, .int .i64 ah, .int .i64 bl, .int .i64 bh]), (v0.heap.size, 3, [.int .i64 made])] from DK3.out.alloc 3 [.int .i64 made] rfl)
  generalize (v0.alloc (.cells #[.int .i64 made] 3)) = v1 at DK4 ⊢
  generalize v0.heap.size = gF at DK4 ⊢
  have HT := Lib.hid (show (fun w' => Blk w' gD 57 #[.int .i64 kind, .int .i64 day, .string code, .string other, .int .i64 al, .int .i64 ah, .int .i64 bl, .int .i64 bh] ∧ w'.cell? ⟨B, 17, none⟩ = some (.int .i64 made)) v1 from ⟨(DK4.out.loc 0 _ _ _ rfl).1, DK4.out.own 17 rfl⟩)
  refine ⟨fun _ => HT.out, ?_⟩
  try simp only [List.setIfInBounds_toArray, List.set_cons_succ, List.set_cons_zero]
  refine till_pure (i := 14) (v := .agg #[.string code, .int .i64 al, .int .i64 ah, .int .i64 bl, .int .i64 bh, .int .i64 day, .int .i64 (-1), .slice (some ⟨gF, 0, none⟩) 1 1]) rfl rfl (by kernel_rfl) (fun _ _ _ h => h) (yields_of rfl (fun w' _ => by simp [go_sem])) (fun _ => HT.out) ?_
  simp only [List.setIfInBounds_toArray, List.set_cons_succ, List.set_cons_zero]
  refine till_only (j := 15) (by kernel_rfl) rfl ?_
  have HQ := Lib.hid (show v1.ownsRow 0 3 1 (.slice (some ⟨gF, 0, none⟩) 1 1) 1 (intCells [made]) from row_of_block (cur := #[.int .i64 made]) (size := 1) (DK4.out.loc 1 _ _ _ rfl).1 (Nat.le_refl _) (by unfold maxLen; omega) rfl)
  go_wp2_with (go_at_call 70; go_must (refine (keep_new DK4.out.book ⟨code, ⟨al, ah⟩, ⟨bl, bh⟩, day, -1, [made]⟩ (some ⟨gF, 0, none⟩) 1 1 HS.out HN.out H8.out HQ.out (by simp) HNN.out).mono ?_); rintro e w9 ⟨rfl, hb9, kv', tv', hk9⟩; have HB9 := Lib.hid hb9; have HK9 := Lib.hid hk9; clear hb9 hk9)
  refine ⟨fun _ => ⟨HB9.out.blk (DK4.out.loc 0 _ _ _ rfl).1 (DK4.out.far 0 rfl).2.2.1, HK9.out.blk.at 17 (.int .i64 made) rfl⟩, ?_⟩
  try simp only [List.setIfInBounds_toArray, List.set_cons_succ, List.set_cons_zero]
  refine till_done (by kernel_rfl) ?_
  go_end0
  refine ⟨rfl, (DK4.out.beside.mono (C1 := C) (fun _ f => f.elim)).trans HB9.out (fun k hk => .inl hk), _, kv', tv', by simp, HK9.out.wide (fun k hk => ?_)⟩
  rcases hk with hk | hk
  · exact .inl hk
  · exact .inr (Nat.le_trans DK4.out.beside.size hk)
end Go.Proofs.Ytbgojeppfhldjaa
