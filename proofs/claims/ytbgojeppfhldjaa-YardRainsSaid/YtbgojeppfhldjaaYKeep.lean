/- The book keeps a stack: in its place, or behind all others. -/
import Derived.Test.YtbgojeppfhldjaaYDrop
namespace Go.Proofs.Ytbgojeppfhldjaa
open Go Go.RowKit Yd

set_option maxRecDepth 100000 in
set_option maxHeartbeats 1000000 in
theorem keep_old {w : World} {C : Nat → Prop} {B : Nat} {bef aft : Int} {l : List SRow} {c : Yd.Acc} {made : Int} {N : Nat} {kv tv : Value} {m : Nat} (h : Book w C B bef aft l c made N kv tv m)
    (x : Stk Code) (fa : Option Addr) (fn fc : Nat) {k : Nat} {p : SRow} (hp : l[k]? = some p) (hk : ixOf l x.code = some k) (hc : x.code = p.1.code) (hq : w.ownsRow 0 3 1 (.slice fa fn fc) x.src.length (intCells x.src)) (hl : x.src.length ≤ 1000) :
    Calls Try.prog 70 #[.pointer (some ⟨B, 0, none⟩), .agg #[.string x.code, .int .i64 x.dry.lo, .int .i64 x.dry.hi, .int .i64 x.water.lo, .int .i64 x.water.hi, .int .i64 x.piled, .int .i64 x.boiled, .slice fa fn fc]] w fun e w' => e = .returned (.tuple #[]) ∧ Beside C w w' ∧ Book w' C B bef aft (l.set k (x, .slice fa fn fc)) c made N kv tv m := by
  have HS := Lib.hid (Blk.new w 48 #[.string x.code, .int .i64 x.dry.lo, .int .i64 x.dry.hi, .int .i64 x.water.lo, .int .i64 x.water.hi, .int .i64 x.piled, .int .i64 x.boiled, .slice fa fn fc])
  have H0 := Lib.hid (h.alloc (.cells #[.string x.code, .int .i64 x.dry.lo, .int .i64 x.dry.hi, .int .i64 x.water.lo, .int .i64 x.water.hi, .int .i64 x.piled, .int .i64 x.boiled, .slice fa fn fc] 48))
  have HB0 := Lib.hid (show Beside C w (w.alloc (.cells #[.string x.code, .int .i64 x.dry.lo, .int .i64 x.dry.hi, .int .i64 x.water.lo, .int .i64 x.water.hi, .int .i64 x.piled, .int .i64 x.boiled, .slice fa fn fc] 48)) from (Beside.refl C w).alloc _)
  have HQ := Lib.hid (hq.alloc (.cells #[.string x.code, .int .i64 x.dry.lo, .int .i64 x.dry.hi, .int .i64 x.water.lo, .int .i64 x.water.hi, .int .i64 x.piled, .int .i64 x.boiled, .slice fa fn fc] 48))
  have HP := Lib.hid hp
  have HK := Lib.hid hk
  have HC := Lib.hid hc
  have HL := Lib.hid hl
  clear h hp hk hc hq hl
  go_enter Try.func70, Try.ntmps70
  go_wp2
  generalize w.alloc (.cells #[.string x.code, .int .i64 x.dry.lo, .int .i64 x.dry.hi, .int .i64 x.water.lo, .int .i64 x.water.hi, .int .i64 x.piled, .int .i64 x.boiled, .slice fa fn fc] 48) = W at *
  have s0 := cell_regrown (HS.out.at 0 (.string x.code) rfl)
  have s1 := cell_regrown (HS.out.at 1 (.int .i64 x.dry.lo) rfl)
  have s2 := cell_regrown (HS.out.at 2 (.int .i64 x.dry.hi) rfl)
  have s3 := cell_regrown (HS.out.at 3 (.int .i64 x.water.lo) rfl)
  have s4 := cell_regrown (HS.out.at 4 (.int .i64 x.water.hi) rfl)
  have s5 := cell_regrown (HS.out.at 5 (.int .i64 x.piled) rfl)
  have s6 := cell_regrown (HS.out.at 6 (.int .i64 x.boiled) rfl)
  have s7 := cell_regrown (HS.out.at 7 (.slice fa fn fc) rfl)
  refine region_split_below 6 (by kernel_rfl) (by kernel_rfl) (by kernel_rfl) ?_
  simp only [List.take_succ_cons, List.take_zero, List.drop_succ_cons, List.drop_zero]
  repeat (go_big_quiet_step (fail))
  refine wpQuiet_nil ?_
  intro w8 hw'
  have hb8 : Below W.heap.size W w8 := by obtain ⟨⟨dq, osq⟩, hw''⟩ := hw'; rw [hw'']; exact below_regrown W dq osq
  clear hw' s0 s1 s2 s3 s4 s5 s6 s7
  have H8 := Lib.hid (H0.out.below hb8)
  have HB8 := Lib.hid (HB0.out.thenBelow hb8)
  have HQ8 := Lib.hid (row_same HQ.out (fun j hj => hb8.block j (row_lt HQ.out hj)))
  clear hb8 H0 HB0 HQ HS
  go_wp2_with (go_at_call 84; refine (put_old H8.out x fa fn fc HP.out HK.out HC.out HQ8.out HL.out).mono ?_; rintro e w9 ⟨rfl, hb9, hk9⟩; have HB9 := Lib.hid (HB8.out.trans hb9 (fun k hk => .inl hk)); have HK9 := Lib.hid hk9; clear hb9 hk9)
  go_end0
  exact ⟨rfl, HB9.out, HK9.out⟩

set_option maxRecDepth 100000 in
set_option maxHeartbeats 1000000 in
theorem keep_new {w : World} {C : Nat → Prop} {B : Nat} {bef aft : Int} {l : List SRow} {c : Yd.Acc} {made : Int} {N : Nat} {kv tv : Value} {m : Nat} (h : Book w C B bef aft l c made N kv tv m)
    (x : Stk Code) (fa : Option Addr) (fn fc : Nat) (hs : x.code.size ≤ maxLen) (hn : ixOf l x.code = none) (h8 : l.length < 8) (hq : w.ownsRow 0 3 1 (.slice fa fn fc) x.src.length (intCells x.src)) (hl : x.src.length ≤ 1000) (hN : N < 1000000) :
    Calls Try.prog 70 #[.pointer (some ⟨B, 0, none⟩), .agg #[.string x.code, .int .i64 x.dry.lo, .int .i64 x.dry.hi, .int .i64 x.water.lo, .int .i64 x.water.hi, .int .i64 x.piled, .int .i64 x.boiled, .slice fa fn fc]] w (PutDone w C B bef aft (l ++ [(x, .slice fa fn fc)]) c made (N + 1) m) := by
  have HS := Lib.hid (Blk.new w 48 #[.string x.code, .int .i64 x.dry.lo, .int .i64 x.dry.hi, .int .i64 x.water.lo, .int .i64 x.water.hi, .int .i64 x.piled, .int .i64 x.boiled, .slice fa fn fc])
  have H0 := Lib.hid (h.alloc (.cells #[.string x.code, .int .i64 x.dry.lo, .int .i64 x.dry.hi, .int .i64 x.water.lo, .int .i64 x.water.hi, .int .i64 x.piled, .int .i64 x.boiled, .slice fa fn fc] 48))
  have HB0 := Lib.hid (show Beside C w (w.alloc (.cells #[.string x.code, .int .i64 x.dry.lo, .int .i64 x.dry.hi, .int .i64 x.water.lo, .int .i64 x.water.hi, .int .i64 x.piled, .int .i64 x.boiled, .slice fa fn fc] 48)) from (Beside.refl C w).alloc _)
  have HQ := Lib.hid (hq.alloc (.cells #[.string x.code, .int .i64 x.dry.lo, .int .i64 x.dry.hi, .int .i64 x.water.lo, .int .i64 x.water.hi, .int .i64 x.piled, .int .i64 x.boiled, .slice fa fn fc] 48))
  have HP := Lib.hid hs
  have HK := Lib.hid hn
  have HC := Lib.hid h8
  have HL := Lib.hid hl
  have HN := Lib.hid hN
  clear h hs hn h8 hq hl hN
  go_enter Try.func70, Try.ntmps70
  go_wp2
  generalize w.alloc (.cells #[.string x.code, .int .i64 x.dry.lo, .int .i64 x.dry.hi, .int .i64 x.water.lo, .int .i64 x.water.hi, .int .i64 x.piled, .int .i64 x.boiled, .slice fa fn fc] 48) = W at *
  have s0 := cell_regrown (HS.out.at 0 (.string x.code) rfl)
  have s1 := cell_regrown (HS.out.at 1 (.int .i64 x.dry.lo) rfl)
  have s2 := cell_regrown (HS.out.at 2 (.int .i64 x.dry.hi) rfl)
  have s3 := cell_regrown (HS.out.at 3 (.int .i64 x.water.lo) rfl)
  have s4 := cell_regrown (HS.out.at 4 (.int .i64 x.water.hi) rfl)
  have s5 := cell_regrown (HS.out.at 5 (.int .i64 x.piled) rfl)
  have s6 := cell_regrown (HS.out.at 6 (.int .i64 x.boiled) rfl)
  have s7 := cell_regrown (HS.out.at 7 (.slice fa fn fc) rfl)
  refine region_split_below 6 (by kernel_rfl) (by kernel_rfl) (by kernel_rfl) ?_
  simp only [List.take_succ_cons, List.take_zero, List.drop_succ_cons, List.drop_zero]
  repeat (go_big_quiet_step (fail))
  refine wpQuiet_nil ?_
  intro w8 hw'
  have hb8 : Below W.heap.size W w8 := by obtain ⟨⟨dq, osq⟩, hw''⟩ := hw'; rw [hw'']; exact below_regrown W dq osq
  clear hw' s0 s1 s2 s3 s4 s5 s6 s7
  have H8 := Lib.hid (H0.out.below hb8)
  have HB8 := Lib.hid (HB0.out.thenBelow hb8)
  have HQ8 := Lib.hid (row_same HQ.out (fun j hj => hb8.block j (row_lt HQ.out hj)))
  clear hb8 H0 HB0 HQ HS
  go_wp2_with (go_at_call 84; refine (put_new H8.out x fa fn fc HP.out HK.out HC.out HQ8.out HL.out HN.out).mono ?_; rintro e w9 ⟨rfl, hb9, kv', tv', hk9⟩; have HB9 := Lib.hid (HB8.out.trans hb9 (fun k hk => .inl hk)); have HK9 := Lib.hid hk9; clear hb9 hk9)
  go_end0
  refine ⟨rfl, HB9.out, kv', tv', HK9.out.wide (fun k hk => ?_)⟩
  rcases hk with hk | hk
  · exact .inl hk
  · exact .inr (Nat.le_trans HB8.out.size hk)
end Go.Proofs.Ytbgojeppfhldjaa
