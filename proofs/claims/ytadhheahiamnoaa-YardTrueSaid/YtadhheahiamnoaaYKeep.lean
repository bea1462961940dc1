/- The book keeps a stack: in its place, or behind all others. -/
import Derived.Test.YtadhheahiamnoaaYDrop
namespace Go.Proofs.Ytadhheahiamnoaa
open Go Go.RowKit Yd
open _root_.Go.Value renaming int → Z, string → Zs, slice → Zl
open _root_.Go.IntKind renaming i64 → O
open _root_.Go.Lib renaming hid → Zh

set_option maxRecDepth 100000 in
set_option maxHeartbeats 1000000 in
theorem keep_old {w : World} {C : Nat → Prop} {B : Nat} {bef aft : Int} {l : List SRow} {c : Yd.Acc} {made : Int} {N : Nat} {kv tv : Value} {m : Nat} (h : Book w C B bef aft l c made N kv tv m)
    (x : Stk Code) (fa : Option Addr) (fn fc : Nat) {k : Nat} {p : SRow} (hp : l[k]? = some p) (hk : ixOf l x.code = some k) (hc : x.code = p.1.code) (hq : w.ownsRow 0 3 1 (Zl fa fn fc) x.src.length (intCells x.src)) (hl : x.src.length ≤ 1000) :
    Calls Try.prog 93 #[.pointer (some ⟨B, 0, none⟩), .agg #[Zs x.code, Z O x.dry.lo, Z O x.dry.hi, Z O x.water.lo, Z O x.water.hi, Z O x.piled, Z O x.boiled, Zl fa fn fc]] w fun e w' => e = .returned (.tuple #[]) ∧ Beside C w w' ∧ Book w' C B bef aft (l.set k (x, Zl fa fn fc)) c made N kv tv m := by
  have HS := Zh (Blk.new w 49 #[Zs x.code, Z O x.dry.lo, Z O x.dry.hi, Z O x.water.lo, Z O x.water.hi, Z O x.piled, Z O x.boiled, Zl fa fn fc])
  have H0 := Zh (h.alloc (.cells #[Zs x.code, Z O x.dry.lo, Z O x.dry.hi, Z O x.water.lo, Z O x.water.hi, Z O x.piled, Z O x.boiled, Zl fa fn fc] 49))
  have HB0 := Zh (show Beside C w (w.alloc (.cells #[Zs x.code, Z O x.dry.lo, Z O x.dry.hi, Z O x.water.lo, Z O x.water.hi, Z O x.piled, Z O x.boiled, Zl fa fn fc] 49)) from (Beside.refl C w).alloc _)
  have HQ := Zh (hq.alloc (.cells #[Zs x.code, Z O x.dry.lo, Z O x.dry.hi, Z O x.water.lo, Z O x.water.hi, Z O x.piled, Z O x.boiled, Zl fa fn fc] 49))
  have HP := Zh hp
  have HK := Zh hk
  have HC := Zh hc
  have HL := Zh hl
  clear h hp hk hc hq hl
  go_enter Try.func93, Try.ntmps93
  go_wp2
  generalize w.alloc (.cells #[Zs x.code, Z O x.dry.lo, Z O x.dry.hi, Z O x.water.lo, Z O x.water.hi, Z O x.piled, Z O x.boiled, Zl fa fn fc] 49) = W at *
  have s0 := cell_regrown (HS.out.at 0 (Zs x.code) rfl)
  have s1 := cell_regrown (HS.out.at 1 (Z O x.dry.lo) rfl)
  have s2 := cell_regrown (HS.out.at 2 (Z O x.dry.hi) rfl)
  have s3 := cell_regrown (HS.out.at 3 (Z O x.water.lo) rfl)
  have s4 := cell_regrown (HS.out.at 4 (Z O x.water.hi) rfl)
  have s5 := cell_regrown (HS.out.at 5 (Z O x.piled) rfl)
  have s6 := cell_regrown (HS.out.at 6 (Z O x.boiled) rfl)
  have s7 := cell_regrown (HS.out.at 7 (Zl fa fn fc) rfl)
  refine region_split_below 6 (by kernel_rfl) (by kernel_rfl) (by kernel_rfl) ?_
  simp only [List.take_succ_cons, List.take_zero, List.drop_succ_cons, List.drop_zero]
  repeat (go_big_quiet_step (fail))
  refine wpQuiet_nil ?_
  intro w8 hw'
  have hb8 : Below W.heap.size W w8 := by obtain ⟨⟨dq, osq⟩, hw''⟩ := hw'; rw [hw'']; exact below_regrown W dq osq
  clear hw' s0 s1 s2 s3 s4 s5 s6 s7
  have H8 := Zh (H0.out.below hb8)
  have HB8 := Zh (HB0.out.thenBelow hb8)
  have HQ8 := Zh (row_same HQ.out (fun j hj => hb8.block j (row_lt HQ.out hj)))
  clear hb8 H0 HB0 HQ HS
  go_wp2_with (go_at_call 107; refine (put_old H8.out x fa fn fc HP.out HK.out HC.out HQ8.out HL.out).mono ?_; rintro e w9 ⟨rfl, hb9, hk9⟩; have HB9 := Zh (HB8.out.trans hb9 (fun k hk => .inl hk)); have HK9 := Zh hk9; clear hb9 hk9)
  go_end0
  exact ⟨rfl, HB9.out, HK9.out⟩

set_option maxRecDepth 100000 in
set_option maxHeartbeats 1000000 in
theorem keep_new {w : World} {C : Nat → Prop} {B : Nat} {bef aft : Int} {l : List SRow} {c : Yd.Acc} {made : Int} {N : Nat} {kv tv : Value} {m : Nat} (h : Book w C B bef aft l c made N kv tv m)
    (x : Stk Code) (fa : Option Addr) (fn fc : Nat) (hs : x.code.size ≤ maxLen) (hn : ixOf l x.code = none) (h8 : l.length < 8) (hq : w.ownsRow 0 3 1 (Zl fa fn fc) x.src.length (intCells x.src)) (hl : x.src.length ≤ 1000) (hN : N < 1000000) :
    Calls Try.prog 93 #[.pointer (some ⟨B, 0, none⟩), .agg #[Zs x.code, Z O x.dry.lo, Z O x.dry.hi, Z O x.water.lo, Z O x.water.hi, Z O x.piled, Z O x.boiled, Zl fa fn fc]] w (PutDone w C B bef aft (l ++ [(x, Zl fa fn fc)]) c made (N + 1) m) := by
  have HS := Zh (Blk.new w 49 #[Zs x.code, Z O x.dry.lo, Z O x.dry.hi, Z O x.water.lo, Z O x.water.hi, Z O x.piled, Z O x.boiled, Zl fa fn fc])
  have H0 := Zh (h.alloc (.cells #[Zs x.code, Z O x.dry.lo, Z O x.dry.hi, Z O x.water.lo, Z O x.water.hi, Z O x.piled, Z O x.boiled, Zl fa fn fc] 49))
  have HB0 := Zh (show Beside C w (w.alloc (.cells #[Zs x.code, Z O x.dry.lo, Z O x.dry.hi, Z O x.water.lo, Z O x.water.hi, Z O x.piled, Z O x.boiled, Zl fa fn fc] 49)) from (Beside.refl C w).alloc _)
  have HQ := Zh (hq.alloc (.cells #[Zs x.code, Z O x.dry.lo, Z O x.dry.hi, Z O x.water.lo, Z O x.water.hi, Z O x.piled, Z O x.boiled, Zl fa fn fc] 49))
  have HP := Zh hs
  have HK := Zh hn
  have HC := Zh h8
  have HL := Zh hl
  have HN := Zh hN
  clear h hs hn h8 hq hl hN
  go_enter Try.func93, Try.ntmps93
  go_wp2
  generalize w.alloc (.cells #[Zs x.code, Z O x.dry.lo, Z O x.dry.hi, Z O x.water.lo, Z O x.water.hi, Z O x.piled, Z O x.boiled, Zl fa fn fc] 49) = W at *
  have s0 := cell_regrown (HS.out.at 0 (Zs x.code) rfl)
  have s1 := cell_regrown (HS.out.at 1 (Z O x.dry.lo) rfl)
  have s2 := cell_regrown (HS.out.at 2 (Z O x.dry.hi) rfl)
  have s3 := cell_regrown (HS.out.at 3 (Z O x.water.lo) rfl)
  have s4 := cell_regrown (HS.out.at 4 (Z O x.water.hi) rfl)
  have s5 := cell_regrown (HS.out.at 5 (Z O x.piled) rfl)
  have s6 := cell_regrown (HS.out.at 6 (Z O x.boiled) rfl)
  have s7 := cell_regrown (HS.out.at 7 (Zl fa fn fc) rfl)
  refine region_split_below 6 (by kernel_rfl) (by kernel_rfl) (by kernel_rfl) ?_
  simp only [List.take_succ_cons, List.take_zero, List.drop_succ_cons, List.drop_zero]
  repeat (go_big_quiet_step (fail))
  refine wpQuiet_nil ?_
  intro w8 hw'
  have hb8 : Below W.heap.size W w8 := by obtain ⟨⟨dq, osq⟩, hw''⟩ := hw'; rw [hw'']; exact below_regrown W dq osq
  clear hw' s0 s1 s2 s3 s4 s5 s6 s7
  have H8 := Zh (H0.out.below hb8)
  have HB8 := Zh (HB0.out.thenBelow hb8)
  have HQ8 := Zh (row_same HQ.out (fun j hj => hb8.block j (row_lt HQ.out hj)))
  clear hb8 H0 HB0 HQ HS
  go_wp2_with (go_at_call 107; refine (put_new H8.out x fa fn fc HP.out HK.out HC.out HQ8.out HL.out HN.out).mono ?_; rintro e w9 ⟨rfl, hb9, kv', tv', hk9⟩; have HB9 := Zh (HB8.out.trans hb9 (fun k hk => .inl hk)); have HK9 := Zh hk9; clear hb9 hk9)
  go_end0
  refine ⟨rfl, HB9.out, kv', tv', HK9.out.wide (fun k hk => ?_)⟩
  rcases hk with hk | hk
  · exact .inl hk
  · exact .inr (Nat.le_trans HB8.out.size hk)
end Go.Proofs.Ytadhheahiamnoaa
