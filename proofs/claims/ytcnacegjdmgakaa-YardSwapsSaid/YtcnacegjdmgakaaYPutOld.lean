/- The shelf: a thing is put in the place of another one. -/
import Derived.Test.YtcnacegjdmgakaaYPutFacts
namespace Go.Proofs.Ytcnacegjdmgakaa
open Go Go.RowKit Yd

set_option maxRecDepth 100000 in
set_option maxHeartbeats 1000000 in
theorem put_old {w : World} {C : Nat → Prop} {B : Nat} {bef aft : Int} {l : List SRow} {c : Yd.Acc} {made : Int} {N : Nat} {kv tv : Value} {m : Nat} (h : Book w C B bef aft l c made N kv tv m)
    (x : Stk Code) (fa : Option Addr) (fn fc : Nat) {k : Nat} {p : SRow} (hp : l[k]? = some p) (hk : ixOf l x.code = some k) (hc : x.code = p.1.code) (hq : w.ownsRow 0 3 1 (.slice fa fn fc) x.src.length (intCells x.src)) (hl : x.src.length ≤ 1000) :
    Calls Try.prog 107 #[.pointer (some ⟨B, 2, none⟩), .string x.code, .agg #[.string x.code, .int .i64 x.dry.lo, .int .i64 x.dry.hi, .int .i64 x.water.lo, .int .i64 x.water.hi, .int .i64 x.piled, .int .i64 x.boiled, .slice fa fn fc]] w fun e w' => e = .returned (.tuple #[]) ∧ Beside C w w' ∧ Book w' C B bef aft (l.set k (x, .slice fa fn fc)) c made N kv tv m := by
  have hs : x.code.size ≤ maxLen := by rw [hc]; exact h.sizes p (List.mem_of_getElem? hp)
  have h0 := h.alloc (.cells #[.string x.code, .int .i64 x.dry.lo, .int .i64 x.dry.hi, .int .i64 x.water.lo, .int .i64 x.water.hi, .int .i64 x.piled, .int .i64 x.boiled, .slice fa fn fc] 49)
  have hkl : k < l.length := (List.getElem?_eq_some_iff.1 hp).1
  have hfew := h.few
  have k4 := h.blk.at 4 (.map (some m)) rfl
  have hB := h.blk.lt
  have h3 := h0.blk.at 3 tv rfl
  have HS := Lib.hid (Blk.new w 49 #[.string x.code, .int .i64 x.dry.lo, .int .i64 x.dry.hi, .int .i64 x.water.lo, .int .i64 x.water.hi, .int .i64 x.piled, .int .i64 x.boiled, .slice fa fn fc])
  obtain ⟨i, hlk, hi⟩ := h0.places.look hs (T := 87) Try.underlying87
  have hi' := hi k hk
  subst hi'
  rw [hk] at hlk
  simp only [Option.isSome_some] at hlk
  obtain ⟨g, cap, hv, hcap, hCg, hg, _⟩ := h.row hp
  have hk0 : (0 : Int) ≤ (k : Int) := by omega
  have hk1 : (k : Int) < (l.length : Int) := by omega
  have HQ := Lib.hid (hq.alloc (.cells #[.string x.code, .int .i64 x.dry.lo, .int .i64 x.dry.hi, .int .i64 x.water.lo, .int .i64 x.water.hi, .int .i64 x.piled, .int .i64 x.boiled, .slice fa fn fc] 49))
  have H0 := Lib.hid h0
  have HB0 := Lib.hid (show Beside C w (w.alloc (.cells #[.string x.code, .int .i64 x.dry.lo, .int .i64 x.dry.hi, .int .i64 x.water.lo, .int .i64 x.water.hi, .int .i64 x.piled, .int .i64 x.boiled, .slice fa fn fc] 49)) from (Beside.refl C w).alloc _)
  have HP := Lib.hid hp
  have HC := Lib.hid hc
  have HL := Lib.hid hl
  have HO := Lib.hid (show (#[.string x.code, .int .i64 x.dry.lo, .int .i64 x.dry.hi, .int .i64 x.water.lo, .int .i64 x.water.hi, .int .i64 x.piled, .int .i64 x.boiled, .slice fa fn fc] : Array Value).all (·.oneCell') = true from by simp [Value.oneCell'])
  have HV := Lib.hid hv
  rw [hv] at h3
  have HN := Lib.hid (show ∃ n, n = l.length from ⟨_, rfl⟩)
  obtain ⟨n, hn⟩ := HN.out
  rw [← hn] at h3 hk1
  have HNN := Lib.hid hn
  clear hp hc hl hv h0 h hq hi hk hkl hfew hn HN
  go_enter Try.func107, Try.ntmps107
  go_wp2
  generalize w.alloc (.cells #[.string x.code, .int .i64 x.dry.lo, .int .i64 x.dry.hi, .int .i64 x.water.lo, .int .i64 x.water.hi, .int .i64 x.piled, .int .i64 x.boiled, .slice fa fn fc] 49) = W at *
  have c3 := cell_regrown h3
  have s0 := cell_regrown (HS.out.at 0 _ rfl)
  have s1 := cell_regrown (HS.out.at 1 _ rfl)
  have s2 := cell_regrown (HS.out.at 2 _ rfl)
  have s3 := cell_regrown (HS.out.at 3 _ rfl)
  have s4 := cell_regrown (HS.out.at 4 _ rfl)
  have s5 := cell_regrown (HS.out.at 5 _ rfl)
  have s6 := cell_regrown (HS.out.at 6 _ rfl)
  have s7 := cell_regrown (HS.out.at 7 _ rfl)
  clear h3 hlk k4
  refine region_split_below 7 (by kernel_rfl) (by kernel_rfl) (by kernel_rfl) ?_
  simp only [List.take_succ_cons, List.take_zero, List.drop_succ_cons, List.drop_zero]
  repeat (go_big_quiet_step (fail))
  refine wpQuiet_nil ?_
  intro w8 hw'
  have hb8 : Below W.heap.size W w8 := by obtain ⟨⟨dq, osq⟩, hw''⟩ := hw'; rw [hw'']; exact below_regrown W dq osq
  clear hw' c3 s0 s1 s2 s3 s4 s5 s6 s7
  obtain ⟨g', cap', hv', _, hth, hg', hbk⟩ := (H0.out.below hb8).putAt (q := (x, .slice fa fn fc)) HP.out HC.out (row_same HQ.out (fun j hj => hb8.block j (row_lt HQ.out hj))) HL.out
  rw [HV.out] at hv'
  cases hv'
  have hbs := (HB0.out.thenBelow hb8).setCells (.inl hCg) (k * 8) (rowCells (x, .slice fa fn fc))
  clear hb8
  refine wpList_store_mid rfl 49 (.tmp 24) (.tmp 23) rfl g (k * 8) #[.string x.code, .int .i64 x.dry.lo, .int .i64 x.dry.hi, .int .i64 x.water.lo, .int .i64 x.water.hi, .int .i64 x.piled, .int .i64 x.boiled, .slice fa fn fc] rfl rfl hth size_stack HO.out ?_
  change wpList _ _ _ _ _ (w8.setCells g (k * 8) (rowCells (x, .slice fa fn fc)))
  generalize w8.setCells g (k * 8) (rowCells (x, .slice fa fn fc)) = w9 at hbk hbs ⊢
  have HBK := Lib.hid hbk
  have HBS := Lib.hid hbs
  clear hbk hbs
  go_wp2
  refine bodyPost_ret (results_none rfl _ _ _) rfl ?_
  exact ⟨rfl, HBS.out, HBK.out⟩
end Go.Proofs.Ytcnacegjdmgakaa
