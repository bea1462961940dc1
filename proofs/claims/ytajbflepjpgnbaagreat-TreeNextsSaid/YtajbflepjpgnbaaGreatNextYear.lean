/- The first year that is good: the search over the years of bounds, and what is found. -/
import Derived.Test.YtajbflepjpgnbaaGreatEach
namespace Go.Proofs.YtajbflepjpgnbaaGreat
open Go.RowKit Go.Shelf

attribute [local go_sem] Oper.semAt_some

set_option maxRecDepth 100000 in
set_option maxHeartbeats 1000000 in
theorem nextClosure_isAlways (l : Law) (t : Tree) (y h x : Int) (Bq Bg : Nat) (w0 W : World) (hl : LawFine l) (ht : TreeFine t) (hH : TreeHeld w0.heap.size w0 t) (hx0 : 0 ≤ x) (hx1 : x ≤ 300) (hh0 : 1 ≤ h) (hh1 : h ≤ 15000)
    (hW : Below w0.heap.size w0 W) (hq0 : w0.heap.size ≤ Bq) (hqg : Bq < Bg) (hq : Blk W Bq 51 (qCells l t y h)) (hg : Blk W Bg 55 #[.func (.func 16) #[] #[]]) :
    Calls Tryz.prog 30 #[.int .i64 x, .pointer (some ⟨Bq, 0, none⟩), .pointer (some ⟨Bg, 0, none⟩)] W fun e W' => e = .returned (.bool ((verdictOn l t x h).1 == 1)) ∧ Below W.heap.size (W.setCell ⟨Bq, 18, none⟩ (.int .i64 x)) W' := by
  have c18 := hq.cell 18
  have f18 := hq.frozen 18
  simp only [qCells, List.getElem?_toArray, List.getElem?_cons_zero, List.getElem?_cons_succ] at c18
  have hq2 := hq.set_ 18 (.int .i64 x)
  rw [show (qCells l t y h).setIfInBounds 18 (.int .i64 x) = qCells l t x h from rfl] at hq2
  have HQ2 := Lib.hid hq2
  have hg2 : Blk (W.setCell ⟨Bq, 18, none⟩ (.int .i64 x)) Bg _ _ := hg.far (by simp; omega) _
  have hW2 : Below w0.heap.size w0 (W.setCell ⟨Bq, 18, none⟩ (.int .i64 x)) := hW.setCell (p := ⟨Bq, 18, none⟩) hq0 _
  have HV := Lib.hid (verdict_says l t x h _ hl ht ((hH.below hW2).mono hW2.size) hx0 hx1 hh0 hh1)
  clear hq hq2
  generalize verdictOn l t x h = v at HV ⊢
  have HG2 := Lib.hid hg2; clear hg2 hg
  have hz : (W.setCell ⟨Bq, 18, none⟩ (.int .i64 x)).heap.size = W.heap.size := by simp [World.setCell]
  have HZ := Lib.hid hz; clear hz
  go_enter Tryz.func30, Tryz.ntmps30
  go_wp2_with (first | ((with_reducible refine at_load 51 (.tmp 1) ?_); go_must (refine wpList_load_row rfl 51 (.tmp 1) rfl Bq rfl 51 (qCells l t x h) (0, 0) _ HQ2.out Tryz.underlying51 rfl size_question ?_)) | (go_at_call 20; refine HV.out.mono ?_; rintro e w3 ⟨rfl, hw3⟩; have hg3 := Blk.below HG2.out hw3 (Blk.lt HG2.out); have d3 := Blk.cell hg3 0; simp only [List.getElem?_toArray, List.getElem?_cons_zero] at d3) | (go_at_call 16; refine (isAlways_calls _ _).mono ?_; rintro e w' ⟨rfl, rfl⟩))
  go_ret
  exact ⟨rfl, by rw [HZ.out] at hw3; exact hw3⟩

set_option maxRecDepth 100000 in
set_option maxHeartbeats 1000000 in
theorem nextClosure_isPossible (l : Law) (t : Tree) (y h x : Int) (Bq Bg : Nat) (w0 W : World) (hl : LawFine l) (ht : TreeFine t) (hH : TreeHeld w0.heap.size w0 t) (hx0 : 0 ≤ x) (hx1 : x ≤ 300) (hh0 : 1 ≤ h) (hh1 : h ≤ 15000)
    (hW : Below w0.heap.size w0 W) (hq0 : w0.heap.size ≤ Bq) (hqg : Bq < Bg) (hq : Blk W Bq 51 (qCells l t y h)) (hg : Blk W Bg 55 #[.func (.func 17) #[] #[]]) :
    Calls Tryz.prog 30 #[.int .i64 x, .pointer (some ⟨Bq, 0, none⟩), .pointer (some ⟨Bg, 0, none⟩)] W fun e W' => e = .returned (.bool ((verdictOn l t x h).1 != 2)) ∧ Below W.heap.size (W.setCell ⟨Bq, 18, none⟩ (.int .i64 x)) W' := by
  have c18 := hq.cell 18
  have f18 := hq.frozen 18
  simp only [qCells, List.getElem?_toArray, List.getElem?_cons_zero, List.getElem?_cons_succ] at c18
  have hq2 := hq.set_ 18 (.int .i64 x)
  rw [show (qCells l t y h).setIfInBounds 18 (.int .i64 x) = qCells l t x h from rfl] at hq2
  have HQ2 := Lib.hid hq2
  have hg2 : Blk (W.setCell ⟨Bq, 18, none⟩ (.int .i64 x)) Bg _ _ := hg.far (by simp; omega) _
  have hW2 : Below w0.heap.size w0 (W.setCell ⟨Bq, 18, none⟩ (.int .i64 x)) := hW.setCell (p := ⟨Bq, 18, none⟩) hq0 _
  have HV := Lib.hid (verdict_says l t x h _ hl ht ((hH.below hW2).mono hW2.size) hx0 hx1 hh0 hh1)
  clear hq hq2
  generalize verdictOn l t x h = v at HV ⊢
  have HG2 := Lib.hid hg2; clear hg2 hg
  have hz : (W.setCell ⟨Bq, 18, none⟩ (.int .i64 x)).heap.size = W.heap.size := by simp [World.setCell]
  have HZ := Lib.hid hz; clear hz
  go_enter Tryz.func30, Tryz.ntmps30
  go_wp2_with (first | ((with_reducible refine at_load 51 (.tmp 1) ?_); go_must (refine wpList_load_row rfl 51 (.tmp 1) rfl Bq rfl 51 (qCells l t x h) (0, 0) _ HQ2.out Tryz.underlying51 rfl size_question ?_)) | (go_at_call 20; refine HV.out.mono ?_; rintro e w3 ⟨rfl, hw3⟩; have hg3 := Blk.below HG2.out hw3 (Blk.lt HG2.out); have d3 := Blk.cell hg3 0; simp only [List.getElem?_toArray, List.getElem?_cons_zero] at d3) | (go_at_call 17; refine (isPossible_calls _ _).mono ?_; rintro e w' ⟨rfl, rfl⟩))
  go_ret
  exact ⟨rfl, by rw [HZ.out] at hw3; exact hw3⟩

/-- The year in which the question stands when these have been asked about. -/
def lastY (y : Int) (pre : List Year) : Int := match pre.getLast? with | some x => x.val | none => y
theorem lastY_snoc (y : Int) (pre : List Year) (x : Year) : lastY y (pre ++ [x]) = x.val := by simp [lastY]

/-- The first of so many years from one on that is good. -/
def findYear (p : Int → Bool) (lo : Int) (n : Nat) : Option Int := ((upto (yearAt lo) n).find? (fun x => p x.val)).map (·.val)
def yearVal (r : Option Int) : Value :=
  match r with
  | some x => .tuple #[.int .i64 x, .bool true]
  | none => .tuple #[.int .i64 0, .bool false]
/-- The first year from one on that is good; -1: none. -/
def firstYear (p : Int → Bool) (y : Int) : Int := match findYear p y (300 - y + 1).toNat with | some x => x | none => -1

theorem results_one_one {P : Program} {fn : Func} {p q : Tmp} {ty t2 : TypeId} (h : fn.results = #[.cell p ty, .cell q t2]) (tmps : Array Value) (w : World) (g g2 : Nat) (t t3 : TypeId) (n : Int) (b : Bool)
    (hp : tmps.getD p undef = .pointer (some ⟨g, 0, none⟩)) (hg : Blk w g t #[.int .i64 n]) (hu : P.underlying ty = some (.int .i64))
    (hq : tmps.getD q undef = .pointer (some ⟨g2, 0, none⟩)) (hg2 : Blk w g2 t3 #[.bool b]) (hu2 : P.underlying t2 = some .bool) :
    (results fn tmps).run P w = .ok (.tuple #[.int .i64 n, .bool b]) w := by
  have h1 : (loadVar ty ⟨g, 0, none⟩).run P w = .ok (.int .i64 n) w := by
    have hc := hg.cell 0
    simp at hc
    simp [loadVar, isAgg, Sem.run_bind, run_underlying hu, Result.andThen]
    go_simp
  have h2 : (loadVar t2 ⟨g2, 0, none⟩).run P w = .ok (.bool b) w := by
    have hc := hg2.cell 0
    simp at hc
    simp [loadVar, isAgg, Sem.run_bind, run_underlying hu2, Result.andThen]
    go_simp
  have hp' : tmps[p]?.getD undef = .pointer (some ⟨g, 0, none⟩) := by simpa using hp
  have hq' : tmps[q]?.getD undef = .pointer (some ⟨g2, 0, none⟩) := by simpa using hq
  simp only [results, h]
  simp [Sem.run_bind, hp', hq', asAddr, h1, h2, Result.andThen]

set_option maxRecDepth 100000 in
set_option maxHeartbeats 2000000 in
theorem firstOf_years (l : Law) (t : Tree) (y0 h : Int) (Bb Bq Bg : Nat) (lo hi : Int) (G : Value) (p : Int → Bool) (w0 w : World) (h0 : 0 ≤ lo) (h1 : lo ≤ hi) (h2 : hi ≤ 300) (hB : Below w0.heap.size w0 w) (hB0 : w0.heap.size ≤ Bq) (hqg : Bq < Bg) (hgb : Bg < Bb)
    (hb : Blk w Bb 38 #[.int .i64 lo, .int .i64 hi]) (hq : Blk w Bq 51 (qCells l t y0 h)) (hg : Blk w Bg 55 #[G])
    (hW : ∀ (x : Year) (y' : Int) (W : World), Below w0.heap.size w0 W → Blk W Bq 51 (qCells l t y' h) → Blk W Bg 55 #[G] → Calls Tryz.prog 30 #[.int .i64 x.val, .pointer (some ⟨Bq, 0, none⟩), .pointer (some ⟨Bg, 0, none⟩)] W fun e W' => e = .returned (.bool (p x.val)) ∧ Below W.heap.size (W.setCell ⟨Bq, 18, none⟩ (.int .i64 x.val)) W') :
    Calls Tryz.prog 28 #[.func (.func 51) #[] #[.pointer (some ⟨Bb, 0, none⟩)], .func (.func 30) #[] #[.pointer (some ⟨Bq, 0, none⟩), .pointer (some ⟨Bg, 0, none⟩)]] w fun e w' => e = .returned (yearVal (((upto (yearAt lo) (hi - lo + 1).toNat).find? (fun x => p x.val)).map (·.val))) ∧ Below w0.heap.size w0 w' := by
  refine (callsIn_wide (n := 6)).1 ?_
  have hro : Fence.wide.round = none := rfl
  refine callsIn_of_wp_marks Tryz.func28 rfl trivial ?_ hro
  simp only [Tryz.ntmps28, List.size_toArray, List.length_cons, List.length_nil, Nat.reduceAdd, Nat.reduceSub, Array.replicate_succ, Array.replicate_zero, List.push_toArray, List.append_toArray, List.nil_append, List.cons_append]
  gi_wp2
  have b3 := ((Blk.new w 68 #[.func (.func 30) #[] #[.pointer (some ⟨Bq, 0, none⟩), .pointer (some ⟨Bg, 0, none⟩)]]).alloc (.cells #[.int .i64 0] 3)).alloc (.cells #[.bool false] 4)
  have b4 := (Blk.new (w.alloc (.cells #[.func (.func 30) #[] #[.pointer (some ⟨Bq, 0, none⟩), .pointer (some ⟨Bg, 0, none⟩)]] 68)) 3 #[.int .i64 0]).alloc (.cells #[.bool false] 4)
  have b5 := Blk.new ((w.alloc (.cells #[.func (.func 30) #[] #[.pointer (some ⟨Bq, 0, none⟩), .pointer (some ⟨Bg, 0, none⟩)]] 68)).alloc (.cells #[.int .i64 0] 3)) 4 #[.bool false]
  simp only [World.size_alloc] at b4 b5
  have hA : Below w.heap.size w (((w.alloc (.cells #[.func (.func 30) #[] #[.pointer (some ⟨Bq, 0, none⟩), .pointer (some ⟨Bg, 0, none⟩)]] 68)).alloc (.cells #[.int .i64 0] 3)).alloc (.cells #[.bool false] 4)) := (((Below.refl _ w).alloc (Nat.le_refl _) _).alloc (by simp) _).alloc (by simp; omega) _
  have hsz : (((w.alloc (.cells #[.func (.func 30) #[] #[.pointer (some ⟨Bq, 0, none⟩), .pointer (some ⟨Bg, 0, none⟩)]] 68)).alloc (.cells #[.int .i64 0] 3)).alloc (.cells #[.bool false] 4)).heap.size = w.heap.size + 3 := by simp
  obtain ⟨W0, hW0⟩ : ∃ W0, ((w.alloc (.cells #[.func (.func 30) #[] #[.pointer (some ⟨Bq, 0, none⟩), .pointer (some ⟨Bg, 0, none⟩)]] 68)).alloc (.cells #[.int .i64 0] 3)).alloc (.cells #[.bool false] 4) = W0 := ⟨_, rfl⟩
  rw [hW0] at b3 b4 b5 hA hsz ⊢
  clear hW0
  have zb := hb.lt
  have zq := hq.lt
  have zg := hg.lt
  have hB2 : Below w0.heap.size w0 W0 := hB.trans (hA.mono hB.size)
  have kb := hb.below hA zb
  have kq := hq.below hA zq
  have kg := hg.below hA zg
  have hws := hB.size
  refine wpIn_rangeFunc_ownG hro (by omega) (gf := 51) (lb := #[.pointer (some ⟨Bb, 0, none⟩)]) rfl trivial (enters_of Tryz.func51 (by kernel_rfl) rfl)
    (each_stops Fence.wide 5 trivial hro (by omega) Bb lo hi h0 h1 h2 W0 kb) keptAt_t (keptAt_b (by omega)) (Below.refl _ _) (fun _ => rfl)
    (fun pre W => ((Blk W w.heap.size 68 #[.func (.func 30) #[] #[.pointer (some ⟨Bq, 0, none⟩), .pointer (some ⟨Bg, 0, none⟩)]] ∧ Blk W (w.heap.size + 1) 3 #[.int .i64 0]) ∧ Blk W (w.heap.size + 1 + 1) 4 #[.bool false]) ∧ ((Blk W Bq 51 (qCells l t (lastY y0 pre) h) ∧ Blk W Bg 55 #[G]) ∧ Blk W Bb 38 #[.int .i64 lo, .int .i64 hi]) ∧ (Below w0.heap.size w0 W ∧ ∀ x ∈ pre, p x.val = false))
    (fun c pre W => (Blk W (w.heap.size + 1) 3 #[.int .i64 (lastY 0 pre)] ∧ Blk W (w.heap.size + 1 + 1) 4 #[.bool true]) ∧ (Below w0.heap.size w0 W ∧ (c = .ret ∧ (pre.find? (fun x => p x.val)).map (·.val) = some (lastY 0 pre))))
    (OwnFrom.and (OwnFrom.and (OwnFrom.and (Own.from (blk_own _ _ _) _) (Own.from (blk_own _ _ _) _)) (Own.from (blk_own _ _ _) _)) (OwnFrom.and (OwnFrom.and (OwnFrom.and (Own.from (blk_own _ _ (fun pre : List Year => qCells l t (lastY y0 pre) h)) _) (Own.from (blk_own _ _ _) _)) (Own.from (blk_own _ _ _) _)) (OwnFrom.and (ownFrom_below (Nat.le_refl _) (by omega)) (ownFrom_pure _ _))))
    (fun c => OwnFrom.and (OwnFrom.and (Own.from (blk_own _ _ (fun pre : List Year => #[.int .i64 (lastY 0 pre)])) _) (Own.from (blk_own _ _ _) _)) (OwnFrom.and (ownFrom_below (Nat.le_refl _) (by omega)) (ownFrom_pure _ _)))
    ⟨⟨⟨b3, b4⟩, b5⟩, ⟨⟨kq, kg⟩, kb⟩, hB2, fun x hx => by cases hx⟩
    (fun x => { tmps := #[.func (.func 51) #[] #[.pointer (some ⟨Bb, 0, none⟩)], .func (.func 30) #[] #[.pointer (some ⟨Bq, 0, none⟩), .pointer (some ⟨Bg, 0, none⟩)], undef, .pointer (some ⟨w.heap.size, 0, none⟩), .pointer (some ⟨w.heap.size + 1, 0, none⟩), .pointer (some ⟨w.heap.size + 1 + 1, 0, none⟩), .int .i64 x.val, .func (.func 51) #[] #[.pointer (some ⟨Bb, 0, none⟩)], .int .i64 x.val, undef, undef, undef, undef, undef], defers := [] })
    ?assign ?body ?done ?stop
  case assign =>
    intro l' x W K hK
    gi_wp2
    exact hK
  case body =>
    rintro l' pre x W ⟨⟨⟨c3, c4⟩, c5⟩, ⟨⟨cq, cg⟩, cb⟩, hB1, hp⟩ hlt
    have d3 : W.cell? ⟨w.heap.size, 0, none⟩ = some (.func (.func 30) #[] #[.pointer (some ⟨Bq, 0, none⟩), .pointer (some ⟨Bg, 0, none⟩)]) := c3.cell 0
    have HW := Lib.hid (hW x _ W hB1 cq cg)
    have hset : Below w0.heap.size w0 (W.setCell ⟨Bq, 18, none⟩ (.int .i64 x.val)) := hB1.setCell (p := ⟨Bq, 18, none⟩) hB0 _
    have hss : (W.setCell ⟨Bq, 18, none⟩ (.int .i64 x.val)).heap.size = W.heap.size := by simp [World.setCell]
    have cq' := cq.set_ 18 (.int .i64 x.val)
    rw [show (qCells l t (lastY y0 pre) h).setIfInBounds 18 (.int .i64 x.val) = qCells l t x.val h from rfl] at cq'
    have cg' := cg.far (p := ⟨Bq, 18, none⟩) (by simp; omega) (.int .i64 x.val)
    have cb' := cb.far (p := ⟨Bq, 18, none⟩) (by simp; omega) (.int .i64 x.val)
    have c3' := c3.far (p := ⟨Bq, 18, none⟩) (by simp; omega) (.int .i64 x.val)
    have c4' := c4.far (p := ⟨Bq, 18, none⟩) (by simp; omega) (.int .i64 x.val)
    have c5' := c5.far (p := ⟨Bq, 18, none⟩) (by simp; omega) (.int .i64 x.val)
    have hks : KeepsFrom W0.heap.size W (W.setCell ⟨Bq, 18, none⟩ (.int .i64 x.val)) := (KeepsOthers.setCell _ _ _).from _
    generalize W.setCell ⟨Bq, 18, none⟩ (.int .i64 x.val) = V at HW hset hss cq' cg' cb' c3' c4' c5' hks
    rw [← hss] at HW
    cases hpx : p x.val
    · rw [hpx] at HW
      gi_wp2_with (refine ⟨trivial, ?_⟩; gi_at_call 30; refine (CallsIn.inRound l' (callsIn_wide.2 HW.out)).mono ?_; rintro e w2 ⟨rfl, hw2⟩)
      have hk : KeepsFrom W0.heap.size V w2 := ⟨hw2.size, fun k o _ hk _ => (hw2.block k (Array.getElem?_eq_some_iff.1 hk).1).trans hk⟩
      exact ⟨hks.trans hk, (cb'.below hw2 cb'.lt).trans cb.symm, ⟨⟨c3'.below hw2 c3'.lt, c4'.below hw2 c4'.lt⟩, c5'.below hw2 c5'.lt⟩, ⟨⟨by rw [lastY_snoc]; exact cq'.below hw2 cq'.lt, cg'.below hw2 cg'.lt⟩, cb'.below hw2 cb'.lt⟩, hset.trans (hw2.mono hset.size), fun z hz => by rcases List.mem_append.1 hz with hz | hz; exact hp z hz; rw [List.mem_singleton.1 hz]; exact hpx⟩
    · rw [hpx] at HW
      gi_wp2_with (refine ⟨trivial, ?_⟩; gi_at_call 30; refine (CallsIn.inRound l' (callsIn_wide.2 HW.out)).mono ?_; rintro e w2 ⟨rfl, hw2⟩; have e2 := (c4'.below hw2 c4'.lt).cell 0; have e4 := (c4'.below hw2 c4'.lt).frozen 0; have e6 := (c5'.below hw2 c5'.lt).cell 0; have e7 := (c5'.below hw2 c5'.lt).frozen 0; simp only [List.getElem?_toArray, List.getElem?_cons_zero] at e2 e6)
      have hk : KeepsFrom W0.heap.size V w2 := ⟨hw2.size, fun k o _ hk _ => (hw2.block k (Array.getElem?_eq_some_iff.1 hk).1).trans hk⟩
      have d4 := ((c4'.below hw2 c4'.lt).set_ 0 (.int .i64 x.val)).far (p := ⟨w.heap.size + 1 + 1, 0, none⟩) (by simp) (.bool true)
      have d5 := ((c5'.below hw2 c5'.lt).far (p := ⟨w.heap.size + 1, 0, none⟩) (by simp) (.int .i64 x.val)).set_ 0 (.bool true)
      refine ⟨(hks.trans hk).trans (((KeepsOthers.setCell _ _ _).trans (KeepsOthers.setCell _ _ _)).from _), ⟨by rw [lastY_snoc]; exact d4, d5⟩, ?_, rfl, ?_⟩
      · exact ((hset.trans (hw2.mono hset.size)).setCell (p := ⟨w.heap.size + 1, 0, none⟩) (by simp; omega) _).setCell (p := ⟨w.heap.size + 1 + 1, 0, none⟩) (by simp; omega) _
      · rw [lastY_snoc, List.find?_append, List.find?_eq_none.2 (fun y hy => by rw [hp y hy]; simp)]
        simp [hpx]
  case done =>
    rintro D ys W hD rfl ⟨⟨⟨c3, c4⟩, c5⟩, ⟨⟨cq, cg⟩, cb⟩, hB1, hp⟩ hK
    have e2 := c4.cell 0
    have e4 := c4.frozen 0
    have e6 := c5.cell 0
    have e7 := c5.frozen 0
    simp only [List.getElem?_toArray, List.getElem?_cons_zero] at e2 e6
    have hnone : (upto (yearAt lo) (hi - lo + 1).toNat).find? (fun x => p x.val) = none := List.find?_eq_none.2 (fun y hy => by rw [hp y hy]; simp)
    have d4 := (c4.set_ 0 (.int .i64 0)).far (p := ⟨w.heap.size + 1 + 1, 0, none⟩) (by simp) (.bool false)
    have d5 := (c5.far (p := ⟨w.heap.size + 1, 0, none⟩) (by simp) (.int .i64 0)).set_ 0 (.bool false)
    have hB3 := (hB1.setCell (p := ⟨w.heap.size + 1, 0, none⟩) (by simp; omega) (.int .i64 0)).setCell (p := ⟨w.heap.size + 1 + 1, 0, none⟩) (by simp; omega) (.bool false)
    have hK2 := (Below.heap_setCell (W.setCell ⟨w.heap.size + 1, 0, none⟩ (.int .i64 0)) ⟨w.heap.size + 1 + 1, 0, none⟩ (.bool false) D (by simp; omega)).trans ((Below.heap_setCell W ⟨w.heap.size + 1, 0, none⟩ (.int .i64 0) D (by simp; omega)).trans hK)
    gi_wp2
    generalize ((W.setCell ⟨w.heap.size + 1, 0, none⟩ (.int .i64 0)).setCell ⟨w.heap.size + 1 + 1, 0, none⟩ (.bool false)) = W2 at d4 d5 hB3 hK2 ⊢
    refine ⟨by simp, .inl ⟨_, _, rfl, run_takeDeferred hK2, ?_⟩⟩
    exact ⟨_, results_one_one rfl _ _ (w.heap.size + 1) (w.heap.size + 1 + 1) 3 4 0 false rfl (d4.putObj (by omega) _) Tryz.underlying3 rfl (d5.putObj (by omega) _) Tryz.underlying4, by rw [hnone]; rfl, hB3.trans (belowK_b (w := W0) (by omega) W2 D _ _ hD hK2 rfl rfl)⟩
  case stop =>
    rintro D c pre W hD ⟨k, hk, rfl⟩ ⟨⟨c4, c5⟩, hB1, rfl, hp⟩ hK
    have hsome : ((upto (yearAt lo) (hi - lo + 1).toNat).find? (fun x => p x.val)).map (·.val) = some (lastY 0 (upto (yearAt lo) k)) := by
      have e : upto (yearAt lo) (hi - lo + 1).toNat = upto (yearAt lo) k ++ (List.range' k ((hi - lo + 1).toNat - k)).map (yearAt lo) := by
        unfold upto
        rw [← List.map_append, List.range_eq_range', List.range_eq_range']
        congr 1
        have := @List.range'_append_1 0 k ((hi - lo + 1).toNat - k)
        rw [Nat.zero_add] at this
        rw [this]
        congr 1
        omega
      rw [e, List.find?_append]
      cases hf : (upto (yearAt lo) k).find? (fun x => p x.val)
      · rw [hf] at hp; cases hp
      · rw [hf] at hp; simpa using hp
    gi_wp2
    refine ⟨by simp, .inl ⟨_, _, rfl, run_takeDeferred hK, ?_⟩⟩
    exact ⟨_, results_one_one rfl _ _ (w.heap.size + 1) (w.heap.size + 1 + 1) 3 4 _ true rfl (c4.putObj (by omega) _) Tryz.underlying3 rfl (c5.putObj (by omega) _) Tryz.underlying4, by rw [hsome]; rfl, hB1.trans (belowK_b (w := W0) (by omega) W D _ _ hD hK rfl rfl)⟩

theorem year_of (p : Int → Bool) (lo : Int) : ((upto (yearAt lo) (300 - lo + 1).toNat).find? (fun x => p x.val)).map (·.val) = findYear p lo (300 - lo + 1).toNat := rfl

set_option maxRecDepth 100000 in
set_option maxHeartbeats 1000000 in
theorem next_isAlways (l : Law) (t : Tree) (y h : Int) (w : World) (hl : LawFine l) (ht : TreeFine t) (hH : TreeHeld w.heap.size w t) (hy0 : 0 ≤ y) (hy1 : y ≤ 300) (hh0 : 1 ≤ h) (hh1 : h ≤ 15000) :
    Calls Tryz.prog 15 #[.agg (qCells l t y h), .func (.func 16) #[] #[]] w fun e w' => e = .returned (.int .i64 (firstYear (fun x => (verdictOn l t x h).1 == 1) y)) ∧ Below w.heap.size w w' := by
  have hB : Below w.heap.size w (((w.alloc (.cells (qCells l t y h) 51)).alloc (.cells #[.func (.func 16) #[] #[]] 55)).alloc (.cells #[.int .i64 y, .int .i64 300] 38)) := (((Below.refl _ w).alloc (Nat.le_refl _) _).alloc (by simp) _).alloc (by simp; omega) _
  have b1 : Blk (((w.alloc (.cells (qCells l t y h) 51)).alloc (.cells #[.func (.func 16) #[] #[]] 55)).alloc (.cells #[.int .i64 y, .int .i64 300] 38)) w.heap.size 51 (qCells l t y h) := ((Blk.new w _ _).alloc _).alloc _
  have b2 : Blk (((w.alloc (.cells (qCells l t y h) 51)).alloc (.cells #[.func (.func 16) #[] #[]] 55)).alloc (.cells #[.int .i64 y, .int .i64 300] 38)) (w.heap.size + 1) 55 #[.func (.func 16) #[] #[]] := by
    have := (Blk.new (w.alloc (.cells (qCells l t y h) 51)) 55 #[.func (.func 16) #[] #[]]).alloc (.cells #[.int .i64 y, .int .i64 300] 38)
    rwa [World.size_alloc] at this
  have b3 : Blk (((w.alloc (.cells (qCells l t y h) 51)).alloc (.cells #[.func (.func 16) #[] #[]] 55)).alloc (.cells #[.int .i64 y, .int .i64 300] 38)) (w.heap.size + 1 + 1) 38 #[.int .i64 y, .int .i64 300] := by
    have := Blk.new ((w.alloc (.cells (qCells l t y h) 51)).alloc (.cells #[.func (.func 16) #[] #[]] 55)) 38 #[.int .i64 y, .int .i64 300]
    rwa [World.size_alloc, World.size_alloc] at this
  have hF := firstOf_years l t y h (w.heap.size + 1 + 1) w.heap.size (w.heap.size + 1) y 300 (.func (.func 16) #[] #[]) (fun x => (verdictOn l t x h).1 == 1) w _ hy0 hy1 (by omega) hB (by omega) (by omega) (by omega) b3 b1 b2
    (fun x y' W h1 h2 h3 => nextClosure_isAlways l t y' h x.val w.heap.size (w.heap.size + 1) w W hl ht hH x.property.1 x.property.2 hh0 hh1 h1 (Nat.le_refl _) (by omega) h2 h3)
  clear hH hB b1 b2 b3
  have e18 : (qCells l t y h)[18]? = some (.int .i64 y) := rfl
  rw [year_of (fun x => (verdictOn l t x h).1 == 1) y] at hF
  generalize (fun x => (verdictOn l t x h).1 == 1) = p at hF ⊢
  generalize qCells l t y h = q at hF e18 ⊢
  have HF := Lib.hid hF; clear hF
  have c18 : (w.alloc (.cells q 51)).cell? ⟨w.heap.size, 18, none⟩ = some (.int .i64 y) := ((Blk.new w 51 q).cell 18).trans e18
  have c18b : ((w.alloc (.cells q 51)).alloc (.cells #[.func (.func 16) #[] #[]] 55)).cell? ⟨w.heap.size, 18, none⟩ = some (.int .i64 y) := (((Blk.new w 51 q).alloc _).cell 18).trans e18
  unfold firstYear
  rcases hr : findYear p y (300 - y + 1).toNat with _ | z
  · rw [hr] at HF; simp only [yearVal] at HF
    go_enter Tryz.func15, Tryz.ntmps15
    go_wp2_with (first | (go_at_call 29; refine (eachYear_calls _ _ _).mono ?_; rintro e w2 ⟨rfl, rfl⟩) | (go_at_call 28; refine HF.out.mono ?_; rintro e w3 ⟨rfl, hw3⟩))
    go_ret
    exact ⟨rfl, hw3⟩
  · rw [hr] at HF; simp only [yearVal] at HF
    go_enter Tryz.func15, Tryz.ntmps15
    go_wp2_with (first | (go_at_call 29; refine (eachYear_calls _ _ _).mono ?_; rintro e w2 ⟨rfl, rfl⟩) | (go_at_call 28; refine HF.out.mono ?_; rintro e w3 ⟨rfl, hw3⟩))
    go_ret
    exact ⟨rfl, hw3⟩

set_option maxRecDepth 100000 in
set_option maxHeartbeats 1000000 in
theorem next_isPossible (l : Law) (t : Tree) (y h : Int) (w : World) (hl : LawFine l) (ht : TreeFine t) (hH : TreeHeld w.heap.size w t) (hy0 : 0 ≤ y) (hy1 : y ≤ 300) (hh0 : 1 ≤ h) (hh1 : h ≤ 15000) :
    Calls Tryz.prog 15 #[.agg (qCells l t y h), .func (.func 17) #[] #[]] w fun e w' => e = .returned (.int .i64 (firstYear (fun x => (verdictOn l t x h).1 != 2) y)) ∧ Below w.heap.size w w' := by
  have hB : Below w.heap.size w (((w.alloc (.cells (qCells l t y h) 51)).alloc (.cells #[.func (.func 17) #[] #[]] 55)).alloc (.cells #[.int .i64 y, .int .i64 300] 38)) := (((Below.refl _ w).alloc (Nat.le_refl _) _).alloc (by simp) _).alloc (by simp; omega) _
  have b1 : Blk (((w.alloc (.cells (qCells l t y h) 51)).alloc (.cells #[.func (.func 17) #[] #[]] 55)).alloc (.cells #[.int .i64 y, .int .i64 300] 38)) w.heap.size 51 (qCells l t y h) := ((Blk.new w _ _).alloc _).alloc _
  have b2 : Blk (((w.alloc (.cells (qCells l t y h) 51)).alloc (.cells #[.func (.func 17) #[] #[]] 55)).alloc (.cells #[.int .i64 y, .int .i64 300] 38)) (w.heap.size + 1) 55 #[.func (.func 17) #[] #[]] := by
    have := (Blk.new (w.alloc (.cells (qCells l t y h) 51)) 55 #[.func (.func 17) #[] #[]]).alloc (.cells #[.int .i64 y, .int .i64 300] 38)
    rwa [World.size_alloc] at this
  have b3 : Blk (((w.alloc (.cells (qCells l t y h) 51)).alloc (.cells #[.func (.func 17) #[] #[]] 55)).alloc (.cells #[.int .i64 y, .int .i64 300] 38)) (w.heap.size + 1 + 1) 38 #[.int .i64 y, .int .i64 300] := by
    have := Blk.new ((w.alloc (.cells (qCells l t y h) 51)).alloc (.cells #[.func (.func 17) #[] #[]] 55)) 38 #[.int .i64 y, .int .i64 300]
    rwa [World.size_alloc, World.size_alloc] at this
  have hF := firstOf_years l t y h (w.heap.size + 1 + 1) w.heap.size (w.heap.size + 1) y 300 (.func (.func 17) #[] #[]) (fun x => (verdictOn l t x h).1 != 2) w _ hy0 hy1 (by omega) hB (by omega) (by omega) (by omega) b3 b1 b2
    (fun x y' W h1 h2 h3 => nextClosure_isPossible l t y' h x.val w.heap.size (w.heap.size + 1) w W hl ht hH x.property.1 x.property.2 hh0 hh1 h1 (Nat.le_refl _) (by omega) h2 h3)
  clear hH hB b1 b2 b3
  have e18 : (qCells l t y h)[18]? = some (.int .i64 y) := rfl
  rw [year_of (fun x => (verdictOn l t x h).1 != 2) y] at hF
  generalize (fun x => (verdictOn l t x h).1 != 2) = p at hF ⊢
  generalize qCells l t y h = q at hF e18 ⊢
  have HF := Lib.hid hF; clear hF
  have c18 : (w.alloc (.cells q 51)).cell? ⟨w.heap.size, 18, none⟩ = some (.int .i64 y) := ((Blk.new w 51 q).cell 18).trans e18
  have c18b : ((w.alloc (.cells q 51)).alloc (.cells #[.func (.func 17) #[] #[]] 55)).cell? ⟨w.heap.size, 18, none⟩ = some (.int .i64 y) := (((Blk.new w 51 q).alloc _).cell 18).trans e18
  unfold firstYear
  rcases hr : findYear p y (300 - y + 1).toNat with _ | z
  · rw [hr] at HF; simp only [yearVal] at HF
    go_enter Tryz.func15, Tryz.ntmps15
    go_wp2_with (first | (go_at_call 29; refine (eachYear_calls _ _ _).mono ?_; rintro e w2 ⟨rfl, rfl⟩) | (go_at_call 28; refine HF.out.mono ?_; rintro e w3 ⟨rfl, hw3⟩))
    go_ret
    exact ⟨rfl, hw3⟩
  · rw [hr] at HF; simp only [yearVal] at HF
    go_enter Tryz.func15, Tryz.ntmps15
    go_wp2_with (first | (go_at_call 29; refine (eachYear_calls _ _ _).mono ?_; rintro e w2 ⟨rfl, rfl⟩) | (go_at_call 28; refine HF.out.mono ?_; rintro e w3 ⟨rfl, hw3⟩))
    go_ret
    exact ⟨rfl, hw3⟩

end Go.Proofs.YtajbflepjpgnbaaGreat
