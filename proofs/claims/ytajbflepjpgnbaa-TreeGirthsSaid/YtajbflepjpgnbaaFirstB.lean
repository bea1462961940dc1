/- The first rule that is wanted: the second search. -/
import Derived.Test.YtajbflepjpgnbaaFirst
namespace Go.Proofs.Ytajbflepjpgnbaa
open Go.RowKit Go.Shelf

attribute [local go_sem] Oper.semAt_some

set_option maxRecDepth 100000 in
set_option maxHeartbeats 2000000 in
theorem firstOf_doubtful (Bs Bq b off cap : Nat) (p : Fin 6 → Bool) (w : World) (hBs : Bs < w.heap.size)
    (hc : w.cell? ⟨Bs, 0, none⟩ = some (.slice (some ⟨b, off, none⟩) 6 cap)) (hI : RulesLie w.heap.size w b off)
    (hW : ∀ (x : Fin 6) (W : World), Below w.heap.size w W → Calls Try.prog 66 #[.agg #[.int .i64 ((x.val : Int) + 1), .func (.func (ruleFn x.val)) #[] #[]], .pointer (some ⟨Bq, 0, none⟩)] W fun e W' => e = .returned (.bool (p x)) ∧ Below W.heap.size W W') :
    Calls Try.prog 67 #[.func (.func 91) #[] #[.pointer (some ⟨Bs, 0, none⟩)], .func (.func 66) #[] #[.pointer (some ⟨Bq, 0, none⟩)]] w fun e w' => e = .returned (foundVal (firstPlace p)) ∧ Below w.heap.size w w' := by
  refine (callsIn_wide (n := 6)).1 ?_
  have hro : Fence.wide.round = none := rfl
  refine callsIn_of_wp_marks Try.func67 rfl trivial ?_ hro
  simp only [Try.ntmps67, List.size_toArray, List.length_cons, List.length_nil, Nat.reduceAdd, Nat.reduceSub, Array.replicate_succ, Array.replicate_zero, List.push_toArray, List.append_toArray, List.nil_append, List.cons_append]
  gi_wp2
  have b3 := ((Blk.new w 107 #[.func (.func 66) #[] #[.pointer (some ⟨Bq, 0, none⟩)]]).alloc (.cells #[.int .i64 0, .nilFunc] 106)).alloc (.cells #[.bool false] 4)
  have b4 := (Blk.new (w.alloc (.cells #[.func (.func 66) #[] #[.pointer (some ⟨Bq, 0, none⟩)]] 107)) 106 #[.int .i64 0, .nilFunc]).alloc (.cells #[.bool false] 4)
  have b5 := Blk.new ((w.alloc (.cells #[.func (.func 66) #[] #[.pointer (some ⟨Bq, 0, none⟩)]] 107)).alloc (.cells #[.int .i64 0, .nilFunc] 106)) 4 #[.bool false]
  simp only [World.size_alloc] at b4 b5
  have hB0 : Below w.heap.size w (((w.alloc (.cells #[.func (.func 66) #[] #[.pointer (some ⟨Bq, 0, none⟩)]] 107)).alloc (.cells #[.int .i64 0, .nilFunc] 106)).alloc (.cells #[.bool false] 4)) := (((Below.refl _ w).alloc (Nat.le_refl _) _).alloc (by simp) _).alloc (by simp; omega) _
  have hsz : (((w.alloc (.cells #[.func (.func 66) #[] #[.pointer (some ⟨Bq, 0, none⟩)]] 107)).alloc (.cells #[.int .i64 0, .nilFunc] 106)).alloc (.cells #[.bool false] 4)).heap.size = w.heap.size + 3 := by simp
  obtain ⟨W0, hW0⟩ : ∃ W0, ((w.alloc (.cells #[.func (.func 66) #[] #[.pointer (some ⟨Bq, 0, none⟩)]] 107)).alloc (.cells #[.int .i64 0, .nilFunc] 106)).alloc (.cells #[.bool false] 4) = W0 := ⟨_, rfl⟩
  rw [hW0] at b3 b4 b5 hB0 hsz ⊢
  clear hW0
  refine wpIn_rangeFunc_ownH hro (by omega) (gf := 91) (lb := #[.pointer (some ⟨Bs, 0, none⟩)]) rfl trivial (enters_of Try.func91 (by kernel_rfl) rfl)
    (values_stops Fence.wide 5 trivial hro (by omega) Bs w.heap.size b off cap W0 (by omega) (by omega) ((hB0.cell (p := ⟨Bs, 0, none⟩) hBs).trans hc) (hI.below hB0)) belowK_t (belowK_b (by omega)) (Below.refl _ _) (fun _ => rfl)
    (fun pre W => ((Blk W w.heap.size 107 #[.func (.func 66) #[] #[.pointer (some ⟨Bq, 0, none⟩)]] ∧ Blk W (w.heap.size + 1) 106 #[.int .i64 0, .nilFunc]) ∧ Blk W (w.heap.size + 1 + 1) 4 #[.bool false]) ∧ (Below w.heap.size w W ∧ ∀ x ∈ pre, p x = false))
    (fun c pre W => (Blk W (w.heap.size + 1) 106 #[.int .i64 ((((pre.getLastD 0).val : Nat) : Int) + 1), .func (.func (ruleFn (pre.getLastD 0).val)) #[] #[]] ∧ Blk W (w.heap.size + 1 + 1) 4 #[.bool true]) ∧ (Below w.heap.size w W ∧ (c = .ret ∧ pre.find? p = some (pre.getLastD 0))))
    (OwnFrom.and (OwnFrom.and (OwnFrom.and (Own.from (blk_own _ _ _) _) (Own.from (blk_own _ _ _) _)) (Own.from (blk_own _ _ _) _)) (OwnFrom.and (ownFrom_below (Nat.le_refl _) (by omega)) (ownFrom_pure _ _)))
    (fun c => OwnFrom.and (OwnFrom.and (Own.from (blk_own _ _ (fun pre : List (Fin 6) => #[.int .i64 ((((pre.getLastD 0).val : Nat) : Int) + 1), .func (.func (ruleFn (pre.getLastD 0).val)) #[] #[]])) _) (Own.from (blk_own _ _ _) _)) (OwnFrom.and (ownFrom_below (Nat.le_refl _) (by omega)) (ownFrom_pure _ _)))
    ⟨⟨⟨b3, b4⟩, b5⟩, hB0, fun x hx => by cases hx⟩
    (fun x a' W => ∃ Bx, w.heap.size + 1 + 1 < Bx ∧ Blk W Bx 106 #[.int .i64 ((x.val : Int) + 1), .func (.func (ruleFn x.val)) #[] #[]] ∧ a' = { tmps := #[.func (.func 91) #[] #[.pointer (some ⟨Bs, 0, none⟩)], .func (.func 66) #[] #[.pointer (some ⟨Bq, 0, none⟩)], undef, .pointer (some ⟨w.heap.size, 0, none⟩), .pointer (some ⟨w.heap.size + 1, 0, none⟩), .pointer (some ⟨w.heap.size + 1 + 1, 0, none⟩), .pointer (some ⟨Bx, 0, none⟩), .func (.func 91) #[] #[.pointer (some ⟨Bs, 0, none⟩)], .agg #[.int .i64 ((x.val : Int) + 1), .func (.func (ruleFn x.val)) #[] #[]], undef, undef, undef, undef, undef], defers := [] })
    (fun x a' _ X Y row hs hg hr => by obtain ⟨Bx, h1, h2, h3⟩ := hs; exact ⟨Bx, h1, blk_own Bx _ (fun (_ : Unit) => _) () X Y row h2 hg (fun r e => (hr r e).2), h3⟩)
    ?assign ?body ?done ?stop
  case assign =>
    rintro l pre x W K ⟨⟨⟨c3, c4⟩, c5⟩, hB1, hp⟩ hK
    gi_wp2
    exact hK _ _ ((KeepsOthers.alloc _ _).from _) ((Below.refl _ W).alloc hB1.size _) ⟨⟨⟨c3.alloc _, c4.alloc _⟩, c5.alloc _⟩, hB1.alloc hB1.size _, hp⟩ ⟨W.heap.size, c5.lt, Blk.new W _ _, rfl⟩
  case body =>
    rintro l pre x a' W hl ⟨r, hr⟩ ⟨⟨⟨c3, c4⟩, c5⟩, hB1, hp⟩ ⟨Bx, hBx, bX, rfl⟩ hlt
    have d3 : W.cell? ⟨w.heap.size, 0, none⟩ = some (.func (.func 66) #[] #[.pointer (some ⟨Bq, 0, none⟩)]) := c3.cell 0
    have dx0 : W.cell? ⟨Bx, 0, none⟩ = some (.int .i64 ((x.val : Int) + 1)) := bX.cell 0
    have dx1 : W.cell? ⟨Bx, 1, none⟩ = some (.func (.func (ruleFn x.val)) #[] #[]) := bX.cell 1
    have HW := Lib.hid (hW x W hB1)
    cases hpx : p x
    · rw [hpx] at HW
      gi_wp2_with (refine ⟨trivial, ?_⟩; gi_at_call 66; refine (CallsIn.inRound l (callsIn_wide.2 HW.out)).mono ?_; rintro e w2 ⟨rfl, hw2⟩)
      have hk : KeepsFrom W0.heap.size W w2 := ⟨hw2.size, fun k o _ hk _ => (hw2.block k (Array.getElem?_eq_some_iff.1 hk).1).trans hk⟩
      exact ⟨hk, hw2.mono hB1.size, ⟨⟨c3.below hw2 c3.lt, c4.below hw2 c4.lt⟩, c5.below hw2 c5.lt⟩, hB1.trans (hw2.mono hB1.size), fun y hy => by rcases List.mem_append.1 hy with hy | hy; exact hp y hy; rw [List.mem_singleton.1 hy]; exact hpx⟩
    · rw [hpx] at HW
      gi_wp2_with (refine ⟨trivial, ?_⟩; gi_at_call 66; refine (CallsIn.inRound l (callsIn_wide.2 HW.out)).mono ?_; rintro e w2 ⟨rfl, hw2⟩; have e0 := (bX.below hw2 bX.lt).cell 0; have e1 := (bX.below hw2 bX.lt).cell 1; have e2 := (c4.below hw2 c4.lt).cell 0; have e3 := (c4.below hw2 c4.lt).cell 1; have e4 := (c4.below hw2 c4.lt).frozen 0; have e5 := (c4.below hw2 c4.lt).frozen 1; have e6 := (c5.below hw2 c5.lt).cell 0; have e7 := (c5.below hw2 c5.lt).frozen 0; simp only [List.getElem?_toArray, List.getElem?_cons_zero, List.getElem?_cons_succ] at e0 e1 e2 e3 e6)
      have hgl : (pre ++ [x]).getLastD 0 = x := by simp
      have hk : KeepsFrom W0.heap.size W w2 := ⟨hw2.size, fun k o _ hk _ => (hw2.block k (Array.getElem?_eq_some_iff.1 hk).1).trans hk⟩
      have d4 := ((((c4.below hw2 c4.lt).set_ 0 (.int .i64 ((x.val : Int) + 1))).set_ 1 (.func (.func (ruleFn x.val)) #[] #[])).far (p := ⟨w.heap.size + 1 + 1, 0, none⟩) (by simp) (.bool true))
      have d5 := ((((c5.below hw2 c5.lt).far (p := ⟨w.heap.size + 1, 0, none⟩) (by simp) (.int .i64 ((x.val : Int) + 1))).far (p := ⟨w.heap.size + 1, 1, none⟩) (by simp) (.func (.func (ruleFn x.val)) #[] #[])).set_ 0 (.bool true))
      refine ⟨hk.trans ((((KeepsOthers.setCell _ _ _).trans (KeepsOthers.setCell _ _ _)).trans (KeepsOthers.setCell _ _ _)).from _), ⟨by rw [hgl]; exact d4, d5⟩, ?_, rfl, ?_⟩
      · exact (((hB1.trans (hw2.mono hB1.size)).setCell (p := ⟨w.heap.size + 1, 0, none⟩) (by simp) _).setCell (p := ⟨w.heap.size + 1, 1, none⟩) (by simp) _).setCell (p := ⟨w.heap.size + 1 + 1, 0, none⟩) (by simp; omega) _
      · rw [hgl, List.find?_append, List.find?_eq_none.2 (fun y hy => by rw [hp y hy]; simp)]
        simp [hpx]
  case done =>
    rintro D ys W hD rfl ⟨⟨⟨c3, c4⟩, c5⟩, hB1, hp⟩ hK
    have e2 := c4.cell 0
    have e3 := c4.cell 1
    have e4 := c4.frozen 0
    have e5 := c4.frozen 1
    have e6 := c5.cell 0
    have e7 := c5.frozen 0
    simp only [List.getElem?_toArray, List.getElem?_cons_zero, List.getElem?_cons_succ] at e2 e3 e6
    have hnone : firstPlace p = none := List.find?_eq_none.2 (fun y hy => by rw [hp y hy]; simp)
    have d4 := (((c4.set_ 0 (.int .i64 0)).set_ 1 .nilFunc).far (p := ⟨w.heap.size + 1 + 1, 0, none⟩) (by simp) (.bool false))
    have d5 := (((c5.far (p := ⟨w.heap.size + 1, 0, none⟩) (by simp) (.int .i64 0)).far (p := ⟨w.heap.size + 1, 1, none⟩) (by simp) .nilFunc).set_ 0 (.bool false))
    have hB2 := ((hB1.setCell (p := ⟨w.heap.size + 1, 0, none⟩) (by simp) (.int .i64 0)).setCell (p := ⟨w.heap.size + 1, 1, none⟩) (by simp) .nilFunc).setCell (p := ⟨w.heap.size + 1 + 1, 0, none⟩) (by simp; omega) (.bool false)
    have hK2 := (Below.heap_setCell (((W.setCell ⟨w.heap.size + 1, 0, none⟩ (.int .i64 0)).setCell ⟨w.heap.size + 1, 1, none⟩ .nilFunc)) ⟨w.heap.size + 1 + 1, 0, none⟩ (.bool false) D (by simp; omega)).trans ((Below.heap_setCell (W.setCell ⟨w.heap.size + 1, 0, none⟩ (.int .i64 0)) ⟨w.heap.size + 1, 1, none⟩ .nilFunc D (by simp; omega)).trans ((Below.heap_setCell W ⟨w.heap.size + 1, 0, none⟩ (.int .i64 0) D (by simp; omega)).trans hK))
    gi_wp2
    generalize (((W.setCell ⟨w.heap.size + 1, 0, none⟩ (.int .i64 0)).setCell ⟨w.heap.size + 1, 1, none⟩ .nilFunc).setCell ⟨w.heap.size + 1 + 1, 0, none⟩ (.bool false)) = W2 at d4 d5 hB2 hK2 ⊢
    refine ⟨by simp, .inl ⟨_, _, rfl, run_takeDeferred hK2, ?_⟩⟩
    exact ⟨_, results_cell_cell rfl _ _ (w.heap.size + 1) (w.heap.size + 1 + 1) 106 4 #[.int .i64 0, .nilFunc] _ false rfl (d4.putObj (by omega) _) Try.underlying106 rfl size_rule rfl (d5.putObj (by omega) _) Try.underlying4, by rw [hnone]; rfl, hB2.trans (belowK_b (w := W0) (by omega) W2 D _ _ hD hK2 rfl rfl)⟩
  case stop =>
    rintro D c pre W hD ⟨k, hk, rfl⟩ ⟨⟨c4, c5⟩, hB1, rfl, hp⟩ hK
    have hsome : firstPlace p = some ((upto ruleAt k).getLastD 0) := by
      unfold firstPlace
      have e : upto ruleAt 6 = upto ruleAt k ++ (List.range' k (6 - k)).map ruleAt := by
        unfold upto
        rw [← List.map_append, List.range_eq_range', List.range_eq_range']
        congr 1
        have := @List.range'_append_1 0 k (6 - k)
        rw [Nat.zero_add] at this
        rw [this]
        congr 1
        omega
      rw [e, List.find?_append, hp]
      rfl
    gi_wp2
    refine ⟨by simp, .inl ⟨_, _, rfl, run_takeDeferred hK, ?_⟩⟩
    exact ⟨_, results_cell_cell rfl _ _ (w.heap.size + 1) (w.heap.size + 1 + 1) 106 4 _ _ true rfl (c4.putObj (by omega) _) Try.underlying106 rfl size_rule rfl (c5.putObj (by omega) _) Try.underlying4, by rw [hsome]; rfl, hB1.trans (belowK_b (w := W0) (by omega) W D _ _ hD hK rfl rfl)⟩
end Go.Proofs.Ytajbflepjpgnbaa
