/- Dates of no digits: no strip, one row. -/
import Derived.Test.YtceginnogbbpeaaDatesOf
namespace Go.Proofs.Ytceginnogbbpeaa
open Go.RowKit Go.Shelf Go.Maps

attribute [local go_sem] Oper.semAt_some

set_option maxRecDepth 100000 in
set_option maxHeartbeats 2000000 in
theorem follow_nil (a : Option Addr) (c : Nat) (rest lo hi : Int) (w : World) (hr0 : 1 ≤ rest) (hr1 : rest ≤ 30) (h0 : 0 ≤ lo) (h1 : lo ≤ hi) (h2 : hi ≤ 300) :
    Calls Try.prog 32 #[.int .i64 rest, .slice a 0 c, .agg #[.int .i64 lo, .int .i64 hi]] w fun e W' => e = .returned (.tuple #[.slice none 0 0, .int .i64 1]) ∧ Below w.heap.size w W' := by
  have hmm := @run_makeMap Try.prog
  have hwf0 : (Lit.int .i64 (lo - rest)).wf = true := year_wf _ (by omega) (by omega)
  have hwf1 : (Lit.int .i64 1).wf = true := rfl
  go_enter Try.func32, Try.ntmps32
  go_wp2_with ((with_reducible refine at_ins 103 _ _ _ ?_); go_must (refine wpList_insert_own (H := Unit) _ rfl _ _ _ 103 rfl 3 3 lawI Try.underlying103 (plainElem Try.prog 3) (w.heap.size + 1) 0 (.map []) rfl (by have := World.ownsMap_made (H := Unit) (w.alloc (.cells #[.int .i64 lo, .int .i64 hi] 41)) Try.prog 3 (plainElem Try.prog 3); simpa using this) (by unfold maxLen; omega) _ _ _ rfl rfl (Maps.keyOf_int_mk Try.underlying3 hwf0) _ [] (plainElem_int Try.underlying3 hwf1) ?_); intro w1 hown1 hgr1; go_frame)
  have hB : Below w.heap.size w w1 := (((Below.refl _ _).alloc (Nat.le_refl _) _).alloc (by simp) _).grown hgr1 (by simp <;> omega) (fun k hk => by cases hk; omega)
  have hsz := hB.size
  clear hgr1
  refine wp_loop_rounds 1 ?_
  rw [rounds_succ]
  have hrun : total (rowsRun rest lo hi []) = 1 := by simp [rowsRun, total, sumLeft, litNum]
  have hm : w1.ownsMap Try.prog 3 (plainElem Try.prog 3) (w.heap.size + 1) 1 (rowsRun rest lo hi []) := hown1
  clear hown1
  obtain ⟨es, hes, hrise, hkeys⟩ := World.ownsMap.canon hm lawI
  have hap := apart_of_rising hrise
  generalize hDD : rowsRun rest lo hi [] = DD at hm hes hrun
  clear hDD
  subst hes
  generalize w.heap.size + 1 = gb at hm ⊢
  generalize 1 = nn at hm ⊢
  rename World => W1
  go_wp2_with (at_range; refine wpList_range_own _ rfl _ 103 rfl 3 3 lawI Try.underlying103 _ gb nn _ rfl hm ?_; intro w2 hrg0 hg0 hs0)
  go_frame
  go_loopw [7, 12] (fun acc _ wq => ∃ (left : Lit → Bool) (cnt : Nat) (z : Int), acc = .int .i64 z ∧ wrap64 (z + sumLeft es left) = wrap64 (total (.map es)) ∧ wrap64 z = z ∧ wq.ranges Try.prog 3 (plainElem Try.prog 3) gb W1.heap.size nn (.map es) left cnt ∧ W1.grownBy wq none)
    (fun _ _ wq => wq.rangeLeft gb W1.heap.size)
  case atStart => exact ⟨_, _, 0, rfl, by rw [total_start hkeys, Int.zero_add], (by unfold wrap64; omega), hrg0, hg0⟩
  case round =>
    obtain ⟨left, cnt, z, rfl, hz, hzw, hrg, hgw⟩ := hrel
    go_wp2_with (at_next; refine wpList_next_ranges_ii _ rfl _ rfl 3 3 .i64 .i64 lawI Try.underlying3 Try.underlying3 gb W1.heap.size nn _ _ _ rfl hrg ?_ ?_)
    · intro _ hl0
      go_wp2
      go_ret2
      have hBq : Below W1.heap.size W1 wr := (Below.refl _ _).grown hgw (Nat.le_refl _) (fun k hk => by cases hk)
      rw [sumLeft_none hl0, Int.add_zero, hzw, hrun] at hz
      refine ⟨?_, hB.trans (hBq.mono hsz)⟩
      rw [hz, wrap_small (z := 1) (by omega) (by omega)]
      rfl
    · intro x cc w3 cnt1 hwx hwc hlx hat hrg1 hlt1 hg1 hs1 hen
      have hgw1 := hgw.andThen hg1 (fun j hj => by cases hj; exact Or.inl (Nat.le_refl _))
      have hstep := sumLeft_step hlx hap hat
      go_wp2
      go_roundw
      case rel =>
        refine ⟨_, cnt1, wrap64 (z + cc), rfl, ?_, ?_, hrg1, hgw1⟩
        · rw [← hz, hstep]; unfold wrap64; omega
        · unfold wrap64; omega
      case measure => rw [hrg1.left_eq, hrg.left_eq]; exact hlt1

set_option maxHeartbeats 2000000 in
theorem back_none (F : Fence) (n : Nat) (h7 : F.fn 67) (hro : F.round = none) (Bs : Nat) (w : World)
    (hb : Blk w Bs 83 #[.slice none 0 0]) (Kp : World → World → Prop) :
    SeqNth F n Try.prog 67 #[.pointer (some ⟨Bs, 0, none⟩)] (fun _ => #[undef, undef]) Kp 0 w := fun l J W hW _ hJ => by
  have c0 : W.cell? ⟨Bs, 0, none⟩ = some (.slice none 0 0) := (hb.below hW hb.lt).cell 0
  clear hW hb
  show CallsIn F n Try.prog 67 #[.func (.yield l) #[] #[], .pointer (some ⟨Bs, 0, none⟩)] W _
  refine callsIn_of_wp Try.func67 rfl h7 ?_ hro
  simp only [Try.ntmps67, List.size_toArray, List.length_cons, List.length_nil, Nat.reduceAdd, Nat.reduceSub, Array.replicate_succ, Array.replicate_zero, List.push_toArray, List.append_toArray, List.nil_append, List.cons_append]
  gi_wp2
  gi_loopw [3] (fun i wr => i = .int .i64 (-1) ∧ J 0 wr) (fun _ _ => 0)
  case atStart => exact ⟨rfl, hJ⟩
  case round =>
    obtain ⟨rfl, hJs⟩ := hrel
    gi_wp2
    go_end0
    exact ⟨⟨_, rfl⟩, hJs⟩

set_option maxRecDepth 100000 in
set_option maxHeartbeats 2000000 in
theorem spans_nil (rest latest : Int) (w : World) :
    Calls Try.prog 33 #[.slice none 0 0, .int .i64 rest, .int .i64 latest] w fun e W' =>
      ∃ g : Nat, e = .returned (.slice (some ⟨g, 0, none⟩) 0 0) ∧ Below w.heap.size w W' := by
  have hmk : ∀ W : World, (Instr.makeSlice 56 (.int .i64 0) (.int .i64 0)).run Try.prog W = .ok (.slice (some ⟨W.heap.size, 0, none⟩) 0 0) (W.alloc (.cells (boundsCells 0) 41)) := fun W => make_bounds 0 (by omega) W
  refine (callsIn_wide (n := 6)).1 ?_
  have hro : Fence.wide.round = none := rfl
  refine callsIn_of_wp_marks Try.func33 rfl trivial ?_ hro
  simp only [Try.ntmps33, List.size_toArray, List.length_cons, List.length_nil, Nat.reduceAdd, Nat.reduceSub, Array.replicate_succ, Array.replicate_zero, List.push_toArray, List.append_toArray, List.nil_append, List.cons_append]
  gi_wp2_with (refine ⟨trivial, ?_⟩; gi_at_call 50; refine (callsIn_wide.2 (backward_calls _ ⟨_, _, _, rfl⟩ _)).mono ?_; rintro e w' ⟨rfl, rfl⟩)
  have bB : Below w.heap.size w (((((w.alloc (.cells #[.int .i64 rest] 3)).alloc (.cells #[.int .i64 latest] 3)).alloc (.cells (boundsCells 0) 41)).alloc (.cells #[.slice (some ⟨w.heap.size + 1 + 1, 0, none⟩) 0 0] 56)).alloc (.cells #[.slice none 0 0] 83)) := by
    refine Below.alloc (Below.alloc (Below.alloc (Below.alloc (Below.alloc (Below.refl _ _) ?_ _) ?_ _) ?_ _) ?_ _) ?_ _ <;> (try simp only [World.size_alloc]) <;> omega
  have k3 := (Blk.new' (w := ((w.alloc (.cells #[.int .i64 rest] 3)).alloc (.cells #[.int .i64 latest] 3)).alloc (.cells (boundsCells 0) 41)) (g := w.heap.size + 1 + 1 + 1) (by simp only [World.size_alloc]) 56 #[.slice (some ⟨w.heap.size + 1 + 1, 0, none⟩) 0 0]).alloc (.cells #[.slice none 0 0] 83)
  have k4 := Blk.new' (w := (((w.alloc (.cells #[.int .i64 rest] 3)).alloc (.cells #[.int .i64 latest] 3)).alloc (.cells (boundsCells 0) 41)).alloc (.cells #[.slice (some ⟨w.heap.size + 1 + 1, 0, none⟩) 0 0] 56)) (g := w.heap.size + 1 + 1 + 1 + 1) (by simp only [World.size_alloc]) 83 #[.slice none 0 0]
  have hz : (((((w.alloc (.cells #[.int .i64 rest] 3)).alloc (.cells #[.int .i64 latest] 3)).alloc (.cells (boundsCells 0) 41)).alloc (.cells #[.slice (some ⟨w.heap.size + 1 + 1, 0, none⟩) 0 0] 56)).alloc (.cells #[.slice none 0 0] 83)).heap.size = w.heap.size + 5 := by simp only [World.size_alloc]
  generalize (((((w.alloc (.cells #[.int .i64 rest] 3)).alloc (.cells #[.int .i64 latest] 3)).alloc (.cells (boundsCells 0) 41)).alloc (.cells #[.slice (some ⟨w.heap.size + 1 + 1, 0, none⟩) 0 0] 56)).alloc (.cells #[.slice none 0 0] 83)) = w5 at bB k3 k4 hz ⊢
  refine wpIn_rangeFunc_nth hro (by omega) (gf := 67) (lb := #[.pointer (some ⟨w.heap.size + 1 + 1 + 1 + 1, 0, none⟩)]) rfl trivial (enters_of Try.func67 (by kernel_rfl) rfl)
    (back_none Fence.wide 5 trivial hro (w.heap.size + 1 + 1 + 1 + 1) w5 k4 (fun _ _ => True)) (fun _ _ => trivial) (fun _ _ _ _ => trivial) (Below.refl _ _) (fun _ => rfl)
    (fun _ W => Blk W (w.heap.size + 1 + 1 + 1) 56 #[.slice (some ⟨w.heap.size + 1 + 1, 0, none⟩) 0 0] ∧ Below w.heap.size w W)
    (fun k A B row hs hg hr => ⟨blk_grown hs.1 hg (fun e => by have := (hr _ e.symm).1; omega), hs.2.grown hg (by have := hs.2.size; omega) (fun r e => by have := (hr r e).1; omega)⟩) ⟨k3, bB⟩
    (fun _ => { tmps := #[.slice none 0 0, .int .i64 rest, .int .i64 latest, undef, .pointer (some ⟨w.heap.size, 0, none⟩), .pointer (some ⟨w.heap.size + 1, 0, none⟩), .slice none 0 0, .pointer (some ⟨w.heap.size + 1 + 1 + 1, 0, none⟩), undef, undef, undef, .slice none 0 0, .int .i64 0, .slice (some ⟨w.heap.size + 1 + 1, 0, none⟩) 0 0, .slice none 0 0, .func (.func 67) #[] #[.pointer (some ⟨w.heap.size + 1 + 1 + 1 + 1, 0, none⟩)], undef, undef, undef, undef, undef, undef, undef, undef, undef, undef, undef, undef, undef, undef, undef, undef, undef, undef, undef, undef, undef, undef, undef, undef, undef, undef, undef, undef, undef], defers := [] }) ?assign ?body ?done
  case assign =>
    intro l k W K hK
    gi_wp2
    exact hK
  case body => intro l k W hk; omega
  case done =>
    rintro D2 W hD hS hK
    have f3 : W.cell? ⟨w.heap.size + 1 + 1 + 1, 0, none⟩ = some (.slice (some ⟨w.heap.size + 1 + 1, 0, none⟩) 0 0) := hS.1.cell 0
    have hsw := hS.1.lt
    gi_wp2
    refine ⟨by simp, .inl ⟨_, _, rfl, run_takeDeferred hK, ?_⟩⟩
    exact ⟨_, results_tmp rfl _ _ _, w.heap.size + 1 + 1, rfl, hS.2.grown (grownBy_putObj' W D2 (.deferred none)) (by omega) (fun r e => by cases e; omega)⟩
end Go.Proofs.Ytceginnogbbpeaa
