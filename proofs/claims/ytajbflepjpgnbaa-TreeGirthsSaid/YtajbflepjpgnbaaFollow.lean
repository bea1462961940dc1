/- The rows of years that painted digits can mean. -/
import Derived.Test.YtajbflepjpgnbaaSum
namespace Go.Proofs.Ytajbflepjpgnbaa
open Go.RowKit Go.Shelf Go.Maps

def stepRows (rest lo hi : Int) (D : DataW Unit) (d : Int) : DataW Unit := (digitRun D d rest (upto (yearAt lo) (hi - lo + 1).toNat)).2
/-- The years of the last strip, and the number of rows to each. -/
def rowsRun (rest lo hi : Int) (ds : List Int) : DataW Unit := ds.foldl (stepRows rest lo hi) (.map [(.int .i64 (lo - rest), .lit (.int .i64 1))])
theorem rowsRun_snoc (rest lo hi : Int) (ds : List Int) (d : Int) : rowsRun rest lo hi (ds ++ [d]) = stepRows rest lo hi (rowsRun rest lo hi ds) d := by simp [rowsRun]
/-- The same for each of the first strips. -/
def fits (rest lo hi : Int) (ds : List Int) : Nat → List (DataW Unit)
  | 0 => []
  | k + 1 => fits rest lo hi ds k ++ [rowsRun rest lo hi (ds.take (k + 1))]
theorem fits_length (rest lo hi : Int) (ds : List Int) : ∀ k, (fits rest lo hi ds k).length = k
  | 0 => rfl
  | k + 1 => by simp [fits, fits_length rest lo hi ds k]
theorem take_snoc (ds : List Int) {k : Nat} (hk : k < ds.length) : ds.take (k + 1) = ds.take k ++ [ds.getD k 0] := by
  rw [List.take_add_one, List.getElem?_eq_getElem hk]
  simp [List.getD, List.getElem?_eq_getElem hk]

theorem info_rows : (Try.prog.info? 121).map (fun i => (i.zero, i.size, i.bytes)) = some (some (.map none), 1, 8) := by kernel_rfl

set_option maxRecDepth 100000 in
set_option maxHeartbeats 2000000 in
theorem follow_calls (b off c : Nat) (ds : List Int) (rest lo hi : Int) (w : World) (hr0 : 1 ≤ rest) (hr1 : rest ≤ 30) (h0 : 0 ≤ lo) (h1 : lo ≤ hi) (h2 : hi ≤ 300) (hb : b < w.heap.size) (hlen : ds.length ≤ 1000)
    (hd : ∀ j, j < ds.length → w.cell? ⟨b, off + j, none⟩ = some (.int .i64 (ds.getD j 0))) :
    Calls Try.prog 52 #[.int .i64 rest, .slice (some ⟨b, off, none⟩) ds.length c, .agg #[.int .i64 lo, .int .i64 hi]] w fun e W' =>
      ∃ (v : Value) (bs : List Nat), e = .returned (.tuple #[v, .int .i64 (wrap64 (total (rowsRun rest lo hi ds)))]) ∧ Fit' W' (w.heap.size + 1) (hi - lo + 1).toNat (fits rest lo hi ds ds.length) v bs ∧ Below w.heap.size w W' := by
  have hmm := @run_makeMap Try.prog
  obtain ⟨i0, hi0, hz0, hz1, hz2⟩ := info_parts info_rows
  have hD := Lib.hid hd; clear hd
  have hwf0 : (Lit.int .i64 (lo - rest)).wf = true := year_wf _ (by omega) (by omega)
  have hwf1 : (Lit.int .i64 1).wf = true := rfl
  go_enter Try.func52, Try.ntmps52
  go_wp2_with ((with_reducible refine at_ins 121 _ _ _ ?_); go_must (refine wpList_insert_own (H := Unit) _ rfl _ _ _ 121 rfl 3 3 lawI Try.underlying121 (plainElem Try.prog 3) (w.heap.size + 1) 0 (.map []) rfl (by have := World.ownsMap_made (H := Unit) (w.alloc (.cells #[.int .i64 lo, .int .i64 hi] 31)) Try.prog 3 (plainElem Try.prog 3); simpa using this) (by unfold maxLen; omega) _ _ _ rfl rfl (Maps.keyOf_int_mk Try.underlying3 hwf0) _ [] (plainElem_int Try.underlying3 hwf1) ?_); intro w1 hown1 hgr1; go_frame)
  go_loopw [6, 8, 10, 21] (fun v g dd iv wr => ∃ (i : Nat) (bs : List Nat) (gb nn : Nat), i ≤ ds.length ∧ iv = .int .i64 i ∧ g = .map (some gb) ∧ wr.ownsMap Try.prog 3 (plainElem Try.prog 3) gb nn (rowsRun rest lo hi (ds.take i)) ∧ w.heap.size ≤ gb ∧
      Fit' wr (w.heap.size + 1) (hi - lo + 1).toNat (fits rest lo hi ds i) v bs ∧ wr.heap[w.heap.size]? = some (.cells #[.int .i64 lo, .int .i64 hi] 31 (0, 0)) ∧ Below w.heap.size w wr)
    (fun _ _ _ iv _ => ds.length - (intOf iv).toNat)
  case atStart =>
    refine ⟨0, [], w.heap.size + 1, 1, Nat.zero_le _, by simp, rfl, hown1, by omega, ⟨rfl, World.ownsRow_nil _ _ _ _, by simp, List.nodup_nil⟩, blk_grown ((Blk.new w 31 #[.int .i64 lo, .int .i64 hi]).alloc _) hgr1 (by simp), ?_⟩
    exact (((Below.refl _ _).alloc (Nat.le_refl _) _).alloc (by simp) _).grown hgr1 (by simp <;> omega) (fun k hk => by cases hk; omega)
  case round =>
    obtain ⟨i, bs, gb, nn, hik, rfl, rfl, hm, hgb, hfit, hblk, hB⟩ := hrel
    have b0 : wr.cell? ⟨w.heap.size, 0, none⟩ = some (.int .i64 lo) := Blk.cell hblk 0
    have b1 : wr.cell? ⟨w.heap.size, 1, none⟩ = some (.int .i64 hi) := Blk.cell hblk 1
    have hsz := hB.size
    by_cases hlt : i < ds.length
    · have hcell : wr.cell? ⟨b, off + i, none⟩ = some (.int .i64 (ds.getD i 0)) := (hB.cell hb).trans (hD.out i hlt)
      have e1 : rowsRun rest lo hi (ds.take (i + 1)) = stepRows rest lo hi (rowsRun rest lo hi (ds.take i)) (ds.getD i 0) := by rw [take_snoc ds hlt, rowsRun_snoc]
      have hF1 : fits rest lo hi ds (i + 1) = fits rest lo hi ds i ++ [rowsRun rest lo hi (ds.take (i + 1))] := rfl
      have hFl : (fits rest lo hi ds i).length = i := fits_length _ _ _ _ _
      have hml := hm.lt
      generalize rowsRun rest lo hi (ds.take i) = D0 at hm e1
      generalize ds.getD i 0 = d at hcell e1
      generalize fits rest lo hi ds i = Fs at hfit hF1 hFl
      have HC := Lib.hid (followDigit_calls gb nn d rest lo hi D0 wr hr0 hr1 h0 h1 h2 hml hm)
      have HE := Lib.hid e1
      have HF := Lib.hid hF1
      have HM := Lib.hid hm
      have HT := Lib.hid hfit
      have HL := Lib.hid hblk
      have HW := Lib.hid hB
      clear e1 hF1 hm hfit hblk hB
      go_wp2_with (first
        | (go_at_call 76; refine HC.out.mono ?_; rintro e w2 ⟨g2, hg2, rfl, hm2, hB2⟩; have hrow2 := ownsRow_below HT.out.row hB2; have hsz2 := hB2.size; have HM2 := Lib.hid hm2; have HB2 := Lib.hid hB2; clear hm2 hB2)
        | (at_builtin; refine wpList_append_own_at _ rfl (.tmp 30) (.tmp 32) 92 rfl (w.heap.size + 1) 121 i0 (.map none) 1 8 Try.underlying92 hi0 hz0 hz1 hz2 rfl (by decide) _ _ _ rfl (hrow2.alloc _) ⟨w2.heap.size, 0, none⟩ 1 1 [.map (some g2)] rfl rfl (cell_one_new _ _ _) (by intro u hu; simp at hu; subst hu; rfl) (by rw [hFl]; unfold maxLen; omega) (by rw [hFl]; omega) (by simp; omega) ?_; intro v1 w3 hown3 hgrow3 hnil3 hat3))
      have hm2 := HM2.out; have hB2 := HB2.out; have hm := HM.out; have hfit := HT.out; have hblk := HL.out; have hB := HW.out
      have hB2a : Below wr.heap.size wr (w2.alloc (.cells #[.map (some g2)] 121)) := hB2.alloc (by omega) _
      go_roundw
      case rel =>
        refine ⟨i + 1, bs ++ [g2], g2, (hi - lo + 1).toNat, by omega, by first | rfl | (simp; omega), rfl, ?_, by omega, ?_, ?_, ?_⟩
        · rw [HE.out]; exact (hm2.alloc (.cells #[.map (some g2)] 121)).kept hgrow3 (map_not_row (hrow2.alloc (.cells #[.map (some g2)] 121)) (hm2.alloc (.cells #[.map (some g2)] 121)))
        · rw [HF.out, HE.out]
          exact (hfit.below hB2a).append (hm2.alloc _) (by omega) (fun h => by have := hfit.lt g2 h; omega) hgrow3 hown3
        · exact blk_grown (Blk.alloc (Blk.below hblk hB2 (by omega)) _) hgrow3 (fun e => by have := (hfit.row.lt _ e.symm).1; omega)
        · exact ((hB.trans (hB2.mono (by omega))).alloc (by omega) _).grown hgrow3 (by simp; omega) (fun k hk => by have := (hfit.row.lt k hk).1; omega)
      case measure => simp [intOf]; omega
    · obtain rfl : i = ds.length := by omega
      rw [List.take_length] at hm
      obtain ⟨es, hes, hrise, hkeys⟩ := World.ownsMap.canon hm lawI
      have hap := apart_of_rising hrise
      generalize hDD : rowsRun rest lo hi ds = DD at hm hes ⊢
      subst hes
      rename World => W1
      go_wp2_with (at_range; refine wpList_range_own _ rfl _ 121 rfl 3 3 lawI Try.underlying121 _ gb nn _ rfl hm ?_; intro w2 hrg0 hg0 hs0)
      go_frame
      go_loopw [7, 12] (fun acc _ wq => ∃ (left : Lit → Bool) (cnt : Nat) (z : Int), acc = .int .i64 z ∧ wrap64 (z + sumLeft es left) = wrap64 (total (.map es)) ∧ wrap64 z = z ∧ wq.ranges Try.prog 3 (plainElem Try.prog 3) gb W1.heap.size nn (.map es) left cnt ∧ W1.grownBy wq none)
        (fun _ _ wq => wq.rangeLeft gb W1.heap.size)
      case atStart => exact ⟨_, _, 0, rfl, by rw [total_start hkeys, Int.zero_add], (by unfold wrap64; omega), hrg0, hg0⟩
      case round =>
        obtain ⟨left, cnt, z, rfl, hz, hzw, hrg, hgw⟩ := hrel
        go_wp2_with (at_next; refine wpList_next_ranges_ii _ rfl _ rfl 3 3 .i64 .i64 lawI Try.underlying3 Try.underlying3 gb W1.heap.size nn _ _ _ rfl hrg ?_ ?_)
        · intro _ hl0
          go_wp2
          go_ret2
          have hBq : Below W1.heap.size W1 wr := (Below.refl _ _).grown hgw (Nat.le_refl _) (fun k hk => by cases hk)
          rw [sumLeft_none hl0, Int.add_zero, hzw] at hz
          exact ⟨_, bs, by rw [hDD, ← hz]; rfl, hfit.below hBq, hB.trans (hBq.mono hsz)⟩
        · intro x cc w3 cnt1 hwx hwc hlx hat hrg1 hlt1 hg1 hs1 hen
          have hgw1 := hgw.andThen hg1 (fun j hj => by cases hj; exact Or.inl (Nat.le_refl _))
          have hstep := sumLeft_step hlx hap hat
          go_wp2
          go_roundw
          case rel =>
            refine ⟨_, cnt1, wrap64 (z + cc), rfl, ?_, ?_, hrg1, hgw1⟩
            · rw [← hz, hstep]; unfold wrap64; omega
            · unfold wrap64; omega
          case measure => rw [hrg1.left_eq, hrg.left_eq]; exact hlt1
end Go.Proofs.Ytajbflepjpgnbaa
