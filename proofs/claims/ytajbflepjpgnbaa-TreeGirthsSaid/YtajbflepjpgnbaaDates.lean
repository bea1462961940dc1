/- Dates at the example. -/
import Derived.Test.YtajbflepjpgnbaaSpanOk
namespace Go.Proofs.Ytajbflepjpgnbaa
open Go.RowKit Go.Shelf Go.Maps

def one (y : Int) : Lit × DataW Unit := (.int .i64 y, .lit (.int .i64 1))
theorem rows1 : rowsRun 9 40 55 [2] = .map [one 42, one 52] := by kernel_rfl
theorem rows2 : rowsRun 9 40 55 [2, -1] = .map [one 51, one 52, one 53, one 54, one 55] := by kernel_rfl
theorem keys2 : spanKeys (rowsRun 9 40 55 [2, -1]) 55 = [51, 52, 53, 54, 55] := by
  rw [rows2]
  exact List.mergeSort_of_pairwise (l := [51, 52, 53, 54, 55]) (by decide)
theorem keys1 : spanKeys (rowsRun 9 40 55 [2]) 46 = [42] := by
  rw [rows1]
  exact List.mergeSort_of_pairwise (l := [42]) (by decide)
theorem ways2 : wrap64 (total (rowsRun 9 40 55 [2, -1])) = 5 := by
  rw [rows2]
  kernel_rfl

theorem lat1 : latAt (fits 9 40 55 [2, -1] 2) 9 55 1 = 46 := by
  show (spanKeys (rowsRun 9 40 55 [2, -1]) 55).getD ((spanKeys (rowsRun 9 40 55 [2, -1]) 55).length - 1) 0 - 9 = 46
  rw [keys2]
  decide
theorem lo0 : spanLo ((fits 9 40 55 [2, -1] 2).getD 0 (.map [])) (latAt (fits 9 40 55 [2, -1] 2) 9 55 ((fits 9 40 55 [2, -1] 2).length - 1 - 0)) = 42 := by
  show (spanKeys (rowsRun 9 40 55 [2]) (latAt (fits 9 40 55 [2, -1] 2) 9 55 1)).getD 0 0 = 42
  rw [lat1, keys1]
  decide
theorem hi0 : spanHi ((fits 9 40 55 [2, -1] 2).getD 0 (.map [])) (latAt (fits 9 40 55 [2, -1] 2) 9 55 ((fits 9 40 55 [2, -1] 2).length - 1 - 0)) = 42 := by
  show (spanKeys (rowsRun 9 40 55 [2]) (latAt (fits 9 40 55 [2, -1] 2) 9 55 1)).getD ((spanKeys (rowsRun 9 40 55 [2]) (latAt (fits 9 40 55 [2, -1] 2) 9 55 1)).length - 1) 0 = 42
  rw [lat1, keys1]
  decide
theorem lo1 : spanLo ((fits 9 40 55 [2, -1] 2).getD 1 (.map [])) (latAt (fits 9 40 55 [2, -1] 2) 9 55 ((fits 9 40 55 [2, -1] 2).length - 1 - 1)) = 51 := by
  show (spanKeys (rowsRun 9 40 55 [2, -1]) 55).getD 0 0 = 51
  rw [keys2]
  decide
theorem hi1 : spanHi ((fits 9 40 55 [2, -1] 2).getD 1 (.map [])) (latAt (fits 9 40 55 [2, -1] 2) 9 55 ((fits 9 40 55 [2, -1] 2).length - 1 - 1)) = 55 := by
  show (spanKeys (rowsRun 9 40 55 [2, -1]) 55).getD ((spanKeys (rowsRun 9 40 55 [2, -1]) 55).length - 1) 0 = 55
  rw [keys2]
  decide

set_option maxRecDepth 100000 in
set_option maxHeartbeats 1000000 in
theorem dates_example (b off c : Nat) (w : World) (hb : b < w.heap.size) (d0 : w.cell? ⟨b, off, none⟩ = some (.int .i64 2)) (d1 : w.cell? ⟨b, off + 1, none⟩ = some (.int .i64 (-1))) :
    Calls Try.prog 33 #[.int .i64 9, .slice (some ⟨b, off, none⟩) 2 c, .agg #[.int .i64 40, .int .i64 55]] w fun e w' =>
      ∃ (g : Nat) (cs : Array Value), w.heap.size ≤ g ∧ e = .returned (.tuple #[.slice (some ⟨g, 0, none⟩) 2 2, .int .i64 5, .int .i64 0]) ∧ Blk w' g 31 cs ∧ (cs[0]? = some (.int .i64 42) ∧ cs[1]? = some (.int .i64 42)) ∧ (cs[2]? = some (.int .i64 51) ∧ cs[3]? = some (.int .i64 55)) ∧ Below w.heap.size w w' := by
  have HC := Lib.hid (show ∀ W, Below w.heap.size w W → _ from fun W (hW : Below w.heap.size w W) => checkDates_example b off c W (Nat.lt_of_lt_of_le hb hW.size) ((hW.cell hb).trans d0) ((hW.cell hb).trans d1))
  have D0 := Lib.hid d0
  have D1 := Lib.hid d1
  clear d0 d1
  go_enter Try.func33, Try.ntmps33
  go_wp2_with (first
    | (go_at_call 51; refine (HC.out _ ((Below.refl _ _).alloc (Nat.le_refl _) _)).mono ?_; rintro e w1 ⟨rfl, hw1⟩
       have hB1 : Below w.heap.size w w1 := ((Below.refl _ _).alloc (Nat.le_refl _) (.cells #[.int .i64 40, .int .i64 55] 31)).trans (hw1.mono (by simp))
       have k1 : Blk w1 w.heap.size 31 #[.int .i64 40, .int .i64 55] := Blk.below (Blk.new w _ _) hw1 (by simp)
       have b0 : w1.cell? ⟨w.heap.size, 0, none⟩ = some (.int .i64 40) := k1.cell 0
       have b1 : w1.cell? ⟨w.heap.size, 1, none⟩ = some (.int .i64 55) := k1.cell 1
       clear hw1)
    | (go_at_call 52; refine (follow_calls b off c [2, -1] 9 40 55 w1 (by omega) (by omega) (by omega) (by omega) (by omega) (Nat.lt_of_lt_of_le hb hB1.size) (by simp) (fun j hj => by
         match j, hj with
         | 0, _ => exact (hB1.cell hb).trans D0.out
         | 1, _ => exact (hB1.cell hb).trans D1.out)).mono ?_
       rintro e w2 ⟨v, bs, rfl, hfit, hB2⟩
       rw [ways2]
       have k2 := k1.below hB2 k1.lt
       have c0 : w2.cell? ⟨w.heap.size, 0, none⟩ = some (.int .i64 40) := k2.cell 0
       have c1 : w2.cell? ⟨w.heap.size, 1, none⟩ = some (.int .i64 55) := k2.cell 1
       obtain ⟨va, vn, vc, rfl⟩ : ∃ a n c, v = .slice a n c := by
         rcases hfit.row.2 with ⟨h, _⟩ | ⟨g, cap, _, h, _⟩
         · exact ⟨_, _, _, h⟩
         · exact ⟨_, _, _, h⟩)
    | (go_at_call 53; refine (spans_calls (w1.heap.size + 1) 16 (fits 9 40 55 [2, -1] 2) _ bs 9 55 w2 hfit (by decide) (by decide) (by omega) (fun k hk => by
         match k, hk with
         | 0, _ =>
           show 0 < (spanKeys (rowsRun 9 40 55 [2, -1]) 55).length ∧ _ ≤ (spanKeys (rowsRun 9 40 55 [2, -1]) 55).getD ((spanKeys (rowsRun 9 40 55 [2, -1]) 55).length - 1) 0 ∧ (spanKeys (rowsRun 9 40 55 [2, -1]) 55).getD ((spanKeys (rowsRun 9 40 55 [2, -1]) 55).length - 1) 0 ≤ _
           rw [keys2]; decide
         | 1, _ =>
           rw [lat1]
           show 0 < (spanKeys (rowsRun 9 40 55 [2]) 46).length ∧ _ ≤ (spanKeys (rowsRun 9 40 55 [2]) 46).getD ((spanKeys (rowsRun 9 40 55 [2]) 46).length - 1) 0 ∧ (spanKeys (rowsRun 9 40 55 [2]) 46).getD ((spanKeys (rowsRun 9 40 55 [2]) 46).length - 1) 0 ≤ _
           rw [keys1]; decide) (by omega) (by omega) (by have h2 := hfit.at_ 0 (by rw [hfit.len]; decide); have := h2.1; have := h2.2.lt; omega)).mono ?_
       rintro e w3 ⟨g, cs, hg, rfl, hblk, hcs, hB3⟩))
  have q0 := hcs 0 (by decide)
  have q1 := hcs 1 (by decide)
  rw [lo0, hi0] at q0
  rw [lo1, hi1] at q1
  have hs1 := hB1.size
  have hs2 := hB2.size
  refine bodyPost_ret (results_tmp3 rfl _ _ _) rfl ?_
  exact ⟨g, cs, by omega, rfl, hblk, q0, q1, (hB1.trans (hB2.mono hs1)).trans (hB3.mono (by omega))⟩
end Go.Proofs.Ytajbflepjpgnbaa
