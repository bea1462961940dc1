/- The law on Dates. -/
import Derived.Test.YtdpockkfmdkbhaaRefDates
import Derived.Test.YtdpockkfmdkbhaaGrows
namespace Go.Proofs.Ytdpockkfmdkbhaa
open Go.RowKit Go.Shelf Go.Maps

theorem held_pair {B : Nat} {w : World} {a : Option Addr} {n c : Nat} {xs : List (Int × Int)} (h : Held B w 2 stripCells (.slice a n c) xs) {j : Nat} (hj : j < xs.length) :
    ∃ b off : Nat, a = some ⟨b, off, none⟩ ∧ b < B ∧ w.cell? ⟨b, off + j * 2, none⟩ = some (.int .i64 xs[j]!.1) ∧ w.cell? ⟨b, off + j * 2 + 1, none⟩ = some (.int .i64 xs[j]!.2) := by
  obtain ⟨b, off, e, hb, hc⟩ := held_place h hj
  exact ⟨b, off, e, hb, hc j hj 0 _ rfl, hc j hj 1 _ rfl⟩
theorem held_len {α : Type} [Inhabited α] {B : Nat} {w : World} {k : Nat} {enc : α → List Value} {v : Value} {xs : List α} (h : Held B w k enc v xs) : ∃ a c, v = .slice a xs.length c := by
  rcases h with ⟨⟨a, c, rfl⟩, rfl⟩ | ⟨b, off, c, rfl, _⟩
  · exact ⟨a, c, rfl⟩
  · exact ⟨_, c, rfl⟩

set_option maxRecDepth 100000 in
set_option maxHeartbeats 2000000 in
/-- Two slices of the same bounds are equal. -/
theorem equalBounds_walk (a a' : Option Addr) (c c' : Nat) (xs : List (Int × Int)) (w : World) (hl : xs.length ≤ 1000) (h : Held w.heap.size w 2 stripCells (.slice a xs.length c) xs) (h' : Held w.heap.size w 2 stripCells (.slice a' xs.length c') xs) :
    Calls Try.prog 20 #[.slice a xs.length c, .slice a' xs.length c'] w fun e w' => e = .returned (.bool true) ∧ Below w.heap.size w w' := by
  have H := Lib.hid h; clear h
  have H' := Lib.hid h'; clear h'
  have hl' : (xs.length : Int) ≤ 1000 := by omega
  have hB0 : Below w.heap.size w w := Below.refl _ _
  go_enter Try.func20, Try.ntmps20
  go_wp2_with fail
  go_loopw [5] (fun i wr => ∃ k : Nat, k ≤ xs.length ∧ i = .int .i64 k ∧ Below w.heap.size w wr) (fun i _ => xs.length - (intOf i).toNat)
  case atStart => exact ⟨0, by omega, rfl, hB0⟩
  case round =>
    clear hB0
    obtain ⟨k, hk, rfl, hB⟩ := hrel
    by_cases hlt : k < xs.length
    · obtain ⟨b, off, rfl, hb, p0, p1⟩ := held_pair H.out hlt
      obtain ⟨b', off', rfl, hb', q0, q1⟩ := held_pair H'.out hlt
      have c0 : wr.cell? ⟨b, off + k * 2, none⟩ = some (.int .i64 xs[k]!.1) := (hB.cell (p := ⟨b, off + k * 2, none⟩) hb).trans p0
      have c1 : wr.cell? ⟨b, off + k * 2 + 1, none⟩ = some (.int .i64 xs[k]!.2) := (hB.cell (p := ⟨b, off + k * 2 + 1, none⟩) hb).trans p1
      have d0 : wr.cell? ⟨b', off' + k * 2, none⟩ = some (.int .i64 xs[k]!.1) := (hB.cell (p := ⟨b', off' + k * 2, none⟩) hb').trans q0
      have d1 : wr.cell? ⟨b', off' + k * 2 + 1, none⟩ = some (.int .i64 xs[k]!.2) := (hB.cell (p := ⟨b', off' + k * 2 + 1, none⟩) hb').trans q1
      clear p0 p1 q0 q1
      have hlt' : (k : Int) < (xs.length : Int) := by omega
      generalize xs[k]!.1 = x at c0 d0
      generalize xs[k]!.2 = y at c1 d1
      go_wp2_with fail
      go_quiet (fail)
      go_wp2_with fail
      exact ⟨⟨k + 1, by omega, by go_num, below_drewN hB _⟩, by simp [intOf]; omega⟩
    · have hge : xs.length ≤ k := by omega
      go_wp2_with fail
      go_ret
      exact ⟨rfl, hB⟩
theorem equalBounds_calls {u v : Value} {xs : List (Int × Int)} {w : World} (hl : xs.length ≤ 1000) (h : Held w.heap.size w 2 stripCells u xs) (h' : Held w.heap.size w 2 stripCells v xs) :
    Calls Try.prog 20 #[u, v] w fun e w' => e = .returned (.bool true) ∧ Below w.heap.size w w' := by
  obtain ⟨a, c, rfl⟩ := held_len h
  obtain ⟨a', c', rfl⟩ := held_len h'
  exact equalBounds_walk a a' c c' xs w hl h h'

theorem datesL_length (rest lo hi : Int) (ds : List Int) : (datesL rest ds lo hi).length ≤ 1000 := by
  unfold datesL
  by_cases hE : datesE rest ds lo hi = 0
  · rw [if_pos hE, endsOf_length]
    by_cases he : datesErr rest ds lo hi = 0
    · have := (dates_good he).2.2.1; omega
    · unfold datesE at hE; rw [if_neg he] at hE; exact absurd hE he
  · rw [if_neg hE]; exact Nat.zero_le _

set_option maxHeartbeats 1000000 in
theorem datesLaw_many (rest : Int) (a : Option Addr) (n c : Nat) (lo hi : Int) (w : World) (h : (50 : Int) < (n : Int)) :
    Calls Try.prog 6 #[.int .i64 rest, .slice a n c, .agg #[.int .i64 lo, .int .i64 hi]] w fun e w' => e = .returned (.bool true) ∧ Below w.heap.size w w' := by
  go_enter Try.func6, Try.ntmps6
  have hB0 : Below w.heap.size w (w.alloc (.cells #[.int .i64 lo, .int .i64 hi] 41)) := (Below.refl _ _).alloc (Nat.le_refl _) _
  go_wp2_with (go_at_call 11; refine (grows_calls _).mono ?_; rintro e w1 ⟨rfl, hw1⟩; have hB1 : Below w.heap.size w w1 := hB0.trans (hw1.mono hB0.size); clear hw1)
  go_ret
  exact ⟨rfl, hB1⟩

set_option maxHeartbeats 2000000 in
theorem datesLaw_walk (rest : Int) (a : Option Addr) (n c : Nat) (ds : List Int) (lo hi : Int) (w : World) (hn : (n : Int) ≤ 50) (h : Held w.heap.size w 1 intCells (.slice a n c) ds) :
    Calls Try.prog 6 #[.int .i64 rest, .slice a n c, .agg #[.int .i64 lo, .int .i64 hi]] w fun e w' => e = .returned (.bool true) ∧ Below w.heap.size w w' := by
  have HP := Lib.hid (show ∀ W, Below w.heap.size w W → Calls Try.prog 18 #[.int .i64 rest, .slice a n c, .agg #[.int .i64 lo, .int .i64 hi]] W (DatesPost rest ds lo hi W) from fun W hW => dates_calls ((h.below hW).mono hW.size) rest lo hi)
  have HR := Lib.hid (show ∀ W, Below w.heap.size w W → Calls Try.prog 19 #[.int .i64 rest, .slice a n c, .agg #[.int .i64 lo, .int .i64 hi]] W (DatesPost rest ds lo hi W) from fun W hW => refDates_calls ((h.below hW).mono hW.size) rest lo hi)
  have HL := Lib.hid (datesL_length rest lo hi ds)
  clear h
  have hB0 : Below w.heap.size w (w.alloc (.cells #[.int .i64 lo, .int .i64 hi] 41)) := (Below.refl _ _).alloc (Nat.le_refl _) _
  have K0 := Lib.hid (Blk.new w 41 #[.int .i64 lo, .int .i64 hi])
  unfold DatesPost at HP HR
  generalize datesL rest ds lo hi = L at HP HR HL
  generalize datesN rest ds lo hi = N at HP HR
  generalize datesE rest ds lo hi = E at HP HR
  go_enter Try.func6, Try.ntmps6
  go_wp2_with (first
    | (go_at_call 18; refine (HP.out _ hB0).mono ?_; rintro e w1 ⟨v1, rfl, hh1, hw1⟩; have hB1 : Below w.heap.size w w1 := hB0.trans (hw1.mono hB0.size); have K1 := K0.out.below hw1 K0.out.lt; have b0 : w1.cell? ⟨w.heap.size, 0, none⟩ = some (.int .i64 lo) := K1.cell 0; have b1 : w1.cell? ⟨w.heap.size, 1, none⟩ = some (.int .i64 hi) := K1.cell 1; have H1 := Lib.hid hh1; clear hh1 hw1 K1)
    | (go_at_call 19; refine (HR.out _ hB1).mono ?_; rintro e w2 ⟨v2, rfl, hh2, hw2⟩; have hB2 : Below w.heap.size w w2 := hB1.trans (hw2.mono hB1.size); have H2 := Lib.hid hh2; have H3 := Lib.hid ((H1.out.below hw2).mono hw2.size); clear hh2 hw2)
    | (go_at_call 20; refine (equalBounds_calls HL.out H3.out H2.out).mono ?_; rintro e w3 ⟨rfl, hw3⟩; have hB3 : Below w.heap.size w w3 := hB2.trans (hw3.mono hB2.size); clear hw3)
    | (go_at_call 11; refine (grows_calls _).mono ?_; rintro e w4 ⟨rfl, hw4⟩; have hB4 : Below w.heap.size w w4 := hB3.trans (hw4.mono hB3.size); clear hw4))
  go_ret
  exact ⟨rfl, hB4⟩

theorem datesLaw_calls {v : Value} {ds : List Int} {w : World} (h : Held w.heap.size w 1 intCells v ds) (rest lo hi : Int) :
    Calls Try.prog 6 #[.int .i64 rest, v, .agg #[.int .i64 lo, .int .i64 hi]] w fun e w' => e = .returned (.bool true) ∧ Below w.heap.size w w' := by
  obtain ⟨a, c, rfl⟩ := held_len h
  by_cases hl : ds.length > 50
  · exact datesLaw_many rest a ds.length c lo hi w (by omega)
  · exact datesLaw_walk rest a ds.length c ds lo hi w (by omega) h
end Go.Proofs.Ytdpockkfmdkbhaa
