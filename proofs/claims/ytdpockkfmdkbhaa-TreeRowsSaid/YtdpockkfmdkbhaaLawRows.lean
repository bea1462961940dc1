/- TreeRows: of two neighbouring ranges of years the rows of years add up; of more digits they are those that begin with each year that the first digit can mean. -/
import Derived.Test.YtdpockkfmdkbhaaRowsFacts
import Derived.Test.YtdpockkfmdkbhaaLawDates
import Derived.Test.YtdpockkfmdkbhaaGrows
namespace Go.Proofs.Ytdpockkfmdkbhaa
open Go.RowKit Go.Shelf Go.Maps

/-- What a call of Dates returns: some list of so many, and two numbers. -/
def DatesAre (n : Nat) (N E : Int) (w : World) (e : Ending) (w' : World) : Prop :=
  ∃ (a : Option Addr) (c : Nat), e = .returned (.tuple #[.slice a n c, .int .i64 N, .int .i64 E]) ∧ Below w.heap.size w w'
theorem dates_are {v : Value} {ds : List Int} {w : World} (h : Held w.heap.size w 1 intCells v ds) (rest lo hi : Int) :
    Calls Try.prog 18 #[.int .i64 rest, v, .agg #[.int .i64 lo, .int .i64 hi]] w (DatesAre (datesL rest ds lo hi).length (datesN rest ds lo hi) (datesE rest ds lo hi) w) :=
  (dates_calls h rest lo hi).mono fun e w' ⟨v', he, hh, hb⟩ => by
    obtain ⟨a, c, rfl⟩ := held_len hh
    exact ⟨a, c, he, hb⟩

/-- What a call of Dates returns, of which the number alone is known. -/
def SomeDates (N : Int) (w : World) (e : Ending) (w' : World) : Prop :=
  ∃ (a : Option Addr) (n c : Nat) (E : Int), e = .returned (.tuple #[.slice a n c, .int .i64 N, .int .i64 E]) ∧ Below w.heap.size w w'

def digitB (d : Int) : Bool := inB d (-1) 9

theorem digitsErr_all (ds : List Int) : digitsErr ds = 0 ↔ ds.all digitB = true := by
  rw [digits_all, List.all_eq_true]
  exact forall_congr' fun d => forall_congr' fun _ => by simp [digitB, inB]

theorem digits_rest (ds : List Int) (k : Nat) (h : k < ds.length) : (ds.drop k).all digitB = (digitB ds[k]! && (ds.drop (k + 1)).all digitB) := by
  rw [List.drop_eq_getElem_cons h, List.all_cons, getElem!_pos ds k h]

set_option maxRecDepth 100000 in
set_option maxHeartbeats 1000000 in
theorem rowsLaw_many (rest : Int) (a : Option Addr) (n c : Nat) (lo hi cut : Int) (w : World) (h : (20 : Int) < (n : Int)) :
    Calls Try.prog 8 #[.int .i64 rest, .slice a n c, .agg #[.int .i64 lo, .int .i64 hi], .int .u16 cut] w fun e w' => e = .returned (.bool true) ∧ Below w.heap.size w w' := by
  go_enter Try.func8, Try.ntmps8
  have hB0 : Below w.heap.size w (w.alloc (.cells #[.int .i64 lo, .int .i64 hi] 41)) := (Below.refl _ _).alloc (Nat.le_refl _) _
  go_wp2_with (go_at_call 11; refine (grows_calls _).mono ?_; rintro e w1 ⟨rfl, hw1⟩; have hB1 : Below w.heap.size w w1 := hB0.trans (hw1.mono hB0.size); clear hw1)
  go_ret
  exact ⟨rfl, hB1⟩

set_option maxRecDepth 100000 in
set_option maxHeartbeats 4000000 in
theorem rowsLaw_bad (rest : Int) (a : Option Addr) (c : Nat) (ds : List Int) (lo hi cut E : Int) (w : World) (hn : (ds.length : Int) ≤ 20) (h : Held w.heap.size w 1 intCells (.slice a ds.length c) ds)
    (hD : ∀ W, Below w.heap.size w W → Calls Try.prog 18 #[.int .i64 rest, .slice a ds.length c, .agg #[.int .i64 lo, .int .i64 hi]] W (DatesAre 0 0 E W)) (hE : (E != 0) = true)
    (r1 r2 d3 : Bool) (h1 : inB rest 1 30 = r1) (h2 : boundsB lo hi 0 300 = r2) (h3 : decide ((ds.length : Int) ≤ 10) = d3) (hv : ((r1 && r2 && d3) && ds.all digitB) = false) :
    Calls Try.prog 8 #[.int .i64 rest, .slice a ds.length c, .agg #[.int .i64 lo, .int .i64 hi], .int .u16 cut] w fun e w' => e = .returned (.bool true) ∧ Below w.heap.size w w' := by
  have HD := Lib.hid hD; clear hD
  have H := Lib.hid h; clear h
  have HV := Lib.hid hv; clear hv
  have hB0 : Below w.heap.size w (w.alloc (.cells #[.int .i64 lo, .int .i64 hi] 41)) := (Below.refl _ _).alloc (Nat.le_refl _) _
  have K0 := Lib.hid (Blk.new w 41 #[.int .i64 lo, .int .i64 hi])
  have hs : (r1 = false) ∨ (r1 = true ∧ r2 = false) ∨ (r1 = true ∧ r2 = true) := by cases r1 <;> cases r2 <;> simp
  rcases hs with rfl | ⟨rfl, rfl⟩ | ⟨rfl, rfl⟩
  all_goals
    go_enter Try.func8, Try.ntmps8
    go_wp2_with (first
      | (go_at_call 18; refine (HD.out _ hB0).mono ?_; rintro e w1 ⟨v1, c1, rfl, hw1⟩; have hB1 : Below w.heap.size w w1 := hB0.trans (hw1.mono hB0.size); have K1 := K0.out.below hw1 K0.out.lt; have b0 : w1.cell? ⟨w.heap.size, 0, none⟩ = some (.int .i64 lo) := K1.cell 0; have b1 : w1.cell? ⟨w.heap.size, 1, none⟩ = some (.int .i64 hi) := K1.cell 1; clear hw1 K1)
      | (go_at_call 14; refine (in_calls _ _ _ _).mono ?_; rintro e w' ⟨rfl, rfl⟩)
      | (go_at_call 21; refine (bounded_calls _ _ _ _ _).mono ?_; rintro e w' ⟨rfl, rfl⟩))
    go_loopw [12, 13] (fun v i wr => ∃ (k : Nat) (ok : Bool), k ≤ ds.length ∧ v = .bool ok ∧ i = .int .i64 k ∧ Hid ((ok && (ds.drop k).all digitB) = false) ∧ Below w.heap.size w wr) (fun _ i _ => ds.length - (intOf i).toNat)
    case atStart => exact ⟨0, _, by omega, rfl, rfl, Lib.hid (by first | rfl | exact HV.out), by first | exact hB1 | exact hB1.alloc hB1.size _⟩
    case round =>
      clear hB1 b0 b1
      obtain ⟨k, ok, hk, rfl, rfl, HK, hB⟩ := hrel
      by_cases hlt : k < ds.length
      · obtain ⟨b, off, rfl, hb, hc⟩ := held_place H.out hlt
        have c0 : wr.cell? ⟨b, off + k, none⟩ = some (.int .i64 ds[k]!) := (hB.cell (p := ⟨b, off + k, none⟩) hb).trans (by have := hc k hlt 0 _ rfl; rwa [Nat.mul_one, Nat.add_zero] at this)
        clear hc
        have hk2 := HK.out
        rw [digits_rest ds k hlt] at hk2
        clear HK
        generalize ds[k]! = d at c0 hk2
        have hkl : (k : Int) < (ds.length : Int) := by omega
        have hk20 : (k : Int) ≤ 20 := by omega
        cases ok
        · clear hk2
          go_wp2_with fail
          exact ⟨⟨k + 1, false, by omega, rfl, by go_num, Lib.hid rfl, hB⟩, by simp [intOf]; omega⟩
        · have HK := Lib.hid (show (inB d (-1) 9 && (ds.drop (k + 1)).all digitB) = false from hk2)
          clear hk2
          go_wp2_with (go_at_call 14; refine (in_calls _ _ _ _).mono ?_; rintro e w' ⟨rfl, rfl⟩)
          exact ⟨⟨k + 1, inB d (-1) 9, by omega, rfl, by go_num, HK, hB⟩, by simp [intOf]; omega⟩
      · have hok : ok = false := by
          have := HK.out
          rw [List.drop_eq_nil_of_le (by omega), List.all_nil, Bool.and_true] at this
          exact this
        subst hok
        clear HK
        go_wp2_with (go_at_call 11; refine (grows_calls _).mono ?_; rintro e w2 ⟨rfl, hw2⟩)
        go_ret
        exact ⟨rfl, hB.trans (hw2.mono hB.size)⟩

set_option maxRecDepth 100000 in
set_option maxHeartbeats 4000000 in
theorem rowsLaw_nil (rest : Int) (a : Option Addr) (c : Nat) (lo hi cut : Int) (w : World) (h1 : inB rest 1 30 = true) (h2 : boundsB lo hi 0 300 = true)
    (hD : ∀ W, Below w.heap.size w W → Calls Try.prog 18 #[.int .i64 rest, .slice a 0 c, .agg #[.int .i64 lo, .int .i64 hi]] W (DatesAre 0 1 0 W)) :
    Calls Try.prog 8 #[.int .i64 rest, .slice a 0 c, .agg #[.int .i64 lo, .int .i64 hi], .int .u16 cut] w fun e w' => e = .returned (.bool true) ∧ Below w.heap.size w w' := by
  have HD := Lib.hid hD; clear hD
  have hB0 : Below w.heap.size w (w.alloc (.cells #[.int .i64 lo, .int .i64 hi] 41)) := (Below.refl _ _).alloc (Nat.le_refl _) _
  have K0 := Lib.hid (Blk.new w 41 #[.int .i64 lo, .int .i64 hi])
  go_enter Try.func8, Try.ntmps8
  go_wp2_with (first
    | (go_at_call 18; refine (HD.out _ hB0).mono ?_; rintro e w1 ⟨v1, c1, rfl, hw1⟩; have hB1 : Below w.heap.size w w1 := hB0.trans (hw1.mono hB0.size); have K1 := K0.out.below hw1 K0.out.lt; have b0 : w1.cell? ⟨w.heap.size, 0, none⟩ = some (.int .i64 lo) := K1.cell 0; have b1 : w1.cell? ⟨w.heap.size, 1, none⟩ = some (.int .i64 hi) := K1.cell 1; clear hw1 K1)
    | (go_at_call 14; refine (in_calls _ _ _ _).mono ?_; rintro e w' ⟨rfl, rfl⟩)
    | (go_at_call 21; refine (bounded_calls _ _ _ _ _).mono ?_; rintro e w' ⟨rfl, rfl⟩))
  go_loopw [12, 13] (fun v i wr => v = .bool true ∧ i = .int .i64 0 ∧ Below w.heap.size w wr) (fun _ _ _ => 0)
  case atStart => exact ⟨rfl, rfl, hB1.alloc hB1.size _⟩
  case round =>
    clear hB1 b0 b1
    obtain ⟨rfl, rfl, hB⟩ := hrel
    go_wp2_with (go_at_call 11; refine (grows_calls _).mono ?_; rintro e w2 ⟨rfl, hw2⟩)
    go_ret
    exact ⟨rfl, hB.trans (hw2.mono hB.size)⟩
end Go.Proofs.Ytdpockkfmdkbhaa
