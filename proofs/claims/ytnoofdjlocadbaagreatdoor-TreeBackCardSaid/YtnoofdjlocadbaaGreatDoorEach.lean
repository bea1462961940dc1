/- The iterator over the years of bounds. -/
import Derived.Test.YtnoofdjlocadbaaGreatDoorHigh
namespace Go.Proofs.YtnoofdjlocadbaaGreatDoor
open Go.RowKit Go.Shelf

attribute [local go_sem] Oper.semAt_some

/-- A year within the limits. -/
abbrev Year := { y : Int // 0 ≤ y ∧ y ≤ 300 }
def yearAt (lo : Int) (k : Nat) : Year := ⟨max 0 (min 300 (lo + k)), by omega, by omega⟩
theorem yearAt_val {lo : Int} {k : Nat} (h0 : 0 ≤ lo) (h1 : lo + k ≤ 300) : (yearAt lo k).val = lo + k := by simp only [yearAt]; omega

/-- A block lies as it lay. -/
def KeptAt (B : Nat) (W W' : World) : Prop := W'.heap[B]? = W.heap[B]?
theorem keptAt_t {B : Nat} {X Y Z : World} (h : KeptAt B X Y) (k : KeptAt B Y Z) : KeptAt B X Z := Eq.trans k h
theorem keptAt_b {B n : Nat} (hB : B < n) (W : World) (l : Nat) (o o' : Obj) (hl : n ≤ l) (_ : W.heap[l]? = some o) (_ : o.isCells = false) (_ : o.isWalk = false) : KeptAt B W (W.putObj l o') := World.putObj_heap_other (by omega)

set_option maxRecDepth 100000 in
set_option maxHeartbeats 2000000 in
theorem each_in (F : Fence) (n : Nat) (h7 : F.fn 120) (hro : F.round = none) (hn : 1 ≤ n) (l Bb : Nat) (lo hi : Int) (h0 : 0 ≤ lo) (h1 : lo ≤ hi) (h2 : hi ≤ 300) (J Jx : List Year → World → Prop)
    (hY : ∀ pre x W, J pre W → pre.length < (hi - lo + 1).toNat → YieldAt F (n - 1) Tryz.prog l #[.int .i64 x.val] W fun e W' =>
      (e = .returned (.bool true) ∧ J (pre ++ [x]) W' ∧ KeptAt Bb W W') ∨ (e = .returned (.bool false) ∧ Jx (pre ++ [x]) W'))
    (W : World) (hb : Blk W Bb 41 #[.int .i64 lo, .int .i64 hi]) (hJ : J [] W) :
    CallsIn F n Tryz.prog 120 #[.func (.yield l) #[] #[], .pointer (some ⟨Bb, 0, none⟩)] W fun e W' => (∃ v, e = .returned v) ∧
      ((∃ ys, ys = upto (yearAt lo) (hi - lo + 1).toNat ∧ J ys W') ∨ (∃ pre, (∃ k, k ≤ (hi - lo + 1).toNat ∧ pre = upto (yearAt lo) k) ∧ Jx pre W')) := by
  have c0 : W.cell? ⟨Bb, 0, none⟩ = some (.int .i64 lo) := hb.cell 0
  refine callsIn_of_wp Tryz.func120 rfl h7 ?_ hro
  simp only [Tryz.ntmps120, List.size_toArray, List.length_cons, List.length_nil, Nat.reduceAdd, Nat.reduceSub, Array.replicate_succ, Array.replicate_zero, List.push_toArray, List.append_toArray, List.nil_append, List.cons_append]
  gi_wp2
  gi_loopw [3] (fun i wr => ∃ k : Nat, k ≤ (hi - lo + 1).toNat ∧ i = .int .i64 (lo + k) ∧ J (upto (yearAt lo) k) wr ∧ Blk wr Bb 41 #[.int .i64 lo, .int .i64 hi])
    (fun i _ => (hi + 1 - intOf i).toNat)
  case atStart => exact ⟨0, Nat.zero_le _, by simp, hJ, hb⟩
  case round =>
    obtain ⟨k, hk, rfl, hJs, hbw⟩ := hrel
    have c1 : wr.cell? ⟨Bb, 1, none⟩ = some (.int .i64 hi) := hbw.cell 1
    by_cases hlt : lo + (k : Int) ≤ hi
    · obtain ⟨fn, tmps, assign, body, hy, hR⟩ := hY _ (yearAt lo k) wr hJs (by rw [upto_length]; omega)
      rw [yearAt_val h0 (by omega)] at hy
      gi_wp2
      refine hR.mono ?_
      rintro e W3 (⟨rfl, hJ3, hk3⟩ | ⟨rfl, hJx3⟩)
      · have hb3 : Blk W3 Bb 41 #[.int .i64 lo, .int .i64 hi] := Eq.trans hk3 hbw
        gi_wp2
        go_roundw
        case rel => exact ⟨k + 1, by omega, by (first | rfl | (simp; omega)), by rw [upto_succ]; exact hJ3, hb3⟩
        case measure => simp [intOf]; omega
      · gi_wp2
        refine bodyPost_ret (results_none rfl _ _ _) rfl ?_
        exact ⟨⟨_, rfl⟩, .inr ⟨_, ⟨k + 1, by omega, (upto_succ _ _).symm⟩, hJx3⟩⟩
    · have hlt' : hi < lo + (k : Int) := by omega
      have e : (hi - lo + 1).toNat = k := by omega
      gi_wp2
      go_end0
      exact ⟨⟨_, rfl⟩, .inl hJs⟩

theorem each_stops (F : Fence) (n : Nat) (h7 : F.fn 120) (hro : F.round = none) (hn : 1 ≤ n) (Bb : Nat) (lo hi : Int) (h0 : 0 ≤ lo) (h1 : lo ≤ hi) (h2 : hi ≤ 300) (w : World)
    (hb : Blk w Bb 41 #[.int .i64 lo, .int .i64 hi]) :
    SeqStopsK F n Tryz.prog 120 #[.pointer (some ⟨Bb, 0, none⟩)] (fun x : Year => #[Value.int .i64 x.val]) (KeptAt Bb) (fun ys => ys = upto (yearAt lo) (hi - lo + 1).toNat) (fun pre => ∃ k, k ≤ (hi - lo + 1).toNat ∧ pre = upto (yearAt lo) k) (hi - lo + 1).toNat w := fun l J Jx W hW _ _ hY hJ =>
  each_in F n h7 hro hn l Bb lo hi h0 h1 h2 J Jx hY W (hb.below hW hb.lt) hJ

set_option maxHeartbeats 1000000 in
theorem eachYear_calls (lo hi : Int) (w : World) :
    Calls Tryz.prog 98 #[.agg #[.int .i64 lo, .int .i64 hi]] w fun e w' => e = .returned (.func (.func 120) #[] #[.pointer (some ⟨w.heap.size, 0, none⟩)]) ∧ w' = w.alloc (.cells #[.int .i64 lo, .int .i64 hi] 41) := by
  go_enter Tryz.func98, Tryz.ntmps98
  go_wp2
  go_ret
  exact ⟨rfl, rfl⟩

set_option maxHeartbeats 1000000 in
theorem checkDates_example (b off c : Nat) (w : World) (hb : b < w.heap.size) (d0 : w.cell? ⟨b, off, none⟩ = some (.int .i64 2)) (d1 : w.cell? ⟨b, off + 1, none⟩ = some (.int .i64 (-1))) :
    Calls Tryz.prog 38 #[.int .i64 9, .slice (some ⟨b, off, none⟩) 2 c, .agg #[.int .i64 40, .int .i64 55]] w fun e w' => e = .returned (.int .i64 0) ∧ Below w.heap.size w w' := by
  have n1 : b ≠ w.heap.size := by omega
  have n2 : b ≠ w.heap.size + 1 := by omega
  have r1 : inB 9 1 30 = true := rfl
  have r2 : boundsB 40 55 0 300 = true := rfl
  have r3 : inB 2 (-1) 9 = true := rfl
  have r4 : inB (-1) (-1) 9 = true := rfl
  go_enter Tryz.func38, Tryz.ntmps38
  go_wp2_with (first | (go_at_call 67; refine (within_calls _ _ _ _).mono ?_; rintro e w' ⟨rfl, rfl⟩) | (go_at_call 68; refine (areBounds_calls _ _ _ _ _).mono ?_; rintro e w' ⟨rfl, rfl⟩))
  refine wp_loop_rounds 3 ?_
  rw [rounds_succ]
  go_wp2_with (go_at_call 67; refine (within_calls _ _ _ _).mono ?_; rintro e w' ⟨rfl, rfl⟩)
  rw [rounds_succ]
  go_wp2_with (go_at_call 67; refine (within_calls _ _ _ _).mono ?_; rintro e w' ⟨rfl, rfl⟩)
  rw [rounds_succ]
  go_wp2_with (go_at_call 67; refine (within_calls _ _ _ _).mono ?_; rintro e w' ⟨rfl, rfl⟩)
  go_ret
  exact ⟨rfl, (by repeat (first | exact Below.refl _ _ | refine Below.alloc ?_ (by simp <;> omega) _))⟩
end Go.Proofs.YtnoofdjlocadbaaGreatDoor
