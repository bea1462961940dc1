/- The judgements of the rules: dead, age; how many strips lie before a year. -/
import Derived.Test.YtajbflepjpgnbaaGirth
namespace Go.Proofs.Ytajbflepjpgnbaa
open Go.RowKit

theorem below_drewN {B : Nat} {a w : World} (h : Below B a w) (n : Nat) : Below B a (w.drewN n) := ⟨h.os, h.tape, h.output, h.size, h.block⟩

set_option maxHeartbeats 400000 in
theorem judged_calls (a b : Bool) (w : World) :
    Calls Try.prog 98 #[.bool a, .bool b] w fun e w' => e = .returned (.int .i64 (judged a b)) ∧ w = w' := by
  cases a
  · cases b
    · show Calls _ _ _ _ fun e w' => e = .returned (.int .i64 2) ∧ w = w'
      go_enter Try.func98, Try.ntmps98
      go_wp2
      go_ret
      exact ⟨rfl, rfl⟩
    · show Calls _ _ _ _ fun e w' => e = .returned (.int .i64 0) ∧ w = w'
      go_enter Try.func98, Try.ntmps98
      go_wp2
      go_ret
      exact ⟨rfl, rfl⟩
  · show Calls _ _ _ _ fun e w' => e = .returned (.int .i64 1) ∧ w = w'
    go_enter Try.func98, Try.ntmps98
    go_wp2
    go_ret
    exact ⟨rfl, rfl⟩

set_option maxHeartbeats 400000 in
theorem known_calls (a : Bool) (w : World) :
    Calls Try.prog 97 #[.bool a] w fun e w' => e = .returned (.int .i64 (judged a a)) ∧ w = w' := by
  go_enter Try.func97, Try.ntmps97
  go_wp2_with (go_at_call 98; refine (judged_calls _ _ _).mono ?_; rintro e w' ⟨rfl, rfl⟩)
  go_ret
  exact ⟨rfl, rfl⟩

set_option maxRecDepth 100000 in
set_option maxHeartbeats 1000000 in
theorem judgeDead_calls (age rest girth f0 f1 f2 heal : Int) (code : ByteArray) (bmin bmax taped gmin gmax wmin wmax : Int) (sa : Option Addr) (sn sc : Nat) (wa : Option Addr) (wn wc : Nat) (dead : Int) (year height : Int) (w : World) :
    Calls Try.prog 85 #[.agg #[.int .i64 age, .int .i64 rest, .int .i64 girth, .int .i64 f0, .int .i64 f1, .int .i64 f2, .int .i64 heal, .string code, .int .i64 bmin, .int .i64 bmax, .int .i64 taped, .int .i64 gmin, .int .i64 gmax, .int .i64 wmin, .int .i64 wmax, .slice sa sn sc, .slice wa wn wc, .int .i64 dead, .int .i64 year, .int .i64 height]] w fun e w' => e = .returned (.int .i64 (judged (decide (dead = -1 ∨ year < dead)) (decide (dead = -1 ∨ year < dead)))) ∧ Below w.heap.size w w' := by
  by_cases hd : dead = -1
  · have hb : (dead == -1) = true := by simp [hd]
    have hr : decide (dead = -1 ∨ year < dead) = true := by simp [hd]
    rw [hr]
    clear hd hr
    go_enter Try.func85, Try.ntmps85
    go_wp2_with (go_at_call 97; refine (known_calls _ _).mono ?_; rintro e w' ⟨rfl, rfl⟩)
    go_ret
    exact ⟨rfl, (by repeat (first | exact Below.refl _ _ | refine Below.alloc ?_ (by simp <;> omega) _))⟩
  · have hb : (dead == -1) = false := by simp [hd]
    by_cases hy : year < dead
    · have hr : decide (dead = -1 ∨ year < dead) = true := by simp [hy]
      rw [hr]
      clear hd hr
      have hyb : decide (year < dead) = true := by simp [hy]
      go_enter Try.func85, Try.ntmps85
      go_wp2_with (go_at_call 97; refine (known_calls _ _).mono ?_; rintro e w' ⟨rfl, rfl⟩)
      go_ret
      exact ⟨rfl, (by repeat (first | exact Below.refl _ _ | refine Below.alloc ?_ (by simp <;> omega) _))⟩
    · have hr : decide (dead = -1 ∨ year < dead) = false := by simp [hy, hd]
      rw [hr]
      clear hd hr
      have hyb : decide (year < dead) = false := by simp [hy]
      go_enter Try.func85, Try.ntmps85
      go_wp2_with (go_at_call 97; refine (known_calls _ _).mono ?_; rintro e w' ⟨rfl, rfl⟩)
      go_ret
      exact ⟨rfl, (by repeat (first | exact Below.refl _ _ | refine Below.alloc ?_ (by simp <;> omega) _))⟩

set_option maxRecDepth 100000 in
set_option maxHeartbeats 1000000 in
theorem judgeAge_calls (age rest girth f0 f1 f2 heal : Int) (code : ByteArray) (bmin bmax taped gmin gmax wmin wmax : Int) (sa : Option Addr) (sn sc : Nat) (wa : Option Addr) (wn wc : Nat) (dead : Int) (year height : Int) (w : World) (hy0 : 0 ≤ year) (hy1 : year ≤ 300) (hb0 : 0 ≤ bmin) (hb1 : bmin ≤ 300) (hb2 : 0 ≤ bmax) (hb3 : bmax ≤ 300) :
    Calls Try.prog 86 #[.agg #[.int .i64 age, .int .i64 rest, .int .i64 girth, .int .i64 f0, .int .i64 f1, .int .i64 f2, .int .i64 heal, .string code, .int .i64 bmin, .int .i64 bmax, .int .i64 taped, .int .i64 gmin, .int .i64 gmax, .int .i64 wmin, .int .i64 wmax, .slice sa sn sc, .slice wa wn wc, .int .i64 dead, .int .i64 year, .int .i64 height]] w fun e w' => e = .returned (.int .i64 (judged (decide (age ≤ year - bmax)) (decide (age ≤ year - bmin)))) ∧ Below w.heap.size w w' := by
  have hx : (year - bmax : Int) ≤ 300 := by omega
  go_enter Try.func86, Try.ntmps86
  go_wp2
  go_quiet (fail)
  go_wp2_with (go_at_call 98; refine (judged_calls _ _ _).mono ?_; rintro e w' ⟨rfl, rfl⟩)
  go_ret
  exact ⟨rfl, below_drewN ((Below.refl _ w).alloc (Nat.le_refl _) _) _⟩

def countBefore (xs : List (Int × Int)) (y : Int) : Nat := (xs.filter fun s => decide (s.1 < y)).length

theorem count_yes (xs : List (Int × Int)) (y : Int) (k : Nat) (h : k < xs.length) (r m : Nat) (hr : r = m + countBefore (xs.drop k) y) (hp : xs[k]!.1 < y) : r = (m + 1) + countBefore (xs.drop (k + 1)) y := by
  rw [hr, drop_get xs k h]; simp only [countBefore, List.filter_cons]; rw [if_pos (by simpa using hp)]; simp; omega
theorem count_no (xs : List (Int × Int)) (y : Int) (k : Nat) (h : k < xs.length) (r m : Nat) (hr : r = m + countBefore (xs.drop k) y) (hp : ¬ xs[k]!.1 < y) : r = m + countBefore (xs.drop (k + 1)) y := by
  rw [hr, drop_get xs k h]; simp only [countBefore, List.filter_cons]; rw [if_neg (by simpa using hp)]
theorem count_end (xs : List (Int × Int)) (y : Int) (k : Nat) (h : xs.length ≤ k) (r m : Nat) (hr : r = m + countBefore (xs.drop k) y) : r = m := by
  rw [hr, List.drop_eq_nil_of_le h]; rfl

set_option maxRecDepth 100000 in
set_option maxHeartbeats 2000000 in
theorem stripsBefore_some (age rest girth f0 f1 f2 heal : Int) (code : ByteArray) (bmin bmax taped gmin gmax wmin wmax : Int) (sc : Nat) (wa : Option Addr) (wn wc : Nat) (dead : Int) (year height : Int) (b off : Nat) (xs : List (Int × Int)) (w : World) (hb : b < w.heap.size) (hl : xs.length ≤ 140737488355328)
    (hc : ∀ j, j < xs.length → ∀ i u, (stripCells xs[j]!)[i]? = some u → w.cell? ⟨b, off + j * 2 + i, none⟩ = some u) :
    Calls Try.prog 103 #[.agg #[.int .i64 age, .int .i64 rest, .int .i64 girth, .int .i64 f0, .int .i64 f1, .int .i64 f2, .int .i64 heal, .string code, .int .i64 bmin, .int .i64 bmax, .int .i64 taped, .int .i64 gmin, .int .i64 gmax, .int .i64 wmin, .int .i64 wmax, .slice (some ⟨b, off, none⟩) xs.length sc, .slice wa wn wc, .int .i64 dead, .int .i64 year, .int .i64 height]] w fun e w' => e = .returned (.int .i64 (countBefore xs year : Nat)) ∧ Below w.heap.size w w' := by
  have hl' : (xs.length : Int) ≤ 140737488355328 := by omega
  have hr : countBefore xs year = 0 + countBefore (xs.drop 0) year := by simp
  generalize countBefore xs year = r at hr ⊢
  have HR := Lib.hid hr; clear hr
  have HC := Lib.hid hc; clear hc
  go_enter Try.func103, Try.ntmps103
  go_wp2
  go_loopw [3, 10] (fun cnt i wr => ∃ (k m : Nat), k ≤ xs.length ∧ m ≤ k ∧ i = .int .i64 k ∧ cnt = .int .i64 m ∧ Hid (r = m + countBefore (xs.drop k) year) ∧ Below (w.heap.size + 1) (w.alloc (.cells #[.int .i64 age, .int .i64 rest, .int .i64 girth, .int .i64 f0, .int .i64 f1, .int .i64 f2, .int .i64 heal, .string code, .int .i64 bmin, .int .i64 bmax, .int .i64 taped, .int .i64 gmin, .int .i64 gmax, .int .i64 wmin, .int .i64 wmax, .slice (some ⟨b, off, none⟩) xs.length sc, .slice wa wn wc, .int .i64 dead, .int .i64 year, .int .i64 height] 74)) wr) (fun _ i _ => xs.length - (intOf i).toNat)
  case atStart => exact ⟨0, 0, by omega, by omega, rfl, rfl, HR, Below.refl _ _⟩
  case round =>
    clear HR
    obtain ⟨k, m, hk, hm, rfl, rfl, HR, hB⟩ := hrel
    have hBw : Below w.heap.size w wr := ((Below.refl _ w).alloc (Nat.le_refl _) _).trans (hB.mono (by omega))
    have cy : wr.cell? ⟨w.heap.size, 18, none⟩ = some (.int .i64 year) := (hB.cell (p := ⟨w.heap.size, 18, none⟩) (by simp)).trans (by simp)
    have hz : w.heap.size < wr.heap.size := (by have := hB.size; simp at this; omega)
    by_cases hlt : k < xs.length
    · have c0 : wr.cell? ⟨b, off + k * 2, none⟩ = some (.int .i64 xs[k]!.1) := (hBw.cell (p := ⟨b, off + k * 2, none⟩) hb).trans (HC.out k hlt 0 _ rfl)
      have c1 : wr.cell? ⟨b, off + k * 2 + 1, none⟩ = some (.int .i64 xs[k]!.2) := (hBw.cell (p := ⟨b, off + k * 2 + 1, none⟩) hb).trans (HC.out k hlt 1 _ rfl)
      generalize hx : xs[k]! = x at c0 c1
      have HX := Lib.hid hx; clear hx
      obtain ⟨y, h⟩ := x
      dsimp only at c0 c1
      have hB' := hB.alloc (show w.heap.size + 1 ≤ wr.heap.size by omega)
      by_cases hy : y < year
      · have HS := Lib.hid (count_yes xs year k hlt r m HR.out (by rw [HX.out]; exact hy))
        go_wp2
        exact ⟨⟨k + 1, m + 1, by omega, by omega, by go_num, by go_num, HS, hB' _⟩, by simp [intOf]; omega⟩
      · have HS := Lib.hid (count_no xs year k hlt r m HR.out (by rw [HX.out]; exact hy))
        have hy' : year ≤ y := by omega
        go_wp2
        exact ⟨⟨k + 1, m, by omega, by omega, by go_num, rfl, HS, hB' _⟩, by simp [intOf]; omega⟩
    · have HS := Lib.hid (count_end xs year k (by omega) r m HR.out)
      have hge : xs.length ≤ k := by omega
      go_wp2
      go_ret
      exact ⟨by rw [HS.out]; rfl, hBw⟩

set_option maxRecDepth 100000 in
set_option maxHeartbeats 1000000 in
theorem stripsBefore_nil (age rest girth f0 f1 f2 heal : Int) (code : ByteArray) (bmin bmax taped gmin gmax wmin wmax : Int) (sa : Option Addr) (sc : Nat) (wa : Option Addr) (wn wc : Nat) (dead : Int) (year height : Int) (w : World) :
    Calls Try.prog 103 #[.agg #[.int .i64 age, .int .i64 rest, .int .i64 girth, .int .i64 f0, .int .i64 f1, .int .i64 f2, .int .i64 heal, .string code, .int .i64 bmin, .int .i64 bmax, .int .i64 taped, .int .i64 gmin, .int .i64 gmax, .int .i64 wmin, .int .i64 wmax, .slice sa 0 sc, .slice wa wn wc, .int .i64 dead, .int .i64 year, .int .i64 height]] w fun e w' => e = .returned (.int .i64 0) ∧ Below w.heap.size w w' := by
  go_enter Try.func103, Try.ntmps103
  go_wp2
  refine wp_loop_rounds 1 ?_
  rw [rounds_succ]
  go_wp2
  go_ret
  exact ⟨rfl, (by repeat (first | exact Below.refl _ _ | refine Below.alloc ?_ (by simp <;> omega) _))⟩

theorem stripsBefore_calls (age rest girth f0 f1 f2 heal : Int) (code : ByteArray) (bmin bmax taped gmin gmax wmin wmax : Int) (sa : Option Addr) (sn sc : Nat) (wa : Option Addr) (wn wc : Nat) (dead : Int) (year height : Int) (xs : List (Int × Int)) (B : Nat) (w : World) (hB : B ≤ w.heap.size) (h : Held B w 2 stripCells (.slice sa sn sc) xs) :
    Calls Try.prog 103 #[.agg #[.int .i64 age, .int .i64 rest, .int .i64 girth, .int .i64 f0, .int .i64 f1, .int .i64 f2, .int .i64 heal, .string code, .int .i64 bmin, .int .i64 bmax, .int .i64 taped, .int .i64 gmin, .int .i64 gmax, .int .i64 wmin, .int .i64 wmax, .slice sa sn sc, .slice wa wn wc, .int .i64 dead, .int .i64 year, .int .i64 height]] w fun e w' => e = .returned (.int .i64 (countBefore xs year : Nat)) ∧ Below w.heap.size w w' := by
  rcases h with ⟨⟨a, c, h⟩, rfl⟩ | ⟨b, off, c, h, hb, ⟨h1, h2⟩, hc⟩
  · cases h
    exact stripsBefore_nil age rest girth f0 f1 f2 heal code bmin bmax taped gmin gmax wmin wmax sa sc wa wn wc dead year height w
  · cases h
    exact stripsBefore_some age rest girth f0 f1 f2 heal code bmin bmax taped gmin gmax wmin wmax sc wa wn wc dead year height b off xs w (by omega) (by omega) hc
end Go.Proofs.Ytajbflepjpgnbaa
