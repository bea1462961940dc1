/- The document's own answers: the first error of a tree, but for its code. -/
import Derived.Test.YtajbflepjpgnbaaForest
import Derived.Test.YtajbflepjpgnbaaJudge
namespace Go.Proofs.Ytajbflepjpgnbaa
open Go.RowKit

theorem inB_iff' {n a b : Int} : inB n a b = true ↔ a ≤ n ∧ n ≤ b := by simp [inB]

theorem Held.count {α : Type} [Inhabited α] {B : Nat} {w : World} {k : Nat} {enc : α → List Value} {a : Option Addr} {n c : Nat} {xs : List α} (h : Held B w k enc (.slice a n c) xs) : n = xs.length := by
  rcases h with ⟨⟨_, _, h1⟩, h2⟩ | ⟨b, off, c', h1, _⟩
  · cases h1
    rw [h2]; rfl
  · cases h1; rfl

theorem Held.place {α : Type} [Inhabited α] {B : Nat} {w : World} {k : Nat} {enc : α → List Value} {a : Option Addr} {n c : Nat} {xs : List α} (h : Held B w k enc (.slice a n c) xs) {j : Nat} (hj : j < xs.length) :
    ∃ b off : Nat, a = some ⟨b, off, none⟩ ∧ b < B ∧ ∀ j, j < xs.length → ∀ i u, (enc xs[j]!)[i]? = some u → w.cell? ⟨b, off + j * k + i, none⟩ = some u := by
  rcases h with ⟨h1, h2⟩ | ⟨b, off, c', h1, hb, _, hc⟩
  · rw [h2] at hj; cases hj
  · cases h1
    exact ⟨b, off, rfl, hb, hc⟩

set_option maxRecDepth 100000 in
set_option maxHeartbeats 1000000 in
theorem refTree_0 (code : ByteArray) (bmin bmax taped gmin gmax wmin wmax : Int) (sa : Option Addr) (sn sc : Nat) (wa : Option Addr) (wn wc : Nat) (dead : Int) (w : World)  (h0 : boundsB bmin bmax 0 300 = false) :
    Calls Try.prog 42 #[.agg #[.string code, .int .i64 bmin, .int .i64 bmax, .int .i64 taped, .int .i64 gmin, .int .i64 gmax, .int .i64 wmin, .int .i64 wmax, .slice sa sn sc, .slice wa wn wc, .int .i64 dead]] w fun e w' => e = .returned (.int .i64 1) ∧ Below w.heap.size w w' := by
  go_enter Try.func42, Try.ntmps42
  go_wp2_with (first | (go_at_call 63; refine (bounded_calls _ _ _ _ _).mono ?_; rintro e w' ⟨rfl, rfl⟩) | (go_at_call 26; refine (in_calls _ _ _ _).mono ?_; rintro e w' ⟨rfl, rfl⟩))
  go_ret
  exact ⟨rfl, (by repeat (first | exact Below.refl _ _ | refine Below.alloc ?_ (by simp <;> omega) _))⟩

set_option maxRecDepth 100000 in
set_option maxHeartbeats 1000000 in
theorem refTree_1 (code : ByteArray) (bmin bmax taped gmin gmax wmin wmax : Int) (sa : Option Addr) (sn sc : Nat) (wa : Option Addr) (wn wc : Nat) (dead : Int) (w : World) (h0 : boundsB bmin bmax 0 300 = true) (h1 : inB taped 0 300 = false) :
    Calls Try.prog 42 #[.agg #[.string code, .int .i64 bmin, .int .i64 bmax, .int .i64 taped, .int .i64 gmin, .int .i64 gmax, .int .i64 wmin, .int .i64 wmax, .slice sa sn sc, .slice wa wn wc, .int .i64 dead]] w fun e w' => e = .returned (.int .i64 1) ∧ Below w.heap.size w w' := by
  go_enter Try.func42, Try.ntmps42
  go_wp2_with (first | (go_at_call 63; refine (bounded_calls _ _ _ _ _).mono ?_; rintro e w' ⟨rfl, rfl⟩) | (go_at_call 26; refine (in_calls _ _ _ _).mono ?_; rintro e w' ⟨rfl, rfl⟩))
  go_ret
  exact ⟨rfl, (by repeat (first | exact Below.refl _ _ | refine Below.alloc ?_ (by simp <;> omega) _))⟩

set_option maxRecDepth 100000 in
set_option maxHeartbeats 1000000 in
theorem refTree_2 (code : ByteArray) (bmin bmax taped gmin gmax wmin wmax : Int) (sa : Option Addr) (sn sc : Nat) (wa : Option Addr) (wn wc : Nat) (dead : Int) (w : World) (h0 : boundsB bmin bmax 0 300 = true) (h1 : inB taped 0 300 = true) (h2 : boundsB gmin gmax 0 6000 = false) :
    Calls Try.prog 42 #[.agg #[.string code, .int .i64 bmin, .int .i64 bmax, .int .i64 taped, .int .i64 gmin, .int .i64 gmax, .int .i64 wmin, .int .i64 wmax, .slice sa sn sc, .slice wa wn wc, .int .i64 dead]] w fun e w' => e = .returned (.int .i64 1) ∧ Below w.heap.size w w' := by
  go_enter Try.func42, Try.ntmps42
  go_wp2_with (first | (go_at_call 63; refine (bounded_calls _ _ _ _ _).mono ?_; rintro e w' ⟨rfl, rfl⟩) | (go_at_call 26; refine (in_calls _ _ _ _).mono ?_; rintro e w' ⟨rfl, rfl⟩))
  go_ret
  exact ⟨rfl, (by repeat (first | exact Below.refl _ _ | refine Below.alloc ?_ (by simp <;> omega) _))⟩

set_option maxRecDepth 100000 in
set_option maxHeartbeats 1000000 in
theorem refTree_3 (code : ByteArray) (bmin bmax taped gmin gmax wmin wmax : Int) (sa : Option Addr) (sn sc : Nat) (wa : Option Addr) (wn wc : Nat) (dead : Int) (w : World) (h0 : boundsB bmin bmax 0 300 = true) (h1 : inB taped 0 300 = true) (h2 : boundsB gmin gmax 0 6000 = true) (h3 : boundsB wmin wmax 0 50 = false) :
    Calls Try.prog 42 #[.agg #[.string code, .int .i64 bmin, .int .i64 bmax, .int .i64 taped, .int .i64 gmin, .int .i64 gmax, .int .i64 wmin, .int .i64 wmax, .slice sa sn sc, .slice wa wn wc, .int .i64 dead]] w fun e w' => e = .returned (.int .i64 1) ∧ Below w.heap.size w w' := by
  go_enter Try.func42, Try.ntmps42
  go_wp2_with (first | (go_at_call 63; refine (bounded_calls _ _ _ _ _).mono ?_; rintro e w' ⟨rfl, rfl⟩) | (go_at_call 26; refine (in_calls _ _ _ _).mono ?_; rintro e w' ⟨rfl, rfl⟩))
  go_ret
  exact ⟨rfl, (by repeat (first | exact Below.refl _ _ | refine Below.alloc ?_ (by simp <;> omega) _))⟩

set_option maxRecDepth 100000 in
set_option maxHeartbeats 1000000 in
theorem refTree_4 (code : ByteArray) (bmin bmax taped gmin gmax wmin wmax : Int) (sa : Option Addr) (sn sc : Nat) (wa : Option Addr) (wn wc : Nat) (dead : Int) (w : World) (h0 : boundsB bmin bmax 0 300 = true) (h1 : inB taped 0 300 = true) (h2 : boundsB gmin gmax 0 6000 = true) (h3 : boundsB wmin wmax 0 50 = true) (h4 : inB dead (-1) 300 = false) :
    Calls Try.prog 42 #[.agg #[.string code, .int .i64 bmin, .int .i64 bmax, .int .i64 taped, .int .i64 gmin, .int .i64 gmax, .int .i64 wmin, .int .i64 wmax, .slice sa sn sc, .slice wa wn wc, .int .i64 dead]] w fun e w' => e = .returned (.int .i64 1) ∧ Below w.heap.size w w' := by
  go_enter Try.func42, Try.ntmps42
  go_wp2_with (first | (go_at_call 63; refine (bounded_calls _ _ _ _ _).mono ?_; rintro e w' ⟨rfl, rfl⟩) | (go_at_call 26; refine (in_calls _ _ _ _).mono ?_; rintro e w' ⟨rfl, rfl⟩))
  go_ret
  exact ⟨rfl, (by repeat (first | exact Below.refl _ _ | refine Below.alloc ?_ (by simp <;> omega) _))⟩

set_option maxRecDepth 100000 in
set_option maxHeartbeats 1000000 in
theorem refTree_many (code : ByteArray) (bmin bmax taped gmin gmax wmin wmax : Int) (sa : Option Addr) (sn sc : Nat) (wa : Option Addr) (wn wc : Nat) (dead : Int) (w : World) (h0 : boundsB bmin bmax 0 300 = true) (h1 : inB taped 0 300 = true) (h2 : boundsB gmin gmax 0 6000 = true) (h3 : boundsB wmin wmax 0 50 = true) (h4 : inB dead (-1) 300 = true) (hn : (10 : Int) < (sn : Int)) :
    Calls Try.prog 42 #[.agg #[.string code, .int .i64 bmin, .int .i64 bmax, .int .i64 taped, .int .i64 gmin, .int .i64 gmax, .int .i64 wmin, .int .i64 wmax, .slice sa sn sc, .slice wa wn wc, .int .i64 dead]] w fun e w' => e = .returned (.int .i64 2) ∧ Below w.heap.size w w' := by
  go_enter Try.func42, Try.ntmps42
  go_wp2_with (first | (go_at_call 63; refine (bounded_calls _ _ _ _ _).mono ?_; rintro e w' ⟨rfl, rfl⟩) | (go_at_call 26; refine (in_calls _ _ _ _).mono ?_; rintro e w' ⟨rfl, rfl⟩))
  go_ret
  exact ⟨rfl, (by repeat (first | exact Below.refl _ _ | refine Below.alloc ?_ (by simp <;> omega) _))⟩

/-- What comes of the strips from a place on, and of the wounds. -/
def finErr (l : Int) (xs : List (Int × Int)) (c : Int) : Int := if stripsErr l xs = 0 then c else stripsErr l xs
theorem fin_bad (l : Int) (xs : List (Int × Int)) (k : Nat) (h : k < xs.length) (r c : Int) (hr : r = finErr l (xs.drop k) c) (h1 : (inB xs[k]!.1 0 300 && inB xs[k]!.2 1 15000) = false) : r = 1 := by
  have e := strips_bad l xs k h _ rfl h1
  rw [hr, finErr, e]; rfl
theorem fin_order (l : Int) (xs : List (Int × Int)) (k : Nat) (h : k < xs.length) (r c : Int) (hr : r = finErr l (xs.drop k) c) (h1 : (inB xs[k]!.1 0 300 && inB xs[k]!.2 1 15000) = true) (h2 : xs[k]!.1 ≤ l) : r = 7 := by
  have e := strips_order l xs k h _ rfl h1 h2
  rw [hr, finErr, e]; rfl
theorem fin_step (l : Int) (xs : List (Int × Int)) (k : Nat) (h : k < xs.length) (r c : Int) (hr : r = finErr l (xs.drop k) c) (h1 : (inB xs[k]!.1 0 300 && inB xs[k]!.2 1 15000) = true) (h2 : l < xs[k]!.1) : r = finErr xs[k]!.1 (xs.drop (k + 1)) c := by
  have e := strips_step l xs k h _ rfl h1 h2
  rw [hr, finErr, e]; rfl
theorem fin_end (l : Int) (xs : List (Int × Int)) (k : Nat) (h : xs.length ≤ k) (r c : Int) (hr : r = finErr l (xs.drop k) c) : r = c := by
  have e := strips_end l xs k h _ rfl
  rw [hr, finErr, e, if_pos rfl]

/-- The year of the strip before a place; -1: there is none. -/
def lastAt (xs : List (Int × Int)) : Nat → Int
  | 0 => -1
  | k + 1 => xs[k]!.1
def lastWound (xs : List Int) : Nat → Int
  | 0 => -1
  | k + 1 => xs[k]!

set_option maxRecDepth 100000 in
set_option maxHeartbeats 4000000 in
theorem refTree_some (code : ByteArray) (bmin bmax taped gmin gmax wmin wmax : Int) (sa : Option Addr) (sc : Nat) (wa : Option Addr) (wc : Nat) (dead : Int) (xs : List (Int × Int)) (ys : List Int) (w : World) (h0 : boundsB bmin bmax 0 300 = true) (h1 : inB taped 0 300 = true) (h2 : boundsB gmin gmax 0 6000 = true) (h3 : boundsB wmin wmax 0 50 = true) (h4 : inB dead (-1) 300 = true) (hl : (xs.length : Int) ≤ 10)
    (hs : Held w.heap.size w 2 stripCells (.slice sa xs.length sc) xs) (hw : Held w.heap.size w 1 intCells (.slice wa ys.length wc) ys) :
    Calls Try.prog 42 #[.agg #[.string code, .int .i64 bmin, .int .i64 bmax, .int .i64 taped, .int .i64 gmin, .int .i64 gmax, .int .i64 wmin, .int .i64 wmax, .slice sa xs.length sc, .slice wa ys.length wc, .int .i64 dead]] w fun e w' => e = .returned (.int .i64 (finErr (-1) xs (checkWounds ys))) ∧ Below w.heap.size w w' := by
  have hr : finErr (-1) xs (checkWounds ys) = finErr (lastAt xs 0) (xs.drop 0) (checkWounds ys) := rfl
  generalize finErr (-1) xs (checkWounds ys) = r at hr ⊢
  have HR := Lib.hid hr; clear hr
  have HS := Lib.hid hs; clear hs
  have HW := Lib.hid hw; clear hw
  go_enter Try.func42, Try.ntmps42
  go_wp2_with (first | (go_at_call 63; refine (bounded_calls _ _ _ _ _).mono ?_; rintro e w' ⟨rfl, rfl⟩) | (go_at_call 26; refine (in_calls _ _ _ _).mono ?_; rintro e w' ⟨rfl, rfl⟩))
  go_loopw [3] (fun i wr => ∃ k : Nat, k ≤ xs.length ∧ i = .int .i64 k ∧ Hid (r = finErr (lastAt xs k) (xs.drop k) (checkWounds ys)) ∧ Below w.heap.size w wr ∧ w.heap.size < wr.heap.size ∧ wr.cell? ⟨w.heap.size, 8, none⟩ = some (.slice sa xs.length sc) ∧ wr.cell? ⟨w.heap.size, 9, none⟩ = some (.slice wa ys.length wc)) (fun i _ => xs.length - (intOf i).toNat)
  case atStart => exact ⟨0, by omega, rfl, HR, (by repeat (first | exact Below.refl _ _ | refine Below.alloc ?_ (by simp <;> omega) _)), by simp <;> omega, by go_simp, by go_simp⟩
  case round =>
    clear HR
    obtain ⟨k, hk, rfl, HR, hB, hz, k8, k9⟩ := hrel
    by_cases hlt : k < xs.length
    · obtain ⟨b, off, rfl, hb, hc⟩ := HS.out.place hlt
      have HC := Lib.hid hc; clear hc
      have c0 : wr.cell? ⟨b, off + k * 2, none⟩ = some (.int .i64 xs[k]!.1) := (hB.cell (p := ⟨b, off + k * 2, none⟩) hb).trans (HC.out k hlt 0 _ rfl)
      have c1 : wr.cell? ⟨b, off + k * 2 + 1, none⟩ = some (.int .i64 xs[k]!.2) := (hB.cell (p := ⟨b, off + k * 2 + 1, none⟩) hb).trans (HC.out k hlt 1 _ rfl)
      have hbr : b < wr.heap.size := by omega
      have hne : b ≠ wr.heap.size := by omega
      have hnw : w.heap.size ≠ wr.heap.size := by omega
      have hm0 : 0 ≤ (k : Int) := by omega
      generalize hx : xs[k]! = x at c0 c1
      have HX := Lib.hid hx; clear hx
      obtain ⟨y, h⟩ := x
      dsimp only at c0 c1
      cases e1 : inB y 0 300
      · have HT := Lib.hid (fin_bad _ xs k hlt r _ HR.out (by rw [HX.out, e1]; rfl))
        go_wp2_with (first | (go_at_call 63; refine (bounded_calls _ _ _ _ _).mono ?_; rintro e w' ⟨rfl, rfl⟩) | (go_at_call 26; refine (in_calls _ _ _ _).mono ?_; rintro e w' ⟨rfl, rfl⟩))
        go_ret
        exact ⟨by rw [HT.out]; rfl, hB.alloc hB.size _⟩
      · cases e2 : inB h 1 15000
        · have HT := Lib.hid (fin_bad _ xs k hlt r _ HR.out (by rw [HX.out, e1, e2]; rfl))
          go_wp2_with (first | (go_at_call 63; refine (bounded_calls _ _ _ _ _).mono ?_; rintro e w' ⟨rfl, rfl⟩) | (go_at_call 26; refine (in_calls _ _ _ _).mono ?_; rintro e w' ⟨rfl, rfl⟩))
          go_ret
          exact ⟨by rw [HT.out]; rfl, hB.alloc hB.size _⟩
        · by_cases e3 : y ≤ lastAt xs k
          · have HT := Lib.hid (fin_order _ xs k hlt r _ HR.out (by rw [HX.out, e1, e2]; rfl) (by rw [HX.out]; exact e3))
            cases k with
            | zero =>
              have e1' : 0 ≤ y := (inB_iff'.1 e1).1
              have e3' : y ≤ -1 := e3
              omega
            | succ m =>
              have d0 : wr.cell? ⟨b, off + m * 2, none⟩ = some (.int .i64 xs[m]!.1) := (hB.cell (p := ⟨b, off + m * 2, none⟩) hb).trans (HC.out m (by omega) 0 _ rfl)
              have e3' : y ≤ xs[m]!.1 := e3
              clear e3
              generalize xs[m]!.1 = q at d0 e3'
              have s1 : IntKind.i64.wrap ((m : Int) + 1 - 1) = (m : Int) := by rw [IntWalk.i64_in _ (by omega)]; omega
              have hm1 : (0 : Int) < (m : Int) + 1 := by omega
              go_wp2_with (first | (go_at_call 63; refine (bounded_calls _ _ _ _ _).mono ?_; rintro e w' ⟨rfl, rfl⟩) | (go_at_call 26; refine (in_calls _ _ _ _).mono ?_; rintro e w' ⟨rfl, rfl⟩))
              go_quiet (fail)
              go_wp2
              go_ret
              exact ⟨by rw [HT.out]; rfl, below_drewN (hB.alloc hB.size _) _⟩
          · have HT := Lib.hid (fin_step _ xs k hlt r _ HR.out (by rw [HX.out, e1, e2]; rfl) (by rw [HX.out]; show lastAt xs k < y; omega))
            cases k with
            | zero =>
              clear e3
              simp only [Nat.zero_mul, Nat.add_zero] at c0 c1
              go_wp2_with (first | (go_at_call 63; refine (bounded_calls _ _ _ _ _).mono ?_; rintro e w' ⟨rfl, rfl⟩) | (go_at_call 26; refine (in_calls _ _ _ _).mono ?_; rintro e w' ⟨rfl, rfl⟩))
              go_quiet (fail)
              go_wp2
              exact ⟨⟨1, by omega, by go_num, HT, below_drewN (hB.alloc hB.size _) _, by simp; omega, by go_simp, by go_simp⟩, by simp [intOf]; omega⟩
            | succ m =>
              have d0 : wr.cell? ⟨b, off + m * 2, none⟩ = some (.int .i64 xs[m]!.1) := (hB.cell (p := ⟨b, off + m * 2, none⟩) hb).trans (HC.out m (by omega) 0 _ rfl)
              have e3' : xs[m]!.1 < y := by show lastAt xs (m + 1) < y; omega
              clear e3
              generalize xs[m]!.1 = q at d0 e3'
              have s1 : IntKind.i64.wrap ((m : Int) + 1 - 1) = (m : Int) := by rw [IntWalk.i64_in _ (by omega)]; omega
              have hm1 : (0 : Int) < (m : Int) + 1 := by omega
              go_wp2_with (first | (go_at_call 63; refine (bounded_calls _ _ _ _ _).mono ?_; rintro e w' ⟨rfl, rfl⟩) | (go_at_call 26; refine (in_calls _ _ _ _).mono ?_; rintro e w' ⟨rfl, rfl⟩))
              go_quiet (fail)
              go_wp2
              exact ⟨⟨m + 1 + 1, by omega, by go_num, HT, below_drewN (hB.alloc hB.size _) _, by simp; omega, by go_simp, by go_simp⟩, by simp [intOf]; omega⟩
    · have HT := Lib.hid (fin_end _ xs k (by omega) r _ HR.out)
      have hge : xs.length ≤ k := by omega
      by_cases hy : ys.length > 10
      · have hy' : (10 : Int) < (ys.length : Int) := by omega
        have hcw : checkWounds ys = 2 := by unfold checkWounds; rw [if_pos hy]
        rw [hcw] at HT
        clear hcw
        go_wp2
        go_ret
        exact ⟨by rw [HT.out]; rfl, hB⟩
      · have hy' : (ys.length : Int) ≤ 10 := by omega
        have hcw : checkWounds ys = woundsErr (lastWound ys 0) (ys.drop 0) := by unfold checkWounds; rw [if_neg hy]; rfl
        rw [hcw] at HT
        clear hcw HR HS
        obtain ⟨wo, rfl⟩ : ∃ wo : World, wo = wr := ⟨_, rfl⟩
        go_wp2
        go_loopw [5] (fun i wr => ∃ k : Nat, k ≤ ys.length ∧ i = .int .i64 k ∧ Hid (r = woundsErr (lastWound ys k) (ys.drop k)) ∧ Below w.heap.size w wr ∧ w.heap.size < wr.heap.size ∧ wr.cell? ⟨w.heap.size, 9, none⟩ = some (.slice wa ys.length wc)) (fun i _ => ys.length - (intOf i).toNat)
        case atStart => exact ⟨0, by omega, rfl, HT, hB, hz, k9⟩
        case round =>
          clear HT hB hz k8 k9
          obtain ⟨m, hk, rfl, HR, hB, hz, k9⟩ := hrel
          by_cases hlt : m < ys.length
          · obtain ⟨b, off, rfl, hb, hc⟩ := HW.out.place hlt
            have HC := Lib.hid hc; clear hc
            have c0 : wr.cell? ⟨b, off + m, none⟩ = some (.int .i64 ys[m]!) := (hB.cell (p := ⟨b, off + m, none⟩) hb).trans (by have := HC.out m hlt 0 _ rfl; rwa [Nat.mul_one, Nat.add_zero] at this)
            generalize hx : ys[m]! = y at c0
            have HX := Lib.hid hx; clear hx
            cases e1 : inB y 0 300
            · have HT := Lib.hid (wounds_bad _ ys m hlt r HR.out (by rw [HX.out, e1]))
              go_wp2_with (first | (go_at_call 63; refine (bounded_calls _ _ _ _ _).mono ?_; rintro e w' ⟨rfl, rfl⟩) | (go_at_call 26; refine (in_calls _ _ _ _).mono ?_; rintro e w' ⟨rfl, rfl⟩))
              go_ret
              exact ⟨by rw [HT.out]; rfl, hB⟩
            · by_cases e3 : y ≤ lastWound ys m
              · have HT := Lib.hid (wounds_order _ ys m hlt r HR.out (by rw [HX.out, e1]) (by rw [HX.out]; exact e3))
                cases m with
                | zero =>
                  have e1' : 0 ≤ y := (inB_iff'.1 e1).1
                  have e3' : y ≤ -1 := e3
                  omega
                | succ m =>
                  have d0 : wr.cell? ⟨b, off + m, none⟩ = some (.int .i64 ys[m]!) := (hB.cell (p := ⟨b, off + m, none⟩) hb).trans (by have := HC.out m (by omega) 0 _ rfl; rwa [Nat.mul_one, Nat.add_zero] at this)
                  have e3' : y ≤ ys[m]! := e3
                  clear e3
                  generalize ys[m]! = q at d0 e3'
                  have s1 : IntKind.i64.wrap ((m : Int) + 1 - 1) = (m : Int) := by rw [IntWalk.i64_in _ (by omega)]; omega
                  have hm1 : (0 : Int) < (m : Int) + 1 := by omega
                  go_wp2_with (first | (go_at_call 63; refine (bounded_calls _ _ _ _ _).mono ?_; rintro e w' ⟨rfl, rfl⟩) | (go_at_call 26; refine (in_calls _ _ _ _).mono ?_; rintro e w' ⟨rfl, rfl⟩))
                  go_quiet (fail)
                  go_wp2
                  go_ret
                  exact ⟨by rw [HT.out]; rfl, below_drewN hB _⟩
              · have HT := Lib.hid (wounds_step _ ys m hlt r HR.out (by rw [HX.out, e1]) (by rw [HX.out]; show lastWound ys m < y; omega))
                rw [HX.out] at HT
                cases m with
                | zero =>
                  clear e3
                  simp only [Nat.add_zero] at c0
                  go_wp2_with (first | (go_at_call 63; refine (bounded_calls _ _ _ _ _).mono ?_; rintro e w' ⟨rfl, rfl⟩) | (go_at_call 26; refine (in_calls _ _ _ _).mono ?_; rintro e w' ⟨rfl, rfl⟩))
                  go_quiet (fail)
                  go_wp2
                  exact ⟨⟨1, by omega, by go_num, by rw [← HX.out] at HT; exact HT, below_drewN hB _, by simp; omega, by go_simp⟩, by simp [intOf]; omega⟩
                | succ m =>
                  have d0 : wr.cell? ⟨b, off + m, none⟩ = some (.int .i64 ys[m]!) := (hB.cell (p := ⟨b, off + m, none⟩) hb).trans (by have := HC.out m (by omega) 0 _ rfl; rwa [Nat.mul_one, Nat.add_zero] at this)
                  have e3' : ys[m]! < y := by show lastWound ys (m + 1) < y; omega
                  clear e3
                  generalize ys[m]! = q at d0 e3'
                  have s1 : IntKind.i64.wrap ((m : Int) + 1 - 1) = (m : Int) := by rw [IntWalk.i64_in _ (by omega)]; omega
                  have hm1 : (0 : Int) < (m : Int) + 1 := by omega
                  go_wp2_with (first | (go_at_call 63; refine (bounded_calls _ _ _ _ _).mono ?_; rintro e w' ⟨rfl, rfl⟩) | (go_at_call 26; refine (in_calls _ _ _ _).mono ?_; rintro e w' ⟨rfl, rfl⟩))
                  go_quiet (fail)
                  go_wp2
                  exact ⟨⟨m + 1 + 1, by omega, by go_num, by rw [← HX.out] at HT; exact HT, below_drewN hB _, by simp; omega, by go_simp⟩, by simp [intOf]; omega⟩
          · have HT := Lib.hid (wounds_end _ ys m (by omega) r HR.out)
            have hge2 : ys.length ≤ m := by omega
            go_wp2
            go_ret
            exact ⟨by rw [HT.out]; rfl, hB⟩

theorem refTree_calls (t : Tree) (w : World) (h : TreeHeld w.heap.size w t) :
    Calls Try.prog 42 #[.agg t.cells.toArray] w fun e w' => e = .returned (.int .i64 (treeErr t)) ∧ Below w.heap.size w w' := by
  obtain ⟨code, bmin, bmax, taped, gmin, gmax, wmin, wmax, sv, wv, dead, strips, wounds⟩ := t
  obtain ⟨hs, hw, _⟩ := h
  dsimp only at hs hw
  obtain ⟨sa, sn, sc, rfl⟩ := hs.slice
  obtain ⟨wa, wn, wc, rfl⟩ := hw.slice
  have ns := hs.count
  have nw := hw.count
  show Calls Try.prog _ #[.agg #[.string code, .int .i64 bmin, .int .i64 bmax, .int .i64 taped, .int .i64 gmin, .int .i64 gmax, .int .i64 wmin, .int .i64 wmax, .slice sa sn sc, .slice wa wn wc, .int .i64 dead]] _ _
  unfold treeErr measuredB
  dsimp only
  cases h0 : boundsB bmin bmax 0 300
  · exact refTree_0 code bmin bmax taped gmin gmax wmin wmax sa sn sc wa wn wc dead w h0
  cases h1 : inB taped 0 300
  · exact refTree_1 code bmin bmax taped gmin gmax wmin wmax sa sn sc wa wn wc dead w h0 h1
  cases h2 : boundsB gmin gmax 0 6000
  · exact refTree_2 code bmin bmax taped gmin gmax wmin wmax sa sn sc wa wn wc dead w h0 h1 h2
  cases h3 : boundsB wmin wmax 0 50
  · exact refTree_3 code bmin bmax taped gmin gmax wmin wmax sa sn sc wa wn wc dead w h0 h1 h2 h3
  cases h4 : inB dead (-1) 300
  · exact refTree_4 code bmin bmax taped gmin gmax wmin wmax sa sn sc wa wn wc dead w h0 h1 h2 h3 h4
  subst ns nw
  by_cases hn : strips.length > 10
  · have e : checkStrips strips = 2 := by unfold checkStrips; rw [if_pos hn]
    simp only [e]
    exact refTree_many code bmin bmax taped gmin gmax wmin wmax sa _ sc wa _ wc dead w h0 h1 h2 h3 h4 (by omega)
  · have e : checkStrips strips = stripsErr (-1) strips := by unfold checkStrips; rw [if_neg hn]
    simp only [e]
    exact refTree_some code bmin bmax taped gmin gmax wmin wmax sa sc wa wc dead strips wounds w h0 h1 h2 h3 h4 (by omega) hs hw
end Go.Proofs.Ytajbflepjpgnbaa
