/- The document's own answers: the first error of a tree, but for its code. The document's own answers: the first error of a forest. Whether a forest is more than the statements examine: some answer, and nothing that was there is changed. -/
import Derived.Test.YtnoofdjlocadbaaGreatDoorForest
import Derived.Test.YtnoofdjlocadbaaGreatDoorHeight
/-! The document's own answers: the first error of a tree, but for its code. -/
namespace Go.Proofs.YtnoofdjlocadbaaGreatDoor
open Go.RowKit

theorem inB_iff' {n a b : Int} : inB n a b = true ↔ a ≤ n ∧ n ≤ b := by simp [inB]

theorem Held.count {α : Type} [Inhabited α] {B : Nat} {w : World} {k : Nat} {enc : α → List Value} {a : Option Addr} {n c : Nat} {xs : List α} (h : Held B w k enc (.slice a n c) xs) : n = xs.length := by
  rcases h with ⟨⟨_, _, h1⟩, h2⟩ | ⟨b, off, c', h1, _⟩
  · cases h1
    rw [h2]; rfl
  · cases h1; rfl

theorem Held.place {α : Type} [Inhabited α] {B : Nat} {w : World} {k : Nat} {enc : α → List Value} {a : Option Addr} {n c : Nat} {xs : List α} (h : Held B w k enc (.slice a n c) xs) {j : Nat} (hj : j < xs.length) :
    ∃ b off : Nat, a = some ⟨b, off, none⟩ ∧ b < B ∧ ∀ j, j < xs.length → ∀ i u, (enc xs[j]!)[i]? = some u → w.cell? ⟨b, off + j * k + i, none⟩ = some u := by
  rcases h with ⟨h1, h2⟩ | ⟨b, off, c', h1, hb, _, hc⟩
  · rw [h2] at hj; cases hj
  · cases h1
    exact ⟨b, off, rfl, hb, hc⟩

set_option maxRecDepth 100000 in
set_option maxHeartbeats 1000000 in
theorem refTree_0 (code : ByteArray) (bmin bmax taped gmin gmax wmin wmax : Int) (sa : Option Addr) (sn sc : Nat) (wa : Option Addr) (wn wc : Nat) (dead : Int) (w : World)  (h0 : boundsB bmin bmax 0 300 = false) :
    Calls Tryz.prog 32 #[.agg #[.string code, .int .i64 bmin, .int .i64 bmax, .int .i64 taped, .int .i64 gmin, .int .i64 gmax, .int .i64 wmin, .int .i64 wmax, .slice sa sn sc, .slice wa wn wc, .int .i64 dead]] w fun e w' => e = .returned (.int .i64 1) ∧ Below w.heap.size w w' := by
  go_enter Tryz.func32, Tryz.ntmps32
  go_wp2_with (first | (go_at_call 57; refine (bounded_calls _ _ _ _ _).mono ?_; rintro e w' ⟨rfl, rfl⟩) | (go_at_call 56; refine (in_calls _ _ _ _).mono ?_; rintro e w' ⟨rfl, rfl⟩))
  go_ret
  exact ⟨rfl, (by repeat (first | exact Below.refl _ _ | refine Below.alloc ?_ (by simp <;> omega) _))⟩

set_option maxRecDepth 100000 in
set_option maxHeartbeats 1000000 in
theorem refTree_1 (code : ByteArray) (bmin bmax taped gmin gmax wmin wmax : Int) (sa : Option Addr) (sn sc : Nat) (wa : Option Addr) (wn wc : Nat) (dead : Int) (w : World) (h0 : boundsB bmin bmax 0 300 = true) (h1 : inB taped 0 300 = false) :
    Calls Tryz.prog 32 #[.agg #[.string code, .int .i64 bmin, .int .i64 bmax, .int .i64 taped, .int .i64 gmin, .int .i64 gmax, .int .i64 wmin, .int .i64 wmax, .slice sa sn sc, .slice wa wn wc, .int .i64 dead]] w fun e w' => e = .returned (.int .i64 1) ∧ Below w.heap.size w w' := by
  go_enter Tryz.func32, Tryz.ntmps32
  go_wp2_with (first | (go_at_call 57; refine (bounded_calls _ _ _ _ _).mono ?_; rintro e w' ⟨rfl, rfl⟩) | (go_at_call 56; refine (in_calls _ _ _ _).mono ?_; rintro e w' ⟨rfl, rfl⟩))
  go_ret
  exact ⟨rfl, (by repeat (first | exact Below.refl _ _ | refine Below.alloc ?_ (by simp <;> omega) _))⟩

set_option maxRecDepth 100000 in
set_option maxHeartbeats 1000000 in
theorem refTree_2 (code : ByteArray) (bmin bmax taped gmin gmax wmin wmax : Int) (sa : Option Addr) (sn sc : Nat) (wa : Option Addr) (wn wc : Nat) (dead : Int) (w : World) (h0 : boundsB bmin bmax 0 300 = true) (h1 : inB taped 0 300 = true) (h2 : boundsB gmin gmax 0 6000 = false) :
    Calls Tryz.prog 32 #[.agg #[.string code, .int .i64 bmin, .int .i64 bmax, .int .i64 taped, .int .i64 gmin, .int .i64 gmax, .int .i64 wmin, .int .i64 wmax, .slice sa sn sc, .slice wa wn wc, .int .i64 dead]] w fun e w' => e = .returned (.int .i64 1) ∧ Below w.heap.size w w' := by
  go_enter Tryz.func32, Tryz.ntmps32
  go_wp2_with (first | (go_at_call 57; refine (bounded_calls _ _ _ _ _).mono ?_; rintro e w' ⟨rfl, rfl⟩) | (go_at_call 56; refine (in_calls _ _ _ _).mono ?_; rintro e w' ⟨rfl, rfl⟩))
  go_ret
  exact ⟨rfl, (by repeat (first | exact Below.refl _ _ | refine Below.alloc ?_ (by simp <;> omega) _))⟩

set_option maxRecDepth 100000 in
set_option maxHeartbeats 1000000 in
theorem refTree_3 (code : ByteArray) (bmin bmax taped gmin gmax wmin wmax : Int) (sa : Option Addr) (sn sc : Nat) (wa : Option Addr) (wn wc : Nat) (dead : Int) (w : World) (h0 : boundsB bmin bmax 0 300 = true) (h1 : inB taped 0 300 = true) (h2 : boundsB gmin gmax 0 6000 = true) (h3 : boundsB wmin wmax 0 50 = false) :
    Calls Tryz.prog 32 #[.agg #[.string code, .int .i64 bmin, .int .i64 bmax, .int .i64 taped, .int .i64 gmin, .int .i64 gmax, .int .i64 wmin, .int .i64 wmax, .slice sa sn sc, .slice wa wn wc, .int .i64 dead]] w fun e w' => e = .returned (.int .i64 1) ∧ Below w.heap.size w w' := by
  go_enter Tryz.func32, Tryz.ntmps32
  go_wp2_with (first | (go_at_call 57; refine (bounded_calls _ _ _ _ _).mono ?_; rintro e w' ⟨rfl, rfl⟩) | (go_at_call 56; refine (in_calls _ _ _ _).mono ?_; rintro e w' ⟨rfl, rfl⟩))
  go_ret
  exact ⟨rfl, (by repeat (first | exact Below.refl _ _ | refine Below.alloc ?_ (by simp <;> omega) _))⟩

set_option maxRecDepth 100000 in
set_option maxHeartbeats 1000000 in
theorem refTree_4 (code : ByteArray) (bmin bmax taped gmin gmax wmin wmax : Int) (sa : Option Addr) (sn sc : Nat) (wa : Option Addr) (wn wc : Nat) (dead : Int) (w : World) (h0 : boundsB bmin bmax 0 300 = true) (h1 : inB taped 0 300 = true) (h2 : boundsB gmin gmax 0 6000 = true) (h3 : boundsB wmin wmax 0 50 = true) (h4 : inB dead (-1) 300 = false) :
    Calls Tryz.prog 32 #[.agg #[.string code, .int .i64 bmin, .int .i64 bmax, .int .i64 taped, .int .i64 gmin, .int .i64 gmax, .int .i64 wmin, .int .i64 wmax, .slice sa sn sc, .slice wa wn wc, .int .i64 dead]] w fun e w' => e = .returned (.int .i64 1) ∧ Below w.heap.size w w' := by
  go_enter Tryz.func32, Tryz.ntmps32
  go_wp2_with (first | (go_at_call 57; refine (bounded_calls _ _ _ _ _).mono ?_; rintro e w' ⟨rfl, rfl⟩) | (go_at_call 56; refine (in_calls _ _ _ _).mono ?_; rintro e w' ⟨rfl, rfl⟩))
  go_ret
  exact ⟨rfl, (by repeat (first | exact Below.refl _ _ | refine Below.alloc ?_ (by simp <;> omega) _))⟩

set_option maxRecDepth 100000 in
set_option maxHeartbeats 1000000 in
theorem refTree_many (code : ByteArray) (bmin bmax taped gmin gmax wmin wmax : Int) (sa : Option Addr) (sn sc : Nat) (wa : Option Addr) (wn wc : Nat) (dead : Int) (w : World) (h0 : boundsB bmin bmax 0 300 = true) (h1 : inB taped 0 300 = true) (h2 : boundsB gmin gmax 0 6000 = true) (h3 : boundsB wmin wmax 0 50 = true) (h4 : inB dead (-1) 300 = true) (hn : (10 : Int) < (sn : Int)) :
    Calls Tryz.prog 32 #[.agg #[.string code, .int .i64 bmin, .int .i64 bmax, .int .i64 taped, .int .i64 gmin, .int .i64 gmax, .int .i64 wmin, .int .i64 wmax, .slice sa sn sc, .slice wa wn wc, .int .i64 dead]] w fun e w' => e = .returned (.int .i64 2) ∧ Below w.heap.size w w' := by
  go_enter Tryz.func32, Tryz.ntmps32
  go_wp2_with (first | (go_at_call 57; refine (bounded_calls _ _ _ _ _).mono ?_; rintro e w' ⟨rfl, rfl⟩) | (go_at_call 56; refine (in_calls _ _ _ _).mono ?_; rintro e w' ⟨rfl, rfl⟩))
  go_ret
  exact ⟨rfl, (by repeat (first | exact Below.refl _ _ | refine Below.alloc ?_ (by simp <;> omega) _))⟩

/-- What comes of the strips from a place on, and of the wounds. -/
def finErr (l : Int) (xs : List (Int × Int)) (c : Int) : Int := if stripsErr l xs = 0 then c else stripsErr l xs
theorem fin_bad (l : Int) (xs : List (Int × Int)) (k : Nat) (h : k < xs.length) (r c : Int) (hr : r = finErr l (xs.drop k) c) (h1 : (inB xs[k]!.1 0 300 && inB xs[k]!.2 1 15000) = false) : r = 1 := by
  have e := strips_bad l xs k h _ rfl h1
  rw [hr, finErr, e]; rfl
theorem fin_order (l : Int) (xs : List (Int × Int)) (k : Nat) (h : k < xs.length) (r c : Int) (hr : r = finErr l (xs.drop k) c) (h1 : (inB xs[k]!.1 0 300 && inB xs[k]!.2 1 15000) = true) (h2 : xs[k]!.1 ≤ l) : r = 7 := by
  have e := strips_order l xs k h _ rfl h1 h2
  rw [hr, finErr, e]; rfl
theorem fin_step (l : Int) (xs : List (Int × Int)) (k : Nat) (h : k < xs.length) (r c : Int) (hr : r = finErr l (xs.drop k) c) (h1 : (inB xs[k]!.1 0 300 && inB xs[k]!.2 1 15000) = true) (h2 : l < xs[k]!.1) : r = finErr xs[k]!.1 (xs.drop (k + 1)) c := by
  have e := strips_step l xs k h _ rfl h1 h2
  rw [hr, finErr, e]; rfl
theorem fin_end (l : Int) (xs : List (Int × Int)) (k : Nat) (h : xs.length ≤ k) (r c : Int) (hr : r = finErr l (xs.drop k) c) : r = c := by
  have e := strips_end l xs k h _ rfl
  rw [hr, finErr, e, if_pos rfl]

/-- The year of the strip before a place; -1: there is none. -/
def lastAt (xs : List (Int × Int)) : Nat → Int
  | 0 => -1
  | k + 1 => xs[k]!.1
def lastWound (xs : List Int) : Nat → Int
  | 0 => -1
  | k + 1 => xs[k]!

set_option maxRecDepth 100000 in
set_option maxHeartbeats 4000000 in
theorem refTree_some (code : ByteArray) (bmin bmax taped gmin gmax wmin wmax : Int) (sa : Option Addr) (sc : Nat) (wa : Option Addr) (wc : Nat) (dead : Int) (xs : List (Int × Int)) (ys : List Int) (w : World) (h0 : boundsB bmin bmax 0 300 = true) (h1 : inB taped 0 300 = true) (h2 : boundsB gmin gmax 0 6000 = true) (h3 : boundsB wmin wmax 0 50 = true) (h4 : inB dead (-1) 300 = true) (hl : (xs.length : Int) ≤ 10)
    (hs : Held w.heap.size w 2 stripCells (.slice sa xs.length sc) xs) (hw : Held w.heap.size w 1 intCells (.slice wa ys.length wc) ys) :
    Calls Tryz.prog 32 #[.agg #[.string code, .int .i64 bmin, .int .i64 bmax, .int .i64 taped, .int .i64 gmin, .int .i64 gmax, .int .i64 wmin, .int .i64 wmax, .slice sa xs.length sc, .slice wa ys.length wc, .int .i64 dead]] w fun e w' => e = .returned (.int .i64 (finErr (-1) xs (checkWounds ys))) ∧ Below w.heap.size w w' := by
  have hr : finErr (-1) xs (checkWounds ys) = finErr (lastAt xs 0) (xs.drop 0) (checkWounds ys) := rfl
  generalize finErr (-1) xs (checkWounds ys) = r at hr ⊢
  have HR := Lib.hid hr; clear hr
  have HS := Lib.hid hs; clear hs
  have HW := Lib.hid hw; clear hw
  go_enter Tryz.func32, Tryz.ntmps32
  go_wp2_with (first | (go_at_call 57; refine (bounded_calls _ _ _ _ _).mono ?_; rintro e w' ⟨rfl, rfl⟩) | (go_at_call 56; refine (in_calls _ _ _ _).mono ?_; rintro e w' ⟨rfl, rfl⟩))
  go_loopw [3] (fun i wr => ∃ k : Nat, k ≤ xs.length ∧ i = .int .i64 k ∧ Hid (r = finErr (lastAt xs k) (xs.drop k) (checkWounds ys)) ∧ Below w.heap.size w wr ∧ w.heap.size < wr.heap.size ∧ wr.cell? ⟨w.heap.size, 8, none⟩ = some (.slice sa xs.length sc) ∧ wr.cell? ⟨w.heap.size, 9, none⟩ = some (.slice wa ys.length wc)) (fun i _ => xs.length - (intOf i).toNat)
  case atStart => exact ⟨0, by omega, rfl, HR, (by repeat (first | exact Below.refl _ _ | refine Below.alloc ?_ (by simp <;> omega) _)), by simp <;> omega, by go_simp, by go_simp⟩
  case round =>
    clear HR
    obtain ⟨k, hk, rfl, HR, hB, hz, k8, k9⟩ := hrel
    by_cases hlt : k < xs.length
    · obtain ⟨b, off, rfl, hb, hc⟩ := HS.out.place hlt
      have HC := Lib.hid hc; clear hc
      have c0 : wr.cell? ⟨b, off + k * 2, none⟩ = some (.int .i64 xs[k]!.1) := (hB.cell (p := ⟨b, off + k * 2, none⟩) hb).trans (HC.out k hlt 0 _ rfl)
      have c1 : wr.cell? ⟨b, off + k * 2 + 1, none⟩ = some (.int .i64 xs[k]!.2) := (hB.cell (p := ⟨b, off + k * 2 + 1, none⟩) hb).trans (HC.out k hlt 1 _ rfl)
      have hbr : b < wr.heap.size := by omega
      have hne : b ≠ wr.heap.size := by omega
      have hnw : w.heap.size ≠ wr.heap.size := by omega
      have hm0 : 0 ≤ (k : Int) := by omega
      generalize hx : xs[k]! = x at c0 c1
      have HX := Lib.hid hx; clear hx
      obtain ⟨y, h⟩ := x
      dsimp only at c0 c1
      cases e1 : inB y 0 300
      · have HT := Lib.hid (fin_bad _ xs k hlt r _ HR.out (by rw [HX.out, e1]; rfl))
        go_wp2_with (first | (go_at_call 57; refine (bounded_calls _ _ _ _ _).mono ?_; rintro e w' ⟨rfl, rfl⟩) | (go_at_call 56; refine (in_calls _ _ _ _).mono ?_; rintro e w' ⟨rfl, rfl⟩))
        go_ret
        exact ⟨by rw [HT.out]; rfl, hB.alloc hB.size _⟩
      · cases e2 : inB h 1 15000
        · have HT := Lib.hid (fin_bad _ xs k hlt r _ HR.out (by rw [HX.out, e1, e2]; rfl))
          go_wp2_with (first | (go_at_call 57; refine (bounded_calls _ _ _ _ _).mono ?_; rintro e w' ⟨rfl, rfl⟩) | (go_at_call 56; refine (in_calls _ _ _ _).mono ?_; rintro e w' ⟨rfl, rfl⟩))
          go_ret
          exact ⟨by rw [HT.out]; rfl, hB.alloc hB.size _⟩
        · by_cases e3 : y ≤ lastAt xs k
          · have HT := Lib.hid (fin_order _ xs k hlt r _ HR.out (by rw [HX.out, e1, e2]; rfl) (by rw [HX.out]; exact e3))
            cases k with
            | zero =>
              have e1' : 0 ≤ y := (inB_iff'.1 e1).1
              have e3' : y ≤ -1 := e3
              omega
            | succ m =>
              have d0 : wr.cell? ⟨b, off + m * 2, none⟩ = some (.int .i64 xs[m]!.1) := (hB.cell (p := ⟨b, off + m * 2, none⟩) hb).trans (HC.out m (by omega) 0 _ rfl)
              have e3' : y ≤ xs[m]!.1 := e3
              clear e3
              generalize xs[m]!.1 = q at d0 e3'
              have s1 : IntKind.i64.wrap ((m : Int) + 1 - 1) = (m : Int) := by rw [IntWalk.i64_in _ (by omega)]; omega
              have hm1 : (0 : Int) < (m : Int) + 1 := by omega
              go_wp2_with (first | (go_at_call 57; refine (bounded_calls _ _ _ _ _).mono ?_; rintro e w' ⟨rfl, rfl⟩) | (go_at_call 56; refine (in_calls _ _ _ _).mono ?_; rintro e w' ⟨rfl, rfl⟩))
              go_quiet (fail)
              go_wp2
              go_ret
              exact ⟨by rw [HT.out]; rfl, below_drewN (hB.alloc hB.size _) _⟩
          · have HT := Lib.hid (fin_step _ xs k hlt r _ HR.out (by rw [HX.out, e1, e2]; rfl) (by rw [HX.out]; show lastAt xs k < y; omega))
            cases k with
            | zero =>
              clear e3
              simp only [Nat.zero_mul, Nat.add_zero] at c0 c1
              go_wp2_with (first | (go_at_call 57; refine (bounded_calls _ _ _ _ _).mono ?_; rintro e w' ⟨rfl, rfl⟩) | (go_at_call 56; refine (in_calls _ _ _ _).mono ?_; rintro e w' ⟨rfl, rfl⟩))
              go_quiet (fail)
              go_wp2
              exact ⟨⟨1, by omega, by go_num, HT, below_drewN (hB.alloc hB.size _) _, by simp; omega, by go_simp, by go_simp⟩, by simp [intOf]; omega⟩
            | succ m =>
              have d0 : wr.cell? ⟨b, off + m * 2, none⟩ = some (.int .i64 xs[m]!.1) := (hB.cell (p := ⟨b, off + m * 2, none⟩) hb).trans (HC.out m (by omega) 0 _ rfl)
              have e3' : xs[m]!.1 < y := by show lastAt xs (m + 1) < y; omega
              clear e3
              generalize xs[m]!.1 = q at d0 e3'
              have s1 : IntKind.i64.wrap ((m : Int) + 1 - 1) = (m : Int) := by rw [IntWalk.i64_in _ (by omega)]; omega
              have hm1 : (0 : Int) < (m : Int) + 1 := by omega
              go_wp2_with (first | (go_at_call 57; refine (bounded_calls _ _ _ _ _).mono ?_; rintro e w' ⟨rfl, rfl⟩) | (go_at_call 56; refine (in_calls _ _ _ _).mono ?_; rintro e w' ⟨rfl, rfl⟩))
              go_quiet (fail)
              go_wp2
              exact ⟨⟨m + 1 + 1, by omega, by go_num, HT, below_drewN (hB.alloc hB.size _) _, by simp; omega, by go_simp, by go_simp⟩, by simp [intOf]; omega⟩
    · have HT := Lib.hid (fin_end _ xs k (by omega) r _ HR.out)
      have hge : xs.length ≤ k := by omega
      by_cases hy : ys.length > 10
      · have hy' : (10 : Int) < (ys.length : Int) := by omega
        have hcw : checkWounds ys = 2 := by unfold checkWounds; rw [if_pos hy]
        rw [hcw] at HT
        clear hcw
        go_wp2
        go_ret
        exact ⟨by rw [HT.out]; rfl, hB⟩
      · have hy' : (ys.length : Int) ≤ 10 := by omega
        have hcw : checkWounds ys = woundsErr (lastWound ys 0) (ys.drop 0) := by unfold checkWounds; rw [if_neg hy]; rfl
        rw [hcw] at HT
        clear hcw HR HS
        obtain ⟨wo, rfl⟩ : ∃ wo : World, wo = wr := ⟨_, rfl⟩
        go_wp2
        go_loopw [5] (fun i wr => ∃ k : Nat, k ≤ ys.length ∧ i = .int .i64 k ∧ Hid (r = woundsErr (lastWound ys k) (ys.drop k)) ∧ Below w.heap.size w wr ∧ w.heap.size < wr.heap.size ∧ wr.cell? ⟨w.heap.size, 9, none⟩ = some (.slice wa ys.length wc)) (fun i _ => ys.length - (intOf i).toNat)
        case atStart => exact ⟨0, by omega, rfl, HT, hB, hz, k9⟩
        case round =>
          clear HT hB hz k8 k9
          obtain ⟨m, hk, rfl, HR, hB, hz, k9⟩ := hrel
          by_cases hlt : m < ys.length
          · obtain ⟨b, off, rfl, hb, hc⟩ := HW.out.place hlt
            have HC := Lib.hid hc; clear hc
            have c0 : wr.cell? ⟨b, off + m, none⟩ = some (.int .i64 ys[m]!) := (hB.cell (p := ⟨b, off + m, none⟩) hb).trans (by have := HC.out m hlt 0 _ rfl; rwa [Nat.mul_one, Nat.add_zero] at this)
            generalize hx : ys[m]! = y at c0
            have HX := Lib.hid hx; clear hx
            cases e1 : inB y 0 300
            · have HT := Lib.hid (wounds_bad _ ys m hlt r HR.out (by rw [HX.out, e1]))
              go_wp2_with (first | (go_at_call 57; refine (bounded_calls _ _ _ _ _).mono ?_; rintro e w' ⟨rfl, rfl⟩) | (go_at_call 56; refine (in_calls _ _ _ _).mono ?_; rintro e w' ⟨rfl, rfl⟩))
              go_ret
              exact ⟨by rw [HT.out]; rfl, hB⟩
            · by_cases e3 : y ≤ lastWound ys m
              · have HT := Lib.hid (wounds_order _ ys m hlt r HR.out (by rw [HX.out, e1]) (by rw [HX.out]; exact e3))
                cases m with
                | zero =>
                  have e1' : 0 ≤ y := (inB_iff'.1 e1).1
                  have e3' : y ≤ -1 := e3
                  omega
                | succ m =>
                  have d0 : wr.cell? ⟨b, off + m, none⟩ = some (.int .i64 ys[m]!) := (hB.cell (p := ⟨b, off + m, none⟩) hb).trans (by have := HC.out m (by omega) 0 _ rfl; rwa [Nat.mul_one, Nat.add_zero] at this)
                  have e3' : y ≤ ys[m]! := e3
                  clear e3
                  generalize ys[m]! = q at d0 e3'
                  have s1 : IntKind.i64.wrap ((m : Int) + 1 - 1) = (m : Int) := by rw [IntWalk.i64_in _ (by omega)]; omega
                  have hm1 : (0 : Int) < (m : Int) + 1 := by omega
                  go_wp2_with (first | (go_at_call 57; refine (bounded_calls _ _ _ _ _).mono ?_; rintro e w' ⟨rfl, rfl⟩) | (go_at_call 56; refine (in_calls _ _ _ _).mono ?_; rintro e w' ⟨rfl, rfl⟩))
                  go_quiet (fail)
                  go_wp2
                  go_ret
                  exact ⟨by rw [HT.out]; rfl, below_drewN hB _⟩
              · have HT := Lib.hid (wounds_step _ ys m hlt r HR.out (by rw [HX.out, e1]) (by rw [HX.out]; show lastWound ys m < y; omega))
                rw [HX.out] at HT
                cases m with
                | zero =>
                  clear e3
                  simp only [Nat.add_zero] at c0
                  go_wp2_with (first | (go_at_call 57; refine (bounded_calls _ _ _ _ _).mono ?_; rintro e w' ⟨rfl, rfl⟩) | (go_at_call 56; refine (in_calls _ _ _ _).mono ?_; rintro e w' ⟨rfl, rfl⟩))
                  go_quiet (fail)
                  go_wp2
                  exact ⟨⟨1, by omega, by go_num, by rw [← HX.out] at HT; exact HT, below_drewN hB _, by simp; omega, by go_simp⟩, by simp [intOf]; omega⟩
                | succ m =>
                  have d0 : wr.cell? ⟨b, off + m, none⟩ = some (.int .i64 ys[m]!) := (hB.cell (p := ⟨b, off + m, none⟩) hb).trans (by have := HC.out m (by omega) 0 _ rfl; rwa [Nat.mul_one, Nat.add_zero] at this)
                  have e3' : ys[m]! < y := by show lastWound ys (m + 1) < y; omega
                  clear e3
                  generalize ys[m]! = q at d0 e3'
                  have s1 : IntKind.i64.wrap ((m : Int) + 1 - 1) = (m : Int) := by rw [IntWalk.i64_in _ (by omega)]; omega
                  have hm1 : (0 : Int) < (m : Int) + 1 := by omega
                  go_wp2_with (first | (go_at_call 57; refine (bounded_calls _ _ _ _ _).mono ?_; rintro e w' ⟨rfl, rfl⟩) | (go_at_call 56; refine (in_calls _ _ _ _).mono ?_; rintro e w' ⟨rfl, rfl⟩))
                  go_quiet (fail)
                  go_wp2
                  exact ⟨⟨m + 1 + 1, by omega, by go_num, by rw [← HX.out] at HT; exact HT, below_drewN hB _, by simp; omega, by go_simp⟩, by simp [intOf]; omega⟩
          · have HT := Lib.hid (wounds_end _ ys m (by omega) r HR.out)
            have hge2 : ys.length ≤ m := by omega
            go_wp2
            go_ret
            exact ⟨by rw [HT.out]; rfl, hB⟩

theorem refTree_calls (t : Tree) (w : World) (h : TreeHeld w.heap.size w t) :
    Calls Tryz.prog 32 #[.agg t.cells.toArray] w fun e w' => e = .returned (.int .i64 (treeErr t)) ∧ Below w.heap.size w w' := by
  obtain ⟨code, bmin, bmax, taped, gmin, gmax, wmin, wmax, sv, wv, dead, strips, wounds⟩ := t
  obtain ⟨hs, hw, _⟩ := h
  dsimp only at hs hw
  obtain ⟨sa, sn, sc, rfl⟩ := hs.slice
  obtain ⟨wa, wn, wc, rfl⟩ := hw.slice
  have ns := hs.count
  have nw := hw.count
  show Calls Tryz.prog _ #[.agg #[.string code, .int .i64 bmin, .int .i64 bmax, .int .i64 taped, .int .i64 gmin, .int .i64 gmax, .int .i64 wmin, .int .i64 wmax, .slice sa sn sc, .slice wa wn wc, .int .i64 dead]] _ _
  unfold treeErr measuredB
  dsimp only
  cases h0 : boundsB bmin bmax 0 300
  · exact refTree_0 code bmin bmax taped gmin gmax wmin wmax sa sn sc wa wn wc dead w h0
  cases h1 : inB taped 0 300
  · exact refTree_1 code bmin bmax taped gmin gmax wmin wmax sa sn sc wa wn wc dead w h0 h1
  cases h2 : boundsB gmin gmax 0 6000
  · exact refTree_2 code bmin bmax taped gmin gmax wmin wmax sa sn sc wa wn wc dead w h0 h1 h2
  cases h3 : boundsB wmin wmax 0 50
  · exact refTree_3 code bmin bmax taped gmin gmax wmin wmax sa sn sc wa wn wc dead w h0 h1 h2 h3
  cases h4 : inB dead (-1) 300
  · exact refTree_4 code bmin bmax taped gmin gmax wmin wmax sa sn sc wa wn wc dead w h0 h1 h2 h3 h4
  subst ns nw
  by_cases hn : strips.length > 10
  · have e : checkStrips strips = 2 := by unfold checkStrips; rw [if_pos hn]
    simp only [e]
    exact refTree_many code bmin bmax taped gmin gmax wmin wmax sa _ sc wa _ wc dead w h0 h1 h2 h3 h4 (by omega)
  · have e : checkStrips strips = stripsErr (-1) strips := by unfold checkStrips; rw [if_neg hn]
    simp only [e]
    exact refTree_some code bmin bmax taped gmin gmax wmin wmax sa sc wa wc dead strips wounds w h0 h1 h2 h3 h4 (by omega) hs hw
end Go.Proofs.YtnoofdjlocadbaaGreatDoor

/-! The document's own answers: the first error of a forest. -/
namespace Go.Proofs.YtnoofdjlocadbaaGreatDoor
open Go.RowKit

/-- Codes before a tree that are its own: those still to be looked at. -/
theorem same_hit (ts : List Tree) (i k : Nat) (hi : i < ts.length) (h : k < i) (b : Bool) (hb : b = ((ts.take i).drop k).any fun o => sameCode o ts[i]!) (hs : sameCode ts[k]! ts[i]! = true) : b = true := by
  have hk : k < (ts.take i).length := by simp; omega
  have e : (ts.take i)[k]! = ts[k]! := by rw [getElem!_pos _ k hk, getElem!_pos ts k (by omega)]; simp
  exact any_hit (fun o => sameCode o ts[i]!) (ts.take i) k hk b hb (by rw [e]; exact hs)
theorem same_miss (ts : List Tree) (i k : Nat) (hi : i < ts.length) (h : k < i) (b : Bool) (hb : b = ((ts.take i).drop k).any fun o => sameCode o ts[i]!) (hs : sameCode ts[k]! ts[i]! = false) : b = ((ts.take i).drop (k + 1)).any fun o => sameCode o ts[i]! := by
  have hk : k < (ts.take i).length := by simp; omega
  have e : (ts.take i)[k]! = ts[k]! := by rw [getElem!_pos _ k hk, getElem!_pos ts k (by omega)]; simp
  exact any_miss (fun o => sameCode o ts[i]!) (ts.take i) k hk b hb (by rw [e]; exact hs)
theorem same_end (ts : List Tree) (i k : Nat) (h : i ≤ k) (b : Bool) (hb : b = ((ts.take i).drop k).any fun o => sameCode o ts[i]!) : b = false :=
  any_end _ (ts.take i) k (by simp; omega) b hb

theorem check_code (es : List Tree) (t : Tree) (h : codeB t.code.data.toList = false) : checkTree es t = 4 := by simp [checkTree, h]
theorem check_same (es : List Tree) (t : Tree) (h : codeB t.code.data.toList = true) (h2 : (es.any fun o => sameCode o t) = true) : checkTree es t = 5 := by simp only [checkTree, h, if_true, h2]
theorem check_tree (es : List Tree) (t : Tree) (h : codeB t.code.data.toList = true) (h2 : (es.any fun o => sameCode o t) = false) : checkTree es t = treeErr t := by simp [checkTree, h, h2]

theorem trees_code (ts : List Tree) (k : Nat) (h : k < ts.length) (r : Int) (hr : r = treesErr (ts.take k) (ts.drop k)) (h1 : codeB ts[k]!.code.data.toList = false) : r = 4 := by
  have e := check_code (ts.take k) _ h1
  have := trees_bad ts k h r hr (by rw [e]; decide)
  rw [this, e]
theorem trees_same (ts : List Tree) (k : Nat) (h : k < ts.length) (r : Int) (hr : r = treesErr (ts.take k) (ts.drop k)) (h1 : codeB ts[k]!.code.data.toList = true) (h2 : ((ts.take k).any fun o => sameCode o ts[k]!) = true) : r = 5 := by
  have e := check_same (ts.take k) _ h1 h2
  have := trees_bad ts k h r hr (by rw [e]; decide)
  rw [this, e]
theorem trees_tree (ts : List Tree) (k : Nat) (h : k < ts.length) (r : Int) (hr : r = treesErr (ts.take k) (ts.drop k)) (h1 : codeB ts[k]!.code.data.toList = true) (h2 : ((ts.take k).any fun o => sameCode o ts[k]!) = false) (h3 : ¬ treeErr ts[k]! = 0) : r = treeErr ts[k]! := by
  have e := check_tree (ts.take k) _ h1 h2
  have := trees_bad ts k h r hr (by rw [e]; exact h3)
  rw [this, e]
theorem trees_next (ts : List Tree) (k : Nat) (h : k < ts.length) (r : Int) (hr : r = treesErr (ts.take k) (ts.drop k)) (h1 : codeB ts[k]!.code.data.toList = true) (h2 : ((ts.take k).any fun o => sameCode o ts[k]!) = false) (h3 : treeErr ts[k]! = 0) : r = treesErr (ts.take (k + 1)) (ts.drop (k + 1)) := by
  have e := check_tree (ts.take k) _ h1 h2
  exact trees_step ts k h r hr (by rw [e]; exact h3)

set_option maxRecDepth 100000 in
set_option maxHeartbeats 4000000 in
theorem refForest_some (age rest girth f0 f1 f2 heal : Int) (a : Option Addr) (c : Nat) (ts : List Tree) (w : World) (hl : (ts.length : Int) ≤ 20)
    (hlaw : lawB ⟨age, rest, girth, f0, f1, f2, heal⟩ = true) (hH : TreesHeld w.heap.size w (.slice a ts.length c) ts) :
    Calls Tryz.prog 12 #[.agg #[.int .i64 age, .int .i64 rest, .int .i64 girth, .int .i64 f0, .int .i64 f1, .int .i64 f2, .int .i64 heal, .slice a ts.length c]] w fun e w' => e = .returned (.int .i64 (treesErr [] ts)) ∧ Below w.heap.size w w' := by
  have hr : treesErr [] ts = treesErr (ts.take 0) (ts.drop 0) := rfl
  generalize treesErr [] ts = r at hr ⊢
  have HR := Lib.hid hr; clear hr
  have HH := Lib.hid hH; clear hH
  have hL := fun W => checkLaw_calls ⟨age, rest, girth, f0, f1, f2, heal⟩ W
  rw [hlaw, if_pos rfl] at hL
  clear hlaw
  simp only [Law.cells] at hL
  have HL := Lib.hid hL; clear hL
  go_enter Tryz.func12, Tryz.ntmps12
  go_wp2_with (go_at_call 30; refine (HL.out _).mono ?_; rintro e w1 ⟨rfl, hw1⟩; have hB1 := ((Below.refl _ w).alloc (Nat.le_refl _) _).trans (hw1.mono (by simp)); have hz1 : w.heap.size < w1.heap.size := (by (have := hw1.size; simp at this; omega)); obtain ⟨hc1, hf1⟩ := bcell hw1)
  have cT : w1.cell? ⟨w.heap.size, 7, none⟩ = some (.slice a ts.length c) := by rw [hc1 _ _ (by simp)]; simp
  clear hc1 hf1
  go_loopw [4] (fun i wr => ∃ k : Nat, k ≤ ts.length ∧ i = .int .i64 k ∧ Hid (r = treesErr (ts.take k) (ts.drop k)) ∧ Below w1.heap.size w1 wr) (fun i _ => ts.length - (intOf i).toNat)
  case atStart => exact ⟨0, by omega, rfl, HR, Below.refl _ _⟩
  case round =>
    clear HR
    obtain ⟨k, hk, rfl, HR, hB⟩ := hrel
    have cT' : wr.cell? ⟨w.heap.size, 7, none⟩ = some (.slice a ts.length c) := (hB.cell (p := ⟨w.heap.size, 7, none⟩) hz1).trans cT
    have hBw : Below w.heap.size w wr := hB1.trans (hB.mono (by omega))
    have hzr : w.heap.size < wr.heap.size := Nat.lt_of_lt_of_le hz1 hB.size
    by_cases hlt : k < ts.length
    · obtain ⟨b, off, rfl, hb, hc⟩ := HH.out.1.place hlt
      have HC := Lib.hid (fun (W : World) (hW : Below w.heap.size w W) j (hj : j < ts.length) i u (hu : (Tree.cells ts[j]!)[i]? = some u) => (hW.cell (p := ⟨b, off + j * 11 + i, none⟩) hb).trans (hc j hj i u hu))
      clear hc
      have hm : ts[k]! ∈ ts := by rw [getElem!_pos ts k hlt]; exact List.getElem_mem hlt
      have hHt : ∀ W, Below w.heap.size w W → TreeHeld W.heap.size W ts[k]! := fun W hW => ((HH.out.2 _ hm).below hW).mono hW.size
      have hcall : ∀ W, Below w.heap.size w W → Calls Tryz.prog 32 #[.agg (Tree.cells ts[k]!).toArray] W fun e w' => e = .returned (.int .i64 (treeErr ts[k]!)) ∧ Below W.heap.size W w' := fun W hW => refTree_calls ts[k]! W (hHt W hW)
      have cc : wr.cell? ⟨b, off + k * 11, none⟩ = some (.string ts[k]!.code) := HC.out wr hBw k hlt 0 _ rfl
      cases hcode : codeB ts[k]!.code.data.toList
      · have HS := Lib.hid (trees_code ts k hlt r HR.out hcode)
        have hcd := fun W => code_calls ts[k]!.code W
        rw [hcode] at hcd
        clear hcode hcall hHt
        generalize ts[k]!.code = s at cc hcd
        have HD := Lib.hid hcd; clear hcd
        go_wp2_with (go_at_call 31; refine (HD.out _).mono ?_; rintro e w2 ⟨rfl, rfl⟩)
        go_ret
        exact ⟨by rw [HS.out]; rfl, hBw⟩
      · have hcd := fun W => code_calls ts[k]!.code W
        rw [hcode] at hcd
        have hbb : ((ts.take k).any fun o => sameCode o ts[k]!) = (((ts.take k).drop 0).any fun o => sameCode o ts[k]!) := rfl
        generalize hbv : ((ts.take k).any fun o => sameCode o ts[k]!) = bb at hbb
        have HBV := Lib.hid hbv; clear hbv
        have HCO := Lib.hid hcode; clear hcode
        have hsx := (HH.out.2 _ hm).1.slice
        have hwx := (HH.out.2 _ hm).2.1.slice
        have HCX := Lib.hid (fun (W : World) (hW : Below w.heap.size w W) i u (hu : (Tree.cells ts[k]!)[i]? = some u) => HC.out W hW k hlt i u hu)
        obtain ⟨x, hx⟩ : ∃ x, ts[k]! = x := ⟨_, rfl⟩
        rw [hx] at cc hcd hcall hbb hsx hwx HCX
        have HX := Lib.hid hx; clear hx
        have HBB := Lib.hid hbb; clear hbb
        have HK := Lib.hid hcall; clear hcall hHt
        obtain ⟨code, bmin, bmax, taped, gmin, gmax, wmin, wmax, sv, wv, dead, strips, wounds⟩ := x
        dsimp only at cc hcd hsx hwx
        obtain ⟨sa, sn, sc, rfl⟩ := hsx
        obtain ⟨wa, wn, wc, rfl⟩ := hwx
        have HD := Lib.hid hcd; clear hcd
        go_wp2_with (go_at_call 31; refine (HD.out _).mono ?_; rintro e w2 ⟨rfl, rfl⟩)
        obtain ⟨wo, rfl⟩ : ∃ wo : World, wo = wr := ⟨_, rfl⟩
        go_loopw [5] (fun i wq => ∃ m : Nat, m ≤ k ∧ i = .int .i64 m ∧ Hid (bb = ((ts.take k).drop m).any fun o => sameCode o ⟨code, bmin, bmax, taped, gmin, gmax, wmin, wmax, .slice sa sn sc, .slice wa wn wc, dead, strips, wounds⟩) ∧ Below wo.heap.size wo wq) (fun i _ => k - (intOf i).toNat)
        case atStart => exact ⟨0, by omega, rfl, HBB, Below.refl _ _⟩
        case round =>
          clear HBB
          obtain ⟨m, hm2, rfl, HBB, hBq⟩ := hrel
          have hBqw : Below w.heap.size w wr := hBw.trans (hBq.mono (by omega))
          have cT2 : wr.cell? ⟨w.heap.size, 7, none⟩ = some (.slice (some ⟨b, off, none⟩) ts.length c) := (hBq.cell (p := ⟨w.heap.size, 7, none⟩) hzr).trans cT'
          have hB1q : Below w1.heap.size w1 wr := hB.trans (hBq.mono hB.size)
          by_cases hmk : m < k
          · have cm : wr.cell? ⟨b, off + m * 11, none⟩ = some (.string ts[m]!.code) := HC.out wr hBqw m (by omega) 0 _ rfl
            have ck : wr.cell? ⟨b, off + k * 11, none⟩ = some (.string code) := HCX.out wr hBqw 0 _ rfl
            clear cc cT' hB hBw hm
            cases hs : sameCode ts[m]! ⟨code, bmin, bmax, taped, gmin, gmax, wmin, wmax, .slice sa sn sc, .slice wa wn wc, dead, strips, wounds⟩
            · have hN := same_miss ts k m hlt hmk bb (by rw [HX.out]; exact HBB.out) (by rw [HX.out]; exact hs)
              rw [HX.out] at hN
              have HN := Lib.hid hN; clear hN
              have hs' : (ts[m]!.code.toList == code.toList) = false := hs
              clear hs
              generalize ts[m]!.code = sm at cm hs'
              go_wp2
              go_quiet (fail)
              go_wp2
              exact ⟨⟨m + 1, by omega, by go_num, HN, below_drewN hBq _⟩, by simp [intOf]; omega⟩
            · have hN := same_hit ts k m hlt hmk bb (by rw [HX.out]; exact HBB.out) (by rw [HX.out]; exact hs)
              have HS := Lib.hid (trees_same ts k hlt r HR.out HCO.out (HBV.out.trans hN))
              have hs' : (ts[m]!.code.toList == code.toList) = true := hs
              clear hs hN
              generalize ts[m]!.code = sm at cm hs'
              go_wp2
              go_quiet (fail)
              go_wp2
              go_ret
              exact ⟨by rw [HS.out]; rfl, below_drewN hBqw _⟩
          · obtain rfl : m = k := by omega
            have hN := same_end ts m m (Nat.le_refl _) bb (by rw [HX.out]; exact HBB.out)
            have hcall := HK.out wr hBqw
            have hany := HBV.out.trans hN
            have c0 : wr.cell? ⟨b, off + m * 11, none⟩ = some (Value.string code) := HCX.out wr hBqw 0 _ rfl
            have c1 : wr.cell? ⟨b, off + m * 11 + 1, none⟩ = some (Value.int .i64 bmin) := HCX.out wr hBqw 1 _ rfl
            have c2 : wr.cell? ⟨b, off + m * 11 + 2, none⟩ = some (Value.int .i64 bmax) := HCX.out wr hBqw 2 _ rfl
            have c3 : wr.cell? ⟨b, off + m * 11 + 3, none⟩ = some (Value.int .i64 taped) := HCX.out wr hBqw 3 _ rfl
            have c4 : wr.cell? ⟨b, off + m * 11 + 4, none⟩ = some (Value.int .i64 gmin) := HCX.out wr hBqw 4 _ rfl
            have c5 : wr.cell? ⟨b, off + m * 11 + 5, none⟩ = some (Value.int .i64 gmax) := HCX.out wr hBqw 5 _ rfl
            have c6 : wr.cell? ⟨b, off + m * 11 + 6, none⟩ = some (Value.int .i64 wmin) := HCX.out wr hBqw 6 _ rfl
            have c7 : wr.cell? ⟨b, off + m * 11 + 7, none⟩ = some (Value.int .i64 wmax) := HCX.out wr hBqw 7 _ rfl
            have c8 : wr.cell? ⟨b, off + m * 11 + 8, none⟩ = some (Value.slice sa sn sc) := HCX.out wr hBqw 8 _ rfl
            have c9 : wr.cell? ⟨b, off + m * 11 + 9, none⟩ = some (Value.slice wa wn wc) := HCX.out wr hBqw 9 _ rfl
            have c10 : wr.cell? ⟨b, off + m * 11 + 10, none⟩ = some (Value.int .i64 dead) := HCX.out wr hBqw 10 _ rfl
            clear cc HD HBB HBV hN HCX hm
            simp only [Tree.cells] at hcall
            by_cases hn : treeErr ts[m]! = 0
            · have HS := Lib.hid (trees_next ts m hlt r HR.out HCO.out hany hn)
              rw [HX.out] at hn
              rw [hn] at hcall
              have HCALL := Lib.hid hcall
              clear hany hn HR HCO HK HX hcall
              go_wp2_with (go_at_call 32; refine HCALL.out.mono ?_; rintro e w2 ⟨rfl, hw2⟩)
              exact ⟨⟨m + 1, by omega, by go_num, HS, hB1q.trans (hw2.mono hB1q.size)⟩, by simp [intOf]; omega⟩
            · have hS := trees_tree ts m hlt r HR.out HCO.out hany hn
              rw [HX.out] at hS hn
              generalize treeErr _ = n at hcall hS hn
              have hnb : (n != 0) = true := by simpa using hn
              have HS := Lib.hid hS
              have HCALL := Lib.hid hcall
              clear hany hn HR HCO HK HX hcall hS
              go_wp2_with (go_at_call 32; refine HCALL.out.mono ?_; rintro e w2 ⟨rfl, hw2⟩)
              go_ret
              exact ⟨by rw [HS.out]; rfl, hBqw.trans (hw2.mono hBqw.size)⟩
    · have HS := Lib.hid (trees_end ts k (by omega) r HR.out)
      have hge : ts.length ≤ k := by omega
      go_wp2
      go_ret
      exact ⟨by rw [HS.out]; rfl, hBw⟩

set_option maxHeartbeats 1000000 in
theorem refForest_law (age rest girth f0 f1 f2 heal : Int) (a : Option Addr) (n c : Nat) (w : World) (hlaw : lawB ⟨age, rest, girth, f0, f1, f2, heal⟩ = false) :
    Calls Tryz.prog 12 #[.agg #[.int .i64 age, .int .i64 rest, .int .i64 girth, .int .i64 f0, .int .i64 f1, .int .i64 f2, .int .i64 heal, .slice a n c]] w fun e w' => e = .returned (.int .i64 1) ∧ Below w.heap.size w w' := by
  have hL := fun W => checkLaw_calls ⟨age, rest, girth, f0, f1, f2, heal⟩ W
  rw [hlaw, if_neg (by decide)] at hL
  clear hlaw
  simp only [Law.cells] at hL
  have HL := Lib.hid hL; clear hL
  go_enter Tryz.func12, Tryz.ntmps12
  go_wp2_with (go_at_call 30; refine (HL.out _).mono ?_; rintro e w1 ⟨rfl, hw1⟩; have hB1 := ((Below.refl _ w).alloc (Nat.le_refl _) _).trans (hw1.mono (by simp)); clear hw1)
  go_ret
  exact ⟨rfl, hB1⟩

set_option maxHeartbeats 1000000 in
theorem refForest_many (age rest girth f0 f1 f2 heal : Int) (a : Option Addr) (n c : Nat) (w : World) (hlaw : lawB ⟨age, rest, girth, f0, f1, f2, heal⟩ = true) (hn : (20 : Int) < (n : Int)) :
    Calls Tryz.prog 12 #[.agg #[.int .i64 age, .int .i64 rest, .int .i64 girth, .int .i64 f0, .int .i64 f1, .int .i64 f2, .int .i64 heal, .slice a n c]] w fun e w' => e = .returned (.int .i64 2) ∧ Below w.heap.size w w' := by
  have hL := fun W => checkLaw_calls ⟨age, rest, girth, f0, f1, f2, heal⟩ W
  rw [hlaw, if_pos rfl] at hL
  clear hlaw
  simp only [Law.cells] at hL
  have HL := Lib.hid hL; clear hL
  go_enter Tryz.func12, Tryz.ntmps12
  go_wp2_with (go_at_call 30; refine (HL.out _).mono ?_; rintro e w1 ⟨rfl, hw1⟩; have hB1 := ((Below.refl _ w).alloc (Nat.le_refl _) _).trans (hw1.mono (by simp)); have c7 := (hw1.cell (p := ⟨w.heap.size, 7, none⟩) (by simp)).trans (show _ = some (Value.slice a n c) from by go_simp); clear hw1)
  go_ret
  exact ⟨rfl, hB1⟩

theorem refForest_calls (f : Forest) (w : World) (h : TreesHeld w.heap.size w f.tv f.trees) :
    Calls Tryz.prog 12 #[.agg f.cells.toArray] w fun e w' => e = .returned (.int .i64 (checkForest f)) ∧ Below w.heap.size w w' := by
  obtain ⟨⟨age, rest, girth, f0, f1, f2, heal⟩, tv, ts⟩ := f
  dsimp only at h
  obtain ⟨a, n, c, rfl⟩ := h.1.slice
  have hn := h.1.count
  subst hn
  simp only [Forest.cells, checkForest]
  cases hlaw : lawB ⟨age, rest, girth, f0, f1, f2, heal⟩
  · exact refForest_law age rest girth f0 f1 f2 heal a _ c w hlaw
  · rw [if_pos rfl]
    by_cases hl : ts.length > 20
    · rw [if_pos hl]
      exact refForest_many age rest girth f0 f1 f2 heal a _ c w hlaw (by omega)
    · rw [if_neg hl]
      exact refForest_some age rest girth f0 f1 f2 heal a c ts w (by omega) hlaw h

end Go.Proofs.YtnoofdjlocadbaaGreatDoor

/-! Whether a forest is more than the statements examine: some answer, and nothing that was there is changed. -/
namespace Go.Proofs.YtnoofdjlocadbaaGreatDoor
open Go.RowKit

/-- Some answer. -/
def SomeBool (w : World) (e : Ending) (w' : World) : Prop := ∃ b : Bool, e = .returned (.bool b) ∧ Below w.heap.size w w'

set_option maxRecDepth 100000 in
set_option maxHeartbeats 2000000 in
theorem great_much (age rest girth f0 f1 f2 heal : Int) (a : Option Addr) (n c : Nat) (w : World) (hn : 6 < (n : Int) ∧ (n : Int) ≤ 20 ∨ 40 < (n : Int)) :
    Calls Tryz.prog 5 #[.agg #[.int .i64 age, .int .i64 rest, .int .i64 girth, .int .i64 f0, .int .i64 f1, .int .i64 f2, .int .i64 heal, .slice a n c]] w (SomeBool w) := by
  rcases hn with ⟨h1, h2⟩ | h1
  · go_enter Tryz.func5, Tryz.ntmps5
    go_wp2
    go_ret
    exact ⟨true, rfl, (Below.refl _ _).alloc (Nat.le_refl _) _⟩
  · have h2 : 6 < (n : Int) := by omega
    have h3 : 20 < (n : Int) := by omega
    go_enter Tryz.func5, Tryz.ntmps5
    go_wp2
    go_ret
    exact ⟨true, rfl, (Below.refl _ _).alloc (Nat.le_refl _) _⟩

set_option maxRecDepth 100000 in
set_option maxHeartbeats 4000000 in
theorem great_loop (age rest girth f0 f1 f2 heal : Int) (a : Option Addr) (c : Nat) (ts : List Tree) (w : World) (hn : (ts.length : Int) ≤ 6 ∨ 20 < (ts.length : Int) ∧ (ts.length : Int) ≤ 40) (hH : TreesHeld w.heap.size w (.slice a ts.length c) ts) :
    Calls Tryz.prog 5 #[.agg #[.int .i64 age, .int .i64 rest, .int .i64 girth, .int .i64 f0, .int .i64 f1, .int .i64 f2, .int .i64 heal, .slice a ts.length c]] w (SomeBool w) := by
  have HH := Lib.hid hH; clear hH
  have hmax : (ts.length : Int) ≤ 40 := by omega
  have h0 : (decide (6 < (ts.length : Int)) = true ∧ decide ((ts.length : Int) ≤ 20) = false) ∨ decide (6 < (ts.length : Int)) = false := by
    rcases hn with h | ⟨h, _⟩
    · exact .inr (by simp; omega)
    · exact .inl ⟨by simp; omega, by simp; omega⟩
  clear hn
  rcases h0 with ⟨h1, h2⟩ | h1
  all_goals
    go_enter Tryz.func5, Tryz.ntmps5
    go_wp2
    go_loopw [3] (fun i wr => ∃ k : Nat, k ≤ ts.length ∧ i = .int .i64 k ∧ Below w.heap.size w wr ∧ wr.cell? ⟨w.heap.size, 7, none⟩ = some (.slice a ts.length c)) (fun i _ => ts.length - (intOf i).toNat)
    case atStart => exact ⟨0, by omega, rfl, (Below.refl _ _).alloc (Nat.le_refl _) _, by go_simp⟩
    case round =>
      obtain ⟨k, hk, rfl, hB, c7⟩ := hrel
      by_cases hlt : k < ts.length
      · obtain ⟨b, off, rfl, hb, hc⟩ := HH.out.1.place hlt
        have HC := Lib.hid (fun i u (hu : (Tree.cells ts[k]!)[i]? = some u) => (hB.cell (p := ⟨b, off + k * 11 + i, none⟩) hb).trans (hc k hlt i u hu))
        clear hc
        have hm : ts[k]! ∈ ts := by rw [getElem!_pos ts k hlt]; exact List.getElem_mem hlt
        have hsx := (HH.out.2 _ hm).1.slice
        have hwx := (HH.out.2 _ hm).2.1.slice
        clear hm
        generalize ts[k]! = x at HC hsx hwx
        obtain ⟨code, bmin, bmax, taped, gmin, gmax, wmin, wmax, sv, wv, dead, strips, wounds⟩ := x
        dsimp only at hsx hwx
        obtain ⟨sa, sn, sc, rfl⟩ := hsx
        obtain ⟨wa, wn, wc, rfl⟩ := hwx
        have c0 : wr.cell? ⟨b, off + k * 11, none⟩ = some (Value.string code) := HC.out 0 _ rfl
        have c8 : wr.cell? ⟨b, off + k * 11 + 8, none⟩ = some (Value.slice sa sn sc) := HC.out 8 _ rfl
        have c9 : wr.cell? ⟨b, off + k * 11 + 9, none⟩ = some (Value.slice wa wn wc) := HC.out 9 _ rfl
        clear HC
        by_cases g1 : (50 : Int) < (sn : Int)
        · go_wp2
          go_ret
          exact ⟨true, rfl, hB⟩
        · by_cases g2 : (50 : Int) < (wn : Int)
          · go_wp2
            go_ret
            exact ⟨true, rfl, hB⟩
          · by_cases g3 : (100 : Int) < (code.size : Int)
            · go_wp2
              go_ret
              exact ⟨true, rfl, hB⟩
            · go_wp2
              exact ⟨⟨k + 1, by omega, by go_num, hB, c7⟩, by simp [intOf]; omega⟩
      · have hge : ts.length ≤ k := by omega
        go_wp2
        go_ret
        exact ⟨false, rfl, hB⟩

theorem great_calls (f : Forest) (w : World) (h : TreesHeld w.heap.size w f.tv f.trees) : Calls Tryz.prog 5 #[.agg f.cells.toArray] w (SomeBool w) := by
  obtain ⟨⟨age, rest, girth, f0, f1, f2, heal⟩, tv, ts⟩ := f
  dsimp only at h
  obtain ⟨a, n, c, rfl⟩ := h.1.slice
  have hn := h.1.count
  subst hn
  simp only [Forest.cells]
  by_cases hl : 6 < (ts.length : Int) ∧ (ts.length : Int) ≤ 20 ∨ 40 < (ts.length : Int)
  · exact great_much age rest girth f0 f1 f2 heal a _ c w hl
  · exact great_loop age rest girth f0 f1 f2 heal a c ts w (by omega) h
end Go.Proofs.YtnoofdjlocadbaaGreatDoor
