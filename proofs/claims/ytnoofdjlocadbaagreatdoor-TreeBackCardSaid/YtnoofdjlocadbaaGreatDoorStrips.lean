/- A tree's strips and wounds: the first error of either. -/
import Derived.Test.YtnoofdjlocadbaaGreatDoorLeaf
import Derived.Lib.Hide
namespace Go.Proofs.YtnoofdjlocadbaaGreatDoor
open Go.RowKit

theorem drop_get {α : Type} [Inhabited α] (l : List α) (k : Nat) (h : k < l.length) : l.drop k = l[k]! :: l.drop (k + 1) := by
  rw [List.drop_eq_getElem_cons h, getElem!_pos l k h]

theorem strips_bad (l : Int) (xs : List (Int × Int)) (k : Nat) (h : k < xs.length) (r : Int) (hr : r = stripsErr l (xs.drop k)) (h1 : (inB xs[k]!.1 0 300 && inB xs[k]!.2 1 15000) = false) : r = 1 := by
  rw [hr, drop_get xs k h]; simp only [stripsErr]; rw [if_neg (by rw [h1]; simp)]
theorem strips_order (l : Int) (xs : List (Int × Int)) (k : Nat) (h : k < xs.length) (r : Int) (hr : r = stripsErr l (xs.drop k)) (h1 : (inB xs[k]!.1 0 300 && inB xs[k]!.2 1 15000) = true) (h2 : xs[k]!.1 ≤ l) : r = 7 := by
  rw [hr, drop_get xs k h]; simp only [stripsErr]; rw [if_pos h1, if_pos h2]
theorem strips_step (l : Int) (xs : List (Int × Int)) (k : Nat) (h : k < xs.length) (r : Int) (hr : r = stripsErr l (xs.drop k)) (h1 : (inB xs[k]!.1 0 300 && inB xs[k]!.2 1 15000) = true) (h2 : l < xs[k]!.1) : r = stripsErr xs[k]!.1 (xs.drop (k + 1)) := by
  rw [hr, drop_get xs k h]; simp only [stripsErr]; rw [if_pos h1, if_neg (by omega)]
theorem strips_end (l : Int) (xs : List (Int × Int)) (k : Nat) (h : xs.length ≤ k) (r : Int) (hr : r = stripsErr l (xs.drop k)) : r = 0 := by
  rw [hr, List.drop_eq_nil_of_le h]; rfl

set_option maxHeartbeats 2000000 in
theorem checkStrips_some (b off c : Nat) (xs : List (Int × Int)) (w : World) (hb : b < w.heap.size) (hl : xs.length ≤ 10)
    (hc : ∀ j, j < xs.length → ∀ i u, (stripCells xs[j]!)[i]? = some u → w.cell? ⟨b, off + j * 2 + i, none⟩ = some u) :
    Calls Tryz.prog 79 #[.slice (some ⟨b, off, none⟩) xs.length c] w fun e w' => e = .returned (.int .i64 (stripsErr (-1) xs)) ∧ Below w.heap.size w w' := by
  have hl' : (xs.length : Int) ≤ 10 := by omega
  have hr : stripsErr (-1) xs = stripsErr (-1) (xs.drop 0) := rfl
  generalize stripsErr (-1) xs = r at hr ⊢
  have HR := Lib.hid hr; clear hr
  have HC := Lib.hid hc; clear hc
  go_enter Tryz.func79, Tryz.ntmps79
  go_wp2
  go_loopw [3, 11] (fun last i wr => ∃ (k : Nat) (l : Int), k ≤ xs.length ∧ i = .int .i64 k ∧ last = .int .i64 l ∧ Hid (r = stripsErr l (xs.drop k)) ∧ Below w.heap.size w wr) (fun _ i _ => xs.length - (intOf i).toNat)
  case atStart => exact ⟨0, -1, by omega, rfl, rfl, HR, Below.refl _ _⟩
  case round =>
    clear HR
    obtain ⟨k, l, hk, rfl, rfl, HR, hB⟩ := hrel
    by_cases hlt : k < xs.length
    · have c0 : wr.cell? ⟨b, off + k * 2, none⟩ = some (.int .i64 xs[k]!.1) := (hB.cell (p := ⟨b, off + k * 2, none⟩) hb).trans (HC.out k hlt 0 _ rfl)
      have c1 : wr.cell? ⟨b, off + k * 2 + 1, none⟩ = some (.int .i64 xs[k]!.2) := (hB.cell (p := ⟨b, off + k * 2 + 1, none⟩) hb).trans (HC.out k hlt 1 _ rfl)
      have hn := hB.size
      generalize hx : xs[k]! = x at c0 c1
      have HX := Lib.hid hx; clear hx
      obtain ⟨y, h⟩ := x
      dsimp only at c0 c1
      cases h1 : inB y 0 300
      · have HS := Lib.hid (strips_bad l xs k hlt r HR.out (by rw [HX.out, h1]; rfl))
        go_wp2_with (first | (go_at_call 58; refine (isYear_calls _ _).mono ?_; rintro e w' ⟨rfl, rfl⟩) | (go_at_call 59; refine (isHeight_calls _ _).mono ?_; rintro e w' ⟨rfl, rfl⟩))
        go_ret
        exact ⟨by rw [HS.out]; rfl, hB.alloc hn _⟩
      · cases h2 : inB h 1 15000
        · have HS := Lib.hid (strips_bad l xs k hlt r HR.out (by rw [HX.out, h1, h2]; rfl))
          go_wp2_with (first | (go_at_call 58; refine (isYear_calls _ _).mono ?_; rintro e w' ⟨rfl, rfl⟩) | (go_at_call 59; refine (isHeight_calls _ _).mono ?_; rintro e w' ⟨rfl, rfl⟩))
          go_ret
          exact ⟨by rw [HS.out]; rfl, hB.alloc hn _⟩
        · by_cases h3 : y ≤ l
          · have HS := Lib.hid (strips_order l xs k hlt r HR.out (by rw [HX.out, h1, h2]; rfl) (by rw [HX.out]; exact h3))
            go_wp2_with (first | (go_at_call 58; refine (isYear_calls _ _).mono ?_; rintro e w' ⟨rfl, rfl⟩) | (go_at_call 59; refine (isHeight_calls _ _).mono ?_; rintro e w' ⟨rfl, rfl⟩))
            go_ret
            exact ⟨by rw [HS.out]; rfl, hB.alloc hn _⟩
          · have h3' : l < y := by omega
            have HS := Lib.hid (strips_step l xs k hlt r HR.out (by rw [HX.out, h1, h2]; rfl) (by rw [HX.out]; exact h3'))
            go_wp2_with (first | (go_at_call 58; refine (isYear_calls _ _).mono ?_; rintro e w' ⟨rfl, rfl⟩) | (go_at_call 59; refine (isHeight_calls _ _).mono ?_; rintro e w' ⟨rfl, rfl⟩))
            exact ⟨⟨k + 1, y, by omega, by go_num, rfl, by rw [HX.out] at HS; exact HS, hB.alloc hn _⟩, by simp [intOf]; omega⟩
    · have HS := Lib.hid (strips_end l xs k (by omega) r HR.out)
      have hge : xs.length ≤ k := by omega
      go_wp2
      go_ret
      exact ⟨by rw [HS.out]; rfl, hB⟩

set_option maxHeartbeats 1000000 in
theorem checkStrips_nil (a : Option Addr) (c : Nat) (w : World) :
    Calls Tryz.prog 79 #[.slice a 0 c] w fun e w' => e = .returned (.int .i64 0) ∧ w = w' := by
  go_enter Tryz.func79, Tryz.ntmps79
  go_wp2
  refine wp_loop_rounds 1 ?_
  rw [rounds_succ]
  go_wp2
  go_ret
  exact ⟨rfl, rfl⟩

set_option maxHeartbeats 1000000 in
theorem checkStrips_many (a : Option Addr) (n c : Nat) (w : World) (h : (10 : Int) < (n : Int)) :
    Calls Tryz.prog 79 #[.slice a n c] w fun e w' => e = .returned (.int .i64 2) ∧ w = w' := by
  go_enter Tryz.func79, Tryz.ntmps79
  go_wp2
  go_ret
  exact ⟨rfl, rfl⟩

theorem checkStrips_calls {v : Value} {xs : List (Int × Int)} {w : World} (h : Held w.heap.size w 2 stripCells v xs) :
    Calls Tryz.prog 79 #[v] w fun e w' => e = .returned (.int .i64 (checkStrips xs)) ∧ Below w.heap.size w w' := by
  unfold checkStrips
  rcases h with ⟨⟨a, c, rfl⟩, rfl⟩ | ⟨b, off, c, rfl, hb, _, hc⟩
  · exact (checkStrips_nil a c w).mono fun _ _ ⟨he, hw⟩ => ⟨he, hw ▸ Below.refl _ _⟩
  · by_cases hl : xs.length > 10
    · rw [if_pos hl]
      exact (checkStrips_many _ _ c w (by omega)).mono fun _ _ ⟨he, hw⟩ => ⟨he, hw ▸ Below.refl _ _⟩
    · rw [if_neg hl]
      exact checkStrips_some b off c xs w hb (by omega) hc

theorem wounds_bad (l : Int) (xs : List Int) (k : Nat) (h : k < xs.length) (r : Int) (hr : r = woundsErr l (xs.drop k)) (h1 : inB xs[k]! 0 300 = false) : r = 1 := by
  rw [hr, drop_get xs k h]; simp only [woundsErr]; rw [if_neg (by rw [h1]; simp)]
theorem wounds_order (l : Int) (xs : List Int) (k : Nat) (h : k < xs.length) (r : Int) (hr : r = woundsErr l (xs.drop k)) (h1 : inB xs[k]! 0 300 = true) (h2 : xs[k]! ≤ l) : r = 7 := by
  rw [hr, drop_get xs k h]; simp only [woundsErr]; rw [if_pos h1, if_pos h2]
theorem wounds_step (l : Int) (xs : List Int) (k : Nat) (h : k < xs.length) (r : Int) (hr : r = woundsErr l (xs.drop k)) (h1 : inB xs[k]! 0 300 = true) (h2 : l < xs[k]!) : r = woundsErr xs[k]! (xs.drop (k + 1)) := by
  rw [hr, drop_get xs k h]; simp only [woundsErr]; rw [if_pos h1, if_neg (by omega)]
theorem wounds_end (l : Int) (xs : List Int) (k : Nat) (h : xs.length ≤ k) (r : Int) (hr : r = woundsErr l (xs.drop k)) : r = 0 := by
  rw [hr, List.drop_eq_nil_of_le h]; rfl

set_option maxHeartbeats 2000000 in
theorem checkWounds_some (b off c : Nat) (xs : List Int) (w : World) (hl : xs.length ≤ 10)
    (hc : ∀ j, j < xs.length → w.cell? ⟨b, off + j, none⟩ = some (.int .i64 xs[j]!)) :
    Calls Tryz.prog 80 #[.slice (some ⟨b, off, none⟩) xs.length c] w fun e w' => e = .returned (.int .i64 (woundsErr (-1) xs)) ∧ w = w' := by
  have hl' : (xs.length : Int) ≤ 10 := by omega
  have hr : woundsErr (-1) xs = woundsErr (-1) (xs.drop 0) := rfl
  generalize woundsErr (-1) xs = r at hr ⊢
  have HR := Lib.hid hr; clear hr
  have HC := Lib.hid hc; clear hc
  go_enter Tryz.func80, Tryz.ntmps80
  go_wp2
  go_loop [3, 11] (fun last i => ∃ (k : Nat) (l : Int), k ≤ xs.length ∧ i = .int .i64 k ∧ last = .int .i64 l ∧ Hid (r = woundsErr l (xs.drop k))) (fun _ i => xs.length - (intOf i).toNat)
  case atStart => exact ⟨0, -1, by omega, rfl, rfl, HR⟩
  case round =>
    clear HR
    obtain ⟨k, l, hk, rfl, rfl, HR⟩ := hrel
    by_cases hlt : k < xs.length
    · have c0 : w.cell? ⟨b, off + k, none⟩ = some (.int .i64 xs[k]!) := HC.out k hlt
      generalize hx : xs[k]! = y at c0
      have HX := Lib.hid hx; clear hx
      cases h1 : inB y 0 300
      · have HS := Lib.hid (wounds_bad l xs k hlt r HR.out (by rw [HX.out, h1]))
        go_wp2_with (first | (go_at_call 58; refine (isYear_calls _ _).mono ?_; rintro e w' ⟨rfl, rfl⟩) | (go_at_call 59; refine (isHeight_calls _ _).mono ?_; rintro e w' ⟨rfl, rfl⟩))
        go_ret
        exact ⟨by rw [HS.out]; rfl, rfl⟩
      · by_cases h3 : y ≤ l
        · have HS := Lib.hid (wounds_order l xs k hlt r HR.out (by rw [HX.out, h1]) (by rw [HX.out]; exact h3))
          go_wp2_with (first | (go_at_call 58; refine (isYear_calls _ _).mono ?_; rintro e w' ⟨rfl, rfl⟩) | (go_at_call 59; refine (isHeight_calls _ _).mono ?_; rintro e w' ⟨rfl, rfl⟩))
          go_ret
          exact ⟨by rw [HS.out]; rfl, rfl⟩
        · have h3' : l < y := by omega
          have HS := Lib.hid (wounds_step l xs k hlt r HR.out (by rw [HX.out, h1]) (by rw [HX.out]; exact h3'))
          go_wp2_with (first | (go_at_call 58; refine (isYear_calls _ _).mono ?_; rintro e w' ⟨rfl, rfl⟩) | (go_at_call 59; refine (isHeight_calls _ _).mono ?_; rintro e w' ⟨rfl, rfl⟩))
          exact ⟨⟨k + 1, y, by omega, by go_num, rfl, by rw [HX.out] at HS; exact HS⟩, by simp [intOf]; omega⟩
    · have HS := Lib.hid (wounds_end l xs k (by omega) r HR.out)
      have hge : xs.length ≤ k := by omega
      go_wp2
      go_ret
      exact ⟨by rw [HS.out]; rfl, rfl⟩

set_option maxHeartbeats 1000000 in
theorem checkWounds_nil (a : Option Addr) (c : Nat) (w : World) :
    Calls Tryz.prog 80 #[.slice a 0 c] w fun e w' => e = .returned (.int .i64 0) ∧ w = w' := by
  go_enter Tryz.func80, Tryz.ntmps80
  go_wp2
  refine wp_loop_rounds 1 ?_
  rw [rounds_succ]
  go_wp2
  go_ret
  exact ⟨rfl, rfl⟩

set_option maxHeartbeats 1000000 in
theorem checkWounds_many (a : Option Addr) (n c : Nat) (w : World) (h : (10 : Int) < (n : Int)) :
    Calls Tryz.prog 80 #[.slice a n c] w fun e w' => e = .returned (.int .i64 2) ∧ w = w' := by
  go_enter Tryz.func80, Tryz.ntmps80
  go_wp2
  go_ret
  exact ⟨rfl, rfl⟩

theorem checkWounds_calls {B : Nat} {v : Value} {xs : List Int} {w : World} (h : Held B w 1 intCells v xs) :
    Calls Tryz.prog 80 #[v] w fun e w' => e = .returned (.int .i64 (checkWounds xs)) ∧ w = w' := by
  unfold checkWounds
  rcases h with ⟨⟨a, c, rfl⟩, rfl⟩ | ⟨b, off, c, rfl, hb, _, hc⟩
  · exact checkWounds_nil a c w
  · by_cases hl : xs.length > 10
    · rw [if_pos hl]
      exact checkWounds_many _ _ c w (by omega)
    · rw [if_neg hl]
      exact checkWounds_some b off c xs w (by omega) fun j hj => by have := hc j hj 0 _ rfl; rwa [Nat.mul_one, Nat.add_zero] at this
end Go.Proofs.YtnoofdjlocadbaaGreatDoor
