/- The judgements of rest and of healing: searches among strips and wounds. -/
import Derived.Test.YtajbflepjpgnbaaJudge
namespace Go.Proofs.Ytajbflepjpgnbaa
open Go.RowKit

def nearB (year rest : Int) (s : Int × Int) : Bool := decide (max (year - s.1) (s.1 - year) < rest)
def freshB (year heal w : Int) : Bool := decide (0 ≤ year - w ∧ year - w < heal)

set_option maxHeartbeats 1000000 in
theorem near_calls (y h year rest : Int) (B : Nat) (w : World) (hB : B < w.heap.size) (hy0 : 0 ≤ year) (hy1 : year ≤ 300) (hs0 : 0 ≤ y) (hs1 : y ≤ 300)
    (cy : w.cell? ⟨B, 18, none⟩ = some (.int .i64 year)) (cr : w.cell? ⟨B, 1, none⟩ = some (.int .i64 rest)) :
    Calls Try.prog 99 (#[.agg #[.int .i64 y, .int .i64 h]] ++ #[.pointer (some ⟨B, 0, none⟩)]) w fun e w' => e = .returned (.bool (nearB year rest (y, h))) ∧ Below w.heap.size w w' := by
  have hne : B ≠ w.heap.size := by omega
  unfold nearB
  dsimp only
  show Calls Try.prog _ #[.agg #[.int .i64 y, .int .i64 h], .pointer (some ⟨B, 0, none⟩)] _ _
  by_cases hc : year - y < y - year
  · rw [Int.max_eq_right (show year - y ≤ y - year by omega)]
    go_enter Try.func99, Try.ntmps99
    go_wp2
    go_ret
    exact ⟨rfl, (by repeat (first | exact Below.refl _ _ | refine Below.alloc ?_ (by simp <;> omega) _))⟩
  · rw [Int.max_eq_left (show y - year ≤ year - y by omega)]
    have hc' : y - year ≤ year - y := by omega
    go_enter Try.func99, Try.ntmps99
    go_wp2
    go_ret
    exact ⟨rfl, (by repeat (first | exact Below.refl _ _ | refine Below.alloc ?_ (by simp <;> omega) _))⟩

set_option maxHeartbeats 2000000 in
theorem indexStrip (year rest : Int) (B b off c : Nat) (xs : List (Int × Int)) (w : World) (hB : B < w.heap.size) (hb : b < w.heap.size) (hl : xs.length ≤ 140737488355328) (hy0 : 0 ≤ year) (hy1 : year ≤ 300) (hx : ∀ s ∈ xs, 0 ≤ s.1 ∧ s.1 ≤ 300)
    (cy : w.cell? ⟨B, 18, none⟩ = some (.int .i64 year)) (cr : w.cell? ⟨B, 1, none⟩ = some (.int .i64 rest))
    (hc : ∀ j, j < xs.length → ∀ i u, (stripCells xs[j]!)[i]? = some u → w.cell? ⟨b, off + j * 2 + i, none⟩ = some u) :
    Calls Try.prog 107 #[.slice (some ⟨b, off, none⟩) xs.length c, .func (.func 99) #[] #[.pointer (some ⟨B, 0, none⟩)]] w (SomeIdx (xs.any (nearB year rest)) w) := by
  have hl' : (xs.length : Int) ≤ 140737488355328 := by omega
  have hr : xs.any (nearB year rest) = (xs.drop 0).any (nearB year rest) := rfl
  generalize xs.any (nearB year rest) = r at hr ⊢
  have HR := Lib.hid hr; clear hr
  have HC := Lib.hid hc; clear hc
  have HY := Lib.hid cy; clear cy
  have HE := Lib.hid cr; clear cr
  have HX := Lib.hid hx; clear hx
  go_enter Try.func107, Try.ntmps107
  go_wp2
  go_loopw [8] (fun i wr => ∃ k : Nat, k ≤ xs.length ∧ i = .int .i64 k ∧ Hid (r = (xs.drop k).any (nearB year rest)) ∧ Below w.heap.size w wr) (fun i _ => xs.length - (intOf i).toNat)
  case atStart => exact ⟨0, by omega, rfl, HR, Below.refl _ _⟩
  case round =>
    clear HR
    obtain ⟨k, hk, rfl, HR, hB'⟩ := hrel
    by_cases hlt : k < xs.length
    · have c0 : wr.cell? ⟨b, off + k * 2, none⟩ = some (.int .i64 xs[k]!.1) := (hB'.cell (p := ⟨b, off + k * 2, none⟩) hb).trans (HC.out k hlt 0 _ rfl)
      have c1 : wr.cell? ⟨b, off + k * 2 + 1, none⟩ = some (.int .i64 xs[k]!.2) := (hB'.cell (p := ⟨b, off + k * 2 + 1, none⟩) hb).trans (HC.out k hlt 1 _ rfl)
      obtain ⟨m0, m1⟩ := HX.out xs[k]! (by rw [getElem!_pos xs k hlt]; exact List.getElem_mem hlt)
      have hcall := near_calls xs[k]!.1 xs[k]!.2 year rest B wr (Nat.lt_of_lt_of_le hB hB'.size) hy0 hy1 m0 m1 ((hB'.cell (p := ⟨B, 18, none⟩) hB).trans HY.out) ((hB'.cell (p := ⟨B, 1, none⟩) hB).trans HE.out)
      clear m0 m1
      cases hs : nearB year rest xs[k]!
      · have HS := Lib.hid (any_miss (nearB year rest) xs k hlt r HR.out hs)
        rw [show (xs[k]!.1, xs[k]!.2) = xs[k]! from rfl, hs] at hcall
        clear hs
        generalize xs[k]!.1 = y at c0 hcall
        generalize xs[k]!.2 = h at c1 hcall
        have HK := Lib.hid hcall; clear hcall
        go_wp2_with (go_at_call 99; refine HK.out.mono ?_; rintro e w' ⟨rfl, hw⟩)
        exact ⟨⟨k + 1, by omega, by go_num, HS, hB'.trans (hw.mono hB'.size)⟩, by simp [intOf]; omega⟩
      · have HS := Lib.hid (any_hit (nearB year rest) xs k hlt r HR.out hs)
        rw [show (xs[k]!.1, xs[k]!.2) = xs[k]! from rfl, hs] at hcall
        clear hs
        generalize xs[k]!.1 = y at c0 hcall
        generalize xs[k]!.2 = h at c1 hcall
        have HK := Lib.hid hcall; clear hcall
        go_wp2_with (go_at_call 99; refine HK.out.mono ?_; rintro e w' ⟨rfl, hw⟩)
        go_ret
        exact ⟨k, rfl, Lib.hid (by rw [HS.out]; simp), hB'.trans (hw.mono hB'.size)⟩
    · have HS := Lib.hid (any_end (nearB year rest) xs k (by omega) r HR.out)
      have hge : xs.length ≤ k := by omega
      go_wp2
      go_ret
      exact ⟨-1, rfl, Lib.hid (by rw [HS.out]; simp), hB'⟩

set_option maxHeartbeats 1000000 in
theorem indexStrip_nil (a : Option Addr) (c : Nat) (g : Value) (w : World) :
    Calls Try.prog 107 #[.slice a 0 c, g] w fun e w' => e = .returned (.int .i64 (-1)) ∧ w = w' := by
  go_enter Try.func107, Try.ntmps107
  go_wp2
  refine wp_loop_rounds 1 ?_
  rw [rounds_succ]
  go_wp2
  go_ret
  exact ⟨rfl, rfl⟩

set_option maxHeartbeats 1000000 in
theorem containsStrip {v : Value} (year rest : Int) (B D : Nat) (xs : List (Int × Int)) (w : World) (hB : B < w.heap.size) (hD : D ≤ w.heap.size) (hy0 : 0 ≤ year) (hy1 : year ≤ 300) (hx : ∀ s ∈ xs, 0 ≤ s.1 ∧ s.1 ≤ 300)
    (cy : w.cell? ⟨B, 18, none⟩ = some (.int .i64 year)) (cr : w.cell? ⟨B, 1, none⟩ = some (.int .i64 rest)) (h : Held D w 2 stripCells v xs) :
    Calls Try.prog 100 #[v, .func (.func 99) #[] #[.pointer (some ⟨B, 0, none⟩)]] w fun e w' => e = .returned (.bool (xs.any (nearB year rest))) ∧ Below w.heap.size w w' := by
  rcases h with ⟨⟨a, c, rfl⟩, rfl⟩ | ⟨b, off, c, rfl, hb, ⟨h1, h2⟩, hc⟩
  · clear cy cr
    show Calls _ _ _ _ fun e w' => e = .returned (.bool false) ∧ Below w.heap.size w w'
    go_enter Try.func100, Try.ntmps100
    go_wp2_with (go_at_call 107; refine (indexStrip_nil _ _ _ _).mono ?_; rintro e w' ⟨rfl, rfl⟩)
    go_ret
    exact ⟨rfl, Below.refl _ _⟩
  · have H := Lib.hid (indexStrip year rest B b off c xs w hB (by omega) (by omega) hy0 hy1 hx cy cr hc)
    clear cy cr hc hx
    generalize xs.any (nearB year rest) = r at H ⊢
    go_enter Try.func100, Try.ntmps100
    go_wp2_with (go_at_call 107; refine H.out.mono ?_; rintro e w' ⟨n, rfl, hn, hw⟩)
    go_ret
    exact ⟨by rw [hn.out]; rfl, hw⟩

set_option maxRecDepth 100000 in
set_option maxHeartbeats 1000000 in
theorem judgeRest_calls (age rest girth f0 f1 f2 heal : Int) (code : ByteArray) (bmin bmax taped gmin gmax wmin wmax : Int) (sa : Option Addr) (sn sc : Nat) (wa : Option Addr) (wn wc : Nat) (dead : Int) (year height : Int) (xs : List (Int × Int)) (w : World) (hy0 : 0 ≤ year) (hy1 : year ≤ 300) (hx : ∀ s ∈ xs, 0 ≤ s.1 ∧ s.1 ≤ 300) (h : Held w.heap.size w 2 stripCells (.slice sa sn sc) xs) :
    Calls Try.prog 87 #[.agg #[.int .i64 age, .int .i64 rest, .int .i64 girth, .int .i64 f0, .int .i64 f1, .int .i64 f2, .int .i64 heal, .string code, .int .i64 bmin, .int .i64 bmax, .int .i64 taped, .int .i64 gmin, .int .i64 gmax, .int .i64 wmin, .int .i64 wmax, .slice sa sn sc, .slice wa wn wc, .int .i64 dead, .int .i64 year, .int .i64 height]] w fun e w' => e = .returned (.int .i64 (judged (!xs.any (nearB year rest)) (!xs.any (nearB year rest)))) ∧ Below w.heap.size w w' := by
  have hcon := containsStrip year rest w.heap.size w.heap.size xs (w.alloc (.cells #[.int .i64 age, .int .i64 rest, .int .i64 girth, .int .i64 f0, .int .i64 f1, .int .i64 f2, .int .i64 heal, .string code, .int .i64 bmin, .int .i64 bmax, .int .i64 taped, .int .i64 gmin, .int .i64 gmax, .int .i64 wmin, .int .i64 wmax, .slice sa sn sc, .slice wa wn wc, .int .i64 dead, .int .i64 year, .int .i64 height] 74)) (by simp) (by simp) hy0 hy1 hx (by simp) (by simp) (h.below ((Below.refl _ w).alloc (Nat.le_refl _) _))
  clear hx h
  generalize xs.any (nearB year rest) = r at hcon ⊢
  have H := Lib.hid hcon; clear hcon
  go_enter Try.func87, Try.ntmps87
  go_wp2_with (first | (go_at_call 100; refine H.out.mono ?_; rintro e w1 ⟨rfl, hw1⟩) | (go_at_call 97; refine (known_calls _ _).mono ?_; rintro e w' ⟨rfl, rfl⟩))
  go_ret
  exact ⟨rfl, ((Below.refl _ w).alloc (Nat.le_refl _) _).trans (hw1.mono (by simp))⟩
end Go.Proofs.Ytajbflepjpgnbaa
