/- The judgement of healing: a search among wounds. -/
import Derived.Test.YtajbflepjpgnbaaRest
namespace Go.Proofs.Ytajbflepjpgnbaa
open Go.RowKit

set_option maxHeartbeats 1000000 in
theorem fresh_calls (y year heal : Int) (B : Nat) (w : World) (hy0 : 0 ≤ year) (hy1 : year ≤ 300) (hs0 : 0 ≤ y) (hs1 : y ≤ 300)
    (cy : w.cell? ⟨B, 18, none⟩ = some (.int .i64 year)) (cr : w.cell? ⟨B, 6, none⟩ = some (.int .i64 heal)) :
    Calls Try.prog 101 (#[.int .i64 y] ++ #[.pointer (some ⟨B, 0, none⟩)]) w fun e w' => e = .returned (.bool (freshB year heal y)) ∧ w = w' := by
  unfold freshB
  show Calls Try.prog _ #[.int .i64 y, .pointer (some ⟨B, 0, none⟩)] _ _
  by_cases h1 : 0 ≤ year - y
  · by_cases h2 : year - y < heal
    · rw [decide_eq_true (show 0 ≤ year - y ∧ year - y < heal from ⟨h1, h2⟩)]
      have h2b : decide (year - y < heal) = true := by simp [h2]
      go_enter Try.func101, Try.ntmps101
      go_wp2
      go_ret
      exact ⟨rfl, rfl⟩
    · rw [decide_eq_false (show ¬ (0 ≤ year - y ∧ year - y < heal) from fun h => h2 h.2)]
      have h2b : decide (year - y < heal) = false := by simp [h2]
      go_enter Try.func101, Try.ntmps101
      go_wp2
      go_ret
      exact ⟨rfl, rfl⟩
  · rw [decide_eq_false (show ¬ (0 ≤ year - y ∧ year - y < heal) from fun h => h1 h.1)]
    have h1' : year - y < 0 := by omega
    go_enter Try.func101, Try.ntmps101
    go_wp2
    go_ret
    exact ⟨rfl, rfl⟩

/-- A search's answer that leaves the world alone. -/
def SameIdx (r : Bool) (w : World) (e : Ending) (w' : World) : Prop := ∃ n : Int, e = .returned (.int .i64 n) ∧ Hid (r = decide (0 ≤ n)) ∧ w = w'

set_option maxHeartbeats 2000000 in
theorem indexInt (year heal : Int) (B b off c : Nat) (xs : List Int) (w : World) (hl : xs.length ≤ 140737488355328) (hy0 : 0 ≤ year) (hy1 : year ≤ 300) (hx : ∀ s ∈ xs, 0 ≤ s ∧ s ≤ 300)
    (cy : w.cell? ⟨B, 18, none⟩ = some (.int .i64 year)) (cr : w.cell? ⟨B, 6, none⟩ = some (.int .i64 heal))
    (hc : ∀ j, j < xs.length → w.cell? ⟨b, off + j, none⟩ = some (.int .i64 xs[j]!)) :
    Calls Try.prog 108 #[.slice (some ⟨b, off, none⟩) xs.length c, .func (.func 101) #[] #[.pointer (some ⟨B, 0, none⟩)]] w (SameIdx (xs.any (freshB year heal)) w) := by
  have hl' : (xs.length : Int) ≤ 140737488355328 := by omega
  have hr : xs.any (freshB year heal) = (xs.drop 0).any (freshB year heal) := rfl
  generalize xs.any (freshB year heal) = r at hr ⊢
  have HR := Lib.hid hr; clear hr
  have HC := Lib.hid hc; clear hc
  have HY := Lib.hid cy; clear cy
  have HE := Lib.hid cr; clear cr
  have HX := Lib.hid hx; clear hx
  go_enter Try.func108, Try.ntmps108
  go_wp2
  go_loop [8] (fun i => ∃ k : Nat, k ≤ xs.length ∧ i = .int .i64 k ∧ Hid (r = (xs.drop k).any (freshB year heal))) (fun i => xs.length - (intOf i).toNat)
  case atStart => exact ⟨0, by omega, rfl, HR⟩
  case round =>
    clear HR
    obtain ⟨k, hk, rfl, HR⟩ := hrel
    by_cases hlt : k < xs.length
    · have c0 : w.cell? ⟨b, off + k, none⟩ = some (.int .i64 xs[k]!) := HC.out k hlt
      obtain ⟨m0, m1⟩ := HX.out xs[k]! (by rw [getElem!_pos xs k hlt]; exact List.getElem_mem hlt)
      have hcall := fresh_calls xs[k]! year heal B w hy0 hy1 m0 m1 HY.out HE.out
      clear m0 m1
      cases hs : freshB year heal xs[k]!
      · have HS := Lib.hid (any_miss (freshB year heal) xs k hlt r HR.out hs)
        rw [hs] at hcall
        clear hs
        generalize xs[k]! = y at c0 hcall
        have HK := Lib.hid hcall; clear hcall
        go_wp2_with (go_at_call 101; refine HK.out.mono ?_; rintro e w' ⟨rfl, rfl⟩)
        exact ⟨⟨k + 1, by omega, by go_num, HS⟩, by simp [intOf]; omega⟩
      · have HS := Lib.hid (any_hit (freshB year heal) xs k hlt r HR.out hs)
        rw [hs] at hcall
        clear hs
        generalize xs[k]! = y at c0 hcall
        have HK := Lib.hid hcall; clear hcall
        go_wp2_with (go_at_call 101; refine HK.out.mono ?_; rintro e w' ⟨rfl, rfl⟩)
        go_ret
        exact ⟨k, rfl, Lib.hid (by rw [HS.out]; simp), rfl⟩
    · have HS := Lib.hid (any_end (freshB year heal) xs k (by omega) r HR.out)
      have hge : xs.length ≤ k := by omega
      go_wp2
      go_ret
      exact ⟨-1, rfl, Lib.hid (by rw [HS.out]; simp), rfl⟩

set_option maxHeartbeats 1000000 in
theorem indexInt_nil (a : Option Addr) (c : Nat) (g : Value) (w : World) :
    Calls Try.prog 108 #[.slice a 0 c, g] w fun e w' => e = .returned (.int .i64 (-1)) ∧ w = w' := by
  go_enter Try.func108, Try.ntmps108
  go_wp2
  refine wp_loop_rounds 1 ?_
  rw [rounds_succ]
  go_wp2
  go_ret
  exact ⟨rfl, rfl⟩

set_option maxHeartbeats 1000000 in
theorem containsInt {v : Value} (year heal : Int) (B D : Nat) (xs : List Int) (w : World) (hy0 : 0 ≤ year) (hy1 : year ≤ 300) (hx : ∀ s ∈ xs, 0 ≤ s ∧ s ≤ 300)
    (cy : w.cell? ⟨B, 18, none⟩ = some (.int .i64 year)) (cr : w.cell? ⟨B, 6, none⟩ = some (.int .i64 heal)) (h : Held D w 1 intCells v xs) :
    Calls Try.prog 102 #[v, .func (.func 101) #[] #[.pointer (some ⟨B, 0, none⟩)]] w fun e w' => e = .returned (.bool (xs.any (freshB year heal))) ∧ w = w' := by
  rcases h with ⟨⟨a, c, rfl⟩, rfl⟩ | ⟨b, off, c, rfl, hb, ⟨h1, h2⟩, hc⟩
  · clear cy cr
    show Calls _ _ _ _ fun e w' => e = .returned (.bool false) ∧ w = w'
    go_enter Try.func102, Try.ntmps102
    go_wp2_with (go_at_call 108; refine (indexInt_nil _ _ _ _).mono ?_; rintro e w' ⟨rfl, rfl⟩)
    go_ret
    exact ⟨rfl, rfl⟩
  · have H := Lib.hid (indexInt year heal B b off c xs w (by omega) hy0 hy1 hx cy cr fun j hj => by have := hc j hj 0 _ rfl; rwa [Nat.mul_one, Nat.add_zero] at this)
    clear cy cr hc hx
    generalize xs.any (freshB year heal) = r at H ⊢
    go_enter Try.func102, Try.ntmps102
    go_wp2_with (go_at_call 108; refine H.out.mono ?_; rintro e w' ⟨n, rfl, hn, rfl⟩)
    go_ret
    exact ⟨by rw [hn.out]; rfl, rfl⟩

set_option maxRecDepth 100000 in
set_option maxHeartbeats 1000000 in
theorem judgeHeal_calls (age rest girth f0 f1 f2 heal : Int) (code : ByteArray) (bmin bmax taped gmin gmax wmin wmax : Int) (sa : Option Addr) (sn sc : Nat) (wa : Option Addr) (wn wc : Nat) (dead : Int) (year height : Int) (xs : List Int) (w : World) (hy0 : 0 ≤ year) (hy1 : year ≤ 300) (hx : ∀ s ∈ xs, 0 ≤ s ∧ s ≤ 300) (h : Held w.heap.size w 1 intCells (.slice wa wn wc) xs) :
    Calls Try.prog 88 #[.agg #[.int .i64 age, .int .i64 rest, .int .i64 girth, .int .i64 f0, .int .i64 f1, .int .i64 f2, .int .i64 heal, .string code, .int .i64 bmin, .int .i64 bmax, .int .i64 taped, .int .i64 gmin, .int .i64 gmax, .int .i64 wmin, .int .i64 wmax, .slice sa sn sc, .slice wa wn wc, .int .i64 dead, .int .i64 year, .int .i64 height]] w fun e w' => e = .returned (.int .i64 (judged (!xs.any (freshB year heal)) (!xs.any (freshB year heal)))) ∧ Below w.heap.size w w' := by
  have hcon := containsInt year heal w.heap.size w.heap.size xs (w.alloc (.cells #[.int .i64 age, .int .i64 rest, .int .i64 girth, .int .i64 f0, .int .i64 f1, .int .i64 f2, .int .i64 heal, .string code, .int .i64 bmin, .int .i64 bmax, .int .i64 taped, .int .i64 gmin, .int .i64 gmax, .int .i64 wmin, .int .i64 wmax, .slice sa sn sc, .slice wa wn wc, .int .i64 dead, .int .i64 year, .int .i64 height] 74)) hy0 hy1 hx (by simp) (by simp) (h.below ((Below.refl _ w).alloc (Nat.le_refl _) _))
  clear hx h
  generalize xs.any (freshB year heal) = r at hcon ⊢
  have H := Lib.hid hcon; clear hcon
  go_enter Try.func88, Try.ntmps88
  go_wp2_with (first | (go_at_call 102; refine H.out.mono ?_; rintro e w1 ⟨rfl, rfl⟩) | (go_at_call 97; refine (known_calls _ _).mono ?_; rintro e w' ⟨rfl, rfl⟩))
  go_ret
  exact ⟨rfl, (by repeat (first | exact Below.refl _ _ | refine Below.alloc ?_ (by simp <;> omega) _))⟩
end Go.Proofs.Ytajbflepjpgnbaa
