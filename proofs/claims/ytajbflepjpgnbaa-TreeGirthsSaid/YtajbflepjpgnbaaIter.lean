/- The table of rules, and the library's iterator over it. -/
import Derived.Test.YtajbflepjpgnbaaHeight
import Derived.RangeFuncNested
import Derived.RangeFuncBound
import Derived.RangeFuncCalls
import Derived.RangeFuncLeaves
import Derived.RangeFuncBox
import Derived.Shelf.Abstract
import Derived.Shelf.RegionOpen
import Derived.OwnWalkIn
import Derived.TacticsInMore
import Derived.LoopNIn
import Derived.LoopIn
import Derived.Laws.EntriesVeiled
namespace Go.Proofs.Ytajbflepjpgnbaa
open Go.RowKit Go.Shelf

attribute [local go_sem] Oper.semAt_some

/-- The function that judges the rule at a place. -/
def ruleFn (k : Nat) : Nat :=
  match k with
  | 0 => 85
  | 1 => 86
  | 2 => 87
  | 3 => 88
  | 4 => 89
  | _ => 90
/-- A rule's two cells. -/
def ruleVal (x : Fin 6) : Value := .func (.func (ruleFn x.val)) #[] #[]
def ruleAgg (x : Fin 6) : Value := .agg #[.int .i64 ((x.val : Int) + 1), .func (.func (ruleFn x.val)) #[] #[]]
def ruleAt (k : Nat) : Fin 6 := ⟨k % 6, Nat.mod_lt _ (by omega)⟩

/-- What has come when k rounds are over. -/
def upto {α : Type} (f : Nat → α) (k : Nat) : List α := (List.range k).map f
theorem upto_succ {α : Type} (f : Nat → α) (k : Nat) : upto f (k + 1) = upto f k ++ [f k] := by simp [upto, List.range_succ]
theorem upto_length {α : Type} (f : Nat → α) (k : Nat) : (upto f k).length = k := by simp [upto]

/-- The table's cells lie at b, off. -/
def RulesLie (n₀ : Nat) (W : World) (b off : Nat) : Prop := b < n₀ ∧ ∀ k, k < 6 → W.cell? ⟨b, off + k * 2, none⟩ = some (.int .i64 (((ruleAt k).val : Int) + 1)) ∧ W.cell? ⟨b, off + k * 2 + 1, none⟩ = some (.func (.func (ruleFn (ruleAt k).val)) #[] #[])
theorem RulesLie.below {n₀ : Nat} {A B : World} {b off : Nat} (h : RulesLie n₀ A b off) (hb : Below n₀ A B) : RulesLie n₀ B b off :=
  ⟨h.1, fun k hk => ⟨(hb.cell (p := ⟨b, off + k * 2, none⟩) h.1).trans (h.2 k hk).1, (hb.cell (p := ⟨b, off + k * 2 + 1, none⟩) h.1).trans (h.2 k hk).2⟩⟩

set_option maxRecDepth 100000 in
set_option maxHeartbeats 2000000 in
theorem values1_in (F : Fence) (n : Nat) (h7 : F.fn 91) (hro : F.round = none) (hn : 1 ≤ n) (l Bs n₀ b off cap : Nat) (J Jx : List (Fin 6) → World → Prop)
    (hY : ∀ pre x W, J pre W → pre.length < 6 → YieldAt F (n - 1) Try.prog l #[.agg #[.int .i64 ((x.val : Int) + 1), .func (.func (ruleFn x.val)) #[] #[]]] W fun e W' =>
      (e = .returned (.bool true) ∧ J (pre ++ [x]) W' ∧ Below n₀ W W') ∨ (e = .returned (.bool false) ∧ Jx (pre ++ [x]) W'))
    (hJ : ∀ s W o, J s W → J s (W.alloc o))
    (W : World) (hn₀ : n₀ ≤ W.heap.size) (hBs : W.cell? ⟨Bs, 0, none⟩ = some (.slice (some ⟨b, off, none⟩) 6 cap)) (hc : RulesLie n₀ W b off) (h0 : J [] W) :
    CallsIn F n Try.prog 91 #[.func (.yield l) #[] #[], .pointer (some ⟨Bs, 0, none⟩)] W fun e W' => (∃ v, e = .returned v) ∧
      ((∃ ys, ys = upto ruleAt 6 ∧ J ys W') ∨ (∃ pre, (∃ k, k ≤ 6 ∧ pre = upto ruleAt k) ∧ Jx pre W')) := by
  refine callsIn_of_wp Try.func91 rfl h7 ?_ hro
  simp only [Try.ntmps91, List.size_toArray, List.length_cons, List.length_nil, Nat.reduceAdd, Nat.reduceSub, Array.replicate_succ, Array.replicate_zero, List.push_toArray, List.append_toArray, List.nil_append, List.cons_append]
  gi_wp2
  gi_loopw [7] (fun i wr => ∃ k : Nat, k ≤ 6 ∧ i = .int .i64 k ∧ J (upto ruleAt k) wr ∧ Below n₀ W wr)
    (fun i _ => 6 - (intOf i).toNat)
  case atStart => exact ⟨0, Nat.zero_le _, rfl, h0, Below.refl _ _⟩
  case round =>
    obtain ⟨k, hk, rfl, hJs, hnx⟩ := hrel
    by_cases hlt : k < 6
    · obtain ⟨hc0, hc1⟩ := (hc.below hnx).2 k hlt
      have hsz : n₀ ≤ wr.heap.size := Nat.le_trans hn₀ hnx.size
      have hJa := hJ _ _ (.cells #[.int .i64 (((ruleAt k).val : Int) + 1), .func (.func (ruleFn (ruleAt k).val)) #[] #[]] 106) hJs
      obtain ⟨fn, tmps, assign, body, hy, hR⟩ := hY _ (ruleAt k) _ hJa (by rw [upto_length]; exact hlt)
      have hkz : (k : Int) < 6 := by omega
      gi_wp2
      refine hR.mono ?_
      have hnx' : Below n₀ W (wr.alloc (.cells #[.int .i64 (((ruleAt k).val : Int) + 1), .func (.func (ruleFn (ruleAt k).val)) #[] #[]] 106)) := hnx.alloc hsz _
      rintro e W3 (⟨rfl, hJ3, hk3⟩ | ⟨rfl, hJx3⟩)
      · gi_wp2
        go_roundw
        case rel => exact ⟨k + 1, by omega, by simp, by rw [upto_succ]; exact hJ3, hnx'.trans hk3⟩
        case measure => simp [intOf]; omega
      · gi_wp2
        refine bodyPost_ret (results_none rfl _ _ _) rfl ?_
        exact ⟨⟨_, rfl⟩, .inr ⟨_, ⟨k + 1, by omega, (upto_succ _ _).symm⟩, hJx3⟩⟩
    · obtain rfl : k = 6 := by omega
      gi_wp2
      go_end0
      exact ⟨⟨_, rfl⟩, .inl ⟨_, rfl, hJs⟩⟩

theorem values_stops (F : Fence) (n : Nat) (h7 : F.fn 91) (hro : F.round = none) (hn : 1 ≤ n) (Bs n₀ b off cap : Nat) (w : World) (hBs : Bs < w.heap.size) (hn₀ : n₀ ≤ w.heap.size)
    (hc : w.cell? ⟨Bs, 0, none⟩ = some (.slice (some ⟨b, off, none⟩) 6 cap)) (hI : RulesLie n₀ w b off) :
    SeqStopsK F n Try.prog 91 #[.pointer (some ⟨Bs, 0, none⟩)] (fun x : Fin 6 => #[Value.agg #[.int .i64 ((x.val : Int) + 1), .func (.func (ruleFn x.val)) #[] #[]]]) (Below n₀) (fun ys => ys = upto ruleAt 6) (fun pre => ∃ k, k ≤ 6 ∧ pre = upto ruleAt k) 6 w := fun l J Jx W hW hJ _ hY h0 => by
  have hc' := (hW.cell (p := ⟨Bs, 0, none⟩) hBs).trans hc
  exact values1_in F n h7 hro hn l Bs n₀ b off cap J Jx hY (fun s A o h => hJ s A _ none h (World.grownBy_alloc A o none) (by simp)) W (Nat.le_trans hn₀ hW.size) hc' (hI.below (hW.mono hn₀)) h0

set_option maxHeartbeats 1000000 in
theorem values_calls (a : Option Addr) (len cap : Nat) (w : World) :
    Calls Try.prog 68 #[.slice a len cap] w fun e w' => e = .returned (.func (.func 91) #[] #[.pointer (some ⟨w.heap.size, 0, none⟩)]) ∧ w' = w.alloc (.cells #[.slice a len cap] 102) := by
  go_enter Try.func68, Try.ntmps68
  go_wp2
  go_ret
  exact ⟨rfl, rfl⟩

set_option maxHeartbeats 1000000 in
theorem rules_calls (w : World) :
    Calls Try.prog 64 #[] w fun e w' => e = .returned (.slice (some ⟨w.heap.size, 0, none⟩) 6 6) ∧ Below w.heap.size w w' ∧ RulesLie w'.heap.size w' w.heap.size 0 := by
  go_enter Try.func64, Try.ntmps64
  go_wp2
  go_ret
  refine ⟨rfl, (Below.refl _ w).alloc (Nat.le_refl _) _, by simp, fun k hk => ?_⟩
  match k, hk with
  | 0, _ => exact ⟨by simp [ruleAt], by simp [ruleAt, ruleFn]⟩
  | 1, _ => exact ⟨by simp [ruleAt], by simp [ruleAt, ruleFn]⟩
  | 2, _ => exact ⟨by simp [ruleAt], by simp [ruleAt, ruleFn]⟩
  | 3, _ => exact ⟨by simp [ruleAt]; rfl, by simp [ruleAt, ruleFn]; rfl⟩
  | 4, _ => exact ⟨by simp [ruleAt]; rfl, by simp [ruleAt, ruleFn]; rfl⟩
  | 5, _ => exact ⟨by simp [ruleAt]; rfl, by simp [ruleAt, ruleFn]⟩
  | k + 6, h => omega
end Go.Proofs.Ytajbflepjpgnbaa
