/- A region that draws its order, within a round: what holds of it outside a round holds of it there. -/
import Derived.RangeFuncNested
import Derived.RangeFuncLeaves
import Derived.OrdersHeld
import Derived.OrdersIn
import Derived.OwnWalkIn
import Derived.Shelf.Abstract
import Derived.Maps.Own
import Derived.Test.YtnoofdjlocadbaaGreatDoorProg
import Derived.StillTail
namespace Go.Proofs.YtnoofdjlocadbaaGreatDoor
open Go.RowKit Go.Shelf Go.Maps

theorem no_defer {l : List Oper} (h : (l.all fun o => match o.op with | .defer _ => false | _ => true) = true) : ∀ (i : Nat) (o : Oper), l.toArray[i]? = some o → ∀ c, o.op ≠ .defer c := by
  intro i o hi c hc
  have := List.all_eq_true.1 h o (List.mem_of_getElem? (by simpa using hi))
  rw [hc] at this
  cases this

section
variable {P : Program} {Q : Exit → Act → World → Prop} (r m : Nat)

theorem upon_in {o : Oper} {a : Act} {K K' : Act → World → Prop} (hK : ∀ a w, K a w → K' a w) : ∀ x : Result Next, o.upon P a K Q x → o.uponIn (Fence.wide.inRound r) m P a K' Q x
  | .ok (.value _) _, h => hK _ _ h
  | .ok .skip _, h => hK _ _ h
  | .ok (.defer _) _, h => hK _ _ h
  | .ok (.enter f args) w, h => by
    refine ⟨(fun e => by cases e), CallsIn.inRound r (callsIn_wide.2 (Calls.mono h (fun e w' he => ?_)))⟩
    cases e
    · exact hK _ _ he
    · exact he
    · exact he
  | .ok (.row _ _) w, h => ⟨(fun e => by cases e), fun c cs _ => let ⟨v, w', hr, s⟩ := h c cs; ⟨v, w', hK _ _ hr, stepsIn_wide.2 s⟩⟩
  | .halt (.panic _) _, h => h

theorem oper_in {o : Oper} {a : Act} {w : World} {K K' : Act → World → Prop} (hd : ∀ c, o.op ≠ .defer c) (hK : ∀ a w, K a w → K' a w) (h : o.wp P a w K Q) : o.wpIn (Fence.wide.inRound r) m P a w K' Q :=
  ⟨fun _ _ => trivial, by rw [Oper.semAt_plain _ _ _ hd]; exact upon_in r m hK _ h⟩

theorem wpOp_in {ops : Array Oper} {i : Nat} {a : Act} {w : World} {K K' : Act → World → Prop} (hd : ∀ (i : Nat) (o : Oper), ops[i]? = some o → ∀ c, o.op ≠ .defer c) (hq : ¬ LetsOut Q) (hK : ∀ a w, K a w → K' a w) (h : wpOp P ops Q i K a w) :
    wpOpIn (Fence.wide.inRound r) m P ops Q i K' a w := by
  unfold wpOp at h
  unfold wpOpIn
  split at h
  · rename_i e
    rw [e]
    exact hK _ _ h
  · rename_i o e
    rw [e]
    dsimp only
    split at h
    · rename_i hw
      rw [if_pos hw]
      exact oper_in r m (hd i o e) hK (h.resolve_right (fun hx => hq hx.2))
    · rename_i hw
      rw [if_neg hw]
      exact ⟨fun _ _ => trivial, hK _ _ h⟩

theorem wpAny_in {md : Region.Mode} {ops : Array Oper} (hd : ∀ (i : Nat) (o : Oper), ops[i]? = some o → ∀ c, o.op ≠ .defer c) (hq : ¬ LetsOut Q) : ∀ (fuel : Nat) (listed : Array Bool) (a : Act) (w : World), wpAny P md ops Q fuel listed a w → wpAnyIn (Fence.wide.inRound r) m P md ops Q fuel listed a w
  | 0, _, _, _, h => h
  | fuel + 1, _, _, _, h => ⟨h.1, fun i hi => wpOp_in r m hd hq (fun a w => wpAny_in hd hq fuel _ a w) (h.2 i hi)⟩

/-- So a region may be gone through outside the round, in whatever of its orders. -/
theorem region_in {id : Nat} {ops : Array Oper} {a : Act} {w : World} (hm : P.follows .mixedOrders = true) (hd : ∀ (i : Nat) (o : Oper), ops[i]? = some o → ∀ c, o.op ≠ .defer c) (hq : ¬ LetsOut Q)
    (h : wpAny P .any ops Q ops.size (Array.replicate ops.size false) a { w with drawn := w.drawn + 1 }) : (Code.region id ops true).wpIn (Fence.wide.inRound r) m P Q a w :=
  wpIn_region_any hm (wpAny_in r m hd hq _ _ _ _ h)

/-- Reads first, in whatever order; what is behind them, in its own. -/
theorem region_tail_in {id : Nat} {l : List Oper} {a : Act} {w : World} (n : Nat) (hm : P.follows .mixedOrders = true) (hB : Region.lexTailB .any l.toArray n = true) (hd : ∀ (i : Nat) (o : Oper), l.toArray[i]? = some o → ∀ c, o.op ≠ .defer c) (hq : ¬ LetsOut Q)
    (h : wpStill P l.toArray w.drew (fun a' => wpList P l.toArray Q (l.drop n) a' w.drew) (l.take n) a) : (Code.region id l.toArray true).wpIn (Fence.wide.inRound r) m P Q a w := by
  refine region_in r m hm hd hq ?_
  simp only [Region.lexTailB, Bool.and_eq_true, decide_eq_true_eq] at hB
  have hn : n < l.toArray.size := hB.1.1.1.2
  have t1 : (l.take n).length = n := by simp at hn ⊢; omega
  have t2 : (l.drop n).length = l.toArray.size - n := by simp
  have start : HeadInv .any l.toArray n (Array.replicate l.toArray.size false) := ⟨by simp, fun j oj _ hl => (by rw [getD_replicate_false] at hl; cases hl), fun t _ ht => getD_in (by simpa using ht) (getD_replicate_false _ _)⟩
  have head := wpAnyL_lex (md := .any) (g := l.toArray.size - n) hB.1.1.1.1 hB.1.1.2 hB.1.2 hn (l.take n) 0 _ a (fun j hj => by
    have : j < n := t1 ▸ hj
    simp [this]) (by simpa using t1) start (by rw [t1]; exact hB.2) h
  have all := wpAny_of_head (Q' := Q) (g := l.toArray.size - n) (fun listed a' hL => by
    have tail := wpAny_of_seq (md := .any) (Q' := Q) (l.drop n) n listed a' w.drew (fun j => by simp [List.getElem?_drop]) (by rw [t2]; exact hL.1) hL.2
    rwa [t2] at tail) _ _ _ head
  rwa [t1, show n + (l.toArray.size - n) = l.toArray.size by omega] at all
end
end Go.Proofs.YtnoofdjlocadbaaGreatDoor
