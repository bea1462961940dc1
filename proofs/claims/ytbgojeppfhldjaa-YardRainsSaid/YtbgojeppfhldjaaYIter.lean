/- A loop over an iterator whose k-th round is known; a region that draws its order, within a round or a fence. -/
import Derived.Test.YtbgojeppfhldjaaYHold
import Derived.RangeFuncNested
import Derived.RangeFuncBound
import Derived.RangeFuncCalls
import Derived.RangeFuncLeaves
import Derived.RangeFuncBox
import Derived.RegionIn
import Derived.OwnWalkIn
import Derived.TacticsInMore
import Derived.LoopNIn
import Derived.LoopIn
import Derived.BigFrameIn
import Derived.StillTail
import Derived.StillTactics
namespace Go.Proofs.Ytbgojeppfhldjaa
open Go Go.RowKit

/-- A block lies as it lay. -/
def KeptAt (B : Nat) (W W' : World) : Prop := W'.heap[B]? = W.heap[B]?

section nth
/-- A round that falls off its end, and how. -/
def nthPost (B : Nat) (Kp : World → World → Prop) (I : World → Prop) (W : World) : Exit → Act → World → Prop
  | .normal, _, W' => KeepsFrom B W W' ∧ Kp W W' ∧ I W'
  | _, _, _ => False

/-- An iterator that hands out (encs 0), (encs 1), .. (encs (N - 1)), to rounds that all go on. -/
def SeqNth (F : Fence) (n : Nat) (P : Program) (gf : Nat) (lb : Array Value) (encs : Nat → Array Value) (Kp : World → World → Prop) (N : Nat) (w : World) : Prop :=
  ∀ (l : Nat) (J : Nat → World → Prop) (W : World), Below w.heap.size w W →
    (∀ k W1, k < N → J k W1 → YieldAt F (n - 1) P l (encs k) W1 fun e W' => e = .returned (.bool true) ∧ J (k + 1) W' ∧ Kp W1 W') →
    J 0 W → CallsIn F n P gf (#[.func (.yield l) #[] #[]] ++ lb) W fun e W' => (∃ v, e = .returned v) ∧ J N W'

variable {F : Fence} {n : Nat} {P : Program}

theorem wpIn_rangeFunc_nth {g : Operand} {ps : Array Tmp} {assign body : Code} {Q : Exit → Act → World → Prop} {a : Act} {w : World} (hro : F.round = none) (h1 : 1 ≤ n) {gf : Nat} {lb : Array Value}
    (hg : a.eval g = .func (.func gf) #[] lb) (hFg : F.fn gf) (eg : ∀ args w, (callFunc gf args).run P w = .ok (.enter gf args) w) {encs : Nat → Array Value} {Kp : World → World → Prop} {N : Nat} {w0 : World}
    (hseq : SeqNth F (n - 1) P gf lb encs Kp N w0) (hKt : ∀ {A B C : World}, Kp A B → Kp B C → Kp A C)
    (hKb : ∀ (W : World) (l : Nat) (o' : Obj), w.heap.size ≤ l → Kp W (W.putObj l o')) (hb0 : Below w0.heap.size w0 w) (hps : ∀ k, (encs k).size = ps.size)
    (I : Nat → World → Prop) (hI : OwnFrom w.heap.size I) (h0 : I 0 w) (a₁ : Nat → Act)
    (hassign : ∀ (l k : Nat) (W : World) (K : Act → World → Prop), K (a₁ k) W →
      assign.wpIn (F.inRound l) (n - 1 - 1) P (Exit.then K (fun _ _ _ => False)) { tmps := (ps.zip (encs k)).foldl (fun t (p, v) => t.setIfInBounds p v) a.tmps, defers := [] } W)
    (hbody : ∀ (l k : Nat) (W : World), k < N → I k W → body.wpIn (F.inRound l) (n - 1 - 1) P (nthPost w.heap.size Kp (I (k + 1)) W) (a₁ k) W)
    (hdone : ∀ (D : Nat) (W : World), w.heap.size ≤ D → I N W → W.heap[D]? = some (.deferred (some [])) → Q .normal { a with defers := { target := .collected D, args := #[] } :: a.defers } W) :
    (Code.rangeFunc g ps assign body).wpIn F n P Q a w := by
  refine wpIn_rangeFunc (fun fn hfn => ?_)
  let r : LoopState → Loop := fun s => { state := s, pending := none, fn, tmps := a.tmps, params := ps, assign, body, defers := w.heap.size }
  let B : World → Prop := fun W => W.heap[w.heap.size]? = some (.deferred (some []))
  let L : LoopState → World → Prop := fun s W => W.heap[w.heap.size + 1]? = some (.loop (r s))
  have turn : ∀ (s s' : LoopState) (k : Nat) (W : World), I k W → B W → L s W → I k (W.putObj (w.heap.size + 1) (.loop (r s'))) ∧ B (W.putObj (w.heap.size + 1) (.loop (r s'))) ∧ L s' (W.putObj (w.heap.size + 1) (.loop (r s'))) := fun s s' k W hi hb hl =>
    ⟨hI.putObj _ hi (by omega) hl rfl, (World.putObj_heap_other (by omega)).trans hb, World.putObj_heap_same (Array.getElem?_eq_some_iff.1 hl).1⟩
  have z1 : (w.alloc (.deferred (some []))).heap.size = w.heap.size + 1 := World.size_alloc _ _
  have i1 : I 0 ((w.alloc (.deferred (some []))).alloc (.loop (r .ready))) := hI.alloc _ (hI.alloc _ h0)
  have b1 : B ((w.alloc (.deferred (some []))).alloc (.loop (r .ready))) := (Below.heap_alloc _ _ _ (by omega)).trans (World.alloc_heap_new w _)
  have l1 : L .ready ((w.alloc (.deferred (some []))).alloc (.loop (r .ready))) := by
    have := World.alloc_heap_new (w.alloc (.deferred (some []))) (.loop (r .ready))
    rwa [z1] at this
  have u1 : Below w0.heap.size w0 ((w.alloc (.deferred (some []))).alloc (.loop (r .ready))) := (hb0.alloc hb0.size _).alloc (by have := hb0.size; omega) _
  refine ⟨w.heap.size + 1, [{ target := .collected w.heap.size, args := #[] }], (w.alloc (.deferred (some []))).alloc (.loop (r .ready)), { target := .fn (.func gf) lb, args := #[.func (.yield (w.heap.size + 1)) #[] #[]] }, (w.alloc (.deferred (some []))).alloc (.loop (r .ready)), gf,
    #[.func (.yield (w.heap.size + 1)) #[] #[]] ++ lb, (w.alloc (.deferred (some []))).alloc (.loop (r .ready)), ?_, ?_, ?_, ?_, fun _ => h1, ?_⟩
  · rw [hro]
    exact run_enterLoop_outer _ _ _ _ _
  · simp only [resolve, hg]
    simp [go_sem]
  · intro f' hf'
    simp [Target.leads] at hf'
    exact hf' ▸ hFg
  · simp [invoke, go_sem, eg]
  refine (hseq (w.heap.size + 1) (fun k W => I k W ∧ B W ∧ L .ready W) _ u1 ?_ ⟨i1, b1, l1⟩).mono ?_
  · rintro k W hk ⟨hi, hb, hl⟩
    refine ⟨fn, _, assign, body, run_yield hl (hps k), roundIn_of_wpIn hfn (hassign _ k W _ ⟨_, run_beginRound hl rfl, ?_⟩)⟩
    obtain ⟨hi2, hb2, hl2⟩ := turn .ready .busy k W hi hb hl
    refine wpIn_mono (hbody _ k _ hk hi2) ?_
    rintro e a3 W3 hp
    cases e with
    | normal =>
      obtain ⟨hk3, hkp3, hi3⟩ := hp
      have hb3 : B W3 := hk3.same _ _ (Nat.le_refl _) hb2 rfl
      have hl3 : L .busy W3 := hk3.same _ _ (by omega) hl2 rfl
      exact ⟨_, _, run_endRound none hl3, rfl, turn .busy .ready _ W3 hi3 hb3 hl3, hKt (hKt (hKb _ _ _ (by omega)) hkp3) (hKb _ _ _ (by omega))⟩
    | _ => exact hp.elim
  · rintro e W2 ⟨⟨v, rfl⟩, hi, hb, hl⟩
    obtain ⟨hi4, hb4, _⟩ := turn .ready .exhausted N W2 hi hb hl
    exact ⟨none, _, run_endLoop hl (by simp [r]), hdone _ _ (Nat.le_refl _) hi4 hb4⟩
end nth

theorem no_defer {l : List Oper} (h : (l.all fun o => match o.op with | .defer _ => false | _ => true) = true) : ∀ (i : Nat) (o : Oper), l.toArray[i]? = some o → ∀ c, o.op ≠ .defer c := by
  intro i o hi c hc
  have := List.all_eq_true.1 h o (List.mem_of_getElem? (by simpa using hi))
  rw [hc] at this
  cases this

section
variable {P : Program} {Q : Exit → Act → World → Prop} (r m : Nat)

theorem upon_in {o : Oper} {a : Act} {K K' : Act → World → Prop} (hK : ∀ a w, K a w → K' a w) : ∀ x : Result Next, o.upon P a K Q x → o.uponIn (Fence.wide.inRound r) m P a K' Q x
  | .ok (.value _) _, h => hK _ _ h
  | .ok .skip _, h => hK _ _ h
  | .ok (.defer _) _, h => hK _ _ h
  | .ok (.enter f args) w, h => by
    refine ⟨(fun e => by cases e), CallsIn.inRound r (callsIn_wide.2 (Calls.mono h (fun e w' he => ?_)))⟩
    cases e
    · exact hK _ _ he
    · exact he
    · exact he
  | .ok (.row _ _) w, h => ⟨(fun e => by cases e), fun c cs _ => let ⟨v, w', hr, s⟩ := h c cs; ⟨v, w', hK _ _ hr, stepsIn_wide.2 s⟩⟩
  | .halt (.panic _) _, h => h

theorem oper_in {o : Oper} {a : Act} {w : World} {K K' : Act → World → Prop} (hd : ∀ c, o.op ≠ .defer c) (hK : ∀ a w, K a w → K' a w) (h : o.wp P a w K Q) : o.wpIn (Fence.wide.inRound r) m P a w K' Q :=
  ⟨fun _ _ => trivial, by rw [Oper.semAt_plain _ _ _ hd]; exact upon_in r m hK _ h⟩

theorem wpOp_in {ops : Array Oper} {i : Nat} {a : Act} {w : World} {K K' : Act → World → Prop} (hd : ∀ (i : Nat) (o : Oper), ops[i]? = some o → ∀ c, o.op ≠ .defer c) (hq : ¬ LetsOut Q) (hK : ∀ a w, K a w → K' a w) (h : wpOp P ops Q i K a w) :
    wpOpIn (Fence.wide.inRound r) m P ops Q i K' a w := by
  unfold wpOp at h
  unfold wpOpIn
  split at h
  · rename_i e
    rw [e]
    exact hK _ _ h
  · rename_i o e
    rw [e]
    dsimp only
    split at h
    · rename_i hw
      rw [if_pos hw]
      exact oper_in r m (hd i o e) hK (h.resolve_right (fun hx => hq hx.2))
    · rename_i hw
      rw [if_neg hw]
      exact ⟨fun _ _ => trivial, hK _ _ h⟩

theorem wpAny_in {md : Region.Mode} {ops : Array Oper} (hd : ∀ (i : Nat) (o : Oper), ops[i]? = some o → ∀ c, o.op ≠ .defer c) (hq : ¬ LetsOut Q) : ∀ (fuel : Nat) (listed : Array Bool) (a : Act) (w : World), wpAny P md ops Q fuel listed a w → wpAnyIn (Fence.wide.inRound r) m P md ops Q fuel listed a w
  | 0, _, _, _, h => h
  | fuel + 1, _, _, _, h => ⟨h.1, fun i hi => wpOp_in r m hd hq (fun a w => wpAny_in hd hq fuel _ a w) (h.2 i hi)⟩

/-- So a region may be gone through outside the round, in whatever of its orders. -/
theorem region_in {id : Nat} {ops : Array Oper} {a : Act} {w : World} (hm : P.follows .mixedOrders = true) (hd : ∀ (i : Nat) (o : Oper), ops[i]? = some o → ∀ c, o.op ≠ .defer c) (hq : ¬ LetsOut Q)
    (h : wpAny P .any ops Q ops.size (Array.replicate ops.size false) a { w with drawn := w.drawn + 1 }) : (Code.region id ops true).wpIn (Fence.wide.inRound r) m P Q a w :=
  wpIn_region_any hm (wpAny_in r m hd hq _ _ _ _ h)

/-- Reads first, in whatever order; what is behind them, in its own. -/
theorem region_tail_in {id : Nat} {l : List Oper} {a : Act} {w : World} (n : Nat) (hm : P.follows .mixedOrders = true) (hB : Region.lexTailB .any l.toArray n = true) (hd : ∀ (i : Nat) (o : Oper), l.toArray[i]? = some o → ∀ c, o.op ≠ .defer c) (hq : ¬ LetsOut Q)
    (h : wpStill P l.toArray w.drew (fun a' => wpList P l.toArray Q (l.drop n) a' w.drew) (l.take n) a) : (Code.region id l.toArray true).wpIn (Fence.wide.inRound r) m P Q a w := by
  refine region_in r m hm hd hq ?_
  simp only [Region.lexTailB, Bool.and_eq_true, decide_eq_true_eq] at hB
  have hn : n < l.toArray.size := hB.1.1.1.2
  have t1 : (l.take n).length = n := by simp at hn ⊢; omega
  have t2 : (l.drop n).length = l.toArray.size - n := by simp
  have start : HeadInv .any l.toArray n (Array.replicate l.toArray.size false) := ⟨by simp, fun j oj _ hl => (by rw [getD_replicate_false] at hl; cases hl), fun t _ ht => getD_in (by simpa using ht) (getD_replicate_false _ _)⟩
  have head := wpAnyL_lex (md := .any) (g := l.toArray.size - n) hB.1.1.1.1 hB.1.1.2 hB.1.2 hn (l.take n) 0 _ a (fun j hj => by
    have : j < n := t1 ▸ hj
    simp [this]) (by simpa using t1) start (by rw [t1]; exact hB.2) h
  have all := wpAny_of_head (Q' := Q) (g := l.toArray.size - n) (fun listed a' hL => by
    have tail := wpAny_of_seq (md := .any) (Q' := Q) (l.drop n) n listed a' w.drew (fun j => by simp [List.getElem?_drop]) (by rw [t2]; exact hL.1) hL.2
    rwa [t2] at tail) _ _ _ head
  rwa [t1, show n + (l.toArray.size - n) = l.toArray.size by omega] at all
end

section
variable {P : Program} {Q : Exit → Act → World → Prop} (m : Nat)

theorem upon_w {o : Oper} {a : Act} {K K' : Act → World → Prop} (hK : ∀ a w, K a w → K' a w) : ∀ x : Result Next, o.upon P a K Q x → o.uponIn (Fence.wide) m P a K' Q x
  | .ok (.value _) _, h => hK _ _ h
  | .ok .skip _, h => hK _ _ h
  | .ok (.defer _) _, h => hK _ _ h
  | .ok (.enter f args) w, h => by
    refine ⟨(fun e => by cases e), (callsIn_wide.2 (Calls.mono h (fun e w' he => ?_)))⟩
    cases e
    · exact hK _ _ he
    · exact he
    · exact he
  | .ok (.row _ _) w, h => ⟨(fun e => by cases e), fun c cs _ => let ⟨v, w', hr, s⟩ := h c cs; ⟨v, w', hK _ _ hr, stepsIn_wide.2 s⟩⟩
  | .halt (.panic _) _, h => h

theorem oper_w {o : Oper} {a : Act} {w : World} {K K' : Act → World → Prop} (hd : ∀ c, o.op ≠ .defer c) (hK : ∀ a w, K a w → K' a w) (h : o.wp P a w K Q) : o.wpIn (Fence.wide) m P a w K' Q :=
  ⟨fun _ _ => trivial, by rw [Oper.semAt_plain _ _ _ hd]; exact upon_w m hK _ h⟩

theorem wpOp_w {ops : Array Oper} {i : Nat} {a : Act} {w : World} {K K' : Act → World → Prop} (hd : ∀ (i : Nat) (o : Oper), ops[i]? = some o → ∀ c, o.op ≠ .defer c) (hq : ¬ LetsOut Q) (hK : ∀ a w, K a w → K' a w) (h : wpOp P ops Q i K a w) :
    wpOpIn (Fence.wide) m P ops Q i K' a w := by
  unfold wpOp at h
  unfold wpOpIn
  split at h
  · rename_i e
    rw [e]
    exact hK _ _ h
  · rename_i o e
    rw [e]
    dsimp only
    split at h
    · rename_i hw
      rw [if_pos hw]
      exact oper_w m (hd i o e) hK (h.resolve_right (fun hx => hq hx.2))
    · rename_i hw
      rw [if_neg hw]
      exact ⟨fun _ _ => trivial, hK _ _ h⟩

theorem wpAny_w {md : Region.Mode} {ops : Array Oper} (hd : ∀ (i : Nat) (o : Oper), ops[i]? = some o → ∀ c, o.op ≠ .defer c) (hq : ¬ LetsOut Q) : ∀ (fuel : Nat) (listed : Array Bool) (a : Act) (w : World), wpAny P md ops Q fuel listed a w → wpAnyIn (Fence.wide) m P md ops Q fuel listed a w
  | 0, _, _, _, h => h
  | fuel + 1, _, _, _, h => ⟨h.1, fun i hi => wpOp_w m hd hq (fun a w => wpAny_w hd hq fuel _ a w) (h.2 i hi)⟩

/-- So a region may be gone through outside the round, in whatever of its orders. -/
theorem region_w {id : Nat} {ops : Array Oper} {a : Act} {w : World} (hm : P.follows .mixedOrders = true) (hd : ∀ (i : Nat) (o : Oper), ops[i]? = some o → ∀ c, o.op ≠ .defer c) (hq : ¬ LetsOut Q)
    (h : wpAny P .any ops Q ops.size (Array.replicate ops.size false) a { w with drawn := w.drawn + 1 }) : (Code.region id ops true).wpIn (Fence.wide) m P Q a w :=
  wpIn_region_any hm (wpAny_w m hd hq _ _ _ _ h)

/-- Reads first, in whatever order; what is behind them, in its own. -/
theorem region_tail_w {id : Nat} {l : List Oper} {a : Act} {w : World} (n : Nat) (hm : P.follows .mixedOrders = true) (hB : Region.lexTailB .any l.toArray n = true) (hd : ∀ (i : Nat) (o : Oper), l.toArray[i]? = some o → ∀ c, o.op ≠ .defer c) (hq : ¬ LetsOut Q)
    (h : wpStill P l.toArray w.drew (fun a' => wpList P l.toArray Q (l.drop n) a' w.drew) (l.take n) a) : (Code.region id l.toArray true).wpIn (Fence.wide) m P Q a w := by
  refine region_w m hm hd hq ?_
  simp only [Region.lexTailB, Bool.and_eq_true, decide_eq_true_eq] at hB
  have hn : n < l.toArray.size := hB.1.1.1.2
  have t1 : (l.take n).length = n := by simp at hn ⊢; omega
  have t2 : (l.drop n).length = l.toArray.size - n := by simp
  have start : HeadInv .any l.toArray n (Array.replicate l.toArray.size false) := ⟨by simp, fun j oj _ hl => (by rw [getD_replicate_false] at hl; cases hl), fun t _ ht => getD_in (by simpa using ht) (getD_replicate_false _ _)⟩
  have head := wpAnyL_lex (md := .any) (g := l.toArray.size - n) hB.1.1.1.1 hB.1.1.2 hB.1.2 hn (l.take n) 0 _ a (fun j hj => by
    have : j < n := t1 ▸ hj
    simp [this]) (by simpa using t1) start (by rw [t1]; exact hB.2) h
  have all := wpAny_of_head (Q' := Q) (g := l.toArray.size - n) (fun listed a' hL => by
    have tail := wpAny_of_seq (md := .any) (Q' := Q) (l.drop n) n listed a' w.drew (fun j => by simp [List.getElem?_drop]) (by rw [t2]; exact hL.1) hL.2
    rwa [t2] at tail) _ _ _ head
  rwa [t1, show n + (l.toArray.size - n) = l.toArray.size by omega] at all
end
end Go.Proofs.Ytbgojeppfhldjaa
