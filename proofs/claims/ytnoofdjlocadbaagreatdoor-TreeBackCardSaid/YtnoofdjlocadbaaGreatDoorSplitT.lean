/- A region that draws its order, whose last operations come up one after the other behind all the others: it may be gone through in two parts. -/
import Derived.Test.YtnoofdjlocadbaaGreatDoorMemT
import Derived.OrdersHeld
import Derived.StillTail
import Derived.Lib.QuietBelow
import Derived.BigQuiet
namespace Go.Proofs.YtnoofdjlocadbaaGreatDoor
open Go Go.RowKit

/-- What follows the first part: the last operations, in their order. -/
def tailPost (P : Program) (ops : Array Oper) (Q : Exit → Act → World → Prop) (tail : List Oper) : Exit → Act → World → Prop
  | .normal, a, w => wpList P ops Q tail a w
  | .ret, a, w => Q .ret a w
  | .panic c, a, w => Q (.panic c) a w
  | .outgrown, a, w => Q .outgrown a w
  | e, a, w => Q e a w

/-- Each of the first operations waits for earlier ones alone, and asks no other whether it is wanted. -/
def splitHeadB (md : Region.Mode) (ops : Array Oper) (n : Nat) : Bool :=
  (List.range n).all fun i => match ops[i]? with
    | some o => (o.after.all fun e => !Region.binds md e || decide (e.on < i)) && (match o.guard with | none => true | some (j, _) => decide (j < n))
    | none => false

def splitB (md : Region.Mode) (ops : Array Oper) (n : Nat) : Bool :=
  decide (n < ops.size) && Region.sinkB md ops n && Region.chainB md ops n && splitHeadB md ops n && Region.seqB md ops (ops.size - n) n (Array.replicate n true ++ Array.replicate (ops.size - n) false)

section
variable {P : Program} {md : Region.Mode} {Q : Exit → Act → World → Prop}

theorem wpAny_more {ops : Array Oper} : ∀ (f : Nat) (listed : Array Bool) (a : Act) (w : World), wpAny P md ops Q f listed a w → wpAny P md ops Q (f + 1) listed a w
  | 0, _, _, _, h => ⟨fun _ => h.2, fun i hi => by rw [h.1] at hi; cases hi⟩
  | f + 1, _, _, _, h => ⟨h.1, fun i hi => wpOp_mono (fun a' w' h' => wpAny_more f _ a' w' h') (h.2 i hi)⟩
theorem wpAny_mores {ops : Array Oper} (g : Nat) (listed : Array Bool) (a : Act) (w : World) (h : wpAny P md ops Q g listed a w) : ∀ f, wpAny P md ops Q (f + g) listed a w
  | 0 => by rw [Nat.zero_add]; exact h
  | f + 1 => by rw [show f + 1 + g = (f + g) + 1 by omega]; exact wpAny_more _ _ _ _ (wpAny_mores g listed a w h f)

theorem oper_tail {ops : Array Oper} {tail : List Oper} {o : Oper} {a : Act} {w : World} {K K' : Act → World → Prop} (hK : ∀ a w, K a w → K' a w) (h : o.wp P a w K (tailPost P ops Q tail)) : o.wp P a w K' Q := by
  unfold Oper.wp at *
  generalize (execOp a.eval o).run P w = r at *
  cases r with
  | ok n w' =>
    cases n <;> simp only [Oper.upon] at h ⊢ <;>
      first
        | exact hK _ _ h
        | exact Calls.mono h (fun e w'' he => by cases e <;> first | exact hK _ _ he | exact he)
        | exact Rows.mono h (fun _ _ he => hK _ _ he)
  | halt x w' => cases x <;> simp only [Oper.upon] at h ⊢ <;> exact h

variable {l : List Oper} {n : Nat}

theorem take_at (i : Nat) (hi : i < n) : (l.take n).toArray[i]? = l.toArray[i]? := by simp [hi]

theorem splitHead_spec (hH : splitHeadB md l.toArray n = true) {i : Nat} {o : Oper} (hi : i < n) (ho : l.toArray[i]? = some o) : (∀ e ∈ o.after, Region.binds md e = true → e.on < i) ∧ (∀ j b, o.guard = some (j, b) → j < n) := by
  have h := List.all_eq_true.1 hH i (List.mem_range.2 hi)
  simp only [ho, Bool.and_eq_true, Array.all_eq_true_iff_forall_mem, Bool.or_eq_true, Bool.not_eq_true', decide_eq_true_eq] at h
  refine ⟨fun e he hb => (h.1 e he).resolve_left (by rw [hb]; simp), fun j b hg => ?_⟩
  have h2 := h.2
  rw [hg] at h2
  simpa using h2

theorem wanted_left {o : Oper} (hg : ∀ j b, o.guard = some (j, b) → j < n) (t : Array Value) : Region.wanted o (yielded (l.take n).toArray t) = Region.wanted o (yielded l.toArray t) := by
  unfold Region.wanted
  split
  · rfl
  · rename_i j b e
    have hj := hg j b e
    unfold yielded
    rw [take_at j hj]

theorem wpOp_tail {tail : List Oper} {i : Nat} {K K' : Act → World → Prop} {a : Act} {w : World} (hH : splitHeadB md l.toArray n = true) (hi : i < n) (hK : ∀ a w, K a w → K' a w)
    (h : wpOp P (l.take n).toArray (tailPost P l.toArray Q tail) i K a w) : wpOp P l.toArray Q i K' a w := by
  unfold wpOp at *
  rw [take_at i hi] at h
  split
  · rename_i e
    rw [e] at h
    exact hK _ _ h
  · rename_i o e
    rw [e] at h
    dsimp only at h
    obtain ⟨_, hg⟩ := splitHead_spec hH hi e
    rw [wanted_left hg] at h
    split
    · rename_i hw
      rw [if_pos hw] at h
      rcases h with h | ⟨h1, a', w', h2⟩
      · exact .inl (oper_tail hK h)
      · exact .inr ⟨h1, a', w', h2⟩
    · rename_i hw
      rw [if_neg hw] at h
      exact hK _ _ h

theorem getD_left {listed : Array Bool} {g i : Nat} {d d' : Bool} (hs : listed.size = n) (hi : i < n) : (listed ++ Array.replicate g false).getD i d = listed.getD i d' := by
  simp [Array.getD, hs, hi, Array.getElem_append_left, Nat.lt_of_lt_of_le hi (Nat.le_add_right n g)]

theorem ready_left {listed : Array Bool} (hH : splitHeadB md l.toArray n = true) (hs : listed.size = n) {i : Nat} (hi : i < n) :
    i ∈ Region.ready md l.toArray (listed ++ Array.replicate (l.length - n) false) ↔ i ∈ Region.ready md (l.take n).toArray listed := by
  rw [mem_ready, mem_ready, take_at i hi, getD_left (d' := true) hs hi]
  refine and_congr Iff.rfl (exists_congr fun o => and_congr_right fun ho => forall_congr' fun e => forall_congr' fun he => forall_congr' fun hb => ?_)
  have h1 := (splitHead_spec hH hi ho).1 e he hb
  rw [getD_left (d' := false) hs (by omega)]

theorem all_listed {listed : Array Bool} (hH : splitHeadB md l.toArray n = true) (hn : n < l.length) (hs : listed.size = n) (hr : Region.ready md (l.take n).toArray listed = []) : listed = Array.replicate n true := by
  have key : ∀ i, i < n → listed.getD i true = true := by
    intro i
    induction i using Nat.strongRecOn with
    | _ i ih =>
      intro hi
      cases hl : listed.getD i true with
      | true => rfl
      | false =>
        have ho : ∃ o, l.toArray[i]? = some o := ⟨l[i]'(by omega), by simp⟩
        obtain ⟨o, ho⟩ := ho
        have : i ∈ Region.ready md (l.take n).toArray listed := by
          rw [mem_ready, take_at i hi]
          refine ⟨hl, o, ho, fun e he hb => ?_⟩
          have h1 := (splitHead_spec hH hi ho).1 e he hb
          have h2 := ih e.on h1 (by omega)
          have h3 : e.on < listed.size := by omega
          simpa [Array.getD, h3] using h2
        rw [hr] at this
        cases this
  refine Array.ext (by simp [hs]) fun i h1 h2 => ?_
  have := key i (by omega)
  simpa [Array.getD, h1] using this

theorem wpAny_split (hB : splitB md l.toArray n = true) : ∀ (f : Nat) (listed : Array Bool) (a : Act) (w : World), listed.size = n → HeadInv md l.toArray n (listed ++ Array.replicate (l.length - n) false) →
    wpAny P md (l.take n).toArray (tailPost P l.toArray Q (l.drop n)) f listed a w → wpAny P md l.toArray Q (f + (l.length - n)) (listed ++ Array.replicate (l.length - n) false) a w := by
  simp only [splitB, Bool.and_eq_true, decide_eq_true_eq, List.size_toArray] at hB
  obtain ⟨⟨⟨⟨hn, hsink⟩, hchain⟩, hH⟩, hseq⟩ := hB
  have ended : ∀ (f : Nat) (listed : Array Bool) (a : Act) (w : World), listed.size = n → Region.ready md (l.take n).toArray listed = [] → wpList P l.toArray Q (l.drop n) a w →
      wpAny P md l.toArray Q (f + (l.length - n)) (listed ++ Array.replicate (l.length - n) false) a w := by
    intro f listed a w hs hr h
    rw [all_listed hH hn hs hr]
    have hdl : (l.drop n).length = l.length - n := by simp
    have h1 := wpAny_of_seq (P := P) (md := md) (ops := l.toArray) (Q' := Q) (l.drop n) n (Array.replicate n true ++ Array.replicate (l.length - n) false) a w (fun j => by simp [List.getElem?_drop]) (by rw [hdl]; exact hseq) h
    rw [hdl] at h1
    exact wpAny_mores _ _ _ _ h1 f
  intro f
  induction f with
  | zero => intro listed a w hs _ h; exact ended 0 listed a w hs h.1 h.2
  | succ f ih =>
    intro listed a w hs inv h
    by_cases hr : Region.ready md (l.take n).toArray listed = []
    · exact ended (f + 1) listed a w hs hr (h.1 hr)
    · obtain ⟨i0, hi0⟩ := List.exists_mem_of_ne_nil _ hr
      have hi0n : i0 < n := by
        obtain ⟨_, o, ho, _⟩ := mem_ready.1 hi0
        have := (Array.getElem?_eq_some_iff.1 ho).1
        simp at this; omega
      have hi0f := (ready_left hH hs hi0n).2 hi0
      have hun := (mem_ready.1 hi0f).1
      rw [show f + 1 + (l.length - n) = (f + (l.length - n)) + 1 by omega]
      refine ⟨fun h0 => (by rw [h0] at hi0f; cases hi0f), fun i hi => ?_⟩
      have hin : i < n := by
        rcases Nat.lt_or_ge i n with h' | h'
        · exact h'
        · exact absurd hi (tail_waits hsink hchain (by simpa using hn) inv _ i0 rfl hi0n hun i h')
      have hih := (ready_left hH hs hin).1 hi
      have hset : (listed ++ Array.replicate (l.length - n) false).setIfInBounds i true = listed.setIfInBounds i true ++ Array.replicate (l.length - n) false := by
        exact Array.setIfInBounds_append_left (by omega)
      refine wpOp_tail hH hin (fun a' w' h' => ?_) (h.2 i hih)
      rw [hset]
      refine ih _ a' w' (by simp [hs]) ?_ h'
      rw [← hset]
      exact inv.set hi hin
end

/-- The first part in whatever order, with a condition on the world behind each of its operations; then the last operations in their order. -/
theorem region_split {P : Program} {id : Nat} {Q : Exit → Act → World → Prop} {a : Act} {w : World} {l : List Oper} {S : World → Prop} (n : Nat) (hm : P.follows .mixedOrders = true) (hB : splitB .any l.toArray n = true)
    (hS : S w.drew) (h : S w.drew → wpAnyH P .any (l.take n).toArray (tailPost P l.toArray Q (l.drop n)) S n (Array.replicate n false) a w.drew) : (Code.region id l.toArray true).wp P Q a w := by
  refine wp_region_any hm ?_
  have hB' := hB
  simp only [splitB, Bool.and_eq_true, decide_eq_true_eq, List.size_toArray] at hB'
  have hn : n < l.length := hB'.1.1.1.1
  have e : Array.replicate n false ++ Array.replicate (l.length - n) false = Array.replicate l.toArray.size false := by
    rw [List.size_toArray]
    conv => rhs; rw [show l.length = n + (l.length - n) by omega]
    exact Array.replicate_append_replicate
  have inv0 : HeadInv .any l.toArray n (Array.replicate n false ++ Array.replicate (l.length - n) false) := by
    rw [e]
    exact ⟨by simp, fun j oj _ hl => (by rw [getD_replicate_false] at hl; cases hl), fun t _ ht => getD_in (by simpa using ht) (getD_replicate_false _ _)⟩
  have := wpAny_split (P := P) (Q := Q) hB n (Array.replicate n false) a w.drew (by simp) inv0 (wpAny_of_held _ _ _ _ (h hS))
  rw [e, show n + (l.length - n) = l.toArray.size by simp; omega] at this
  exact this

open Go.Sort in
theorem region_split_below {P : Program} {id : Nat} {Q : Exit → Act → World → Prop} {a : Act} {w : World} {l : List Oper} (n : Nat) (hm : P.follows .mixedOrders = true) (hB : splitB .any l.toArray n = true) (hL : Region.lexB .any (l.take n).toArray = true)
    (h : wpQuiet P (l.take n).toArray (fun w' => ∃ p : Regrown, w' = grow (redrawn w p.d) p.os) (fun a' => ∀ w', (∃ p : Regrown, w' = grow (redrawn w p.d) p.os) → wpList P l.toArray Q (l.drop n) a' w') (l.take n) a) : (Code.region id l.toArray true).wp P Q a w := by
  refine wp_region_any hm ?_
  have hB' := hB
  simp only [splitB, Bool.and_eq_true, decide_eq_true_eq, List.size_toArray] at hB'
  have hn : n < l.length := hB'.1.1.1.1
  have e : Array.replicate n false ++ Array.replicate (l.length - n) false = Array.replicate l.toArray.size false := by
    rw [List.size_toArray]
    conv => rhs; rw [show l.length = n + (l.length - n) by omega]
    exact Array.replicate_append_replicate
  have inv0 : HeadInv .any l.toArray n (Array.replicate n false ++ Array.replicate (l.length - n) false) := by
    rw [e]
    exact ⟨by simp, fun j oj _ hl => (by rw [getD_replicate_false] at hl; cases hl), fun t _ ht => getD_in (by simpa using ht) (getD_replicate_false _ _)⟩
  have hq : wpAny P .any (l.take n).toArray (tailPost P l.toArray Q (l.drop n)) n (Array.replicate n false) a w.drew := by
    simp only [Region.lexB, Bool.and_eq_true] at hL
    have hlen : (l.take n).length = n := by simp; omega
    have hx := wpAnyQ_lex (P := P) (C := fun w' => ∃ p : Regrown, w' = grow (redrawn w p.d) p.os) (md := .any) hL.1 (l.take n) 0 (Array.replicate n false) a (by simp) (by simpa [hlen] using hL.2) h
    rw [hlen] at hx
    exact wpAny_of_quiet (Q := fun a' => ∀ w', (∃ p : Regrown, w' = grow (redrawn w p.d) p.os) → wpList P l.toArray Q (l.drop n) a' w') (fun _ w' hw' h => h w' hw') _ _ _ _ ⟨⟨w.drawn + 1, #[]⟩, by rw [grow_empty]; rfl⟩ hx
  have := wpAny_split (P := P) (Q := Q) hB n (Array.replicate n false) a w.drew (by simp) inv0 hq
  rw [e, show n + (l.length - n) = l.toArray.size by simp; omega] at this
  exact this

/-- The head of a list of operations, quiet; what follows, in its own order. -/
theorem wpList_of_quiet {P : Program} {ops : Array Oper} {Q : Exit → Act → World → Prop} {C : World → Prop} {Q' : Act → Prop} {tail : List Oper} (hQ : ∀ a w, C w → Q' a → wpList P ops Q tail a w) :
    ∀ (head : List Oper) (a : Act) (w : World), C w → wpQuiet P ops C Q' head a → wpList P ops Q (head ++ tail) a w
  | [], a, w, hw, h => hQ a w hw h
  | o :: r, a, w, hw, h => by
    show (if Region.wanted o (yielded ops a.tmps) then _ else _)
    change (if Region.wanted o (yielded ops a.tmps) then o.quiet P a C (wpQuiet P ops C Q' r) else wpQuiet P ops C Q' r (a.put o.dst undef)) at h
    split
    · rename_i hw'
      rw [if_pos hw'] at h
      exact .inl (Oper.wp_of_quiet hw (fun a' w' hc hk => wpList_of_quiet hQ r a' w' hc hk) h)
    · rename_i hw'
      rw [if_neg hw'] at h
      exact wpList_of_quiet hQ r _ w hw h

open Go.Sort in
/-- A region in its own order: the first operations only read, and their callees leave what was there. -/
theorem region_seq_below {P : Program} {id : Nat} {Q : Exit → Act → World → Prop} {a : Act} {w : World} {l : List Oper} (n : Nat)
    (h : wpQuiet P l.toArray (fun w' => ∃ p : Regrown, w' = grow (redrawn w p.d) p.os) (fun a' => ∀ w', (∃ p : Regrown, w' = grow (redrawn w p.d) p.os) → wpList P l.toArray Q (l.drop n) a' w') (l.take n) a) : (Code.region id l.toArray false).wp P Q a w := by
  refine wp_region ?_
  have e := wpOps_eq_wpList (P := P) (Q := Q) (ops := l.toArray) l 0 (fun j => by simp)
  rw [List.range_eq_range', show l.toArray.size = l.length by simp, e]
  have hx := wpList_of_quiet (P := P) (ops := l.toArray) (Q := Q) (tail := l.drop n) (fun a w' hw' h => h w' hw') (l.take n) a w ⟨⟨w.drawn, #[]⟩, by rw [grow_empty]; rfl⟩ h
  rwa [List.take_append_drop] at hx
end Go.Proofs.YtnoofdjlocadbaaGreatDoor
