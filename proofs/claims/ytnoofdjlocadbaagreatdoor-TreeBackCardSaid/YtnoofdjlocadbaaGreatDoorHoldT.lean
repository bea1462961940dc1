/- A region that draws its order: what only reads may be taken first, as long as nothing that breaks what it reads can come before it; what is left comes up in its order. -/
import Derived.Test.YtnoofdjlocadbaaGreatDoorSplitT
import Derived.OrdersHeld
import Derived.Deep.MidRow
namespace Go.Proofs.YtnoofdjlocadbaaGreatDoor
open Go Go.RowKit

section
variable {P : Program} {ops : Array Oper} {Q : Exit → Act → World → Prop} {md : Region.Mode} {H H' : World → Prop} {Bk : List Nat}

/-- Until one of the operations Bk has come up, the world meets H. -/
def Till (Bk : List Nat) (H : World → Prop) (listed : Array Bool) (w : World) : Prop := (Bk.any fun j => listed.getD j false) = false → H w

/-- Whatever order is picked from here on; behind each operation the world meets H till one of Bk has come up. -/
def wpAnyT (P : Program) (md : Region.Mode) (ops : Array Oper) (Q : Exit → Act → World → Prop) (Bk : List Nat) (H : World → Prop) : Nat → Array Bool → Act → World → Prop
  | 0, listed, a, w => Region.ready md ops listed = [] ∧ Q .normal a w
  | fuel + 1, listed, a, w =>
    (Region.ready md ops listed = [] → Q .normal a w) ∧
    ∀ i ∈ Region.ready md ops listed, wpOp P ops Q i (fun a' w' => Till Bk H (listed.setIfInBounds i true) w' ∧ wpAnyT P md ops Q Bk H fuel (listed.setIfInBounds i true) a' w') a w

theorem wpAny_of_till : ∀ (fuel : Nat) (listed : Array Bool) (a : Act) (w : World), wpAnyT P md ops Q Bk H fuel listed a w → wpAny P md ops Q fuel listed a w
  | 0, _, _, _, h => h
  | fuel + 1, _, _, _, h => ⟨h.1, fun i hi => wpOp_mono (fun a' w' h' => wpAny_of_till fuel _ a' w' h'.2) (h.2 i hi)⟩

theorem any_set {listed : Array Bool} {i : Nat} (hi : Bk.contains i = false) : (Bk.any fun j => (listed.setIfInBounds i true).getD j false) = Bk.any fun j => listed.getD j false := by
  have hn : i ∉ Bk := by simpa using hi
  rw [Bool.eq_iff_iff]
  simp only [List.any_eq_true]
  refine exists_congr fun j => and_congr_right fun hj => ?_
  rw [getD_set_ne false (fun e => hn (by rw [e]; exact hj))]
theorem Till.set_ {listed : Array Bool} {i : Nat} {w : World} (hi : Bk.contains i = false) : Till Bk H (listed.setIfInBounds i true) w ↔ Till Bk H listed w := by unfold Till; rw [any_set hi]

/-- An operation that may come up now may be taken first. -/
theorem wpAnyT_first {i : Nat} {oi : Oper} {v : Value} (hi : ops[i]? = some oi) (hsel : ∀ (j : Nat) (o : Oper) cs b, ops[j]? = some o → o.op ≠ .select cs b)
    (hQ : ∀ c a w, Q (.panic c) (a.put oi.dst v) w → Q (.panic c) a w) (hiB : Bk.contains i = false)
    (hw : (∀ w, H' w) ∨ ((∀ w, H w → H' w) ∧ ∀ j oj, j ∈ Bk → ops[j]? = some oj → ∃ e ∈ oj.after, Region.binds md e = true ∧ e.on = i)) :
    ∀ (fuel : Nat) (listed : Array Bool) (a : Act) (w : World),
      (∀ j oj, ops[j]? = some oj → j ≠ i → listed.getD j true = false → (∀ e ∈ oj.after, Region.binds md e = true → e.on ≠ i) → oi.apart ops oj = true) →
      i ∈ Region.ready md ops listed → YieldsIf P ops H' oi v a → Till Bk H listed w → ((∀ w, H' w) ∨ (Bk.any fun j => listed.getD j false) = false) →
      wpAnyT P md ops Q Bk H fuel (listed.setIfInBounds i true) (a.put oi.dst v) w → wpAnyT P md ops Q Bk H (fuel + 1) listed a w := by
  have here : ∀ (listed : Array Bool) (w : World), Till Bk H listed w → ((∀ w, H' w) ∨ (Bk.any fun j => listed.getD j false) = false) → H' w := fun listed w hT hB => by
    rcases hw with h | ⟨h, _⟩
    · exact h w
    · rcases hB with h' | h'
      · exact h' w
      · exact h w (hT h')
  intro fuel
  induction fuel with
  | zero =>
    intro listed a w _ hr hy hT hB h
    refine ⟨fun h0 => (by rw [h0] at hr; cases hr), fun j hj => ?_⟩
    by_cases hji : j = i
    · subst hji; exact hy.wpOp hi (here _ _ hT hB) ⟨(Till.set_ hiB).2 hT, h⟩
    · have := ready_mono hj hji
      rw [h.1] at this
      cases this
  | succ fuel ih =>
    intro listed a w hfree hr hy hT hB h
    refine ⟨fun h0 => (by rw [h0] at hr; cases hr), fun j hj => ?_⟩
    by_cases hji : j = i
    · subst hji; exact hy.wpOp hi (here _ _ hT hB) ⟨(Till.set_ hiB).2 hT, h⟩
    · have h1 := h.2 j (ready_mono hj hji)
      obtain ⟨hjun, oj, hoj, hall⟩ := mem_ready.1 hj
      have hnot : ∀ e ∈ oj.after, Region.binds md e = true → e.on ≠ i := fun e he hb heq => by
        have h1 := hall e he hb
        have h0 := (mem_ready.1 hr).1
        rw [heq] at h1
        rcases Nat.lt_or_ge i listed.size with h' | h'
        · simp [h'] at h0 h1; rw [h0] at h1; cases h1
        · simp [Array.getElem?_eq_none h'] at h1
      have h2 := wpOp_putIf hoj (hfree j oj hoj hji hjun hnot) (fun cs b => hsel i oi cs b hi) (fun cs b => hsel j oj cs b hoj) hQ hy h1
      have hfree' : ∀ k ok, ops[k]? = some ok → k ≠ i → (listed.setIfInBounds j true).getD k true = false →
          (∀ e ∈ ok.after, Region.binds md e = true → e.on ≠ i) → oi.apart ops ok = true := fun k ok hk hki hun hno => by
        refine hfree k ok hk hki ?_ hno
        by_cases hjk : j = k
        · subst hjk; exact hjun
        · rw [getD_set_ne true hjk] at hun; exact hun
      have hB' : (∀ w, H' w) ∨ (Bk.any fun k => (listed.setIfInBounds j true).getD k false) = false := by
        rcases hw with h' | ⟨_, h'⟩
        · exact .inl h'
        · rcases hB with hB | hB
          · exact .inl hB
          · refine .inr ?_
            rw [any_set ?_]
            · exact hB
            · cases hc : Bk.contains j with
              | false => rfl
              | true =>
                obtain ⟨e, he, hb, heq⟩ := h' j oj (by simpa using hc) hoj
                exact absurd heq (hnot e he hb)
      refine wpOp_mono (fun a' w' h3 => ?_) h2
      have hT' : Till Bk H (listed.setIfInBounds j true) w' := by
        have := h3.2.1
        rw [Array.setIfInBounds_comm _ _ (Ne.symm hji), Till.set_ hiB] at this
        exact this
      refine ⟨hT', ih (listed.setIfInBounds j true) a' w' hfree' (ready_mono hr (Ne.symm hji)) h3.1 hT' hB' ?_⟩
      rw [Array.setIfInBounds_comm _ _ hji]
      exact h3.2.2

/-- Each of Bk waits for i. -/
def waitsB (md : Region.Mode) (ops : Array Oper) (Bk : List Nat) (i : Nat) : Bool :=
  Bk.all fun j => match ops[j]? with
    | some o => o.after.any fun e => Region.binds md e && e.on == i
    | none => true

/-- What reads is taken first. -/
theorem till_load {i : Nat} {oi : Oper} {v : Value} {d : Tmp} {fuel : Nat} {listed : Array Bool} {a : Act} {w : World} (hi : ops[i]? = some oi) (hd : oi.dst = some d)
    (hB : (Region.noSelect ops && Region.free md ops listed i && (Region.ready md ops listed).contains i && !Bk.contains i && waitsB md ops Bk i && !(Bk.any fun j => listed.getD j false)) = true)
    (hQ : ∀ c a w, Q (.panic c) (a.put oi.dst v) w → Q (.panic c) a w) (hy : YieldsIf P ops H oi v a) (hT : Till Bk H listed w)
    (h : wpAnyT P md ops Q Bk H fuel (listed.setIfInBounds i true) ⟨a.tmps.setIfInBounds d v, a.defers⟩ w) : wpAnyT P md ops Q Bk H (fuel + 1) listed a w := by
  simp only [Bool.and_eq_true, Bool.not_eq_true'] at hB
  obtain ⟨⟨⟨⟨⟨h1, h2⟩, h3⟩, h4⟩, h5⟩, h6⟩ := hB
  refine wpAnyT_first (H' := H) hi (Region.noSelect_spec h1) hQ h4 (.inr ⟨fun _ h => h, fun j oj hj ho => ?_⟩) fuel listed a w (Region.free_spec hi h2) (by simpa using h3) hy hT (.inr h6) (by rw [hd]; exact h)
  have := List.all_eq_true.1 h5 j hj
  simp only [ho, Array.any_eq_true'] at this
  obtain ⟨e, he, hb⟩ := this
  simp only [Bool.and_eq_true, beq_iff_eq] at hb
  exact ⟨e, he, hb.1, hb.2⟩
/-- What looks at no world is taken first. -/
theorem till_pure {i : Nat} {oi : Oper} {v : Value} {d : Tmp} {fuel : Nat} {listed : Array Bool} {a : Act} {w : World} (hi : ops[i]? = some oi) (hd : oi.dst = some d)
    (hB : (Region.noSelect ops && Region.free md ops listed i && (Region.ready md ops listed).contains i && !Bk.contains i) = true)
    (hQ : ∀ c a w, Q (.panic c) (a.put oi.dst v) w → Q (.panic c) a w) (hy : YieldsIf P ops (fun _ => True) oi v a) (hT : Till Bk H listed w)
    (h : wpAnyT P md ops Q Bk H fuel (listed.setIfInBounds i true) ⟨a.tmps.setIfInBounds d v, a.defers⟩ w) : wpAnyT P md ops Q Bk H (fuel + 1) listed a w := by
  simp only [Bool.and_eq_true, Bool.not_eq_true'] at hB
  obtain ⟨⟨⟨h1, h2⟩, h3⟩, h4⟩ := hB
  exact wpAnyT_first (H' := fun _ => True) hi (Region.noSelect_spec h1) hQ h4 (.inl fun _ => trivial) fuel listed a w (Region.free_spec hi h2) (by simpa using h3) hy hT (.inl fun _ => trivial) (by rw [hd]; exact h)

theorem oper_then {o : Oper} {a : Act} {w : World} {K : Act → World → Prop} (h : o.wp P a w K (Exit.then K Q)) : o.wp P a w K Q := by
  unfold Oper.wp at *
  generalize (execOp a.eval o).run P w = r at *
  cases r with
  | ok n w' =>
    cases n <;> simp only [Oper.upon] at h ⊢ <;>
      first
        | exact h
        | exact Calls.mono h (fun e w'' he => by cases e <;> exact he)
  | halt x w' => cases x <;> simp only [Oper.upon] at h ⊢ <;> exact h

/-- One operation alone may come up. -/
theorem till_only {j : Nat} {o : Oper} {fuel : Nat} {listed : Array Bool} {a : Act} {w : World} (hr : Region.ready md ops listed = [j]) (ho : ops[j]? = some o)
    (h : wpList P ops (Exit.then (fun a' w' => Till Bk H (listed.setIfInBounds j true) w' ∧ wpAnyT P md ops Q Bk H fuel (listed.setIfInBounds j true) a' w') Q) [o] a w) : wpAnyT P md ops Q Bk H (fuel + 1) listed a w := by
  refine ⟨fun h0 => (by rw [hr] at h0; cases h0), fun i hi => ?_⟩
  rw [hr] at hi
  cases List.mem_singleton.1 hi
  unfold wpOp
  rw [ho]
  change (if Region.wanted o (yielded ops a.tmps) then o.wp P a w (wpList P ops _ []) _ ∨ (o.asks P a w ∧ LetsOut _) else _) at h
  dsimp only
  split
  · rename_i hw
    rw [if_pos hw] at h
    rcases h with h | ⟨h1, a', w', h2⟩
    · exact .inl (oper_then h)
    · exact .inr ⟨h1, a', w', h2⟩
  · rename_i hw
    rw [if_neg hw] at h
    exact h
theorem till_done {fuel : Nat} {listed : Array Bool} {a : Act} {w : World} (hr : Region.ready md ops listed = []) (h : Q .normal a w) : wpAnyT P md ops Q Bk H fuel listed a w := by
  cases fuel with
  | zero => exact ⟨hr, h⟩
  | succ f => exact ⟨fun _ => h, by rw [hr]; simp⟩
/-- The beginning. -/
theorem region_till {id : Nat} {a : Act} {w : World} (Bk : List Nat) (H : World → Prop) (n : Nat) (l0 : List Bool) (hm : P.follows .mixedOrders = true) (hn : ops.size = n) (hl : List.replicate n false = l0) (h : wpAnyT P .any ops Q Bk H n l0.toArray a w.drew) : (Code.region id ops true).wp P Q a w := by
  subst hn hl
  refine wp_region_any hm (wpAny_of_till (Bk := Bk) (H := H) _ _ _ _ ?_)
  rwa [List.toArray_replicate] at h
end

/-- A value that an operation yields in every world of H. -/
theorem yields_of {P : Program} {ops : Array Oper} {H : World → Prop} {o : Oper} {v : Value} {a : Act} (hg : o.guard = none) (h : ∀ w, H w → (execOp a.eval o).run P w = .ok (.value v) w) : YieldsIf P ops H o v a :=
  .inl ⟨by unfold Region.wanted; rw [hg], h⟩
/-- .. a struct that is loaded. -/
theorem yields_mid {P : Program} {ops : Array Oper} {S : World → Prop} {op : Oper} {a : Act} (hg : op.guard = none) (ty : TypeId) (x : Operand) (ho : op.op = .load ty x)
    (b o : Nat) (hx : a.eval x = .pointer (some ⟨b, o, none⟩)) (cs : List Value) (d : TypeDesc) (hS : ∀ w, S w → w.rangeAt b o cs)
    (hu : P.underlying ty = some d) (hd : d.isRow = true) (hi : (P.info? ty).map (·.size) = some cs.length) : YieldsIf P ops S op (.agg cs.toArray) a :=
  yieldsIf_load_mid (by unfold Region.wanted; rw [hg]) ty x ho b o hx cs d hS hu hd hi

/-- The blocks of L are as they were in W. -/
def StillAt (L : List Nat) (W w' : World) : Prop := ∀ k ∈ L, k < W.heap.size → w'.heap[k]? = W.heap[k]?
section
variable {L : List Nat} {W w' w2 : World}
theorem StillAt.refl (L : List Nat) (W : World) : StillAt L W W := fun _ _ _ => rfl
theorem StillAt.drew (L : List Nat) (W : World) : StillAt L W W.drew := fun _ _ _ => rfl
theorem StillAt.alloc (h : StillAt L W w') (hs : W.heap.size ≤ w'.heap.size) (o : Obj) : StillAt L W (w'.alloc o) := fun k hk hl => (Below.heap_alloc w' o k (by omega)).trans (h k hk hl)
theorem StillAt.below (h : StillAt L W w') (hs : W.heap.size ≤ w'.heap.size) (hb : Below w'.heap.size w' w2) : StillAt L W w2 := fun k hk hl => (hb.block k (by omega)).trans (h k hk hl)
theorem StillAt.grown (h : StillAt L W w') (hs : W.heap.size ≤ w'.heap.size) {row : Option Nat} (hg : w'.grownBy w2 row) (hr : ∀ k ∈ L, some k ≠ row) : StillAt L W w2 := fun k hk hl => (hg.block k (by omega) (hr k hk)).trans (h k hk hl)
theorem StillAt.beside (h : StillAt L W w') (hs : W.heap.size ≤ w'.heap.size) {C : Nat → Prop} (hb : Beside C w' w2) (hr : ∀ k ∈ L, ¬ C k) : StillAt L W w2 := fun k hk hl => (hb.block k (by omega) (hr k hk)).trans (h k hk hl)
theorem StillAt.setCells (h : StillAt L W w') {g : Nat} (hg : g ∉ L) (o : Nat) (vs : List Value) : StillAt L W (w'.setCells g o vs) := fun k hk hl => (heap_setCells w' g (fun e => hg (e ▸ hk)) vs o).trans (h k hk hl)
theorem StillAt.blk (h : StillAt L W w') {g : Nat} {t : TypeId} {cs : Array Value} (hb : Bkt W g t cs) (hg : g ∈ L) : Bkt w' g t cs := (h g hg hb.lt).trans hb
theorem cell_in {g : Nat} {t : TypeId} {cs : Array Value} (hb : Bkt W g t cs) (hg : g ∈ L) (h : StillAt L W w') (o : Nat) (v : Value) (e : cs[o]? = some v) : w'.cell? ⟨g, o, none⟩ = some v := (cell_same (h g hg hb.lt) o).trans (hb.at o v e)
theorem range_in {g : Nat} {t : TypeId} {cs : Array Value} (hb : Bkt W g t cs) (hg : g ∈ L) (h : StillAt L W w') (o : Nat) (vs : List Value) (e : (cs.toList.drop o).take vs.length = vs) : w'.rangeAt g o vs := fun j v hv => by
  refine cell_in hb hg h (o + j) v ?_
  have hlt : j < vs.length := (List.getElem?_eq_some_iff.1 hv).1
  rw [← e, List.getElem?_take, if_pos hlt, List.getElem?_drop] at hv
  simpa using hv
end
end Go.Proofs.YtnoofdjlocadbaaGreatDoor
