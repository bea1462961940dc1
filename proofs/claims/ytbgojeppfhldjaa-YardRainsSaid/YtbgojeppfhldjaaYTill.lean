/- A region that draws its order: two, or three, operations may come up next. -/
import Derived.Test.YtbgojeppfhldjaaYDeedFacts
import Derived.Deep.DeepCutAuto
import Derived.Deep.CutRange
namespace Go.Proofs.Ytbgojeppfhldjaa
open Go Go.RowKit Yd
section
variable {P : Program} {md : Region.Mode} {ops : Array Oper} {Q : Exit → Act → World → Prop} {Bk : List Nat} {H : World → Prop}
theorem till_ways {fuel : Nat} {listed : Array Bool} {a : Act} {w : World} (hne : Region.ready md ops listed ≠ [])
    (h : ∀ j ∈ Region.ready md ops listed, ∃ o, ops[j]? = some o ∧ wpList P ops (Exit.then (fun a' w' => Till Bk H (listed.setIfInBounds j true) w' ∧ wpAnyT P md ops Q Bk H fuel (listed.setIfInBounds j true) a' w') Q) [o] a w) : wpAnyT P md ops Q Bk H (fuel + 1) listed a w := by
  refine ⟨fun h0 => absurd h0 hne, fun i hi => ?_⟩
  obtain ⟨o, ho, h⟩ := h i hi
  unfold wpOp
  rw [ho]
  change (if Region.wanted o (yielded ops a.tmps) then o.wp P a w (wpList P ops _ []) _ ∨ (o.asks P a w ∧ LetsOut _) else _) at h
  dsimp only
  split
  · rename_i hw
    rw [if_pos hw] at h
    rcases h with h | ⟨h1, a', w', h2⟩
    · exact .inl (oper_then h)
    · exact .inr ⟨h1, a', w', h2⟩
  · rename_i hw
    rw [if_neg hw] at h
    exact h
theorem till_two {i j : Nat} {o p : Oper} {fuel : Nat} {listed : Array Bool} {a : Act} {w : World} (hr : Region.ready md ops listed = [i, j]) (ho : ops[i]? = some o) (hp : ops[j]? = some p)
    (h : wpList P ops (Exit.then (fun a' w' => Till Bk H (listed.setIfInBounds i true) w' ∧ wpAnyT P md ops Q Bk H fuel (listed.setIfInBounds i true) a' w') Q) [o] a w)
    (h' : wpList P ops (Exit.then (fun a' w' => Till Bk H (listed.setIfInBounds j true) w' ∧ wpAnyT P md ops Q Bk H fuel (listed.setIfInBounds j true) a' w') Q) [p] a w) : wpAnyT P md ops Q Bk H (fuel + 1) listed a w := by
  refine till_ways (by rw [hr]; simp) fun k hk => ?_
  rw [hr] at hk
  rcases List.mem_cons.1 hk with rfl | hk
  · exact ⟨o, ho, h⟩
  · rw [List.mem_singleton] at hk
    subst hk
    exact ⟨p, hp, h'⟩
theorem till_three {i j k : Nat} {o p q : Oper} {fuel : Nat} {listed : Array Bool} {a : Act} {w : World} (hr : Region.ready md ops listed = [i, j, k]) (ho : ops[i]? = some o) (hp : ops[j]? = some p) (hq : ops[k]? = some q)
    (h : wpList P ops (Exit.then (fun a' w' => Till Bk H (listed.setIfInBounds i true) w' ∧ wpAnyT P md ops Q Bk H fuel (listed.setIfInBounds i true) a' w') Q) [o] a w)
    (h' : wpList P ops (Exit.then (fun a' w' => Till Bk H (listed.setIfInBounds j true) w' ∧ wpAnyT P md ops Q Bk H fuel (listed.setIfInBounds j true) a' w') Q) [p] a w)
    (h'' : wpList P ops (Exit.then (fun a' w' => Till Bk H (listed.setIfInBounds k true) w' ∧ wpAnyT P md ops Q Bk H fuel (listed.setIfInBounds k true) a' w') Q) [q] a w) : wpAnyT P md ops Q Bk H (fuel + 1) listed a w := by
  refine till_ways (by rw [hr]; simp) fun x hx => ?_
  rw [hr] at hx
  rcases List.mem_cons.1 hx with rfl | hx
  · exact ⟨o, ho, h⟩
  rcases List.mem_cons.1 hx with rfl | hx
  · exact ⟨p, hp, h'⟩
  · rw [List.mem_singleton] at hx
    subst hx
    exact ⟨q, hq, h''⟩
end
/-- A block that a callee made. -/
theorem Desk.grow {w0 W W' : World} {Cx C : Nat → Prop} {B : Nat} {bef aft : Int} {l : List SRow} {c : Yd.Acc} {made : Int} {N : Nat} {kv tv : Value} {m : Nat} {L : List (Nat × TypeId × List Value)}
    (h : Desk w0 W Cx C B bef aft l c made N kv tv m L) (hb : Below W.heap.size W W') {g : Nat} {t : TypeId} {cs : Array Value} (hk : Blk W' g t cs) (hg : W.heap.size ≤ g) : Desk w0 W' Cx C B bef aft l c made N kv tv m (L ++ [(g, t, cs.toList)]) := by
  have h' := h.below hb
  refine ⟨h'.book, h'.old, fun i g' u ds hi => ?_, ?_, h'.beside⟩
  · rcases Nat.lt_or_ge i L.length with h1 | h1
    · rw [List.getElem?_append_left h1] at hi
      exact h'.loc i g' u ds hi
    · rw [List.getElem?_append_right h1] at hi
      have : i - L.length = 0 := by
        rcases Nat.eq_zero_or_pos (i - L.length) with h2 | h2
        · exact h2
        · rw [List.getElem?_eq_none (by simp; omega)] at hi; cases hi
      rw [this] at hi
      cases hi
      exact ⟨hk, Nat.le_trans h.beside.size hg⟩
  · rw [List.map_append, List.nodup_append]
    refine ⟨h.nodup, by simp, fun a ha b hb' => ?_⟩
    obtain ⟨x, hx, rfl⟩ := List.mem_map.1 ha
    obtain ⟨i, hi⟩ := List.mem_iff_getElem?.1 hx
    have := (h.loc i x.1 x.2.1 x.2.2 hi).1.lt
    simp at hb'
    omega
/-- A deed was made: what is there behind it. -/
def DeedDone (w : World) (C : Nat → Prop) (B : Nat) (bef aft : Int) (ss : List (Stk Code)) (c : Yd.Acc) (made : Int) (N m : Nat) (e : Ending) (w' : World) : Prop :=
  e = .returned (.tuple #[]) ∧ Beside C w w' ∧ ∃ (rows : List SRow) (kv' tv' : Value), rows.map (·.1) = ss ∧ Book w' (Wide C w) B bef aft rows c made N kv' tv' m
theorem Blk.range {w : World} {g : Nat} {t : TypeId} {cs : Array Value} (h : Blk w g t cs) (o : Nat) (vs : List Value) (e : (cs.toList.drop o).take vs.length = vs) : w.rangeAt g o vs := fun j v hv => by
  refine h.at (o + j) v ?_
  have hlt : j < vs.length := (List.getElem?_eq_some_iff.1 hv).1
  rw [← e, List.getElem?_take, if_pos hlt, List.getElem?_drop] at hv
  simpa using hv
theorem Desk.drew {w0 W : World} {Cx C : Nat → Prop} {B : Nat} {bef aft : Int} {l : List SRow} {c : Yd.Acc} {made : Int} {N : Nat} {kv tv : Value} {m : Nat} {L : List (Nat × TypeId × List Value)}
    (h : Desk w0 W Cx C B bef aft l c made N kv tv m L) : Desk w0 W.drew Cx C B bef aft l c made N kv tv m L := h.below (Below.refl _ _).drew
end Go.Proofs.Ytbgojeppfhldjaa
