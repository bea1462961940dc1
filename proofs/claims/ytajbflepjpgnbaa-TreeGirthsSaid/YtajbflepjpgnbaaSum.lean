/- The sum over a map, in whatever order; a value laid into a new map; a list of maps. -/
import Derived.Test.YtajbflepjpgnbaaDelete
import Derived.Maps.AppendAt
import Derived.Maps.Ext
namespace Go.Proofs.Ytajbflepjpgnbaa
open Go.RowKit Go.Shelf Go.Maps

def litNum : DataW Unit → Int
  | .lit (.int _ c) => c
  | _ => 0
def sumLeft (es : List (Lit × DataW Unit)) (left : Lit → Bool) : Int := ((es.filter fun p => left p.1).map fun p => litNum p.2).sum

theorem sumLeft_cons (p : Lit × DataW Unit) (es : List (Lit × DataW Unit)) (left : Lit → Bool) : sumLeft (p :: es) left = (if left p.1 then litNum p.2 else 0) + sumLeft es left := by
  unfold sumLeft
  cases h : left p.1 <;> simp [h]
theorem sumLeft_congr {es : List (Lit × DataW Unit)} {l l' : Lit → Bool} (h : ∀ p ∈ es, l p.1 = l' p.1) : sumLeft es l = sumLeft es l' := by
  unfold sumLeft
  rw [List.filter_congr h]
theorem sumLeft_none {es : List (Lit × DataW Unit)} {left : Lit → Bool} (hl : ∀ kl, left kl = false) : sumLeft es left = 0 := by
  unfold sumLeft
  rw [List.filter_eq_nil_iff.2 (fun p _ => by simp [hl])]
  rfl
theorem sumLeft_step {x c : Int} {left : Lit → Bool} (hl : left (.int .i64 x) = true) : ∀ {es : List (Lit × DataW Unit)}, es.Pairwise (fun p q => p.1 ≠ q.1) →
    (∀ zd, (DataW.map es).atKey (.int .i64 x) zd = .lit (.int .i64 c)) → sumLeft es left = c + sumLeft es (fun z => left z && !z.sameKey (.int .i64 x))
  | [], _, hat => by
    have := hat (.lit (.int .i64 (c + 1)))
    simp [DataW.atKey] at this
    omega
  | p :: es, hap, hat => by
    rw [sumLeft_cons, sumLeft_cons]
    have hap2 := List.pairwise_cons.1 hap
    cases hs : p.1.sameKey (.int .i64 x)
    · have hat' : ∀ zd, (DataW.map es).atKey (.int .i64 x) zd = .lit (.int .i64 c) := fun zd => by
        have := hat zd
        simpa [DataW.atKey, List.find?_cons, hs] using this
      rw [sumLeft_step hl hap2.2 hat']
      simp only [Bool.not_false, Bool.and_true]
      omega
    · have he := WideAt.sameKey_eq hs
      have hp : p.2 = .lit (.int .i64 c) := by
        have := hat (.lit (.int .i64 0))
        simpa [DataW.atKey, List.find?_cons, hs] using this
      rw [sumLeft_congr (l := fun z => left z && !z.sameKey (.int .i64 x)) (l' := left) (fun q hq => by
        have hne := hap2.1 q hq
        cases hq2 : q.1.sameKey (.int .i64 x)
        · simp
        · exact absurd (he.trans (WideAt.sameKey_eq hq2).symm) hne)]
      rw [he, hl, hp]
      simp [litNum]

/-- The sum of all that a map of numbers has. -/
def total (D : DataW Unit) : Int :=
  match D with
  | .map es => sumLeft es (fun _ => true)
  | _ => 0
theorem total_start {es : List (Lit × DataW Unit)} (hk : ∀ p ∈ es, WideAt.IsKeyLit p.1) : sumLeft es (Maps.has (.map es)) = total (.map es) := by
  show sumLeft es _ = sumLeft es (fun _ => true)
  exact sumLeft_congr (fun p hp => List.any_eq_true.2 ⟨p, hp, WideAt.sameKey_self (hk p hp)⟩)

section
variable {P : Program} {ops : Array Oper} {rest : List Oper}
/-- A value laid into a map that is being made. -/
theorem wpList_insert_own {H : Type} (w : World) {o : Oper} {a : Act} {Q : Exit → Act → World → Prop}
    (hg : o.guard = none) (m x v : Operand) (t : TypeId) (hop : o.op = Op.insert t m x v)
    (k e : TypeId) (K : Keyed P k) (ht : P.underlying t = some (.map k e)) (R : Value → Option (DataW H × List MemPlace)) (b n : Nat) (D : DataW H)
    (hm : a.eval m = .map (some b)) (hown : w.ownsMap P k R b n D) (hn : n < maxLen) (key val : Value) (kl : Lit) (hx : a.eval x = key) (hv : a.eval v = val) (hkey : keyOf P k key = some kl)
    (d : DataW H) (ps : List MemPlace) (hval : R val = some (d, ps))
    (hK : ∀ w', w'.ownsMap P k R b (n + 1) (D.put kl d) → w.grownBy w' (some b) → wpList P ops Q rest (a.put o.dst undef) w') :
    wpList P ops Q (o :: rest) a w := by
  refine wpList_plain hg fun K' hK' => ?_
  obtain ⟨w', hrun, r1, r2⟩ := hown.update K ht hn hkey hval
  unfold Oper.wp
  simp [execOp, hop, hm, hx, hv, hrun, Result.andThen]
  exact hK' _ _ (hK w' r1 r2)
theorem at_ins {d : Option Tmp} (ty : TypeId) (m x y : Operand) {ty2 : TypeId} {ps : String} {af : Array Edge} {gd : Option (Nat × Bool)} {a : Act} {w : World} {Q : Exit → Act → World → Prop} (h : wpList P ops Q (⟨d, .insert ty m x y, ty2, ps, af, gd⟩ :: rest) a w) : wpList P ops Q (⟨d, .insert ty m x y, ty2, ps, af, gd⟩ :: rest) a w := h
end

theorem ownsMap_below {W W' : World} {b n : Nat} {D : DataW Unit} {k : TypeId} {P : Program} {R : Value → Option (DataW Unit × List MemPlace)} (h : W.ownsMap P k R b n D) (hb : Below W.heap.size W W') : W'.ownsMap P k R b n D := by
  have hl := h.lt
  obtain ⟨es, clock, hh, rest⟩ := h
  exact ⟨es, clock, (hb.block b hl).trans hh, rest⟩
theorem ownsRow_below {W W' : World} {base : Nat} {e : TypeId} {size : Nat} {v : Value} {n : Nat} {xs : List Value} (h : W.ownsRow base e size v n xs) (hb : Below W.heap.size W W') : W'.ownsRow base e size v n xs := by
  rcases h with ⟨h1, h2⟩
  refine ⟨h1, ?_⟩
  rcases h2 with h2 | ⟨g, cap, cur, hv, hg, hh, hr⟩
  · exact .inl h2
  · refine .inr ⟨g, cap, cur, hv, hg, (hb.block g ?_).trans hh, hr⟩
    rcases Nat.lt_or_ge g W.heap.size with h | h
    · exact h
    · rw [Array.getElem?_eq_none h] at hh
      cases hh
theorem map_not_row {W : World} {base : Nat} {e k : TypeId} {P : Program} {R : Value → Option (DataW Unit × List MemPlace)} {size : Nat} {v : Value} {n nn b : Nat} {xs : List Value} {D : DataW Unit} (hr : W.ownsRow base e size v n xs) (hm : W.ownsMap P k R b nn D) : some b ≠ v.ownBlock := fun he => by
  obtain ⟨es, clock, hh, _⟩ := hm
  rcases hr.2 with ⟨rfl, _⟩ | ⟨g, cap, cur, rfl, _, hb, _⟩
  · cases he
  · cases he
    rw [hb] at hh
    cases hh

theorem getD_app {α : Type} {xs ys : List α} {j : Nat} {d : α} (h : j < xs.length) : (xs ++ ys).getD j d = xs.getD j d := by
  simp only [List.getD, List.getElem?_append_left h]

/-- A list of maps: its header, its blocks. -/
structure Fit' (W : World) (n0 N : Nat) (Ds : List (DataW Unit)) (v : Value) (bs : List Nat) : Prop where
  len : bs.length = Ds.length
  row : W.ownsRow n0 121 1 v Ds.length (bs.map fun g => .map (some g))
  at_ : ∀ j, j < bs.length → n0 ≤ bs.getD j 0 ∧ W.ownsMap Try.prog 3 (plainElem Try.prog 3) (bs.getD j 0) N (Ds.getD j (.map []))
  apart : bs.Nodup

theorem Fit'.below {W W' : World} {n0 N : Nat} {Ds : List (DataW Unit)} {v : Value} {bs : List Nat} (h : Fit' W n0 N Ds v bs) (hb : Below W.heap.size W W') : Fit' W' n0 N Ds v bs :=
  ⟨h.len, ownsRow_below h.row hb, fun j hj => ⟨(h.at_ j hj).1, ownsMap_below (h.at_ j hj).2 hb⟩, h.apart⟩

theorem Fit'.lt {W : World} {n0 N : Nat} {Ds : List (DataW Unit)} {v : Value} {bs : List Nat} (h : Fit' W n0 N Ds v bs) : ∀ g ∈ bs, g < W.heap.size := fun g hg => by
  obtain ⟨j, hj, rfl⟩ := List.mem_iff_getElem.1 hg
  have := (h.at_ j hj).2.lt
  simpa [List.getD, List.getElem?_eq_getElem hj] using this

theorem Fit'.append {W W' : World} {n0 N : Nat} {Ds : List (DataW Unit)} {v v' : Value} {bs : List Nat} {g : Nat} {D : DataW Unit} (h : Fit' W n0 N Ds v bs) (hg : W.ownsMap Try.prog 3 (plainElem Try.prog 3) g N D) (h0 : n0 ≤ g) (hne : g ∉ bs)
    (hgr : W.grownBy W' v.ownBlock) (hr : W'.ownsRow n0 121 1 v' (Ds.length + 1) ((bs.map fun g => Value.map (some g)) ++ [.map (some g)])) : Fit' W' n0 N (Ds ++ [D]) v' (bs ++ [g]) := by
  refine ⟨by simp [h.len], by simpa using hr, fun j hj => ?_, ?_⟩
  · rcases Nat.lt_or_ge j bs.length with hl | hl
    · rw [getD_app hl, getD_app (by rw [← h.len]; exact hl)]
      have hk := h.at_ j hl
      exact ⟨hk.1, hk.2.kept hgr (map_not_row h.row hk.2)⟩
    · have : j = bs.length := by simp at hj; omega
      subst this
      have e1 : (bs ++ [g]).getD bs.length 0 = g := by simp
      have e2 : (Ds ++ [D]).getD bs.length (.map []) = D := by rw [h.len]; simp
      rw [e1, e2]
      exact ⟨h0, hg.kept hgr (map_not_row h.row hg)⟩
  · refine List.nodup_append.2 ⟨h.apart, by simp, ?_⟩
    intro a ha b hb e
    simp at hb
    subst hb
    exact hne (e ▸ ha)
end Go.Proofs.Ytajbflepjpgnbaa
