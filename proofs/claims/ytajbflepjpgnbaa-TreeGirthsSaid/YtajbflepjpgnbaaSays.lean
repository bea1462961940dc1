/- A tree that is in order: what each judgement, the girth and the verdict say of it. -/
import Derived.Test.YtajbflepjpgnbaaVerdict
namespace Go.Proofs.Ytajbflepjpgnbaa
open Go.RowKit Go.Shelf

/-- The cells of a question. -/
def qCells (l : Law) (t : Tree) (y h : Int) : Array Value := #[.int .i64 l.age, .int .i64 l.rest, .int .i64 l.girth, .int .i64 l.f0, .int .i64 l.f1, .int .i64 l.f2, .int .i64 l.heal, .string t.code, .int .i64 t.bmin, .int .i64 t.bmax, .int .i64 t.taped, .int .i64 t.gmin, .int .i64 t.gmax, .int .i64 t.wmin, .int .i64 t.wmax, t.sv, t.wv, .int .i64 t.dead, .int .i64 y, .int .i64 h]

/-- The law's factors are in their ranges. -/
def LawFine (l : Law) : Prop := (0 ≤ l.f0 ∧ l.f0 ≤ 50) ∧ (0 ≤ l.f1 ∧ l.f1 ≤ 50) ∧ (0 ≤ l.f2 ∧ l.f2 ≤ 50)
/-- A tree's numbers are in their ranges. -/
def TreeFine (t : Tree) : Prop :=
  (0 ≤ t.bmin ∧ t.bmin ≤ t.bmax ∧ t.bmax ≤ 300) ∧ (0 ≤ t.taped ∧ t.taped ≤ 300) ∧ (0 ≤ t.gmin ∧ t.gmin ≤ t.gmax ∧ t.gmax ≤ 6000) ∧ (0 ≤ t.wmin ∧ t.wmin ≤ t.wmax ∧ t.wmax ≤ 50) ∧
  (∀ s ∈ t.strips, 0 ≤ s.1 ∧ s.1 ≤ 300) ∧ (∀ x ∈ t.wounds, 0 ≤ x ∧ x ≤ 300)

/-- The judgements, by their place. -/
def jv (l : Law) (t : Tree) (y h : Int) (k : Nat) : Int :=
  match k with
  | 0 => judged (decide (t.dead = -1 ∨ y < t.dead)) (decide (t.dead = -1 ∨ y < t.dead))
  | 1 => judged (decide (l.age ≤ y - t.bmax)) (decide (l.age ≤ y - t.bmin))
  | 2 => judged (!t.strips.any (nearB y l.rest)) (!t.strips.any (nearB y l.rest))
  | 3 => judged (!t.wounds.any (freshB y l.heal)) (!t.wounds.any (freshB y l.heal))
  | 4 => if 0 < countBefore t.strips y then 1 else judged (decide (l.girth ≤ girthMin t y)) (decide (l.girth ≤ girthMax t y))
  | _ => judged (decide (10 * h ≤ factor l (countBefore t.strips y) * girthMin t y)) (decide (10 * h ≤ factor l (countBefore t.strips y) * girthMax t y))

theorem girth_bounds (t : Tree) (y : Int) (ht : TreeFine t) (hy0 : 0 ≤ y) (hy1 : y ≤ 300) : 0 ≤ girthMin t y ∧ girthMin t y ≤ girthMax t y ∧ girthMax t y ≤ 21000 := by
  obtain ⟨_, ⟨t0, t1⟩, ⟨g0, g1, g2⟩, ⟨w0, w1, w2⟩, _, _⟩ := ht
  unfold girthMin girthMax
  by_cases h : y - t.taped ≥ 0
  · rw [if_pos h, if_pos h]
    have a := mul_bounds (a := y - t.taped) (b := t.wmin) (A := 300) (B := 50) (by omega) (by omega) (by omega) (by omega)
    have b := mul_bounds (a := y - t.taped) (b := t.wmax) (A := 300) (B := 50) (by omega) (by omega) (by omega) (by omega)
    have c := Int.mul_le_mul_of_nonneg_left w1 h
    omega
  · rw [if_neg h, if_neg h]
    have a := mul_bounds_neg (a := y - t.taped) (b := t.wmin) (A := 300) (B := 50) (by omega) (by omega) (by omega) (by omega)
    have b := mul_bounds_neg (a := y - t.taped) (b := t.wmax) (A := 300) (B := 50) (by omega) (by omega) (by omega) (by omega)
    have c := Int.mul_le_mul_of_nonpos_left (show y - t.taped ≤ 0 by omega) w1
    omega

theorem girth_says (l : Law) (t : Tree) (y h : Int) (w : World) (ht : TreeFine t) (hH : TreeHeld w.heap.size w t) (hy0 : 0 ≤ y) (hy1 : y ≤ 300) (W : World) :
    Calls Try.prog 35 #[.agg (qCells l t y h)] W fun e w' => e = .returned (.agg #[.int .i64 (girthMin t y), .int .i64 (girthMax t y)]) ∧ Below W.heap.size W w' := by
  obtain ⟨sa, sn, sc, hs⟩ := hH.1.slice
  obtain ⟨wa, wn, wc, hw⟩ := hH.2.1.slice
  obtain ⟨⟨b0, b1, b2⟩, ⟨t0, t1⟩, ⟨g0, g1, g2⟩, ⟨w0, w1, w2⟩, _, _⟩ := ht
  unfold qCells girthMin girthMax
  rw [hs, hw]
  by_cases hc : y - t.taped ≥ 0
  · rw [if_pos hc, if_pos hc]
    exact girth_after l.age l.rest l.girth l.f0 l.f1 l.f2 l.heal t.code t.bmin t.bmax t.taped t.gmin t.gmax t.wmin t.wmax sa sn sc wa wn wc t.dead y h W hy0 hy1 t0 t1 (by omega) g0 g1 g2 w0 w1 w2
  · rw [if_neg hc, if_neg hc]
    exact girth_before l.age l.rest l.girth l.f0 l.f1 l.f2 l.heal t.code t.bmin t.bmax t.taped t.gmin t.gmax t.wmin t.wmax sa sn sc wa wn wc t.dead y h W hy0 hy1 t0 t1 (by omega) g0 g1 g2 w0 w1 w2

theorem factor_bounds (l : Law) (hl : LawFine l) (n : Nat) : 0 ≤ factor l n ∧ factor l n ≤ 50 := by
  obtain ⟨a, b, c⟩ := hl
  unfold factor
  split
  · exact a
  · split
    · exact b
    · exact c

theorem judges_say (l : Law) (t : Tree) (y h : Int) (w : World) (hl : LawFine l) (ht : TreeFine t) (hH : TreeHeld w.heap.size w t) (hy0 : 0 ≤ y) (hy1 : y ≤ 300) (hh0 : 1 ≤ h) (hh1 : h ≤ 15000) (k : Nat) (hk : k < 6) (W : World) (hW : Below w.heap.size w W) :
    Calls Try.prog (ruleFn k) #[.agg (qCells l t y h)] W fun e w' => e = .returned (.int .i64 (jv l t y h k)) ∧ Below W.heap.size W w' := by
  have hg : ∀ W, Calls Try.prog 35 #[.agg (qCells l t y h)] W fun e w' => e = .returned (.agg #[.int .i64 (girthMin t y), .int .i64 (girthMax t y)]) ∧ Below W.heap.size W w' := girth_says l t y h w ht hH hy0 hy1
  obtain ⟨gb0, gb1, gb2⟩ := girth_bounds t y ht hy0 hy1
  obtain ⟨fb0, fb1⟩ := factor_bounds l hl (countBefore t.strips y)
  have p := mul_bounds (a := factor l (countBefore t.strips y)) (b := girthMin t y) (A := 50) (B := 21000) fb0 fb1 gb0 (by omega)
  have q := mul_bounds (a := factor l (countBefore t.strips y)) (b := girthMax t y) (A := 50) (B := 21000) fb0 fb1 (by omega) gb2
  have hHW : TreeHeld W.heap.size W t := (hH.below hW).mono hW.size
  obtain ⟨⟨b0, b1, b2⟩, ⟨t0, t1⟩, ⟨g0, g1, g2⟩, ⟨w0, w1, w2⟩, hs, hw⟩ := ht
  obtain ⟨sa, sn, sc, es⟩ := hH.1.slice
  obtain ⟨wa, wn, wc, ew⟩ := hH.2.1.slice
  have hS := hHW.1
  have hWd := hHW.2.1
  have hcnt : ∀ V, Below W.heap.size W V → Calls Try.prog 103 #[.agg (qCells l t y h)] V fun e w' => e = .returned (.int .i64 (countBefore t.strips y : Nat)) ∧ Below V.heap.size V w' := fun V hV => by
    unfold qCells
    rw [es] at hS ⊢
    rw [ew]
    exact stripsBefore_calls l.age l.rest l.girth l.f0 l.f1 l.f2 l.heal t.code t.bmin t.bmax t.taped t.gmin t.gmax t.wmin t.wmax sa sn sc wa wn wc t.dead y h t.strips W.heap.size V hV.size (hS.below hV)
  unfold qCells at hg hcnt ⊢
  rw [es, ew] at hg hcnt ⊢
  rw [es] at hS
  rw [ew] at hWd
  match k, hk with
  | 0, _ => exact judgeDead_calls l.age l.rest l.girth l.f0 l.f1 l.f2 l.heal t.code t.bmin t.bmax t.taped t.gmin t.gmax t.wmin t.wmax sa sn sc wa wn wc t.dead y h W
  | 1, _ => exact judgeAge_calls l.age l.rest l.girth l.f0 l.f1 l.f2 l.heal t.code t.bmin t.bmax t.taped t.gmin t.gmax t.wmin t.wmax sa sn sc wa wn wc t.dead y h W hy0 hy1 b0 (by omega) (by omega) b2
  | 2, _ => exact judgeRest_calls l.age l.rest l.girth l.f0 l.f1 l.f2 l.heal t.code t.bmin t.bmax t.taped t.gmin t.gmax t.wmin t.wmax sa sn sc wa wn wc t.dead y h t.strips W hy0 hy1 hs hS
  | 3, _ => exact judgeHeal_calls l.age l.rest l.girth l.f0 l.f1 l.f2 l.heal t.code t.bmin t.bmax t.taped t.gmin t.gmax t.wmin t.wmax sa sn sc wa wn wc t.dead y h t.wounds W hy0 hy1 hw hWd
  | 4, _ =>
    show Calls _ _ _ _ fun e w' => e = .returned (.int .i64 (if 0 < countBefore t.strips y then 1 else _)) ∧ _
    by_cases hn : 0 < countBefore t.strips y
    · rw [if_pos hn]
      exact judgeGirth_stripped l.age l.rest l.girth l.f0 l.f1 l.f2 l.heal t.code t.bmin t.bmax t.taped t.gmin t.gmax t.wmin t.wmax sa sn sc wa wn wc t.dead y h _ W hn hcnt
    · rw [if_neg hn]
      have h0 : countBefore t.strips y = 0 := by omega
      rw [h0] at hcnt
      exact judgeGirth_first l.age l.rest l.girth l.f0 l.f1 l.f2 l.heal t.code t.bmin t.bmax t.taped t.gmin t.gmax t.wmin t.wmax sa sn sc wa wn wc t.dead y h _ _ W hcnt hg
  | 5, _ =>
    show Calls _ _ _ _ fun e w' => e = .returned (.int .i64 (judged (decide (10 * h ≤ factor l (countBefore t.strips y) * girthMin t y)) (decide (10 * h ≤ factor l (countBefore t.strips y) * girthMax t y)))) ∧ _
    generalize countBefore t.strips y = n at p q hcnt
    match n with
    | 0 => exact judgeHeight_none l.age l.rest l.girth l.f0 l.f1 l.f2 l.heal t.code t.bmin t.bmax t.taped t.gmin t.gmax t.wmin t.wmax sa sn sc wa wn wc t.dead y h _ _ W hh0 hh1 p.1 (Int.le_trans p.2 (by omega)) q.1 (Int.le_trans q.2 (by omega)) hcnt hg
    | 1 => exact judgeHeight_one l.age l.rest l.girth l.f0 l.f1 l.f2 l.heal t.code t.bmin t.bmax t.taped t.gmin t.gmax t.wmin t.wmax sa sn sc wa wn wc t.dead y h _ _ W hh0 hh1 p.1 (Int.le_trans p.2 (by omega)) q.1 (Int.le_trans q.2 (by omega)) hcnt hg
    | 2 => exact judgeHeight_two l.age l.rest l.girth l.f0 l.f1 l.f2 l.heal t.code t.bmin t.bmax t.taped t.gmin t.gmax t.wmin t.wmax sa sn sc wa wn wc t.dead y h _ _ W hh0 hh1 p.1 (Int.le_trans p.2 (by omega)) q.1 (Int.le_trans q.2 (by omega)) hcnt hg
    | n + 3 => exact judgeHeight_more l.age l.rest l.girth l.f0 l.f1 l.f2 l.heal t.code t.bmin t.bmax t.taped t.gmin t.gmax t.wmin t.wmax sa sn sc wa wn wc t.dead y h (n + 3) _ _ W (by omega) hh0 hh1 p.1 (Int.le_trans p.2 (by omega)) q.1 (Int.le_trans q.2 (by omega)) hcnt hg

/-- The verdict on a tree. -/
def verdictOn (l : Law) (t : Tree) (y h : Int) : Int × Int := verdictV (jv l t y h)

theorem verdict_says (l : Law) (t : Tree) (y h : Int) (w : World) (hl : LawFine l) (ht : TreeFine t) (hH : TreeHeld w.heap.size w t) (hy0 : 0 ≤ y) (hy1 : y ≤ 300) (hh0 : 1 ≤ h) (hh1 : h ≤ 15000) :
    Calls Try.prog 43 #[.agg (qCells l t y h)] w fun e w' => e = .returned (.tuple #[.int .i64 (verdictOn l t y h).1, .int .i64 (verdictOn l t y h).2]) ∧ Below w.heap.size w w' := by
  have hJ := judges_say l t y h w hl ht hH hy0 hy1 hh0 hh1
  obtain ⟨sa, sn, sc, es⟩ := hH.1.slice
  obtain ⟨wa, wn, wc, ew⟩ := hH.2.1.slice
  unfold qCells at hJ ⊢
  rw [es, ew] at hJ ⊢
  exact verdict_calls l.age l.rest l.girth l.f0 l.f1 l.f2 l.heal t.code t.bmin t.bmax t.taped t.gmin t.gmax t.wmin t.wmax sa sn sc wa wn wc t.dead y h (jv l t y h) w hJ
end Go.Proofs.Ytajbflepjpgnbaa
