/- A tree with one strip more: its book is in order, its history has the same first fault, and it rests. -/
import Derived.Test.YtajbflepjpgnbaaHeightOf
import Derived.Test.YtajbflepjpgnbaaFirstOf
namespace Go.Proofs.Ytajbflepjpgnbaa
open Go.RowKit Go.Shelf

theorem any_codes (t : Tree) : ∀ es : List Tree, es.any (fun o => sameCode o t) = (es.map (·.code)).any (fun c => c.toList == t.code.toList)
  | [] => rfl
  | e :: r => by rw [List.any_cons, List.map_cons, List.any_cons, any_codes t r]; rfl

theorem checkTree_codes (es es' : List Tree) (h : es.map (·.code) = es'.map (·.code)) (t : Tree) : checkTree es t = checkTree es' t := by
  unfold checkTree
  rw [any_codes, any_codes, h]

theorem treesErr_codes : ∀ (ts es es' : List Tree), es.map (·.code) = es'.map (·.code) → treesErr es ts = treesErr es' ts
  | [], _, _, _ => rfl
  | t :: r, es, es', h => by
    simp only [treesErr]
    rw [checkTree_codes es es' h t, treesErr_codes r (es ++ [t]) (es' ++ [t]) (by rw [List.map_append, List.map_append, h])]

theorem treesErr_set : ∀ (ts es : List Tree) (K : Nat) (x : Tree), treesErr es ts = 0 → K < ts.length → x.code = ts[K]!.code → treeErr x = 0 → treesErr es (ts.set K x) = 0
  | [], _, _, _, _, hK, _, _ => by cases hK
  | t :: r, es, 0, x, h, _, hc, hx => by
    simp only [treesErr] at h
    split at h
    · rename_i ht
      have hc' : x.code = t.code := hc
      have hx0 : checkTree es x = 0 := by
        unfold checkTree at ht ⊢
        rw [any_codes] at ht ⊢
        rw [hc']
        split at ht
        · rename_i h1
          rw [if_pos h1]
          split at ht
          · cases ht
          · rename_i h2
            rw [if_neg h2]; exact hx
        · cases ht
      simp only [List.set_cons_zero, treesErr]
      rw [if_pos hx0, treesErr_codes r (es ++ [x]) (es ++ [t]) (by simp [hc'])]
      exact h
    · exact absurd h (by assumption)
  | t :: r, es, K + 1, x, h, hK, hc, hx => by
    simp only [treesErr] at h
    split at h
    · rename_i ht
      simp only [List.set_cons_succ, treesErr]
      rw [if_pos ht]
      exact treesErr_set r (es ++ [t]) K x h (by simpa using hK) hc hx
    · exact absurd h (by assumption)

theorem treesErr_each : ∀ (ts es : List Tree), treesErr es ts = 0 → ∀ t ∈ ts, treeErr t = 0
  | [], _, _, t, ht => by cases ht
  | x :: r, es, h, t, ht => by
    simp only [treesErr] at h
    split at h
    · rename_i hx
      rcases List.mem_cons.1 ht with rfl | ht
      · unfold checkTree at hx
        split at hx
        · split at hx
          · cases hx
          · exact hx
        · cases hx
      · exact treesErr_each r _ h t ht
    · exact absurd h (by assumption)

theorem forest_each (f : Forest) (h : checkForest f = 0) (K : Nat) (hK : K < f.trees.length) : treeErr f.trees[K]! = 0 := by
  unfold checkForest at h
  split at h
  · split at h
    · cases h
    · exact treesErr_each _ _ h _ (by rw [getElem!_pos f.trees K hK]; exact List.getElem_mem hK)
  · cases h

/-- A forest of which one tree is another one with the same code is in order if that tree is. -/
theorem checkForest_set (f : Forest) (h : checkForest f = 0) (v : Value) (K : Nat) (hK : K < f.trees.length) (x : Tree) (hc : x.code = f.trees[K]!.code) (hx : treeErr x = 0) : checkForest { f with tv := v, trees := f.trees.set K x } = 0 := by
  unfold checkForest at h ⊢
  dsimp only
  split at h
  · rename_i hl
    rw [if_pos hl]
    split at h
    · cases h
    · rename_i hn
      rw [if_neg (by rw [List.length_set]; exact hn)]
      exact treesErr_set _ _ K x h hK hc hx
  · cases h

/-- The year of the last strip; last: that of the strip before. -/
def lastOf (last : Int) : List (Int × Int) → Int
  | [] => last
  | s :: r => lastOf s.1 r

theorem stripsErr_snoc (s : Int × Int) (h1 : inB s.1 0 300 = true) (h2 : inB s.2 1 15000 = true) : ∀ (xs : List (Int × Int)) (last : Int), stripsErr last xs = 0 → lastOf last xs < s.1 → stripsErr last (xs ++ [s]) = 0
  | [], last, _, hl => by
    have hl' : ¬ s.1 ≤ last := by have : last < s.1 := hl; omega
    simp only [List.nil_append, stripsErr]
    rw [h1, h2, if_neg hl']; rfl
  | x :: r, last, h, hl => by
    simp only [stripsErr, List.cons_append] at h ⊢
    split at h
    · rename_i hx
      rw [if_pos hx]
      split at h
      · cases h
      · rename_i hy
        rw [if_neg hy]
        exact stripsErr_snoc s h1 h2 r x.1 h hl
    · cases h

theorem lastOf_is : ∀ (xs : List (Int × Int)) (last : Int), 0 < xs.length → lastOf last xs = xs[xs.length - 1]!.1
  | [x], last, _ => rfl
  | x :: y :: r, last, _ => by
    have := lastOf_is (y :: r) x.1 (by simp)
    simp only [lastOf] at this ⊢
    rw [this]
    rfl

/-- A tree with one strip more. -/
def Tree.more (t : Tree) (v : Value) (y h : Int) : Tree := { t with sv := v, strips := t.strips ++ [(y, h)] }

theorem treeErr_more (t : Tree) (v : Value) (y h : Int) (ht : treeErr t = 0) (hn : t.strips.length < 10) (hy : inB y 0 300 = true) (hh : inB h 1 15000 = true) (hl : lastOf (-1) t.strips < y) : treeErr (t.more v y h) = 0 := by
  unfold treeErr at ht ⊢
  split at ht
  · rename_i hm
    have hm' : measuredB (t.more v y h) = true := hm
    rw [if_pos hm']
    split at ht
    · rename_i hs
      have hs' : checkStrips (t.more v y h).strips = 0 := by
        show checkStrips (t.strips ++ [(y, h)]) = 0
        unfold checkStrips at hs ⊢
        split at hs
        · cases hs
        · rw [if_neg (by rw [List.length_append]; simp; omega)]
          exact stripsErr_snoc (y, h) hy hh _ _ hs hl
      rw [if_pos hs']
      exact ht
    · exact absurd ht (by assumption)
  · cases ht

theorem verdict_same (l : Law) (t : Tree) (v v' : Value) (xs : List (Int × Int)) (y h : Int) : verdictOn l { t with sv := v, strips := xs } y h = verdictOn l { t with sv := v', strips := xs } y h := rfl

/-- The history with one strip more, which broke no rule, has the same first fault. -/
theorem firstRun_more (l : Law) (t : Tree) (v : Value) (y h : Int) (hv : (verdictOn l t y h).1 ≠ 2) : ∀ (r : List (Int × Int)) (k : Nat), k + r.length = t.strips.length → firstRun l (t.more v y h) k (r ++ [(y, h)]) = firstRun l t k r
  | [], k, hk => by
    have hk' : k = t.strips.length := by simpa using hk
    have e : verdictOn l ((t.more v y h).upTo k) y h = verdictOn l t y h := by
      have : (t.strips ++ [(y, h)]).take k = t.strips := by rw [hk']; simp
      show verdictOn l { t with sv := cutTo v k, strips := (t.strips ++ [(y, h)]).take k } y h = verdictOn l { t with sv := t.sv, strips := t.strips } y h
      rw [this]
      rfl
    simp only [List.nil_append, firstRun]
    rw [e, if_neg hv]
  | s :: r, k, hk => by
    have hk' : k + 1 + r.length = t.strips.length := by simp at hk; omega
    have e : verdictOn l ((t.more v y h).upTo k) s.1 s.2 = verdictOn l (t.upTo k) s.1 s.2 := by
      have : (t.strips ++ [(y, h)]).take k = t.strips.take k := by rw [List.take_append_of_le_length (by omega)]
      show verdictOn l { t with sv := cutTo v k, strips := (t.strips ++ [(y, h)]).take k } s.1 s.2 = verdictOn l { t with sv := cutTo t.sv k, strips := t.strips.take k } s.1 s.2
      rw [this]
      rfl
    simp only [List.cons_append, firstRun]
    rw [e, firstRun_more l t v y h hv r (k + 1) hk']

/-- A tree that was surely stripped rests. -/
theorem verdict_rests (l : Law) (t : Tree) (v : Value) (y h z : Int) (hs : (verdictOn l t y h).1 = 1) (hz0 : y ≤ z) (hz1 : z - y < l.rest) (hd : t.dead = -1 ∨ z < t.dead) : verdictOn l (t.more v y h) z 1 = (2, 3) := by
  have hall := (verdictV_sure _ (jv_range l t y h)).1 hs
  have hage : l.age ≤ y - t.bmax := by
    have := hall 1 (by omega)
    have := (judged_one _ _).1 (show judged (decide (l.age ≤ y - t.bmax)) (decide (l.age ≤ y - t.bmin)) = 1 from this)
    simpa using this
  unfold verdictOn
  refine verdict_two _ 2 (by omega) (fun j hj => ?_) ?_
  · match j, hj with
    | 0, _ =>
      show ¬ judged (decide (t.dead = -1 ∨ z < t.dead)) (decide (t.dead = -1 ∨ z < t.dead)) = 2
      rw [decide_eq_true hd]; decide
    | 1, _ =>
      show ¬ judged (decide (l.age ≤ z - t.bmax)) (decide (l.age ≤ z - t.bmin)) = 2
      rw [decide_eq_true (show l.age ≤ z - t.bmax by omega)]
      intro hc
      rw [judged_two] at hc
      exact absurd hc.1 (by decide)
  · show judged (!(t.strips ++ [(y, h)]).any (nearB z l.rest)) (!(t.strips ++ [(y, h)]).any (nearB z l.rest)) = 2
    have hn : nearB z l.rest (y, h) = true := by
      rw [near_split]
      rw [Bool.and_eq_true]
      exact ⟨decide_eq_true (by dsimp only; omega), decide_eq_true (by dsimp only; omega)⟩
    rw [List.any_append]
    simp [hn]
    decide

/-- Where a strip is surely allowed, the last one is of an earlier year. -/
theorem sure_after (l : Law) (t : Tree) (y h : Int) (hs : (verdictOn l t y h).1 = 1) (hr : 1 ≤ l.rest) (hn : 0 < t.strips.length) (hle : t.strips[t.strips.length - 1]!.1 ≤ y) : t.strips[t.strips.length - 1]!.1 < y := by
  have hall := (verdictV_sure _ (jv_range l t y h)).1 hs
  have h2 := (judged_one _ _).1 (show judged (!t.strips.any (nearB y l.rest)) (!t.strips.any (nearB y l.rest)) = 1 from hall 2 (by omega))
  by_cases he : t.strips[t.strips.length - 1]!.1 = y
  · have hm : t.strips[t.strips.length - 1]! ∈ t.strips := by rw [getElem!_pos t.strips _ (by omega)]; exact List.getElem_mem _
    have hnear : nearB y l.rest t.strips[t.strips.length - 1]! = true := by
      rw [near_split, Bool.and_eq_true]
      exact ⟨decide_eq_true (by omega), decide_eq_true (by omega)⟩
    have : t.strips.any (nearB y l.rest) = true := List.any_eq_true.2 ⟨_, hm, hnear⟩
    rw [this] at h2
    cases h2
  · omega
end Go.Proofs.Ytajbflepjpgnbaa
