/- How the program reads lines: plain functions; what it reads is what the document says. -/
import Derived.Test.YtnoofdjlocadbaaGreatDoorTextTree
namespace Go.Proofs.YtnoofdjlocadbaaGreatDoor
open Go Go.Lib

/-- What has been read: the last line's word, the law, the trees. -/
structure PS where
  last : List UInt8
  law : Law
  trees : List PTree
def PS.zero : PS := ⟨[], ⟨0, 0, 0, 0, 0, 0, 0⟩, []⟩
def PS.forest (s : PS) : PForest := ⟨s.law, s.trees⟩
/-- The last tree is another one. -/
def PS.atLast (s : PS) (w : List UInt8) (g : PTree → PTree) : Option PS := match s.trees.getLast? with
  | some t => some ⟨w, s.law, s.trees.dropLast ++ [g t]⟩
  | none => none
/-- A line more. -/
def progStep (s : PS) : List (List UInt8) → Option PS
  | [] => none
  | w :: r =>
    if w = wLaw then (if s.last ∈ [([] : List UInt8)] then (numbersL r).bind fun ns => (lawOf ns).map fun l => ⟨w, l, s.trees⟩ else none)
    else if w = wTree then (if s.last ∈ [wLaw, wTree, wStrip, wWound] then match r with
      | code :: r' => ((numbersL r').bind (treeOf code)).map fun t => ⟨w, s.law, s.trees ++ [t]⟩
      | [] => none else none)
    else if w = wStrip then (if s.last ∈ [wTree, wStrip] then match numbersL r with
      | some [a, b] => s.atLast w fun t => { t with strips := t.strips ++ [(a, b)] }
      | _ => none else none)
    else if w = wWound then (if s.last ∈ [wTree, wStrip, wWound] then match numbersL r with
      | some [a] => s.atLast w fun t => { t with wounds := t.wounds ++ [a] }
      | _ => none else none)
    else none
/-- What is so while lines are read. -/
def PS.Inv (s : PS) : Prop :=
  (s.last = wLaw ∧ s.trees = []) ∨ ((s.last = wTree ∨ s.last = wStrip) ∧ ∃ ts t, s.trees = ts ++ [t] ∧ t.wounds = []) ∨ (s.last = wWound ∧ ∃ ts t, s.trees = ts ++ [t] ∧ t.wounds ≠ [])
theorem atLast_snoc (s : PS) (w : List UInt8) (g : PTree → PTree) {ts : List PTree} {t : PTree} (h : s.trees = ts ++ [t]) : s.atLast w g = some ⟨w, s.law, ts ++ [g t]⟩ := by
  unfold PS.atLast
  rw [h]
  simp
theorem forest_last (l : Law) (ts : List PTree) (t : PTree) (g : PTree → Option PTree) : atLast ⟨l, ts ++ [t]⟩ g = (g t).map fun t' => ⟨l, ts ++ [t']⟩ := by
  unfold atLast
  simp
theorem forest_none (l : Law) (g : PTree → Option PTree) : atLast ⟨l, []⟩ g = none := rfl

theorem words_ne : wLaw ≠ wTree ∧ wLaw ≠ wStrip ∧ wLaw ≠ wWound ∧ wTree ≠ wStrip ∧ wTree ≠ wWound ∧ wStrip ≠ wWound ∧ wLaw ≠ [] ∧ wTree ≠ [] ∧ wStrip ≠ [] ∧ wWound ≠ [] := by decide

/-- A line behind the first one: what the document says. -/
theorem step_tree {s : PS} (h : s.Inv) (fs : List (List UInt8)) : (progStep s fs).map PS.forest = treeLine s.forest fs ∧ ∀ s', progStep s fs = some s' → s'.Inv := by
  obtain ⟨n1, n2, n3, n4, n5, n6, n7, n8, n9, n10⟩ := words_ne
  cases fs with
  | nil => exact ⟨rfl, fun s' h => by cases h⟩
  | cons w r =>
    unfold treeLine progStep
    simp only [List.head?_cons, List.tail_cons, Option.some.injEq]
    by_cases hl : w = wLaw
    · subst hl
      have hne : s.last ∉ [([] : List UInt8)] := by
        rw [List.mem_singleton]
        rcases h with ⟨h, _⟩ | ⟨h | h, _⟩ | ⟨h, _⟩ <;> rw [h] <;> assumption
      rw [if_pos rfl, if_neg hne, if_neg n1, if_neg n2, if_neg n3]
      exact ⟨rfl, fun s' h => by cases h⟩
    rw [if_neg hl]
    by_cases ht : w = wTree
    · subst ht
      have hin : s.last ∈ [wLaw, wTree, wStrip, wWound] := by
        rcases h with ⟨h, _⟩ | ⟨h | h, _⟩ | ⟨h, _⟩ <;> rw [h] <;> simp
      rw [if_pos rfl, if_pos rfl, if_pos hin]
      cases r with
      | nil => exact ⟨rfl, fun s' h => by cases h⟩
      | cons code r' =>
        dsimp only
        cases hb : (numbersL r').bind (treeOf code) with
        | none => exact ⟨rfl, fun s' h => by cases h⟩
        | some t =>
          refine ⟨rfl, fun s' h => ?_⟩
          cases h
          refine .inr (.inl ⟨.inl rfl, s.trees, t, rfl, ?_⟩)
          cases hn : numbersL r' with
          | none => rw [hn] at hb; cases hb
          | some ns =>
            rw [hn, Option.bind_some] at hb
            unfold treeOf at hb
            split at hb
            · cases hb; rfl
            · cases hb
    rw [if_neg ht, if_neg ht]
    by_cases hs : w = wStrip
    · subst hs
      rw [if_pos rfl, if_pos rfl]
      rcases h with ⟨h, h2⟩ | ⟨h, ts, t, h2, h3⟩ | ⟨h, ts, t, h2, h3⟩
      · have hin : s.last ∉ [wTree, wStrip] := by rw [h]; simp [n1, n2]
        rw [if_neg hin]
        unfold PS.forest
        rw [h2]
        refine ⟨?_, fun s' h => by cases h⟩
        split
        · rfl
        · rfl
      · have hin : s.last ∈ [wTree, wStrip] := by rcases h with h | h <;> rw [h] <;> simp
        rw [if_pos hin]
        unfold PS.forest
        rw [h2]
        split
        · rename_i a b hq
          rw [hq]
          dsimp only
          rw [atLast_snoc s _ _ h2, forest_last, if_pos h3]
          refine ⟨rfl, fun s' h => ?_⟩
          cases h
          exact .inr (.inl ⟨.inr rfl, ts, _, rfl, h3⟩)
        · rename_i hq
          refine ⟨?_, fun s' h => by cases h⟩
          split
          · rename_i hq2; exact absurd hq2 (hq _ _)
          · rfl
      · have hin : s.last ∉ [wTree, wStrip] := by rw [h]; simp [Ne.symm n5, Ne.symm n6]
        rw [if_neg hin]
        unfold PS.forest
        rw [h2]
        refine ⟨?_, fun s' h => by cases h⟩
        split
        · rw [forest_last, if_neg h3]; rfl
        · rfl
    rw [if_neg hs, if_neg hs]
    by_cases hw : w = wWound
    · subst hw
      rw [if_pos rfl, if_pos rfl]
      have key : ∀ ts t, s.trees = ts ++ [t] → s.last ∈ [wTree, wStrip, wWound] → _ := fun (ts : List PTree) (t : PTree) (h2 : s.trees = ts ++ [t]) (hin : s.last ∈ [wTree, wStrip, wWound]) =>
        (show (Option.map PS.forest (if s.last ∈ [wTree, wStrip, wWound] then match numbersL r with
            | some [a] => s.atLast wWound fun t => { t with wounds := t.wounds ++ [a] }
            | _ => none else none) = (match numbersL r with
            | some [a] => atLast s.forest fun t => some { t with wounds := t.wounds ++ [a] }
            | _ => none)) ∧ (∀ s', (if s.last ∈ [wTree, wStrip, wWound] then match numbersL r with
            | some [a] => s.atLast wWound fun t => { t with wounds := t.wounds ++ [a] }
            | _ => none else none) = some s' → s'.Inv) from by
          rw [if_pos hin]
          unfold PS.forest
          rw [h2]
          split
          · rw [atLast_snoc s _ _ h2, forest_last]
            refine ⟨rfl, fun s' h => ?_⟩
            cases h
            exact .inr (.inr ⟨rfl, ts, _, rfl, by simp⟩)
          · exact ⟨rfl, fun s' h => by cases h⟩)
      rcases h with ⟨h, h2⟩ | ⟨h, ts, t, h2, h3⟩ | ⟨h, ts, t, h2, h3⟩
      · have hin : s.last ∉ [wTree, wStrip, wWound] := by rw [h]; simp [n1, n2, n3]
        rw [if_neg hin]
        unfold PS.forest
        rw [h2]
        refine ⟨?_, fun s' h => by cases h⟩
        split
        · rfl
        · rfl
      · exact key ts t h2 (by rcases h with h | h <;> rw [h] <;> simp)
      · exact key ts t h2 (by rw [h]; simp)
    rw [if_neg hw, if_neg hw]
    exact ⟨rfl, fun s' h => by cases h⟩
/-- The first line. -/
theorem step_law (fs : List (List UInt8)) : (progStep PS.zero fs).map PS.forest = (lawLine fs).map (fun l => ⟨l, []⟩) ∧ ∀ s', progStep PS.zero fs = some s' → s'.Inv := by
  cases fs with
  | nil => exact ⟨rfl, fun s' h => by cases h⟩
  | cons w r =>
    unfold lawLine progStep
    simp only [List.head?_cons, List.tail_cons, Option.some.injEq]
    by_cases hl : w = wLaw
    · subst hl
      rw [if_pos rfl, if_pos rfl, if_pos (by simp [PS.zero])]
      cases hn : (numbersL r).bind lawOf with
      | none =>
        have : ((numbersL r).bind fun ns => (lawOf ns).map fun l => (⟨wLaw, l, PS.zero.trees⟩ : PS)) = none := by
          cases h2 : numbersL r with
          | none => rfl
          | some ns => rw [h2, Option.bind_some] at hn; rw [Option.bind_some, hn]; rfl
        rw [this]
        exact ⟨rfl, fun s' h => by cases h⟩
      | some l =>
        have : ((numbersL r).bind fun ns => (lawOf ns).map fun l => (⟨wLaw, l, PS.zero.trees⟩ : PS)) = some ⟨wLaw, l, []⟩ := by
          cases h2 : numbersL r with
          | none => rw [h2] at hn; cases hn
          | some ns => rw [h2, Option.bind_some] at hn; rw [Option.bind_some, hn]; rfl
        rw [this]
        refine ⟨rfl, fun s' h => ?_⟩
        cases h
        exact .inl ⟨rfl, rfl⟩
    · have z1 : PS.zero.last ∉ [wLaw, wTree, wStrip, wWound] := by decide
      have z2 : PS.zero.last ∉ [wTree, wStrip] := by decide
      have z3 : PS.zero.last ∉ [wTree, wStrip, wWound] := by decide
      rw [if_neg hl, if_neg hl, if_neg z1, if_neg z2, if_neg z3]
      simp

/-- Some lines. -/
def progFrom (s : PS) : List (List UInt8) → Option PS
  | [] => some s
  | l :: r => (progStep s (fieldsL l)).bind fun s' => progFrom s' r
theorem progFrom_snoc : ∀ (L : List (List UInt8)) (s : PS) (l : List UInt8), progFrom s (L ++ [l]) = (progFrom s L).bind fun s' => progStep s' (fieldsL l)
  | [], s, l => by
    show (progStep s (fieldsL l)).bind (fun s' => some s') = progStep s (fieldsL l)
    cases progStep s (fieldsL l) <;> rfl
  | a :: L, s, l => by
    simp only [List.cons_append, progFrom]
    cases progStep s (fieldsL a) with
    | none => rfl
    | some s' => exact progFrom_snoc L s' l
theorem progFrom_take {L : List (List UInt8)} {s s' : PS} {k : Nat} {l : List UInt8} (hl : L[k]? = some l) (h : progFrom s (L.take k) = some s') : progFrom s (L.take (k + 1)) = progStep s' (fieldsL l) := by
  rw [List.take_add_one, hl, Option.toList_some, progFrom_snoc, h]
  rfl
theorem from_good : ∀ (L : List (List UInt8)) (s s' : PS) (n : Nat), s.Inv → progFrom s L = some s' → readFrom n s.forest L = .inr s'.forest
  | [], s, s', n, _, h => by cases h; rfl
  | l :: L, s, s', n, hi, h => by
    obtain ⟨h1, h2⟩ := step_tree hi (fieldsL l)
    simp only [progFrom] at h
    cases hs : progStep s (fieldsL l) with
    | none => rw [hs] at h; cases h
    | some s1 =>
      rw [hs, Option.bind_some] at h
      rw [hs] at h1
      simp only [readFrom, ← h1, Option.map_some]
      exact from_good L s1 s' (n + 1) (h2 _ hs) h
theorem from_bad : ∀ (L : List (List UInt8)) (s s' : PS) (n k : Nat) (l : List UInt8), s.Inv → L[k]? = some l → progFrom s (L.take k) = some s' → progStep s' (fieldsL l) = none → readFrom n s.forest L = .inl (n + k)
  | [], _, _, _, _, _, _, hl, _, _ => by simp at hl
  | a :: L, s, s', n, 0, l, hi, hl, h, hn => by
    cases h
    simp at hl
    subst hl
    obtain ⟨h1, _⟩ := step_tree hi (fieldsL a)
    rw [hn] at h1
    simp only [readFrom, ← h1, Option.map_none]
    rfl
  | a :: L, s, s', n, k + 1, l, hi, hl, h, hn => by
    obtain ⟨h1, h2⟩ := step_tree hi (fieldsL a)
    simp only [List.take_succ_cons, progFrom] at h
    cases hs : progStep s (fieldsL a) with
    | none => rw [hs] at h; cases h
    | some s1 =>
      rw [hs, Option.bind_some] at h
      rw [hs] at h1
      simp only [readFrom, ← h1, Option.map_some]
      rw [from_bad L s1 s' (n + 1) k l (h2 _ hs) (by simpa using hl) h hn]
      congr 1; omega
/-- All lines are read. -/
theorem prog_good {t : List UInt8} {s : PS} (ht : linesL t ≠ []) (h : progFrom PS.zero (linesL t) = some s) : readText t = .inr s.forest := by
  unfold readText
  cases hL : linesL t with
  | nil => exact absurd hL ht
  | cons l L =>
    rw [hL] at h
    simp only [progFrom] at h
    obtain ⟨h1, h2⟩ := step_law (fieldsL l)
    dsimp only
    cases hs : progStep PS.zero (fieldsL l) with
    | none => rw [hs] at h; cases h
    | some s1 =>
      rw [hs, Option.bind_some] at h
      rw [hs] at h1
      cases hl : lawLine (fieldsL l) with
      | none => rw [hl] at h1; cases h1
      | some law =>
        rw [hl] at h1
        have e : s1.forest = ⟨law, []⟩ := by simpa using h1
        dsimp only
        rw [← e]
        exact from_good L s1 s 2 (h2 _ hs) h
/-- The first wrong line. -/
theorem prog_bad {t : List UInt8} {s : PS} {k : Nat} {l : List UInt8} (hl : (linesL t)[k]? = some l) (h : progFrom PS.zero ((linesL t).take k) = some s) (hn : progStep s (fieldsL l) = none) : readText t = .inl (k + 1) := by
  unfold readText
  cases hL : linesL t with
  | nil => rw [hL] at hl; simp at hl
  | cons a L =>
    rw [hL] at h hl
    obtain ⟨h1, h2⟩ := step_law (fieldsL a)
    dsimp only
    cases k with
    | zero =>
      cases h
      simp at hl
      subst hl
      rw [hn] at h1
      cases hl : lawLine (fieldsL a) with
      | none => rfl
      | some law => rw [hl] at h1; cases h1
    | succ k =>
      simp only [List.take_succ_cons, progFrom] at h
      cases hs : progStep PS.zero (fieldsL a) with
      | none => rw [hs] at h; cases h
      | some s1 =>
        rw [hs, Option.bind_some] at h
        rw [hs] at h1
        cases hla : lawLine (fieldsL a) with
        | none => rw [hla] at h1; cases h1
        | some law =>
          rw [hla] at h1
          have e : s1.forest = ⟨law, []⟩ := by simpa using h1
          dsimp only
          rw [← e, from_bad L s1 s 2 k l (h2 _ hs) (by simpa using hl) h hn]
          congr 1; omega
end Go.Proofs.YtnoofdjlocadbaaGreatDoor
