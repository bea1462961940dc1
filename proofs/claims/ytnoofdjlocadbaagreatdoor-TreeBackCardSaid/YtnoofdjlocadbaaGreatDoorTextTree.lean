/- The text of a forest, and the forest of a text: plain functions on lists; what is printed is read as it was. -/
import Derived.Test.YtnoofdjlocadbaaGreatDoorText
import Derived.Test.YtnoofdjlocadbaaGreatDoorData
namespace Go.Proofs.YtnoofdjlocadbaaGreatDoor
open Go Go.Lib

def wLaw : List UInt8 := [108, 97, 119]
def wTree : List UInt8 := [116, 114, 101, 101]
def wStrip : List UInt8 := [115, 116, 114, 105, 112]
def wWound : List UInt8 := [119, 111, 117, 110, 100]

/-- A tree as its text has it. -/
structure PTree where
  code : List UInt8
  bmin : Int
  bmax : Int
  taped : Int
  gmin : Int
  gmax : Int
  wmin : Int
  wmax : Int
  dead : Int
  strips : List (Int × Int)
  wounds : List Int
structure PForest where
  law : Law
  trees : List PTree

def Tree.plain (t : Tree) : PTree := ⟨t.code.data.toList, t.bmin, t.bmax, t.taped, t.gmin, t.gmax, t.wmin, t.wmax, t.dead, t.strips, t.wounds⟩
def Forest.plain (f : Forest) : PForest := ⟨f.law, f.trees.map Tree.plain⟩

/-! ### The text -/
def Law.nums (l : Law) : List Int := [l.age, l.rest, l.girth, l.f0, l.f1, l.f2, l.heal]
def PTree.nums (t : PTree) : List Int := [t.bmin, t.bmax, t.taped, t.gmin, t.gmax, t.wmin, t.wmax, t.dead]
def lawRow (l : Law) : List UInt8 := rowL wLaw l.nums
def treeRow (t : PTree) : List UInt8 := rowL (wTree ++ 59 :: t.code) t.nums
def stripRow (s : Int × Int) : List UInt8 := rowL wStrip [s.1, s.2]
def woundRow (n : Int) : List UInt8 := rowL wWound [n]
def treeRows (t : PTree) : List (List UInt8) := treeRow t :: (t.strips.map stripRow ++ t.wounds.map woundRow)
def rows (f : PForest) : List (List UInt8) := lawRow f.law :: f.trees.flatMap treeRows
/-- Each row with a line feed behind it. -/
def feedL (rs : List (List UInt8)) : List UInt8 := rs.flatMap fun r => r ++ [10]
def textL (f : PForest) : List UInt8 := feedL (rows f)

/-! ### What a text is read as -/
def lawOf : List Int → Option Law
  | [a, b, c, d, e, f, g] => some ⟨a, b, c, d, e, f, g⟩
  | _ => none
def treeOf (code : List UInt8) : List Int → Option PTree
  | [a, b, c, d, e, f, g, h] => some ⟨code, a, b, c, d, e, f, g, h, [], []⟩
  | _ => none
/-- The first line. -/
def lawLine (w : List (List UInt8)) : Option Law := if w.head? = some wLaw then (numbersL w.tail).bind lawOf else none
/-- The last tree is another one. -/
def atLast (f : PForest) (g : PTree → Option PTree) : Option PForest :=
  match f.trees.getLast? with
  | some t => (g t).map fun t' => { f with trees := f.trees.dropLast ++ [t'] }
  | none => none
/-- Another line. -/
def treeLine (f : PForest) (w : List (List UInt8)) : Option PForest :=
  if w.head? = some wTree then
    match w.tail with
    | code :: r => ((numbersL r).bind (treeOf code)).map fun t => { f with trees := f.trees ++ [t] }
    | [] => none
  else if w.head? = some wStrip then
    match numbersL w.tail with
    | some [a, b] => atLast f fun t => if t.wounds = [] then some { t with strips := t.strips ++ [(a, b)] } else none
    | _ => none
  else if w.head? = some wWound then
    match numbersL w.tail with
    | some [a] => atLast f fun t => some { t with wounds := t.wounds ++ [a] }
    | _ => none
  else none
/-- The other lines, from number n on: the number of the first wrong one, or the forest. -/
def readFrom (n : Nat) (f : PForest) : List (List UInt8) → Nat ⊕ PForest
  | [] => .inr f
  | l :: r => match treeLine f (fieldsL l) with
    | none => .inl n
    | some f' => readFrom (n + 1) f' r
def readText (t : List UInt8) : Nat ⊕ PForest := match linesL t with
  | [] => .inl 0
  | l :: r => match lawLine (fieldsL l) with
    | none => .inl 1
    | some law => readFrom 2 ⟨law, []⟩ r

/-! ### What is printed is read as it was -/
def Small (n : Int) : Prop := -999999999 ≤ n ∧ n ≤ 999999999
structure PTree.Fine (t : PTree) : Prop where
  code : (59 : UInt8) ∉ t.code ∧ (10 : UInt8) ∉ t.code
  nums : ∀ n ∈ t.nums, Small n
  strips : ∀ s ∈ t.strips, Small s.1 ∧ Small s.2
  wounds : ∀ n ∈ t.wounds, Small n
structure PForest.Fine (f : PForest) : Prop where
  law : ∀ n ∈ f.law.nums, Small n
  trees : ∀ t ∈ f.trees, t.Fine

theorem law_read (l : Law) (h : ∀ n ∈ l.nums, Small n) : lawLine (fieldsL (lawRow l)) = some l := by
  unfold lawRow
  rw [fields_row _ _ (by decide)]
  unfold lawLine
  rw [List.head?_cons, List.tail_cons, if_pos rfl, numbers_itoa _ h]
  rfl

theorem cut_word (w c : List UInt8) (ns : List Int) (hw : (59 : UInt8) ∉ w) (hc : (59 : UInt8) ∉ c) : fieldsL (rowL (w ++ 59 :: c) ns) = w :: c :: ns.map itoa := by
  have e : rowL (w ++ 59 :: c) ns = w ++ 59 :: rowL c ns := by unfold rowL; simp
  unfold fieldsL
  rw [e, cutAll_part 59 w _ hw]
  congr 1
  exact fields_row c ns hc

theorem tree_read (f : PForest) (t : PTree) (h : t.Fine) : treeLine f (fieldsL (treeRow t)) = some { f with trees := f.trees ++ [{ t with strips := [], wounds := [] }] } := by
  unfold treeRow
  rw [cut_word _ _ _ (by decide) h.code.1]
  unfold treeLine
  rw [List.head?_cons, List.tail_cons, if_pos rfl]
  dsimp only
  rw [numbers_itoa _ h.nums]
  rfl

theorem last_at (l : Law) (ts : List PTree) (t t' : PTree) (g : PTree → Option PTree) (h : g t = some t') : atLast ⟨l, ts ++ [t]⟩ g = some ⟨l, ts ++ [t']⟩ := by
  unfold atLast
  simp [h]

theorem strip_read (l : Law) (ts : List PTree) (t : PTree) (s : Int × Int) (hs : Small s.1 ∧ Small s.2) (hw : t.wounds = []) :
    treeLine ⟨l, ts ++ [t]⟩ (fieldsL (stripRow s)) = some ⟨l, ts ++ [{ t with strips := t.strips ++ [s] }]⟩ := by
  unfold stripRow
  rw [fields_row _ _ (by decide)]
  unfold treeLine
  rw [List.head?_cons, List.tail_cons, if_neg (show ¬ some wStrip = some wTree by decide), if_pos rfl, numbers_itoa _ (by
    intro n hn
    simp only [List.mem_cons, List.not_mem_nil, or_false] at hn
    rcases hn with rfl | rfl
    · exact hs.1
    · exact hs.2)]
  exact last_at l ts t _ _ (by rw [if_pos hw])
theorem wound_read (l : Law) (ts : List PTree) (t : PTree) (n : Int) (hn : Small n) :
    treeLine ⟨l, ts ++ [t]⟩ (fieldsL (woundRow n)) = some ⟨l, ts ++ [{ t with wounds := t.wounds ++ [n] }]⟩ := by
  unfold woundRow
  rw [fields_row _ _ (by decide)]
  unfold treeLine
  rw [List.head?_cons, List.tail_cons, if_neg (show ¬ some wWound = some wTree by decide), if_neg (show ¬ some wWound = some wStrip by decide), if_pos rfl, numbers_itoa _ (by
    intro m hm
    rw [List.mem_singleton] at hm
    rw [hm]; exact hn)]
  exact last_at l ts t _ _ rfl

theorem strips_read (l : Law) (ts : List PTree) (rest : List (List UInt8)) : ∀ (ss : List (Int × Int)) (t : PTree) (n : Nat), (∀ s ∈ ss, Small s.1 ∧ Small s.2) → t.wounds = [] →
    readFrom n ⟨l, ts ++ [t]⟩ (ss.map stripRow ++ rest) = readFrom (n + ss.length) ⟨l, ts ++ [{ t with strips := t.strips ++ ss }]⟩ rest
  | [], t, n, _, _ => by simp
  | s :: ss, t, n, h, hw => by
    simp only [List.map_cons, List.cons_append, readFrom, strip_read l ts t s (h s (by simp)) hw]
    rw [strips_read l ts rest ss { t with strips := t.strips ++ [s] } (n + 1) (fun x hx => h x (by simp [hx])) hw]
    simp only [List.append_assoc, List.singleton_append, List.length_cons]
    congr 1; omega
theorem wounds_read (l : Law) (ts : List PTree) (rest : List (List UInt8)) : ∀ (ns : List Int) (t : PTree) (n : Nat), (∀ m ∈ ns, Small m) →
    readFrom n ⟨l, ts ++ [t]⟩ (ns.map woundRow ++ rest) = readFrom (n + ns.length) ⟨l, ts ++ [{ t with wounds := t.wounds ++ ns }]⟩ rest
  | [], t, n, _ => by simp
  | m :: ns, t, n, h => by
    simp only [List.map_cons, List.cons_append, readFrom, wound_read l ts t m (h m (by simp))]
    rw [wounds_read l ts rest ns _ (n + 1) (fun x hx => h x (by simp [hx]))]
    simp only [List.append_assoc, List.singleton_append, List.length_cons]
    congr 1; omega

theorem trees_read (l : Law) (rest : List (List UInt8)) : ∀ (us ts : List PTree) (n : Nat), (∀ t ∈ us, t.Fine) →
    readFrom n ⟨l, ts⟩ (us.flatMap treeRows ++ rest) = readFrom (n + (us.flatMap treeRows).length) ⟨l, ts ++ us⟩ rest
  | [], ts, n, _ => by simp
  | t :: us, ts, n, h => by
    have ht := h t (by simp)
    have e : (t :: us).flatMap treeRows ++ rest = treeRow t :: (t.strips.map stripRow ++ (t.wounds.map woundRow ++ (us.flatMap treeRows ++ rest))) := by
      simp [List.flatMap_cons, treeRows]
    rw [e]
    simp only [readFrom, tree_read ⟨l, ts⟩ t ht]
    rw [strips_read l ts _ t.strips _ (n + 1) ht.strips rfl, wounds_read l ts _ t.wounds _ _ ht.wounds]
    have et : ({ code := t.code, bmin := t.bmin, bmax := t.bmax, taped := t.taped, gmin := t.gmin, gmax := t.gmax, wmin := t.wmin, wmax := t.wmax, dead := t.dead, strips := [] ++ t.strips, wounds := [] ++ t.wounds } : PTree) = t := rfl
    rw [et, trees_read l rest us (ts ++ [t]) _ fun x hx => h x (by simp [hx])]
    simp only [List.append_assoc, List.singleton_append, List.flatMap_cons, treeRows, List.length_append, List.length_cons, List.length_map]
    congr 1; omega

theorem row_fine_feed (f : PForest) (h : f.Fine) : ∀ r ∈ rows f, (10 : UInt8) ∉ r := by
  intro r hr
  rcases List.mem_cons.1 hr with rfl | hr
  · exact row_no_feed _ _ (by decide)
  · obtain ⟨t, ht, hr⟩ := List.mem_flatMap.1 hr
    rcases List.mem_cons.1 hr with rfl | hr
    · refine row_no_feed _ _ fun hm => ?_
      rcases List.mem_append.1 hm with hm | hm
      · exact absurd hm (by decide)
      · rcases List.mem_cons.1 hm with hm | hm
        · cases hm
        · exact (h.trees t ht).code.2 hm
    · rcases List.mem_append.1 hr with hr | hr
      · obtain ⟨s, _, rfl⟩ := List.mem_map.1 hr
        exact row_no_feed _ _ (by decide)
      · obtain ⟨n, _, rfl⟩ := List.mem_map.1 hr
        exact row_no_feed _ _ (by decide)

/-- What is read of rows with more behind them. -/
theorem read_more (f : PForest) (h : f.Fine) (more : List (List UInt8)) (t : List UInt8) (ht : linesL t = rows f ++ more) : readText t = readFrom ((rows f).length + 1) f more := by
  unfold readText
  rw [ht]
  have e : rows f ++ more = lawRow f.law :: (f.trees.flatMap treeRows ++ more) := rfl
  rw [e]
  dsimp only
  rw [law_read _ h.law]
  dsimp only
  rw [trees_read f.law more f.trees [] 2 h.trees]
  simp only [List.nil_append]
  have el : (rows f).length = (f.trees.flatMap treeRows).length + 1 := by simp [rows]
  rw [el]
  congr 1
  omega
theorem read_text (f : PForest) (h : f.Fine) : readText (textL f) = .inr f := by
  rw [read_more f h [] (textL f) (by rw [List.append_nil]; exact lines_rows _ (row_fine_feed f h))]
  rfl

theorem feed_append (a b : List (List UInt8)) : feedL (a ++ b) = feedL a ++ feedL b := by simp [feedL]
theorem row_ne_nil (w : List UInt8) (ns : List Int) (h : w ≠ []) : rowL w ns ≠ [] := by
  unfold rowL
  cases w with
  | nil => exact absurd rfl h
  | cons a r => simp
/-- The rows but the last, and the last. -/
theorem rows_last (f : PForest) : ∃ rs r, rows f = rs ++ [r] ∧ r ≠ [] := by
  have hne : rows f ≠ [] := by simp [rows]
  refine ⟨(rows f).dropLast, (rows f).getLast hne, (List.dropLast_concat_getLast hne).symm, ?_⟩
  have hm := List.getLast_mem hne
  generalize (rows f).getLast hne = r at hm
  rcases List.mem_cons.1 hm with rfl | hm
  · exact row_ne_nil _ _ (by decide)
  · obtain ⟨t, _, hm⟩ := List.mem_flatMap.1 hm
    rcases List.mem_cons.1 hm with rfl | hm
    · exact row_ne_nil _ _ (by simp [wTree])
    · rcases List.mem_append.1 hm with hm | hm
      · obtain ⟨s, _, rfl⟩ := List.mem_map.1 hm
        exact row_ne_nil _ _ (by decide)
      · obtain ⟨n, _, rfl⟩ := List.mem_map.1 hm
        exact row_ne_nil _ _ (by decide)
/-- Without its last line feed, too. -/
theorem read_short (f : PForest) (h : f.Fine) : readText (textL f).dropLast = .inr f := by
  obtain ⟨rs, r, hr, hne⟩ := rows_last f
  have e : (textL f).dropLast = feedL rs ++ r := by
    unfold textL
    rw [hr, feed_append]
    have : feedL [r] = r ++ [10] := by simp [feedL]
    rw [this, ← List.append_assoc, List.dropLast_concat]
  rw [read_more f h [] _ (by
    rw [e, List.append_nil, hr]
    exact lines_short rs r (by rw [← hr]; exact row_fine_feed f h) hne)]
  rfl
/-- A law once more behind it: wrong in that line. -/
theorem read_law_more (f : PForest) (h : f.Fine) (l : Law) : readText (textL f ++ (lawRow l ++ [10])) = .inl ((rows f).length + 1) := by
  rw [read_more f h [lawRow l] _ (by
    have e : textL f ++ (lawRow l ++ [10]) = feedL (rows f ++ [lawRow l]) := by rw [feed_append]; simp [feedL, textL]
    rw [e]
    exact lines_rows _ fun r hr => by
      rcases List.mem_append.1 hr with hr | hr
      · exact row_fine_feed f h r hr
      · rw [List.mem_singleton] at hr
        rw [hr]; exact row_no_feed _ _ (by decide))]
  simp only [readFrom]
  have : treeLine f (fieldsL (lawRow l)) = none := by
    unfold lawRow
    rw [fields_row _ _ (by decide)]
    unfold treeLine
    rw [List.head?_cons, if_neg (show ¬ some wLaw = some wTree by decide), if_neg (show ¬ some wLaw = some wStrip by decide), if_neg (show ¬ some wLaw = some wWound by decide)]
  rw [this]
/-- A strip ahead of it: wrong in the first line. -/
theorem read_strip_first (s : Int × Int) (t : List UInt8) : readText (stripRow s ++ 10 :: t) = .inl 1 := by
  have hl : ∃ r, linesL (stripRow s ++ 10 :: t) = stripRow s :: r := by
    unfold linesL
    rw [cutAll_part 10 (stripRow s) t (show (10 : UInt8) ∉ rowL wStrip [s.1, s.2] from row_no_feed _ _ (by decide))]
    split
    · cases hc : cutAll 10 t with
      | nil => exact absurd hc (cutAll_ne_nil 10 t)
      | cons a r => exact ⟨_, rfl⟩
    · exact ⟨_, rfl⟩
  obtain ⟨r, hr⟩ := hl
  unfold readText
  rw [hr]
  dsimp only
  have : lawLine (fieldsL (stripRow s)) = none := by
    unfold stripRow
    rw [fields_row _ _ (by decide)]
    unfold lawLine
    rw [List.head?_cons, if_neg (show ¬ some wStrip = some wLaw by decide)]
  rw [this]
end Go.Proofs.YtnoofdjlocadbaaGreatDoor
