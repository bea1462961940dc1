/- A forest that comes in: its cells, and what of it lies in memory. -/
import Derived.Test.YtnoofdjlocadbaaGreatDoorData
import Derived.Test.YtnoofdjlocadbaaGreatDoorRows
import Derived.OpenShut
import Derived.Deep.Slices
import Derived.SizedLaws
namespace Go.Proofs.YtnoofdjlocadbaaGreatDoor
open Go.RowKit Go.ChangeShapes Go.WideShapes

section
variable {H : Type} {enc : TypeId × Value → H} {w : World} {held : Bool}

/-- What is read of a value, and that it is not larger than what can be there. -/
def Read (enc : TypeId × Value → H) (w : World) (held : Bool) (t : TypeId) (cs : List Value) : Prop :=
  ∃ (n : Nat) (x : DataW H × List MemPlace), DataW.trod enc Tryz.prog w 0 (fun _ => true) held n t cs = some x ∧ (x.1.weights Tryz.prog t).all (· ≤ reachBytes) = true

theorem lt_of_cell {a : Addr} {v : Value} (h : w.cell? a = some v) : a.block < w.heap.size := by
  unfold World.cell? at h
  split at h
  · rename_i hb
    exact (Array.getElem?_eq_some_iff.1 hb).1
  · cases h

theorem weights_all {t : TypeId} {p : Nat → Bool} : ∀ {l : List (DataW H)}, (DataW.weightsAll Tryz.prog t l).all p = true → ∀ d ∈ l, (d.weights Tryz.prog t).all p = true
  | [], _, d, hd => by cases hd
  | x :: r, h, d, hd => by
    unfold DataW.weightsAll at h
    rw [List.all_append, Bool.and_eq_true] at h
    rcases List.mem_cons.1 hd with rfl | hd
    · exact h.1
    · exact weights_all h.2 d hd

theorem weights_each {p : Nat → Bool} : ∀ {ts : List TypeId} {l : List (DataW H)}, (DataW.weightsEach Tryz.prog ts l).all p = true → ∀ (i : Nat) (t : TypeId) (d : DataW H), ts[i]? = some t → l[i]? = some d → (d.weights Tryz.prog t).all p = true
  | [], _, _, i, t, d, ht, _ => by simp at ht
  | _ :: _, [], _, i, t, d, _, hd => by simp at hd
  | u :: ts, x :: r, h, i, t, d, ht, hd => by
    unfold DataW.weightsEach at h
    rw [List.all_append, Bool.and_eq_true] at h
    match i with
    | 0 =>
      simp at ht hd
      rw [← ht, ← hd]; exact h.1
    | i + 1 =>
      simp at ht hd
      exact weights_each h.2 i t d ht hd

theorem read_int {t : TypeId} {cs : List Value} (ht : Tryz.prog.underlying t = some (.int .i64)) (h : Read enc w held t cs) : ∃ n : Int, cs = [.int .i64 n] := by
  obtain ⟨n, x, h, _⟩ := h
  obtain ⟨k, hk, _⟩ := DataW.trod_int ht h
  exact ⟨k, hk⟩

theorem read_string {t : TypeId} {cs : List Value} (ht : Tryz.prog.underlying t = some .string) (h : Read enc w held t cs) : ∃ s : ByteArray, cs = [.string s] ∧ s.size ≤ 9223372036854775807 := by
  obtain ⟨n, x, h, _⟩ := h
  obtain ⟨s, hs, _, hm⟩ := DataW.trod_string ht h
  exact ⟨s, hs, by unfold maxLen at hm; omega⟩

theorem read_field {t : TypeId} {fs : Array Field} {cs : List Value} (ht : Tryz.prog.underlying t = some (.struct fs)) (h : Read enc w held t cs) :
    cs.length = Tryz.prog.cellsOf t ∧ ∀ (i : Nat) (f : Field), fs[i]? = some f → Read enc w held f.type ((cs.drop f.offset).take (Tryz.prog.cellsOf f.type)) := by
  obtain ⟨n, x, h, hw⟩ := h
  obtain ⟨xs, m, _, hx, hlen, hxl, hg⟩ := DataW.trod_struct ht h
  refine ⟨hlen, fun i f hf => ?_⟩
  have hi : i < xs.length := by rw [hxl]; exact (Array.getElem?_eq_some_iff.1 hf).1
  have hy : xs[i]? = some (xs[i]'hi) := List.getElem?_eq_getElem hi
  refine ⟨m, xs[i]'hi, (hg i f hf).trans hy, ?_⟩
  rw [hx] at hw
  unfold DataW.weights at hw
  rw [ht] at hw
  exact weights_each hw i f.type _ (by rw [List.getElem?_map, ← Array.getElem?_toList] at *; rw [hf]; rfl) (by rw [List.getElem?_map, hy]; rfl)

theorem read_array {t e : TypeId} {k : Nat} {cs : List Value} (ht : Tryz.prog.underlying t = some (.array k e)) (h : Read enc w held t cs) :
    cs.length = Tryz.prog.cellsOf t ∧ ∀ i, i < k → Read enc w held e ((cs.drop (i * Tryz.prog.cellsOf e)).take (Tryz.prog.cellsOf e)) := by
  obtain ⟨n, x, h, hw⟩ := h
  obtain ⟨xs, m, _, hx, hlen, hxl, hg⟩ := DataW.trod_array ht h
  refine ⟨hlen, fun i hi => ?_⟩
  have hi' : i < xs.length := by omega
  have hy : xs[i]? = some (xs[i]'hi') := List.getElem?_eq_getElem hi'
  refine ⟨m, xs[i]'hi', (hg i hi).trans hy, ?_⟩
  rw [hx] at hw
  unfold DataW.weights at hw
  rw [ht] at hw
  exact weights_all hw _ (List.mem_map.2 ⟨_, List.getElem_mem hi', rfl⟩)

/-- A list of so many. -/
theorem len_2 {l : List Value} (h : l.length = 2) : ∃ c0 c1 : Value, l = [c0, c1] :=
  match l, h with
  | [c0, c1], _ => ⟨c0, c1, rfl⟩
theorem len_3 {l : List Value} (h : l.length = 3) : ∃ c0 c1 c2 : Value, l = [c0, c1, c2] :=
  match l, h with
  | [c0, c1, c2], _ => ⟨c0, c1, c2, rfl⟩
theorem len_7v {l : List Value} (h : l.length = 7) : ∃ c0 c1 c2 c3 c4 c5 c6 : Value, l = [c0, c1, c2, c3, c4, c5, c6] :=
  match l, h with
  | [c0, c1, c2, c3, c4, c5, c6], _ => ⟨c0, c1, c2, c3, c4, c5, c6, rfl⟩
theorem len_8 {l : List Value} (h : l.length = 8) : ∃ c0 c1 c2 c3 c4 c5 c6 c7 : Value, l = [c0, c1, c2, c3, c4, c5, c6, c7] :=
  match l, h with
  | [c0, c1, c2, c3, c4, c5, c6, c7], _ => ⟨c0, c1, c2, c3, c4, c5, c6, c7, rfl⟩
theorem len_11 {l : List Value} (h : l.length = 11) : ∃ c0 c1 c2 c3 c4 c5 c6 c7 c8 c9 c10 : Value, l = [c0, c1, c2, c3, c4, c5, c6, c7, c8, c9, c10] :=
  match l, h with
  | [c0, c1, c2, c3, c4, c5, c6, c7, c8, c9, c10], _ => ⟨c0, c1, c2, c3, c4, c5, c6, c7, c8, c9, c10, rfl⟩

/-- From an element at each place to a list of them. -/
theorem list_of {α : Type} [Inhabited α] {p : Nat → α → Prop} : ∀ n, (∀ i, i < n → ∃ x, p i x) → ∃ xs : List α, xs.length = n ∧ ∀ i, i < n → p i xs[i]!
  | 0, _ => ⟨[], rfl, fun i hi => absurd hi (Nat.not_lt_zero _)⟩
  | n + 1, h => by
    obtain ⟨xs, hl, hp⟩ := list_of n fun i hi => h i (by omega)
    obtain ⟨x, hx⟩ := h n (by omega)
    refine ⟨xs ++ [x], by simp [hl], fun i hi => ?_⟩
    by_cases hin : i < n
    · have e : (xs ++ [x])[i]! = xs[i]! := by
        rw [getElem!_pos (xs ++ [x]) i (by simp; omega), getElem!_pos xs i (by omega), List.getElem_append_left (by omega)]
      rw [e]; exact hp i hin
    · obtain rfl : i = n := by omega
      have e : (xs ++ [x])[i]! = x := by
        rw [getElem!_pos (xs ++ [x]) i (by simp; omega)]; simp [hl]
      rw [e]; exact hx

/-- A list in memory, element by element. -/
theorem read_held {α : Type} [Inhabited α] {t e : TypeId} (k : Nat) {cell : α → List Value} {OK : α → Prop} {cs : List Value} (ht : Tryz.prog.underlying t = some (.slice e)) (hC : Tryz.prog.cellsOf e = k) (hk : 0 < k) (hb : 0 < Tryz.prog.bytesOf e)
    (hEl : ∀ cs, Read enc w held e cs → ∃ a : α, cs = cell a ∧ OK a) (h : Read enc w held t cs) :
    ∃ (v : Value) (xs : List α), cs = [v] ∧ Held w.heap.size w k cell v xs ∧ ∀ a ∈ xs, OK a := by
  obtain ⟨n, x, h, hw⟩ := h
  rcases Go.Deep.open_slice ht h with ⟨hcs, _⟩ | ⟨a, len, cap, m, n', D, Pl, hcs, _, hl, _, hm, hx, hi⟩
  · exact ⟨_, [], hcs, .inl ⟨⟨none, 0, rfl⟩, rfl⟩, fun a ha => by cases ha⟩
  · obtain rfl : m = cap := by rw [hm]; rfl
    rw [hC] at hi
    rw [hx] at hw
    unfold DataW.weights at hw
    rw [ht] at hw
    rw [List.all_cons, Bool.and_eq_true, List.all_append, Bool.and_eq_true] at hw
    obtain ⟨hw1, hw2, _⟩ := hw
    have hcap : m ≤ 140737488355328 := by
      simp only [List.length_map, List.length_range, decide_eq_true_iff] at hw1
      have h1 : m * 1 ≤ m * Tryz.prog.bytesOf e := Nat.mul_le_mul_left _ hb
      have h2 : (len + (m - len)) = m := by omega
      rw [h2] at hw1
      have h3 : reachBytes ≤ 140737488355328 := by decide
      omega
    by_cases h0 : len = 0
    · subst h0
      exact ⟨_, [], hcs, .inl ⟨⟨some a, m, rfl⟩, rfl⟩, fun a ha => by cases ha⟩
    · obtain ⟨xs, hlen, hp⟩ := list_of (p := fun i (a' : α) => (∃ cs', w.cells? 0 (a.add (i * k)) k = some cs' ∧ cs' = cell a') ∧ OK a') len fun i hil => by
        obtain ⟨cs', hc, hr⟩ := hi i (by omega)
        obtain ⟨a', ha, hok⟩ := hEl cs' ⟨_, _, hr, weights_all hw2 (D i) (List.mem_map.2 ⟨i, List.mem_range.2 hil, rfl⟩)⟩
        exact ⟨a', ⟨cs', hc, ha⟩, hok⟩
      have spot : a.spot = none ∧ a.block < w.heap.size := by
        obtain ⟨⟨cs', hc, _⟩, _⟩ := hp 0 (by omega)
        obtain ⟨_, hcl, hat⟩ := World.cells?_some hc
        have := hat 0 hk
        rw [List.getElem?_eq_getElem (by omega)] at this
        have e : (a.add (0 * k)).add 0 = a := by simp [Addr.add]
        rw [e] at this
        exact ⟨World.cell?_spot this, lt_of_cell this⟩
      obtain ⟨b, off, spot'⟩ := a
      obtain ⟨hs, hblk⟩ := spot
      dsimp only at hs hblk
      subst hs
      refine ⟨_, xs, hcs, .inr ⟨b, off, m, by rw [hlen], hblk, ⟨by omega, by omega, by omega⟩, fun j hj i u hu => ?_⟩, fun a' ha => ?_⟩
      · obtain ⟨⟨cs', hc, he⟩, _⟩ := hp j (by omega)
        obtain ⟨_, hcl, hat⟩ := World.cells?_some hc
        have hik : i < k := by
          rw [← hcl, he]
          exact (List.getElem?_eq_some_iff.1 hu).1
        have := hat i hik
        rw [he, hu] at this
        rw [← this]
        unfold Addr.add
        by_cases q1 : j * k = 0 <;> by_cases q2 : i = 0 <;> simp [q1, q2]
      · obtain ⟨j, hj, rfl⟩ := List.getElem_of_mem ha
        have := (hp j (by omega)).2
        rwa [getElem!_pos xs j hj] at this

theorem cells_int : Tryz.prog.cellsOf 3 = 1 := by kernel_rfl
theorem cells_string : Tryz.prog.cellsOf 9 = 1 := by kernel_rfl
theorem cells_bounds : Tryz.prog.cellsOf 41 = 2 := by kernel_rfl
theorem cells_strip : Tryz.prog.cellsOf 69 = 2 := by kernel_rfl
theorem cells_strips : Tryz.prog.cellsOf 42 = 1 := by kernel_rfl
theorem cells_ints : Tryz.prog.cellsOf 43 = 1 := by kernel_rfl
theorem cells_three : Tryz.prog.cellsOf 22 = 3 := by kernel_rfl
theorem cells_tree : Tryz.prog.cellsOf 45 = 11 := by kernel_rfl
theorem cells_trees : Tryz.prog.cellsOf 25 = 1 := by kernel_rfl
theorem cells_law : Tryz.prog.cellsOf 24 = 7 := by kernel_rfl
theorem cells_forest : Tryz.prog.cellsOf 27 = 8 := by kernel_rfl
theorem bytes_pos_strip : 0 < Tryz.prog.bytesOf 69 := of_decide_eq_true (by kernel_rfl)
theorem bytes_pos_int : 0 < Tryz.prog.bytesOf 3 := of_decide_eq_true (by kernel_rfl)
theorem bytes_pos_tree : 0 < Tryz.prog.bytesOf 45 := of_decide_eq_true (by kernel_rfl)

theorem field_of {fs : Array Field} {cs : List Value} (hf : ∀ (i : Nat) (f : Field), fs[i]? = some f → Read enc w held f.type ((cs.drop f.offset).take (Tryz.prog.cellsOf f.type))) (i : Nat) {f : Field} (h : fs[i]? = some f) {t o k : Nat} (ht : f.type = t) (ho : f.offset = o) (hk : Tryz.prog.cellsOf t = k) :
    Read enc w held t ((cs.drop o).take k) := by
  have := hf i f h
  rwa [ht, ho, hk] at this

theorem read_two {t : TypeId} {f0 f1 : Field} {cs : List Value} (ht : Tryz.prog.underlying t = some (.struct #[f0, f1])) (hC : Tryz.prog.cellsOf t = 2) (h0 : f0.type = 3 ∧ f0.offset = 0) (h1 : f1.type = 3 ∧ f1.offset = 1) (h : Read enc w held t cs) :
    ∃ a b : Int, cs = [.int .i64 a, .int .i64 b] := by
  obtain ⟨hl, hf⟩ := read_field ht h
  rw [hC] at hl
  obtain ⟨c0, c1, rfl⟩ := len_2 hl
  have g0 : Read enc w held 3 [c0] := field_of hf 0 rfl h0.1 h0.2 cells_int
  have g1 : Read enc w held 3 [c1] := field_of hf 1 rfl h1.1 h1.2 cells_int
  obtain ⟨a, ha⟩ := read_int Tryz.underlying3 g0
  obtain ⟨b, hb⟩ := read_int Tryz.underlying3 g1
  simp at ha hb
  exact ⟨a, b, by rw [ha, hb]⟩

theorem read_bounds {cs : List Value} (h : Read enc w held 41 cs) : ∃ a b : Int, cs = [.int .i64 a, .int .i64 b] :=
  read_two Tryz.underlying41 cells_bounds ⟨rfl, rfl⟩ ⟨rfl, rfl⟩ h
theorem read_strip {cs : List Value} (h : Read enc w held 69 cs) : ∃ s : Int × Int, cs = stripCells s ∧ True := by
  obtain ⟨a, b, h⟩ := read_two Tryz.underlying69 cells_strip ⟨rfl, rfl⟩ ⟨rfl, rfl⟩ h
  exact ⟨(a, b), h, trivial⟩

theorem read_strips {cs : List Value} (h : Read enc w held 42 cs) : ∃ (v : Value) (xs : List (Int × Int)), cs = [v] ∧ Held w.heap.size w 2 stripCells v xs := by
  obtain ⟨v, xs, h1, h2, _⟩ := read_held 2 Tryz.underlying42 cells_strip (by decide) bytes_pos_strip (fun cs h => read_strip h) h
  exact ⟨v, xs, h1, h2⟩
theorem read_wounds {cs : List Value} (h : Read enc w held 43 cs) : ∃ (v : Value) (xs : List Int), cs = [v] ∧ Held w.heap.size w 1 intCells v xs := by
  obtain ⟨v, xs, h1, h2, _⟩ := read_held 1 (cell := intCells) (OK := fun _ => True) Tryz.underlying43 cells_int (by decide) bytes_pos_int (fun cs h => by
    obtain ⟨n, hn⟩ := read_int Tryz.underlying3 h
    exact ⟨n, hn, trivial⟩) h
  exact ⟨v, xs, h1, h2⟩

set_option maxRecDepth 100000 in
theorem read_tree {cs : List Value} (h : Read enc w held 45 cs) : ∃ t : Tree, cs = t.cells ∧ TreeHeld w.heap.size w t := by
  obtain ⟨hl, hf⟩ := read_field Tryz.underlying45 h
  rw [cells_tree] at hl
  obtain ⟨c0, c1, c2, c3, c4, c5, c6, c7, c8, c9, c10, rfl⟩ := len_11 hl
  have g0 : Read enc w held 9 [c0] := field_of hf 0 rfl rfl rfl cells_string
  have g1 : Read enc w held 41 [c1, c2] := field_of hf 1 rfl rfl rfl cells_bounds
  have g2 : Read enc w held 3 [c3] := field_of hf 2 rfl rfl rfl cells_int
  have g3 : Read enc w held 41 [c4, c5] := field_of hf 3 rfl rfl rfl cells_bounds
  have g4 : Read enc w held 41 [c6, c7] := field_of hf 4 rfl rfl rfl cells_bounds
  have g5 : Read enc w held 42 [c8] := field_of hf 5 rfl rfl rfl cells_strips
  have g6 : Read enc w held 43 [c9] := field_of hf 6 rfl rfl rfl cells_ints
  have g7 : Read enc w held 3 [c10] := field_of hf 7 rfl rfl rfl cells_int
  obtain ⟨code, e0, hs⟩ := read_string Tryz.underlying9 g0
  obtain ⟨bmin, bmax, e1⟩ := read_bounds g1
  obtain ⟨taped, e2⟩ := read_int Tryz.underlying3 g2
  obtain ⟨gmin, gmax, e3⟩ := read_bounds g3
  obtain ⟨wmin, wmax, e4⟩ := read_bounds g4
  obtain ⟨sv, strips, e5, hS⟩ := read_strips g5
  obtain ⟨wv, wounds, e6, hW⟩ := read_wounds g6
  obtain ⟨dead, e7⟩ := read_int Tryz.underlying3 g7
  simp at e0 e1 e2 e3 e4 e5 e6 e7
  obtain ⟨rfl, rfl⟩ := e1
  obtain ⟨rfl, rfl⟩ := e3
  obtain ⟨rfl, rfl⟩ := e4
  subst e0 e2 e5 e6 e7
  exact ⟨⟨code, bmin, bmax, taped, gmin, gmax, wmin, wmax, _, _, dead, strips, wounds⟩, rfl, hS, hW, hs⟩

theorem read_trees {cs : List Value} (h : Read enc w held 25 cs) : ∃ (v : Value) (ts : List Tree), cs = [v] ∧ TreesHeld w.heap.size w v ts := by
  obtain ⟨v, ts, h1, h2, h3⟩ := read_held 11 Tryz.underlying25 cells_tree (by decide) bytes_pos_tree (fun cs h => read_tree h) h
  exact ⟨v, ts, h1, h2, h3⟩

theorem read_factors {cs : List Value} (h : Read enc w held 22 cs) : ∃ a b c : Int, cs = [.int .i64 a, .int .i64 b, .int .i64 c] := by
  obtain ⟨hl, hf⟩ := read_array Tryz.underlying22 h
  rw [cells_three] at hl
  rw [cells_int] at hf
  obtain ⟨c0, c1, c2, rfl⟩ := len_3 hl
  obtain ⟨a, ha⟩ := read_int Tryz.underlying3 (hf 0 (by decide))
  obtain ⟨b, hb⟩ := read_int Tryz.underlying3 (hf 1 (by decide))
  obtain ⟨c, hc⟩ := read_int Tryz.underlying3 (hf 2 (by decide))
  simp at ha hb hc
  exact ⟨a, b, c, by rw [ha, hb, hc]⟩

theorem read_law {cs : List Value} (h : Read enc w held 24 cs) : ∃ l : Law, cs = l.cells := by
  obtain ⟨hl, hf⟩ := read_field Tryz.underlying24 h
  rw [cells_law] at hl
  obtain ⟨c0, c1, c2, c3, c4, c5, c6, rfl⟩ := len_7v hl
  have g0 : Read enc w held 3 [c0] := field_of hf 0 rfl rfl rfl cells_int
  have g1 : Read enc w held 3 [c1] := field_of hf 1 rfl rfl rfl cells_int
  have g2 : Read enc w held 3 [c2] := field_of hf 2 rfl rfl rfl cells_int
  have g3 : Read enc w held 22 [c3, c4, c5] := field_of hf 3 rfl rfl rfl cells_three
  have g4 : Read enc w held 3 [c6] := field_of hf 4 rfl rfl rfl cells_int
  obtain ⟨age, e0⟩ := read_int Tryz.underlying3 g0
  obtain ⟨rest, e1⟩ := read_int Tryz.underlying3 g1
  obtain ⟨girth, e2⟩ := read_int Tryz.underlying3 g2
  obtain ⟨a, b, c, e3⟩ := read_factors g3
  obtain ⟨heal, e4⟩ := read_int Tryz.underlying3 g4
  simp at e0 e1 e2 e3 e4
  obtain ⟨rfl, rfl, rfl⟩ := e3
  subst e0 e1 e2 e4
  exact ⟨⟨age, rest, girth, a, b, c, heal⟩, rfl⟩

/-- The cells of a forest. -/
def forestCells (f : Forest) : List Value := f.law.cells ++ [f.tv]

theorem read_forest {cs : List Value} (h : Read enc w held 27 cs) : ∃ f : Forest, cs = forestCells f ∧ TreesHeld w.heap.size w f.tv f.trees := by
  obtain ⟨hl, hf⟩ := read_field Tryz.underlying27 h
  rw [cells_forest] at hl
  obtain ⟨c0, c1, c2, c3, c4, c5, c6, c7, rfl⟩ := len_8 hl
  have g0 : Read enc w held 24 [c0, c1, c2, c3, c4, c5, c6] := field_of hf 0 rfl rfl rfl cells_law
  have g1 : Read enc w held 25 [c7] := field_of hf 1 rfl rfl rfl cells_trees
  obtain ⟨l, e0⟩ := read_law g0
  obtain ⟨v, ts, e1, hT⟩ := read_trees g1
  obtain ⟨age, rest, girth, a, b, c, heal⟩ := l
  simp [Law.cells] at e0 e1
  obtain ⟨rfl, rfl, rfl, rfl, rfl, rfl, rfl⟩ := e0
  subst e1
  exact ⟨⟨⟨age, rest, girth, a, b, c, heal⟩, _, ts⟩, rfl, hT⟩

theorem read_arg {t : TypeId} {cs : Array Value} {d : DataW H} {p : List MemPlace} (h : DataW.Trod enc Tryz.prog w 0 (fun _ => true) held t (.agg cs) d p) (hw : (d.weights Tryz.prog t).all (· ≤ reachBytes) = true) : Read enc w held t cs.toList := by
  obtain ⟨fuel, hf⟩ := h
  exact ⟨fuel, (d, p), hf, hw⟩

set_option maxRecDepth 100000 in
/-- A forest as an argument. -/
theorem open_forest {v : Value} {d : DataW H} {p : List MemPlace} {r : Reach} {b0 : Nat} (hv : Value.okWide Tryz.prog w r b0 27 v) (h : DataW.Trod enc Tryz.prog w 0 (fun _ => true) held 27 v d p)
    (hw : (d.weights Tryz.prog 27).all (· ≤ reachBytes) = true) :
    ∃ f : Forest, v = .agg (forestCells f).toArray ∧ TreesHeld w.heap.size w f.tv f.trees := by
  obtain ⟨cs, hcs, _⟩ := okWide_struct Tryz.underlying27 hv
  subst hcs
  have hr := read_arg h hw
  obtain ⟨f, hc, hT⟩ := read_forest hr
  exact ⟨f, by rw [← hc, Array.toArray_toList], hT⟩
end
end Go.Proofs.YtnoofdjlocadbaaGreatDoor
