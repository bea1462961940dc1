/- A yard that comes in: its cells, and what of it lies in memory. A slice of choices comes in. -/
import Derived.Test.YtbgojeppfhldjaaYHeld
import Derived.Test.YtbgojeppfhldjaaRows
import Derived.OpenShut
import Derived.Deep.Slices
import Derived.SizedLaws
namespace Go.Proofs.Ytbgojeppfhldjaa
open Go.RowKit Go.ChangeShapes Go.WideShapes

section
variable {H : Type} {enc : TypeId × Value → H} {w : World} {held : Bool}

/-- What is read of a value, and that it is not larger than what can be there. -/
def Read (enc : TypeId × Value → H) (w : World) (held : Bool) (t : TypeId) (cs : List Value) : Prop :=
  ∃ (n : Nat) (x : DataW H × List MemPlace), DataW.trod enc Try.prog w 0 (fun _ => true) held n t cs = some x ∧ (x.1.weights Try.prog t).all (· ≤ reachBytes) = true

theorem lt_of_cell {a : Addr} {v : Value} (h : w.cell? a = some v) : a.block < w.heap.size := by
  unfold World.cell? at h
  split at h
  · rename_i hb
    exact (Array.getElem?_eq_some_iff.1 hb).1
  · cases h

theorem weights_all {t : TypeId} {p : Nat → Bool} : ∀ {l : List (DataW H)}, (DataW.weightsAll Try.prog t l).all p = true → ∀ d ∈ l, (d.weights Try.prog t).all p = true
  | [], _, d, hd => by cases hd
  | x :: r, h, d, hd => by
    unfold DataW.weightsAll at h
    rw [List.all_append, Bool.and_eq_true] at h
    rcases List.mem_cons.1 hd with rfl | hd
    · exact h.1
    · exact weights_all h.2 d hd

theorem weights_each {p : Nat → Bool} : ∀ {ts : List TypeId} {l : List (DataW H)}, (DataW.weightsEach Try.prog ts l).all p = true → ∀ (i : Nat) (t : TypeId) (d : DataW H), ts[i]? = some t → l[i]? = some d → (d.weights Try.prog t).all p = true
  | [], _, _, i, t, d, ht, _ => by simp at ht
  | _ :: _, [], _, i, t, d, _, hd => by simp at hd
  | u :: ts, x :: r, h, i, t, d, ht, hd => by
    unfold DataW.weightsEach at h
    rw [List.all_append, Bool.and_eq_true] at h
    match i with
    | 0 =>
      simp at ht hd
      rw [← ht, ← hd]; exact h.1
    | i + 1 =>
      simp at ht hd
      exact weights_each h.2 i t d ht hd

theorem read_int {t : TypeId} {cs : List Value} (ht : Try.prog.underlying t = some (.int .i64)) (h : Read enc w held t cs) : ∃ n : Int, cs = [.int .i64 n] := by
  obtain ⟨n, x, h, _⟩ := h
  obtain ⟨k, hk, _⟩ := DataW.trod_int ht h
  exact ⟨k, hk⟩

theorem read_string {t : TypeId} {cs : List Value} (ht : Try.prog.underlying t = some .string) (h : Read enc w held t cs) : ∃ s : ByteArray, cs = [.string s] ∧ s.size ≤ 9223372036854775807 := by
  obtain ⟨n, x, h, _⟩ := h
  obtain ⟨s, hs, _, hm⟩ := DataW.trod_string ht h
  exact ⟨s, hs, by unfold maxLen at hm; omega⟩

theorem read_field {t : TypeId} {fs : Array Field} {cs : List Value} (ht : Try.prog.underlying t = some (.struct fs)) (h : Read enc w held t cs) :
    cs.length = Try.prog.cellsOf t ∧ ∀ (i : Nat) (f : Field), fs[i]? = some f → Read enc w held f.type ((cs.drop f.offset).take (Try.prog.cellsOf f.type)) := by
  obtain ⟨n, x, h, hw⟩ := h
  obtain ⟨xs, m, _, hx, hlen, hxl, hg⟩ := DataW.trod_struct ht h
  refine ⟨hlen, fun i f hf => ?_⟩
  have hi : i < xs.length := by rw [hxl]; exact (Array.getElem?_eq_some_iff.1 hf).1
  have hy : xs[i]? = some (xs[i]'hi) := List.getElem?_eq_getElem hi
  refine ⟨m, xs[i]'hi, (hg i f hf).trans hy, ?_⟩
  rw [hx] at hw
  unfold DataW.weights at hw
  rw [ht] at hw
  exact weights_each hw i f.type _ (by rw [List.getElem?_map, ← Array.getElem?_toList] at *; rw [hf]; rfl) (by rw [List.getElem?_map, hy]; rfl)

/-- A list of so many. -/
theorem len_2 {l : List Value} (h : l.length = 2) : ∃ c0 c1 : Value, l = [c0, c1] :=
  match l, h with
  | [c0, c1], _ => ⟨c0, c1, rfl⟩
theorem len_3 {l : List Value} (h : l.length = 3) : ∃ c0 c1 c2 : Value, l = [c0, c1, c2] :=
  match l, h with
  | [c0, c1, c2], _ => ⟨c0, c1, c2, rfl⟩
theorem len_8 {l : List Value} (h : l.length = 8) : ∃ c0 c1 c2 c3 c4 c5 c6 c7 : Value, l = [c0, c1, c2, c3, c4, c5, c6, c7] :=
  match l, h with
  | [c0, c1, c2, c3, c4, c5, c6, c7], _ => ⟨c0, c1, c2, c3, c4, c5, c6, c7, rfl⟩
/-- From an element at each place to a list of them. -/
theorem list_of {α : Type} [Inhabited α] {p : Nat → α → Prop} : ∀ n, (∀ i, i < n → ∃ x, p i x) → ∃ xs : List α, xs.length = n ∧ ∀ i, i < n → p i xs[i]!
  | 0, _ => ⟨[], rfl, fun i hi => absurd hi (Nat.not_lt_zero _)⟩
  | n + 1, h => by
    obtain ⟨xs, hl, hp⟩ := list_of n fun i hi => h i (by omega)
    obtain ⟨x, hx⟩ := h n (by omega)
    refine ⟨xs ++ [x], by simp [hl], fun i hi => ?_⟩
    by_cases hin : i < n
    · have e : (xs ++ [x])[i]! = xs[i]! := by
        rw [getElem!_pos (xs ++ [x]) i (by simp; omega), getElem!_pos xs i (by omega), List.getElem_append_left (by omega)]
      rw [e]; exact hp i hin
    · obtain rfl : i = n := by omega
      have e : (xs ++ [x])[i]! = x := by
        rw [getElem!_pos (xs ++ [x]) i (by simp; omega)]; simp [hl]
      rw [e]; exact hx

/-- A list in memory, element by element. -/
theorem read_held {α : Type} [Inhabited α] {t e : TypeId} (k : Nat) {cell : α → List Value} {OK : α → Prop} {cs : List Value} (ht : Try.prog.underlying t = some (.slice e)) (hC : Try.prog.cellsOf e = k) (hk : 0 < k) (hb : 0 < Try.prog.bytesOf e)
    (hEl : ∀ cs, Read enc w held e cs → ∃ a : α, cs = cell a ∧ OK a) (h : Read enc w held t cs) :
    ∃ (v : Value) (xs : List α), cs = [v] ∧ Held w.heap.size w k cell v xs ∧ ∀ a ∈ xs, OK a := by
  obtain ⟨n, x, h, hw⟩ := h
  rcases Go.Deep.open_slice ht h with ⟨hcs, _⟩ | ⟨a, len, cap, m, n', D, Pl, hcs, _, hl, _, hm, hx, hi⟩
  · exact ⟨_, [], hcs, .inl ⟨⟨none, 0, rfl⟩, rfl⟩, fun a ha => by cases ha⟩
  · obtain rfl : m = cap := by rw [hm]; rfl
    rw [hC] at hi
    rw [hx] at hw
    unfold DataW.weights at hw
    rw [ht] at hw
    rw [List.all_cons, Bool.and_eq_true, List.all_append, Bool.and_eq_true] at hw
    obtain ⟨hw1, hw2, _⟩ := hw
    have hcap : m ≤ 140737488355328 := by
      simp only [List.length_map, List.length_range, decide_eq_true_iff] at hw1
      have h1 : m * 1 ≤ m * Try.prog.bytesOf e := Nat.mul_le_mul_left _ hb
      have h2 : (len + (m - len)) = m := by omega
      rw [h2] at hw1
      have h3 : reachBytes ≤ 140737488355328 := by decide
      omega
    by_cases h0 : len = 0
    · subst h0
      exact ⟨_, [], hcs, .inl ⟨⟨some a, m, rfl⟩, rfl⟩, fun a ha => by cases ha⟩
    · obtain ⟨xs, hlen, hp⟩ := list_of (p := fun i (a' : α) => (∃ cs', w.cells? 0 (a.add (i * k)) k = some cs' ∧ cs' = cell a') ∧ OK a') len fun i hil => by
        obtain ⟨cs', hc, hr⟩ := hi i (by omega)
        obtain ⟨a', ha, hok⟩ := hEl cs' ⟨_, _, hr, weights_all hw2 (D i) (List.mem_map.2 ⟨i, List.mem_range.2 hil, rfl⟩)⟩
        exact ⟨a', ⟨cs', hc, ha⟩, hok⟩
      have spot : a.spot = none ∧ a.block < w.heap.size := by
        obtain ⟨⟨cs', hc, _⟩, _⟩ := hp 0 (by omega)
        obtain ⟨_, hcl, hat⟩ := World.cells?_some hc
        have := hat 0 hk
        rw [List.getElem?_eq_getElem (by omega)] at this
        have e : (a.add (0 * k)).add 0 = a := by simp [Addr.add]
        rw [e] at this
        exact ⟨World.cell?_spot this, lt_of_cell this⟩
      obtain ⟨b, off, spot'⟩ := a
      obtain ⟨hs, hblk⟩ := spot
      dsimp only at hs hblk
      subst hs
      refine ⟨_, xs, hcs, .inr ⟨b, off, m, by rw [hlen], hblk, ⟨by omega, by omega, by omega⟩, fun j hj i u hu => ?_⟩, fun a' ha => ?_⟩
      · obtain ⟨⟨cs', hc, he⟩, _⟩ := hp j (by omega)
        obtain ⟨_, hcl, hat⟩ := World.cells?_some hc
        have hik : i < k := by
          rw [← hcl, he]
          exact (List.getElem?_eq_some_iff.1 hu).1
        have := hat i hik
        rw [he, hu] at this
        rw [← this]
        unfold Addr.add
        by_cases q1 : j * k = 0 <;> by_cases q2 : i = 0 <;> simp [q1, q2]
      · obtain ⟨j, hj, rfl⟩ := List.getElem_of_mem ha
        have := (hp j (by omega)).2
        rwa [getElem!_pos xs j hj] at this

theorem cells_int : Try.prog.cellsOf 3 = 1 := by kernel_rfl
theorem cells_string : Try.prog.cellsOf 9 = 1 := by kernel_rfl
theorem cells_bounds : Try.prog.cellsOf 23 = 2 := by kernel_rfl
theorem cells_kind : Try.prog.cellsOf 55 = 1 := by kernel_rfl
theorem cells_deed : Try.prog.cellsOf 57 = 8 := by kernel_rfl
theorem cells_deeds : Try.prog.cellsOf 41 = 1 := by kernel_rfl
theorem cells_yard : Try.prog.cellsOf 43 = 3 := by kernel_rfl
theorem bytes_pos_deed : 0 < Try.prog.bytesOf 57 := of_decide_eq_true (by kernel_rfl)

theorem field_of {fs : Array Field} {cs : List Value} (hf : ∀ (i : Nat) (f : Field), fs[i]? = some f → Read enc w held f.type ((cs.drop f.offset).take (Try.prog.cellsOf f.type))) (i : Nat) {f : Field} (h : fs[i]? = some f) {t o k : Nat} (ht : f.type = t) (ho : f.offset = o) (hk : Try.prog.cellsOf t = k) :
    Read enc w held t ((cs.drop o).take k) := by
  have := hf i f h
  rwa [ht, ho, hk] at this

theorem read_two {t : TypeId} {f0 f1 : Field} {cs : List Value} (ht : Try.prog.underlying t = some (.struct #[f0, f1])) (hC : Try.prog.cellsOf t = 2) (h0 : f0.type = 3 ∧ f0.offset = 0) (h1 : f1.type = 3 ∧ f1.offset = 1) (h : Read enc w held t cs) :
    ∃ a b : Int, cs = [.int .i64 a, .int .i64 b] := by
  obtain ⟨hl, hf⟩ := read_field ht h
  rw [hC] at hl
  obtain ⟨c0, c1, rfl⟩ := len_2 hl
  have g0 : Read enc w held 3 [c0] := field_of hf 0 rfl h0.1 h0.2 cells_int
  have g1 : Read enc w held 3 [c1] := field_of hf 1 rfl h1.1 h1.2 cells_int
  obtain ⟨a, ha⟩ := read_int Try.underlying3 g0
  obtain ⟨b, hb⟩ := read_int Try.underlying3 g1
  simp at ha hb
  exact ⟨a, b, by rw [ha, hb]⟩

theorem read_bounds {cs : List Value} (h : Read enc w held 23 cs) : ∃ a b : Int, cs = [.int .i64 a, .int .i64 b] :=
  read_two Try.underlying23 cells_bounds ⟨rfl, rfl⟩ ⟨rfl, rfl⟩ h

/-- A deed's strings are not longer than can be. -/
def DeedSized (d : Yd.Deed Code) : Prop := d.stack.size ≤ maxLen ∧ d.other.size ≤ maxLen

set_option maxRecDepth 100000 in
theorem read_deed {cs : List Value} (h : Read enc w held 57 cs) : ∃ d : Yd.Deed Code, cs = deedCells d ∧ DeedSized d := by
  obtain ⟨hl, hf⟩ := read_field Try.underlying57 h
  rw [cells_deed] at hl
  obtain ⟨c0, c1, c2, c3, c4, c5, c6, c7, rfl⟩ := len_8 hl
  have g0 : Read enc w held 55 [c0] := field_of hf 0 rfl rfl rfl cells_kind
  have g1 : Read enc w held 3 [c1] := field_of hf 1 rfl rfl rfl cells_int
  have g2 : Read enc w held 9 [c2] := field_of hf 2 rfl rfl rfl cells_string
  have g3 : Read enc w held 9 [c3] := field_of hf 3 rfl rfl rfl cells_string
  have g4 : Read enc w held 23 [c4, c5] := field_of hf 4 rfl rfl rfl cells_bounds
  have g5 : Read enc w held 23 [c6, c7] := field_of hf 5 rfl rfl rfl cells_bounds
  obtain ⟨kind, e0⟩ := read_int Try.underlying55 g0
  obtain ⟨day, e1⟩ := read_int Try.underlying3 g1
  obtain ⟨code, e2, h2⟩ := read_string Try.underlying9 g2
  obtain ⟨other, e3, h3⟩ := read_string Try.underlying9 g3
  obtain ⟨al, ah, e4⟩ := read_bounds g4
  obtain ⟨bl, bh, e5⟩ := read_bounds g5
  simp at e0 e1 e2 e3 e4 e5
  obtain ⟨rfl, rfl⟩ := e4
  obtain ⟨rfl, rfl⟩ := e5
  subst e0 e1 e2 e3
  have hm : maxLen = 9223372036854775807 := rfl
  exact ⟨⟨kind, day, code, other, ⟨_, _⟩, ⟨_, _⟩⟩, rfl, by rw [hm]; exact h2, by rw [hm]; exact h3⟩
theorem read_deeds {cs : List Value} (h : Read enc w held 41 cs) : ∃ (v : Value) (ds : List (Yd.Deed Code)), cs = [v] ∧ Held w.heap.size w 8 deedCells v ds ∧ ∀ d ∈ ds, DeedSized d := by
  obtain ⟨v, ds, h1, h2, h3⟩ := read_held 8 Try.underlying41 cells_deed (by decide) bytes_pos_deed (fun cs h => read_deed h) h
  exact ⟨v, ds, h1, h2, h3⟩
set_option maxRecDepth 100000 in
theorem read_yard {cs : List Value} (h : Read enc w held 43 cs) : ∃ (bef aft : Int) (v : Value) (ds : List (Yd.Deed Code)), cs = [.int .i64 bef, .int .i64 aft, v] ∧ Held w.heap.size w 8 deedCells v ds ∧ ∀ d ∈ ds, DeedSized d := by
  obtain ⟨hl, hf⟩ := read_field Try.underlying43 h
  rw [cells_yard] at hl
  obtain ⟨c0, c1, c2, rfl⟩ := len_3 hl
  have g0 : Read enc w held 3 [c0] := field_of hf 0 rfl rfl rfl cells_int
  have g1 : Read enc w held 3 [c1] := field_of hf 1 rfl rfl rfl cells_int
  have g2 : Read enc w held 41 [c2] := field_of hf 2 rfl rfl rfl cells_deeds
  obtain ⟨bef, e0⟩ := read_int Try.underlying3 g0
  obtain ⟨aft, e1⟩ := read_int Try.underlying3 g1
  obtain ⟨v, ds, e2, h2, h3⟩ := read_deeds g2
  simp at e0 e1 e2
  subst e0 e1 e2
  exact ⟨bef, aft, _, ds, rfl, h2, h3⟩

theorem read_arg {t : TypeId} {cs : Array Value} {d : DataW H} {p : List MemPlace} (h : DataW.Trod enc Try.prog w 0 (fun _ => true) held t (.agg cs) d p) (hw : (d.weights Try.prog t).all (· ≤ reachBytes) = true) : Read enc w held t cs.toList := by
  obtain ⟨fuel, hf⟩ := h
  exact ⟨fuel, (d, p), hf, hw⟩

set_option maxRecDepth 100000 in
/-- A yard as an argument. -/
theorem open_yard {v : Value} {d : DataW H} {p : List MemPlace} {r : Reach} {b0 : Nat} (hv : Value.okWide Try.prog w r b0 43 v) (h : DataW.Trod enc Try.prog w 0 (fun _ => true) held 43 v d p)
    (hw : (d.weights Try.prog 43).all (· ≤ reachBytes) = true) :
    ∃ (bef aft : Int) (dv : Value) (ds : List (Yd.Deed Code)), v = .agg #[.int .i64 bef, .int .i64 aft, dv] ∧ Held w.heap.size w 8 deedCells dv ds ∧ ∀ d ∈ ds, DeedSized d := by
  obtain ⟨cs, hcs, _⟩ := okWide_struct Try.underlying43 hv
  subst hcs
  obtain ⟨bef, aft, dv, ds, hc, hT⟩ := read_yard (read_arg h hw)
  exact ⟨bef, aft, dv, ds, by rw [← Array.toArray_toList (xs := cs), hc], hT⟩
end
end Go.Proofs.Ytbgojeppfhldjaa
namespace Go.Proofs.Ytbgojeppfhldjaa
open Go.RowKit Go.ChangeShapes Go.WideShapes

section
variable {H : Type} {enc : TypeId × Value → H} {w : World} {held : Bool}
/-- A choice as cells. -/
def pickCells (n : Int) : List Value := [.int .u16 n]
theorem read_pick {cs : List Value} (h : Read enc w held 28 cs) : ∃ n : Int, cs = pickCells n ∧ 0 ≤ n ∧ n ≤ 65535 := by
  obtain ⟨n, x, h, _⟩ := h
  obtain ⟨k, hk, _, hw⟩ := DataW.trod_int Try.underlying28 h
  exact ⟨k, hk, bounds_u16 hw⟩
theorem cells_pick : Try.prog.cellsOf 28 = 1 := by kernel_rfl
theorem bytes_pos_pick : 0 < Try.prog.bytesOf 28 := of_decide_eq_true (by kernel_rfl)
theorem read_picks {cs : List Value} (h : Read enc w held 25 cs) : ∃ (v : Value) (xs : List Int), cs = [v] ∧ Held w.heap.size w 1 pickCells v xs ∧ ∀ x ∈ xs, 0 ≤ x ∧ x ≤ 65535 := by
  obtain ⟨v, xs, h1, h2, h3⟩ := read_held 1 (cell := pickCells) (OK := fun n => 0 ≤ n ∧ n ≤ 65535) Try.underlying25 cells_pick (by decide) bytes_pos_pick (fun cs h => read_pick h) h
  exact ⟨v, xs, h1, h2, h3⟩
set_option maxRecDepth 100000 in
/-- A slice of choices as an argument. -/
theorem open_picks {v : Value} {d : DataW H} {p : List MemPlace} {r : Reach} {b0 : Nat} (hv : Value.okWide Try.prog w r b0 25 v) (h : DataW.Trod enc Try.prog w 0 (fun _ => true) held 25 v d p)
    (hw : (d.weights Try.prog 25).all (· ≤ reachBytes) = true) :
    ∃ xs : List Int, Held w.heap.size w 1 pickCells v xs ∧ ∀ x ∈ xs, 0 ≤ x ∧ x ≤ 65535 := by
  obtain ⟨a, len, cap, rfl⟩ := okWide_slice Try.underlying25 hv
  obtain ⟨fuel, hf⟩ := h
  have hr : Read enc w held 25 [.slice a len cap] := ⟨fuel, (d, p), hf, hw⟩
  obtain ⟨v, xs, e, hh⟩ := read_picks hr
  cases e
  exact ⟨xs, hh⟩
end
end Go.Proofs.Ytbgojeppfhldjaa
