/- A forest that comes in: where a tree's list of strips is nil, it is plainly nil. -/
import Derived.Test.YtajbflepjpgnbaaOpen
namespace Go.Proofs.Ytajbflepjpgnbaa
open Go.RowKit Go.ChangeShapes Go.WideShapes

section
variable {H : Type} {enc : TypeId × Value → H} {w : World} {held : Bool}

theorem read_nil {t e : TypeId} {cs : List Value} (ht : Try.prog.underlying t = some (.slice e)) (h : Read enc w held t cs) (c : Nat) (hc : cs = [.slice none 0 c]) : c = 0 := by
  obtain ⟨n, x, h, _⟩ := h
  rcases Go.Deep.open_slice ht h with ⟨hcs, _⟩ | ⟨a, len, cap, m, n', D, Pl, hcs, _⟩
  · rw [hc] at hcs
    simpa using hcs
  · rw [hc] at hcs
    simp at hcs

theorem read_trees_plain {u e : TypeId} (ht : Try.prog.underlying u = some (.slice e)) (he : e = 53) {v : Value} {ts : List Tree} (h : Read enc w held u [v]) (hH : Held w.heap.size w 11 Tree.cells v ts) : ∀ t ∈ ts, ∀ c, t.sv = .slice none 0 c → c = 0 := by
  obtain ⟨n, x, h, hw⟩ := h
  rcases hH with ⟨_, h2⟩ | ⟨b, off, c', h1, _, _, hcell⟩
  · intro t ht; rw [h2] at ht; cases ht
  · rcases Go.Deep.open_slice ht h with ⟨hcs, _⟩ | ⟨a, len, cap, m, n', D, Pl, hcs, _, hl, _, hm, hx, hi⟩
    · rw [h1] at hcs; simp at hcs
    · obtain rfl : m = cap := by rw [hm]; rfl
      rw [h1] at hcs
      simp only [List.cons.injEq, and_true, Value.slice.injEq, Option.some.injEq] at hcs
      obtain ⟨ha, hlen, hcap⟩ := hcs
      subst ha
      rw [hx] at hw
      unfold DataW.weights at hw
      rw [ht] at hw
      rw [List.all_cons, Bool.and_eq_true, List.all_append, Bool.and_eq_true] at hw
      obtain ⟨_, hw2, _⟩ := hw
      subst he
      rw [cells_tree] at hi
      intro t ht c hc
      obtain ⟨j, hj, rfl⟩ := List.getElem_of_mem ht
      obtain ⟨cs', hc', hr⟩ := hi j (by omega)
      have hR : Read enc w held 53 cs' := ⟨_, _, hr, weights_all hw2 (D j) (List.mem_map.2 ⟨j, List.mem_range.2 (by omega), rfl⟩)⟩
      obtain ⟨_, hcl, hat⟩ := World.cells?_some hc'
      obtain ⟨hl2, hf⟩ := read_field Try.underlying53 hR
      rw [cells_tree] at hl2
      have h8 := hat 8 (by omega)
      have hk := hcell j hj 8 _ (show (Tree.cells ts[j]!)[8]? = some ts[j]!.sv from rfl)
      have e8 : cs'[8]? = some ts[j]!.sv := by
        rw [← hk, ← h8]
        unfold Addr.add
        by_cases q1 : j * 11 = 0 <;> simp [q1]
      rw [getElem!_pos ts j hj, hc] at e8
      obtain ⟨c0, c1, c2, c3, c4, c5, c6, c7, c8, c9, c10, rfl⟩ := len_11 hl2
      have g5 : Read enc w held 50 [c8] := field_of hf 5 rfl rfl rfl cells_strips
      simp at e8
      exact read_nil Try.underlying50 g5 c (by rw [e8])

theorem forest_plain {f : Forest} {d : DataW H} {p : List MemPlace} (h : DataW.Trod enc Try.prog w 0 (fun _ => true) held 27 (.agg (forestCells f).toArray) d p)
    (hw : (d.weights Try.prog 27).all (· ≤ reachBytes) = true) (hT : TreesHeld w.heap.size w f.tv f.trees) : ∀ t ∈ f.trees, ∀ c, t.sv = .slice none 0 c → c = 0 := by
  have hr := read_arg h hw
  obtain ⟨_, hf⟩ := read_field Try.underlying27 hr
  have g1 : Read enc w held 25 [f.tv] := field_of hf 1 rfl rfl rfl cells_trees
  exact read_trees_plain Try.underlying25 rfl g1 hT.1
end
end Go.Proofs.Ytajbflepjpgnbaa
