/- A question about a forest: its first error, or a tree that is in order. -/
import Derived.Test.YtajbflepjpgnbaaSays
namespace Go.Proofs.Ytajbflepjpgnbaa
open Go.RowKit Go.Shelf

theorem inB_iff {n a b : Int} : inB n a b = true ↔ a ≤ n ∧ n ≤ b := by simp [inB]
theorem boundsB_iff {x y a b : Int} : boundsB x y a b = true ↔ a ≤ x ∧ x ≤ y ∧ y ≤ b := by simp [boundsB]

theorem lawB_fine (l : Law) (h : lawB l = true) : LawFine l ∧ (0 ≤ l.age ∧ l.age ≤ 300) ∧ (1 ≤ l.rest ∧ l.rest ≤ 30) ∧ (0 ≤ l.girth ∧ l.girth ≤ 6000) ∧ (0 ≤ l.heal ∧ l.heal ≤ 30) := by
  simp only [lawB, Bool.and_eq_true, inB_iff] at h
  obtain ⟨⟨⟨⟨⟨⟨a, b⟩, c⟩, d⟩, e⟩, g⟩, i⟩ := h
  exact ⟨⟨a, b, c⟩, d, e, g, i⟩

theorem stripsErr_fine : ∀ (xs : List (Int × Int)) (l : Int), stripsErr l xs = 0 → ∀ s ∈ xs, (0 ≤ s.1 ∧ s.1 ≤ 300) ∧ (1 ≤ s.2 ∧ s.2 ≤ 15000)
  | [], _, _, s, hs => by cases hs
  | x :: r, l, h, s, hs => by
    simp only [stripsErr] at h
    split at h
    · rename_i hx
      simp only [Bool.and_eq_true, inB_iff] at hx
      split at h
      · cases h
      · rcases List.mem_cons.1 hs with rfl | hs
        · exact hx
        · exact stripsErr_fine r x.1 h s hs
    · cases h

theorem woundsErr_fine : ∀ (xs : List Int) (l : Int), woundsErr l xs = 0 → ∀ s ∈ xs, 0 ≤ s ∧ s ≤ 300
  | [], _, _, s, hs => by cases hs
  | x :: r, l, h, s, hs => by
    simp only [woundsErr] at h
    split at h
    · rename_i hx
      simp only [inB_iff] at hx
      split at h
      · cases h
      · rcases List.mem_cons.1 hs with rfl | hs
        · exact hx
        · exact woundsErr_fine r x h s hs
    · cases h

theorem treeErr_fine (t : Tree) (h : treeErr t = 0) : TreeFine t := by
  unfold treeErr at h
  split at h
  · rename_i hm
    simp only [measuredB, Bool.and_eq_true, inB_iff, boundsB_iff] at hm
    obtain ⟨⟨⟨⟨a, b⟩, c⟩, d⟩, _⟩ := hm
    split at h
    · rename_i hs
      refine ⟨a, b, c, d, ?_, ?_⟩
      · unfold checkStrips at hs
        split at hs
        · cases hs
        · exact fun s hx => (stripsErr_fine _ _ hs s hx).1
      · unfold checkWounds at h
        split at h
        · cases h
        · exact woundsErr_fine _ _ h
    · exact absurd h (by assumption)
  · cases h

theorem treesErr_fine : ∀ (ts es : List Tree), treesErr es ts = 0 → ∀ t ∈ ts, TreeFine t
  | [], _, _, t, ht => by cases ht
  | x :: r, es, h, t, ht => by
    simp only [treesErr] at h
    split at h
    · rename_i hx
      rcases List.mem_cons.1 ht with rfl | ht
      · unfold checkTree at hx
        split at hx
        · split at hx
          · cases hx
          · exact treeErr_fine _ hx
        · cases hx
      · exact treesErr_fine r _ h t ht
    · exact absurd h (by assumption)

theorem checkForest_fine (f : Forest) (h : checkForest f = 0) : lawB f.law = true ∧ f.trees.length ≤ 20 ∧ ∀ t ∈ f.trees, TreeFine t := by
  unfold checkForest at h
  split at h
  · rename_i hl
    split at h
    · cases h
    · exact ⟨hl, by omega, treesErr_fine _ _ h⟩
  · cases h

/-- A question without an error. -/
structure Asked (f : Forest) (tree year height : Int) (w : World) : Prop where
  forest : checkForest f = 0
  law : LawFine f.law
  tree0 : 0 ≤ tree
  tree1 : tree < f.trees.length
  fine : TreeFine f.trees[tree.toNat]!
  held : TreeHeld w.heap.size w f.trees[tree.toNat]!
  year0 : 0 ≤ year
  year1 : year ≤ 300
  height0 : 1 ≤ height
  height1 : height ≤ 15000

theorem asked_of (f : Forest) (tree year height : Int) (w : World) (h : TreesHeld w.heap.size w f.tv f.trees) (he : askErr f tree year height = 0) : Asked f tree year height w := by
  unfold askErr at he
  split at he
  · rename_i hf
    split at he
    · rename_i ht
      split at he
      · rename_i hy
        simp only [Bool.and_eq_true, inB_iff] at hy
        obtain ⟨hl, _, hts⟩ := checkForest_fine f hf
        have hm : f.trees[tree.toNat]! ∈ f.trees := by rw [getElem!_pos f.trees tree.toNat (by omega)]; exact List.getElem_mem _
        exact ⟨hf, (lawB_fine _ hl).1, ht.1, ht.2, hts _ hm, h.2 _ hm, hy.1.1, hy.1.2, hy.2.1, hy.2.2⟩
      · cases he
    · cases he
  · exact absurd he (by assumption)

theorem Held.len {α : Type} [Inhabited α] {B : Nat} {w : World} {k : Nat} {enc : α → List Value} {v : Value} {xs : List α} (h : Held B w k enc v xs) : ∃ (a : Option Addr) (c : Nat), v = .slice a xs.length c := by
  rcases h with ⟨⟨a, c, h⟩, h2⟩ | ⟨b, off, c, h, _⟩
  · exact ⟨a, c, by rw [h, h2]; rfl⟩
  · exact ⟨_, _, h⟩

theorem ask_no (f : Forest) (tree year height : Int) (w : World) (h : TreesHeld w.heap.size w f.tv f.trees) (he : ¬ askErr f tree year height = 0) :
    Calls Try.prog 34 #[.agg f.cells.toArray, .int .i64 tree, .int .i64 year, .int .i64 height] w fun e w' => e = .returned (.tuple #[.agg noQuestion, .int .i64 (askErr f tree year height)]) ∧ Below w.heap.size w w' := by
  have hF : ∀ W, Below w.heap.size w W → Calls Try.prog 18 #[.agg f.cells.toArray] W fun e w' => e = .returned (.int .i64 (checkForest f)) ∧ Below W.heap.size W w' := fun W hW => checkForest_calls f W ((h.below hW).mono hW.size)
  obtain ⟨a, c, ev⟩ := h.1.len
  unfold askErr at he ⊢
  simp only [Forest.cells] at hF ⊢
  rw [ev] at hF ⊢
  by_cases hf : checkForest f = 0
  · rw [if_pos hf] at he ⊢
    rw [hf] at hF
    by_cases ht : 0 ≤ tree ∧ tree < f.trees.length
    · rw [if_pos ht] at he ⊢
      by_cases hy : (inB year 0 300 && inB height 1 15000) = true
      · rw [if_pos hy] at he; exact absurd rfl he
      · rw [if_neg hy]
        cases h3 : inB year 0 300
        · exact ask_year _ _ _ _ _ _ _ a _ c tree year height w ht.1 ht.2 h3 hF
        · exact ask_height _ _ _ _ _ _ _ a _ c tree year height w ht.1 ht.2 h3 (by cases h4 : inB height 1 15000; rfl; exact absurd (by rw [h3, h4]; rfl) hy) hF
    · rw [if_neg ht]
      by_cases h0 : 0 ≤ tree
      · exact ask_above _ _ _ _ _ _ _ a _ c tree year height w h0 (by omega) hF
      · exact ask_below _ _ _ _ _ _ _ a _ c tree year height w (by omega) hF
  · rw [if_neg hf]
    exact ask_forest _ _ _ _ _ _ _ a _ c tree year height w (checkForest f) (by simpa using hf) hF

theorem ask_yes (f : Forest) (tree year height : Int) (w : World) (h : TreesHeld w.heap.size w f.tv f.trees) (he : askErr f tree year height = 0) :
    Calls Try.prog 34 #[.agg f.cells.toArray, .int .i64 tree, .int .i64 year, .int .i64 height] w fun e w' => e = .returned (.tuple #[.agg (qCells f.law f.trees[tree.toNat]! year height), .int .i64 0]) ∧ Below w.heap.size w w' := by
  have hA := asked_of f tree year height w h he
  have hF : ∀ W, Below w.heap.size w W → Calls Try.prog 18 #[.agg f.cells.toArray] W fun e w' => e = .returned (.int .i64 0) ∧ Below W.heap.size W w' := fun W hW => by
    have := checkForest_calls f W ((h.below hW).mono hW.size)
    rwa [hA.forest] at this
  obtain ⟨_, hlen, _⟩ := checkForest_fine f hA.forest
  obtain ⟨k, rfl⟩ := Int.eq_ofNat_of_zero_le hA.tree0
  have hk : k < f.trees.length := by have := hA.tree1; omega
  have hH := hA.held
  have hyB : inB year 0 300 = true := inB_iff.2 ⟨hA.year0, hA.year1⟩
  have hhB : inB height 1 15000 = true := inB_iff.2 ⟨hA.height0, hA.height1⟩
  rw [Int.toNat_natCast] at hH ⊢
  rcases h.1 with ⟨_, h2⟩ | ⟨b, off, c, ev, hb, hcap, hc⟩
  · rw [h2] at hk; cases hk
  · have cs := hc k hk
    generalize f.trees[k]! = x at cs hH
    simp only [Forest.cells] at hF ⊢
    rw [ev] at hF ⊢
    obtain ⟨sa, sn, sc, es⟩ := hH.1.slice
    obtain ⟨wa, wn, wc, ew⟩ := hH.2.1.slice
    unfold qCells
    rw [es, ew]
    refine ask_ok _ _ _ _ _ _ _ b off f.trees.length c k year height x.code x.bmin x.bmax x.taped x.gmin x.gmax x.wmin x.wmax sa sn sc wa wn wc x.dead w hb hk hlen hyB hhB (cs 0 _ rfl) (cs 1 _ rfl) (cs 2 _ rfl) (cs 3 _ rfl) (cs 4 _ rfl) (cs 5 _ rfl) (cs 6 _ rfl) (cs 7 _ rfl) ?_ ?_ (cs 10 _ rfl) hF
    · rw [← es]; exact cs 8 _ rfl
    · rw [← ew]; exact cs 9 _ rfl
end Go.Proofs.Ytajbflepjpgnbaa
