/- TreeOpen: with an unknown verdict the best ends of the bounds allow the strip, the worst forbid it. -/
import Derived.Test.YtceginnogbbpeaaLawOpenA
import Derived.Test.YtceginnogbbpeaaLawOpenB
namespace Go.Proofs.Ytceginnogbbpeaa
open Go.RowKit Go.Shelf

set_option maxHeartbeats 2000000 in
theorem open_calls (f : Forest) (which year height : Int) (w : World) (h : TreesHeld w.heap.size w f.tv f.trees) (hw : 0 ≤ which ∧ which ≤ 255) :
    Calls Try.prog 4 #[.agg f.cells.toArray, .int .u8 which, .int .i64 year, .int .i64 height] w fun e w' => e = .returned (.bool true) ∧ Below w.heap.size w w' := by
  have h1 := fun W (hW : Below w.heap.size w W) => great_calls f W (h.at hW)
  have h2 := fun W (hW : Below w.heap.size w W) => refForest_calls f W (h.at hW)
  obtain ⟨a, c, ev⟩ := h.1.len
  by_cases hgood : checkForest f = 0 ∧ 0 < (f.trees.length : Int)
  · obtain ⟨hf, hn⟩ := hgood
    obtain ⟨K, hK⟩ : ∃ K : Nat, which % (f.trees.length : Int) = (K : Int) := Int.eq_ofNat_of_zero_le (Int.emod_nonneg _ (by omega))
    have hKl' : (K : Int) < (f.trees.length : Int) := by rw [← hK]; exact Int.emod_lt_of_pos _ hn
    have hKl : K < f.trees.length := by omega
    have h3 := fun W (hW : Below w.heap.size w W) => may_calls f K year height W (h.at hW)
    rw [hf] at h2
    rcases open_case f K (.slice none 0 0) (.slice none 0 0) year height hf hKl with hc | ⟨hv, he, hb, r2, hr2, hww⟩
    · generalize mayOf f K year height = M at hc h3
      obtain ⟨v, r, e⟩ := M
      dsimp only at hc h3
      simp only [Forest.cells] at h1 h2 h3 ⊢
      rw [ev] at h1 h2 h3 ⊢
      exact open_else _ _ _ _ _ _ _ a _ c which year height w K v r e hw.1 hw.2 hK hKl hc h1 h2 h3
    · have hH := h.1
      rw [ev] at hH
      obtain ⟨b, off, rfl, hb', hc⟩ := hH.place hKl
      obtain ⟨_, hl20, hfine⟩ := checkForest_fine f hf
      have hKm : f.trees[K]! ∈ f.trees := by rw [getElem!_pos f.trees K hKl]; exact List.getElem_mem hKl
      have hRow : ∀ W, Below w.heap.size w W → W.rangeAt b (off + K * 11) (Tree.cells f.trees[K]!) := fun W hW j v hv => (hW.cell (p := ⟨b, off + K * 11 + j, none⟩) hb').trans (hc K hKl j v hv)
      have hTH : ∀ W, Below w.heap.size w W → Held W.heap.size W 11 Tree.cells (.slice (some ⟨b, off, none⟩) f.trees.length c) f.trees ∧ ∀ t ∈ f.trees, TreeHeld W.heap.size W t := fun W hW => ⟨(hH.below hW).mono hW.size, fun t ht => ((h.2 t ht).below hW).mono hW.size⟩
      have hones : ∀ t ∈ f.trees, ∀ u ∈ Tree.cells t, u.oneCell' = true := fun t ht => ones_open (h.2 t ht)
      obtain ⟨sa, sn, sc, es⟩ := (h.2 _ hKm).1.slice
      obtain ⟨wa, wn, wc, ew⟩ := (h.2 _ hKm).2.1.slice
      have hMb := fun W (g cap : Nat) (_ : Below w.heap.size w W) (hT : TreesHeld W.heap.size W (.slice (some ⟨g, 0, none⟩) f.trees.length cap) (f.trees.set K (f.trees[K]!.best year))) => may_calls (f.put K (.slice (some ⟨g, 0, none⟩) f.trees.length cap) (f.trees[K]!.best year)) K year height W hT
      have hMw := fun W (g cap : Nat) (_ : Below w.heap.size w W) (hT : TreesHeld W.heap.size W (.slice (some ⟨g, 0, none⟩) f.trees.length cap) (f.trees.set K (f.trees[K]!.worst year))) => may_calls (f.put K (.slice (some ⟨g, 0, none⟩) f.trees.length cap) (f.trees[K]!.worst year)) K year height W hT
      have hany : ∀ tv x, mayOf (f.put K tv x) K year height = mayOf (f.put K (.slice none 0 0) x) K year height := fun tv x => rfl
      simp only [hany, hb] at hMb
      simp only [hany, hww] at hMw
      have hgrow : (year < f.trees[K]!.taped ∧ bestGrowth f.trees[K]! year = f.trees[K]!.wmin ∧ worstGrowth f.trees[K]! year = f.trees[K]!.wmax) ∨ (¬ year < f.trees[K]!.taped ∧ bestGrowth f.trees[K]! year = f.trees[K]!.wmax ∧ worstGrowth f.trees[K]! year = f.trees[K]!.wmin) := by
        unfold bestGrowth worstGrowth
        by_cases hlt : year < f.trees[K]!.taped
        · exact .inl ⟨hlt, if_pos hlt, if_pos hlt⟩
        · exact .inr ⟨hlt, if_neg hlt, if_neg hlt⟩
      unfold Tree.best at hMb
      unfold Tree.worst at hMw
      generalize mayOf f K year height = M at hv he h3
      obtain ⟨v, r, e⟩ := M
      dsimp only at hv he h3
      subst hv he
      clear hb hww hany hfine hf
      generalize bestGrowth f.trees[K]! year = ga at hMb hgrow
      generalize worstGrowth f.trees[K]! year = gb at hMw hgrow
      obtain ⟨⟨age, rest, girth, f0, f1, f2, heal⟩, tv, ts⟩ := f
      dsimp only at ev es ew hK hKl hKl' hl20 hKm hRow hTH hones hn hH hc hMb hMw hgrow
      subst ev
      generalize hKt : ts[K]! = t at hRow hMb hMw es ew hKm hgrow
      obtain ⟨code, bmin, bmax, taped, gmin, gmax, wmin, wmax, sv, wv, dead, strips, wounds⟩ := t
      dsimp only at es ew hgrow
      subst es ew
      simp only [Tree.cells] at hRow
      simp only [Forest.cells] at h1 h2 h3 ⊢
      simp only [Forest.cells, Forest.put, Tree.bounded] at hMb hMw
      exact open_walk age rest girth f0 f1 f2 heal b off _ c K code bmin bmax taped gmin gmax wmin wmax ga gb sa sn sc wa wn wc dead strips wounds which year height r r2 ts w hw.1 hw.2 hK hKl rfl hl20 hRow hTH hKt hones hgrow h1 h2 h3 hMb hMw hr2
  · simp only [Forest.cells] at h1 h2 ⊢
    rw [ev] at h1 h2 ⊢
    exact open_bad _ _ _ _ _ _ _ _ _ _ which year height w _ (fun hc hl => hgood ⟨hc, hl⟩) h1 h2
end Go.Proofs.Ytceginnogbbpeaa
