/- TreeRests: a strip that is surely allowed, entered in the book, is no fault of the tree's history; afterwards the tree rests. -/
import Derived.Test.YtajbflepjpgnbaaLawRestsB
import Derived.Test.YtajbflepjpgnbaaLawRestsC
namespace Go.Proofs.Ytajbflepjpgnbaa
open Go.RowKit Go.Shelf

theorem strips_ten (t : Tree) (h : treeErr t = 0) : t.strips.length ≤ 10 := by
  unfold treeErr at h
  split at h
  · split at h
    · rename_i hs
      unfold checkStrips at hs
      split at hs
      · cases hs
      · omega
    · exact absurd h (by assumption)
  · cases h

theorem tree_ones {B : Nat} {w : World} {t : Tree} (h : TreeHeld B w t) : ∀ u ∈ Tree.cells t, u.oneCell' = true := by
  intro u hu
  obtain ⟨sa, sn, sc, es⟩ := h.1.slice
  obtain ⟨wa, wn, wc, ew⟩ := h.2.1.slice
  simp only [Tree.cells, es, ew, List.mem_cons, List.not_mem_nil, or_false] at hu
  rcases hu with rfl | rfl | rfl | rfl | rfl | rfl | rfl | rfl | rfl | rfl | rfl <;> rfl

theorem ask_rests (f : Forest) (K : Nat) (y h : Int) (hf : checkForest f = 0) (hK : K < f.trees.length) : askErr f K y h = if inB y 0 300 && inB h 1 15000 then 0 else 1 := by
  unfold askErr
  rw [if_pos hf, if_pos ⟨by omega, by omega⟩]

/-- The forest with the strip entered. -/
def Forest.after (f : Forest) (K : Nat) (tv sv : Value) (y h : Int) : Forest := { f with tv := tv, trees := f.trees.set K (f.trees[K]!.more sv y h) }

theorem after_tree (f : Forest) (K : Nat) (hK : K < f.trees.length) (tv sv : Value) (y h : Int) : (f.after K tv sv y h).trees[K]! = f.trees[K]!.more sv y h := by
  show (f.trees.set K (f.trees[K]!.more sv y h))[K]! = _
  rw [getElem!_pos _ K (by rw [List.length_set]; exact hK), List.getElem_set_self]

theorem after_checks (f : Forest) (K : Nat) (hf : checkForest f = 0) (hK : K < f.trees.length) (tv sv : Value) (y h : Int) (hy : inB y 0 300 = true) (hh : inB h 1 15000 = true) (hn : f.trees[K]!.strips.length < 10) (hl : lastOf (-1) f.trees[K]!.strips < y) : checkForest (f.after K tv sv y h) = 0 :=
  checkForest_set f hf tv K hK _ rfl (treeErr_more _ sv y h (forest_each f hf K hK) hn hy hh hl)

theorem after_first (f : Forest) (K : Nat) (hf : checkForest f = 0) (hK : K < f.trees.length) (tv sv : Value) (y h : Int) (hc : checkForest (f.after K tv sv y h) = 0) (hv : (verdictOn f.law f.trees[K]! y h).1 = 1) : stripOf (f.after K tv sv y h) K = ((stripOf f K).1, (stripOf f K).2.1, 0) ∧ (stripOf f K).2.2 = 0 := by
  have hK2 : K < (f.after K tv sv y h).trees.length := by show K < (f.trees.set K _).length; rw [List.length_set]; exact hK
  have e1 : askErr f K 0 1 = 0 := by rw [ask_rests f K 0 1 hf hK]; rfl
  have e2 : askErr (f.after K tv sv y h) K 0 1 = 0 := by rw [ask_rests _ K 0 1 hc hK2]; rfl
  have hr : firstRun f.law (f.trees[K]!.more sv y h) 0 (f.trees[K]!.more sv y h).strips = firstRun f.law f.trees[K]! 0 f.trees[K]!.strips := firstRun_more f.law f.trees[K]! sv y h (by rw [hv]; decide) f.trees[K]!.strips 0 (by omega)
  unfold stripOf
  rw [if_pos e1, if_pos e2, Int.toNat_natCast, after_tree f K hK]
  refine ⟨?_, rfl⟩
  show ((firstRun f.law (f.trees[K]!.more sv y h) 0 (f.trees[K]!.more sv y h).strips).1, (firstRun f.law (f.trees[K]!.more sv y h) 0 (f.trees[K]!.more sv y h).strips).2, (0 : Int)) = _
  rw [hr]

theorem after_may (f : Forest) (K : Nat) (hK : K < f.trees.length) (tv sv : Value) (y h z : Int) (hc : checkForest (f.after K tv sv y h) = 0) (hv : (verdictOn f.law f.trees[K]! y h).1 = 1) (hz : inB z 0 300 = true) (hz0 : y ≤ z) (hz1 : z - y < f.law.rest) (hd : f.trees[K]!.dead = -1 ∨ z < f.trees[K]!.dead) : mayOf (f.after K tv sv y h) K z 1 = (2, 3, 0) := by
  have hK2 : K < (f.after K tv sv y h).trees.length := by show K < (f.trees.set K _).length; rw [List.length_set]; exact hK
  have e2 : askErr (f.after K tv sv y h) K z 1 = 0 := by rw [ask_rests _ K z 1 hc hK2, hz]; rfl
  have hr := verdict_rests f.law f.trees[K]! sv y h z hv hz0 hz1 hd
  unfold mayOf
  rw [if_pos e2, Int.toNat_natCast, after_tree f K hK]
  show ((verdictOn f.law (f.trees[K]!.more sv y h) z 1).1, (verdictOn f.law (f.trees[K]!.more sv y h) z 1).2, (0 : Int)) = _
  rw [hr]

theorem dead_is (t : Tree) (h : treeErr t = 0) (hd : t.dead < 0) : t.dead = -1 := by
  unfold treeErr at h
  split at h
  · rename_i hm
    simp only [measuredB, Bool.and_eq_true, inB_iff] at hm
    omega
  · cases h

set_option maxHeartbeats 2000000 in
theorem rests_calls (f : Forest) (which year height soon : Int) (w : World) (h : TreesHeld w.heap.size w f.tv f.trees) (hp : ∀ t ∈ f.trees, ∀ c, t.sv = .slice none 0 c → c = 0) (hw : 0 ≤ which ∧ which ≤ 255) (hso : 0 ≤ soon ∧ soon ≤ 255) :
    Calls Try.prog 12 #[.agg f.cells.toArray, .int .u8 which, .int .i64 year, .int .i64 height, .int .u8 soon] w fun e w' => e = .returned (.bool true) ∧ Below w.heap.size w w' := by
  have h1 := fun W (hW : Below w.heap.size w W) => great_calls f W (h.at hW)
  have h2 := fun W (hW : Below w.heap.size w W) => refForest_calls f W (h.at hW)
  have h3 := fun W (hW : Below w.heap.size w W) => may_calls f (which % (f.trees.length : Int)) year height W (h.at hW)
  obtain ⟨a, c, ev⟩ := h.1.len
  by_cases hgood : checkForest f = 0 ∧ 0 < (f.trees.length : Int)
  · obtain ⟨hf, hn⟩ := hgood
    obtain ⟨K, hK⟩ : ∃ K : Nat, which % (f.trees.length : Int) = (K : Int) := Int.eq_ofNat_of_zero_le (Int.emod_nonneg _ (by omega))
    have hKl' : (K : Int) < (f.trees.length : Int) := by rw [← hK]; exact Int.emod_lt_of_pos _ hn
    have hKl : K < f.trees.length := by omega
    rw [hK] at h3
    rw [hf] at h2
    have hH := h.1
    rw [ev] at hH
    obtain ⟨b, off, rfl, hb, hc⟩ := hH.place hKl
    obtain ⟨hlawB, hl20, hfine⟩ := checkForest_fine f hf
    obtain ⟨hlaw, _, hrest, _, _⟩ := lawB_fine f.law hlawB
    have hKm : f.trees[K]! ∈ f.trees := by rw [getElem!_pos f.trees K hKl]; exact List.getElem_mem hKl
    have hterr := forest_each f hf K hKl
    have hsn := strips_ten _ hterr
    have hRow : ∀ W, Below w.heap.size w W → W.rangeAt b (off + K * 11) (Tree.cells f.trees[K]!) := fun W hW j v hv => (hW.cell (p := ⟨b, off + K * 11 + j, none⟩) hb).trans (hc K hKl j v hv)
    have hTH : ∀ W, Below w.heap.size w W → Held W.heap.size W 11 Tree.cells (.slice (some ⟨b, off, none⟩) f.trees.length c) f.trees ∧ ∀ t ∈ f.trees, TreeHeld W.heap.size W t := fun W hW => ⟨(hH.below hW).mono hW.size, fun t ht => ((h.2 t ht).below hW).mono hW.size⟩
    have hones : ∀ t ∈ f.trees, ∀ u ∈ Tree.cells t, u.oneCell' = true := fun t ht => tree_ones (h.2 t ht)
    obtain ⟨sa, sc, es⟩ := (h.2 _ hKm).1.len
    obtain ⟨wa, wn, wc, ew⟩ := (h.2 _ hKm).2.1.slice
    have hheld := (h.2 _ hKm).1
    have hplain := hp _ hKm
    have hF1 := fun W (hW : Below w.heap.size w W) => stripOf_calls f K W (h.at hW)
    have hF2 := fun W (v3 : Value) (g cap : Nat) (_ : Below w.heap.size w W) (hT : TreesHeld W.heap.size W (.slice (some ⟨g, 0, none⟩) f.trees.length cap) (f.trees.set K (f.trees[K]!.more v3 year height))) => stripOf_calls (f.after K (.slice (some ⟨g, 0, none⟩) f.trees.length cap) v3 year height) K W hT
    obtain ⟨yv, hyv⟩ : ∃ yv, year + soon % f.law.rest = yv := ⟨_, rfl⟩
    have hM2 := fun W (v3 : Value) (g cap : Nat) (_ : Below w.heap.size w W) (hT : TreesHeld W.heap.size W (.slice (some ⟨g, 0, none⟩) f.trees.length cap) (f.trees.set K (f.trees[K]!.more v3 year height))) => may_calls (f.after K (.slice (some ⟨g, 0, none⟩) f.trees.length cap) v3 year height) K yv 1 W hT
    have hall : (mayOf f K year height).2.2 = 0 → (mayOf f K year height).1 = 1 → (0 ≤ year ∧ year ≤ 300) ∧ (f.trees[K]!.strips.length = 0 → lastOf (-1) f.trees[K]!.strips < year) ∧ (0 < f.trees[K]!.strips.length → f.trees[K]!.strips[f.trees[K]!.strips.length - 1]!.1 ≤ year → lastOf (-1) f.trees[K]!.strips < year) ∧
        (f.trees[K]!.strips.length ≠ 10 → lastOf (-1) f.trees[K]!.strips < year → (∀ W, Below w.heap.size w W → Calls Try.prog 31 #[.agg f.cells.toArray, .int .i64 K] W fun e w' => e = .returned (.tuple #[.int .i64 (stripOf f K).1, .int .i64 (stripOf f K).2.1, .int .i64 0]) ∧ Below W.heap.size W w') ∧
            (∀ W v3 g cap, Below w.heap.size w W → TreesHeld W.heap.size W (.slice (some ⟨g, 0, none⟩) f.trees.length cap) (f.trees.set K (f.trees[K]!.more v3 year height)) → Calls Try.prog 31 #[.agg (f.after K (.slice (some ⟨g, 0, none⟩) f.trees.length cap) v3 year height).cells.toArray, .int .i64 K] W fun e w' => e = .returned (.tuple #[.int .i64 (stripOf f K).1, .int .i64 (stripOf f K).2.1, .int .i64 0]) ∧ Below W.heap.size W w') ∧
            ((300 < yv ∨ (0 ≤ f.trees[K]!.dead ∧ f.trees[K]!.dead ≤ yv)) ∨ (yv ≤ 300 ∧ (f.trees[K]!.dead < 0 ∨ yv < f.trees[K]!.dead) ∧ ∀ W v3 g cap, Below w.heap.size w W → TreesHeld W.heap.size W (.slice (some ⟨g, 0, none⟩) f.trees.length cap) (f.trees.set K (f.trees[K]!.more v3 year height)) → Calls Try.prog 20 #[.agg (f.after K (.slice (some ⟨g, 0, none⟩) f.trees.length cap) v3 year height).cells.toArray, .int .i64 K, .int .i64 yv, .int .i64 1] W fun e w' => e = .returned (.tuple #[.int .i64 2, .int .i64 3, .int .i64 0]) ∧ Below W.heap.size W w'))) := by
      intro he hv
      have hask : askErr f K year height = 0 := by
        by_cases hx : askErr f K year height = 0
        · exact hx
        · unfold mayOf at he; rw [if_neg hx] at he; exact absurd he hx
      have hkk := asked_of f K year height w h hask
      have hvd : (verdictOn f.law f.trees[K]! year height).1 = 1 := by unfold mayOf at hv; rw [if_pos hask, Int.toNat_natCast] at hv; exact hv
      have iy : inB year 0 300 = true := inB_iff.2 ⟨hkk.year0, hkk.year1⟩
      have ih : inB height 1 15000 = true := inB_iff.2 ⟨hkk.height0, hkk.height1⟩
      have hy0 := hkk.year0
      have hy1 := hkk.year1
      have hq0 : 0 ≤ soon % f.law.rest := Int.emod_nonneg _ (by omega)
      have hq1 : soon % f.law.rest < f.law.rest := Int.emod_lt_of_pos _ (by omega)
      refine ⟨⟨hy0, hy1⟩, fun hs => by rw [List.length_eq_zero_iff.1 hs]; show (-1 : Int) < year; omega, fun hs hle => by rw [lastOf_is _ _ hs]; exact sure_after f.law f.trees[K]! year height hvd hrest.1 hs hle, ?_⟩
      intro hn10 hlast
      have hck := fun tv sv => after_checks f K hf hKl tv sv year height iy ih (by omega) hlast
      refine ⟨fun W hW => ?_, fun W v3 g cap hW hT => ?_, ?_⟩
      · have := hF1 W hW
        rw [(after_first f K hf hKl (.slice none 0 0) (.slice none 0 0) year height (hck _ _) hvd).2] at this
        exact this
      · have := hF2 W v3 g cap hW hT
        rw [(after_first f K hf hKl _ v3 year height (hck _ v3) hvd).1] at this
        exact this
      · by_cases h3' : 300 < yv
        · exact .inl (.inl h3')
        · by_cases h4 : 0 ≤ f.trees[K]!.dead ∧ f.trees[K]!.dead ≤ yv
          · exact .inl (.inr h4)
          · refine .inr ⟨by omega, by omega, fun W v3 g cap hW hT => ?_⟩
            have := hM2 W v3 g cap hW hT
            rw [after_may f K hKl _ v3 year height yv (hck _ v3) hvd (inB_iff.2 ⟨by omega, by omega⟩) (by omega) (by omega) (by
              by_cases hd : f.trees[K]!.dead < 0
              · exact .inl (dead_is _ hterr hd)
              · exact .inr (by omega))] at this
            exact this
    clear hF1 hF2 hM2 hfine hlaw hlawB hterr hf hp
    obtain ⟨⟨age, rest, girth, f0, f1, f2, heal⟩, tv, ts⟩ := f
    dsimp only at ev es ew hK hKl hKl' hl20 hKm hsn hRow hTH hones hheld hplain hrest hyv hall hn hH hc
    subst ev
    have hT2 := hTH
    generalize hKt : ts[K]! = t at *
    obtain ⟨code, bmin, bmax, taped, gmin, gmax, wmin, wmax, sv, wv, dead, strips, wounds⟩ := t
    dsimp only at es ew hsn hheld hplain hall
    subst es ew
    simp only [Tree.cells] at hRow
    simp only [Forest.cells] at h1 h2 h3 ⊢
    simp only [Forest.cells, Forest.after, hKt, Tree.more] at hall
    by_cases he : (mayOf ⟨⟨age, rest, girth, f0, f1, f2, heal⟩, .slice (some ⟨b, off, none⟩) ts.length c, ts⟩ K year height).2.2 = 0
    · by_cases hv : (mayOf ⟨⟨age, rest, girth, f0, f1, f2, heal⟩, .slice (some ⟨b, off, none⟩) ts.length c, ts⟩ K year height).1 = 1
      · obtain ⟨⟨hy0, hy1⟩, hnil, hpos, hmain⟩ := hall he hv
        by_cases h10 : strips.length = 10
        · exact rests_full _ _ _ _ _ _ _ b off _ c K _ _ _ _ _ _ _ _ _ _ _ _ _ _ _ which year height soon _ _ _ w hw.1 hw.2 hK hKl hb hRow h1 h2 h3 he hv h10
        · by_cases hs0 : strips.length = 0
          · obtain ⟨m1, m2, m3⟩ := hmain h10 (hnil hs0)
            cases sa with
            | none => exact rests_nil _ _ _ _ _ _ _ b off _ c K _ _ _ _ _ _ _ _ _ _ _ _ _ _ which year height soon _ _ _ w hw.1 hw.2 hK hKl hb hRow h1 h2 h3 ts strips wounds yv _ _ hsn he hv rfl hl20 rfl hy0 hy1 hrest.1 hrest.2 hso.1 hso.2 hyv hT2 hKt hones m1 m2 m3 hs0 (hplain sc (by rw [hs0]))
            | some ad => exact rests_some _ _ _ _ _ _ _ b off _ c K _ _ _ _ _ _ _ _ ad _ _ _ _ _ _ which year height soon _ _ _ w hw.1 hw.2 hK hKl hb hRow h1 h2 h3 ts strips wounds yv _ _ hsn he hv rfl hl20 rfl hy0 hy1 hrest.1 hrest.2 hso.1 hso.2 hyv hT2 hKt hones m1 m2 m3 hs0
          · obtain ⟨b2, off2, rfl, _, hcell⟩ := strip_cells hheld (k := strips.length - 1) (by omega)
            have hlast := fun W hW => (hcell W hW).1
            by_cases hle : strips[strips.length - 1]!.1 ≤ year
            · obtain ⟨m1, m2, m3⟩ := hmain h10 (hpos (by omega) hle)
              exact rests_pos _ _ _ _ _ _ _ b off _ c K _ _ _ _ _ _ _ _ b2 off2 _ _ _ _ _ _ which year height soon _ _ _ w hw.1 hw.2 hK hKl hb hRow h1 h2 h3 ts strips wounds yv _ _ hsn he hv h10 rfl hl20 rfl hy0 hy1 hrest.1 hrest.2 hso.1 hso.2 hyv hT2 hKt hones m1 m2 m3 _ (by omega) hlast hle
            · exact rests_late _ _ _ _ _ _ _ b off _ c K _ _ _ _ _ _ _ _ b2 off2 _ _ _ _ _ _ which year height soon _ _ _ w hw.1 hw.2 hK hKl hb hRow h1 h2 h3 _ hsn he hv h10 (by omega) hlast (by omega)
      · exact rests_not _ _ _ _ _ _ _ b off _ c K _ _ _ _ _ _ _ _ _ _ _ _ _ _ _ which year height soon _ _ _ w hw.1 hw.2 hK hKl hb hRow h1 h2 h3 he hv
    · exact rests_err _ _ _ _ _ _ _ b off _ c K _ _ _ _ _ _ _ _ _ _ _ _ _ _ _ which year height soon _ _ _ w hw.1 hw.2 hK hKl hb hRow h1 h2 h3 he
  · simp only [Forest.cells] at h1 h2 h3 ⊢
    rw [ev] at h1 h2 h3 ⊢
    exact rests_bad _ _ _ _ _ _ _ _ _ _ which year height soon w _ _ _ _ (fun hc hl => hgood ⟨hc, hl⟩) h1 h2 h3
end Go.Proofs.Ytajbflepjpgnbaa
