/- TreeTrue: whatever a tree's real birth, girth and growth are within their bounds, its girth in a year lies in the bounds of that year; the verdicts on it are true. -/
import Derived.Test.YtdpockkfmdkbhaaLawTrueA
import Derived.Test.YtdpockkfmdkbhaaKeptOf
import Derived.Test.YtdpockkfmdkbhaaSetFacts
import Derived.Test.YtdpockkfmdkbhaaGirthOf
namespace Go.Proofs.Ytdpockkfmdkbhaa
open Go.RowKit Go.Shelf

theorem tens (t : Tree) (h : treeErr t = 0) : t.strips.length ≤ 10 ∧ t.wounds.length ≤ 10 ∧ -1 ≤ t.dead := by
  unfold treeErr at h
  split at h
  · rename_i hm
    simp only [measuredB, Bool.and_eq_true, inB_iff] at hm
    split at h
    · rename_i hs
      refine ⟨?_, ?_, hm.2.1⟩
      · unfold checkStrips at hs
        split at hs
        · cases hs
        · omega
      · unfold checkWounds at h
        split at h
        · cases h
        · omega
    · exact absurd h (by assumption)
  · cases h

theorem ask_true (f : Forest) (K : Nat) (y h : Int) (hf : checkForest f = 0) (hK : K < f.trees.length) : askErr f K y h = if inB y 0 300 && inB h 1 15000 then 0 else 1 := by
  unfold askErr
  rw [if_pos hf, if_pos ⟨by omega, by omega⟩]

/-- What Girth answers. -/
def girthAns (f : Forest) (K year : Int) : Int × Int × Int := if askErr f K year 1 = 0 then (girthMin f.trees[K.toNat]! year, girthMax f.trees[K.toNat]! year, 0) else (0, 0, askErr f K year 1)
theorem girthAns_calls (f : Forest) (K year : Int) (w : World) (h : TreesHeld w.heap.size w f.tv f.trees) :
    Calls Try.prog 13 #[.agg f.cells.toArray, .int .i64 K, .int .i64 year] w fun e w' => e = .returned (.tuple #[.agg #[.int .i64 (girthAns f K year).1, .int .i64 (girthAns f K year).2.1], .int .i64 (girthAns f K year).2.2]) ∧ Below w.heap.size w w' := by
  unfold girthAns
  by_cases he : askErr f K year 1 = 0
  · rw [if_pos he]; exact girthOf_yes f K year w h he
  · rw [if_neg he]; exact girthOf_no f K year w h he

set_option maxHeartbeats 2000000 in
theorem true_calls (f : Forest) (which year height : Int) (rc : Array Value) (w : World) (h : TreesHeld w.heap.size w f.tv f.trees) (hw : 0 ≤ which ∧ which ≤ 255) (hsz : rc.size = 66) (hr : RealFine rc) :
    Calls Try.prog 3 #[.agg f.cells.toArray, .int .u8 which, .int .i64 year, .int .i64 height, .agg rc] w fun e w' => e = .returned (.bool true) ∧ Below w.heap.size w w' := by
  have h1 := fun W (hW : Below w.heap.size w W) => great_calls f W (h.at hW)
  have h2 := fun W (hW : Below w.heap.size w W) => refForest_calls f W (h.at hW)
  obtain ⟨a, c, ev⟩ := h.1.len
  by_cases hgood : checkForest f = 0 ∧ 0 < (f.trees.length : Int)
  · obtain ⟨hf, hn⟩ := hgood
    obtain ⟨K, hK⟩ : ∃ K : Nat, which % (f.trees.length : Int) = (K : Int) := Int.eq_ofNat_of_zero_le (Int.emod_nonneg _ (by omega))
    have hKl' : (K : Int) < (f.trees.length : Int) := by rw [← hK]; exact Int.emod_lt_of_pos _ hn
    have hKl : K < f.trees.length := by omega
    have h3 := fun W (hW : Below w.heap.size w W) => may_calls f K year height W (h.at hW)
    have h4 := fun W (hW : Below w.heap.size w W) => girthAns_calls f K year W (h.at hW)
    rw [hf] at h2
    have hH := h.1
    rw [ev] at hH
    obtain ⟨b, off, rfl, hb, hc⟩ := hH.place hKl
    obtain ⟨hlawB, _, hfine⟩ := checkForest_fine f hf
    obtain ⟨hlaw, _, hrest, _, _⟩ := lawB_fine f.law hlawB
    have hKm : f.trees[K]! ∈ f.trees := by rw [getElem!_pos f.trees K hKl]; exact List.getElem_mem hKl
    obtain ⟨ts10, tw10, tdd⟩ := tens _ (forest_each f hf K hKl)
    have hRow : ∀ W, Below w.heap.size w W → W.rangeAt b (off + K * 11) (Tree.cells f.trees[K]!) := fun W hW j v hv => (hW.cell (p := ⟨b, off + K * 11 + j, none⟩) hb).trans (hc K hKl j v hv)
    obtain ⟨sa, sn, sc, es⟩ := (h.2 _ hKm).1.slice
    obtain ⟨wa, wn, wc, ew⟩ := (h.2 _ hKm).2.1.slice
    cases iy : inB year 0 300 with
    | false =>
      have e3 : askErr f K year height = 1 := by rw [ask_true f K year height hf hKl, iy]; rfl
      unfold mayOf at h3
      rw [if_neg (by rw [e3]; decide), e3] at h3
      simp only [Forest.cells] at h1 h2 h3 h4 ⊢
      rw [ev] at h1 h2 h3 h4 ⊢
      simp only [Tree.cells] at hRow
      rw [es, ew] at hRow
      exact true_year _ _ _ _ _ _ _ b off _ c K _ _ _ _ _ _ _ _ sa sn sc wa wn wc _ which year height _ _ _ rc w hsz hw.1 hw.2 hK hKl iy hRow h1 h2 h3 h4
    | true =>
      cases ih : inB height 1 15000 with
      | false =>
        have e3 : askErr f K year height = 1 := by rw [ask_true f K year height hf hKl, iy, ih]; rfl
        unfold mayOf at h3
        rw [if_neg (by rw [e3]; decide), e3] at h3
        simp only [Forest.cells] at h1 h2 h3 h4 ⊢
        rw [ev] at h1 h2 h3 h4 ⊢
        simp only [Tree.cells] at hRow
        rw [es, ew] at hRow
        exact true_height _ _ _ _ _ _ _ b off _ c K _ _ _ _ _ _ _ _ sa sn sc wa wn wc _ which year height _ _ _ rc w hsz hw.1 hw.2 hK hKl iy ih hRow h1 h2 h3 h4
      | true =>
        have e3 : askErr f K year height = 0 := by rw [ask_true f K year height hf hKl, iy, ih]; rfl
        have e4 : askErr f K year 1 = 0 := by rw [ask_true f K year 1 hf hKl, iy]; rfl
        obtain ⟨y0, y1⟩ := inB_iff.1 iy
        obtain ⟨q0, q1⟩ := inB_iff.1 ih
        have hG := fun W (_ : Below w.heap.size w W) => real_says rc f.trees[K]! year w hr (hfine _ hKm) (h.2 _ hKm) y0 y1 W
        obtain ⟨p, p0, p1, hP⟩ := kept_says rc f.law f.trees[K]! year height w hsz hr hlaw hrest (hfine _ hKm) (h.2 _ hKm) ts10 tw10 y0 y1 q0 q1
        have hz := verdict_none f.law f.trees[K]! year height
        unfold mayOf at h3
        rw [if_pos e3, Int.toNat_natCast] at h3
        unfold girthAns at h4
        rw [if_pos e4, Int.toNat_natCast] at h4
        dsimp only at h3 h4
        by_cases v1 : (verdictOn f.law f.trees[K]! year height).1 = 1
        · have hP' : ∀ W, Below w.heap.size w W → Calls Try.prog 16 #[.agg rc, .agg (lawCells f.law), .agg (Tree.cells f.trees[K]!).toArray, .int .i64 year, .int .i64 height] W (BoolIs (fun b => b = true) W) := fun W hW => (hP W hW).mono fun e w' ⟨g, he, g0, _, hb⟩ => ⟨_, he, kept_always _ _ _ _ _ _ hlaw v1 p1 g0 (fun hd => by omega), hb⟩
          rw [v1, hz.1 v1] at h3
          clear hP hz v1
          simp only [Forest.cells] at h1 h2 h3 h4 ⊢
          rw [ev] at h1 h2 h3 h4 ⊢
          simp only [Tree.cells] at hRow hG hP'
          rw [es, ew] at hRow hG hP'
          exact true_one _ _ _ _ _ _ _ b off _ c K _ _ _ _ _ _ _ _ sa sn sc wa wn wc _ which year height _ _ rc w hsz hw.1 hw.2 hK hKl hb iy ih hRow h1 h2 h3 h4 hG hP'
        · have hrn : ((verdictOn f.law f.trees[K]! year height).2 == 0) = false := by
            rw [beq_eq_false_iff_ne]; exact fun hh => v1 (hz.2 hh)
          by_cases v2 : (verdictOn f.law f.trees[K]! year height).1 = 2
          · have hP' : ∀ W, Below w.heap.size w W → Calls Try.prog 16 #[.agg rc, .agg (lawCells f.law), .agg (Tree.cells f.trees[K]!).toArray, .int .i64 year, .int .i64 height] W (BoolIs (fun b => b = false) W) := fun W hW => (hP W hW).mono fun e w' ⟨g, he, _, g1, hb⟩ => ⟨_, he, kept_never _ _ _ _ _ _ hlaw v2 p0 g1 (fun hd => by omega), hb⟩
            rw [v2] at h3
            clear hP hz v1 v2
            simp only [Forest.cells] at h1 h2 h3 h4 ⊢
            rw [ev] at h1 h2 h3 h4 ⊢
            simp only [Tree.cells] at hRow hG hP'
            rw [es, ew] at hRow hG hP'
            exact true_two _ _ _ _ _ _ _ b off _ c K _ _ _ _ _ _ _ _ sa sn sc wa wn wc _ which year height _ _ _ hrn rc w hsz hw.1 hw.2 hK hKl hb iy ih hRow h1 h2 h3 h4 hG hP'
          · have v0 : (verdictOn f.law f.trees[K]! year height).1 = 0 := by
              rcases verdict_range f.law f.trees[K]! year height with v | v | v
              · exact v
              · exact absurd v v1
              · exact absurd v v2
            have hP' : ∀ W, Below w.heap.size w W → Calls Try.prog 16 #[.agg rc, .agg (lawCells f.law), .agg (Tree.cells f.trees[K]!).toArray, .int .i64 year, .int .i64 height] W (BoolIs (fun _ => True) W) := fun W hW => (hP W hW).mono fun e w' ⟨g, he, _, _, hb⟩ => ⟨_, he, trivial, hb⟩
            rw [v0] at h3
            clear hP hz v1 v2 v0
            simp only [Forest.cells] at h1 h2 h3 h4 ⊢
            rw [ev] at h1 h2 h3 h4 ⊢
            simp only [Tree.cells] at hRow hG hP'
            rw [es, ew] at hRow hG hP'
            exact true_open _ _ _ _ _ _ _ b off _ c K _ _ _ _ _ _ _ _ sa sn sc wa wn wc _ which year height _ _ _ hrn rc w hsz hw.1 hw.2 hK hKl hb iy ih hRow h1 h2 h3 h4 hG hP'
  · simp only [Forest.cells] at h1 h2 ⊢
    rw [ev] at h1 h2 ⊢
    exact true_bad _ _ _ _ _ _ _ _ _ _ which year height rc w _ (fun hc hl => hgood ⟨hc, hl⟩) h1 h2
end Go.Proofs.Ytdpockkfmdkbhaa
