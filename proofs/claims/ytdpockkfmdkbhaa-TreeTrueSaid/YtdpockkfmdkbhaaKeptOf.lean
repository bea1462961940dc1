/- May a real tree really be stripped: the answer is that of a birth and a girth within their bounds. -/
import Derived.Test.YtdpockkfmdkbhaaTrueFacts
import Derived.Test.YtdpockkfmdkbhaaKeptW0
import Derived.Test.YtdpockkfmdkbhaaKeptW1
import Derived.Test.YtdpockkfmdkbhaaKeptW2
import Derived.Test.YtdpockkfmdkbhaaKeptW3
namespace Go.Proofs.Ytdpockkfmdkbhaa
open Go.RowKit Go.Shelf

/-- The cells of a law. -/
def lawCells (l : Law) : Array Value := #[.int .i64 l.age, .int .i64 l.rest, .int .i64 l.girth, .int .i64 l.f0, .int .i64 l.f1, .int .i64 l.f2, .int .i64 l.heal]

theorem real_says (rc : Array Value) (t : Tree) (y : Int) (w : World) (hr : RealFine rc) (ht : TreeFine t) (hH : TreeHeld w.heap.size w t) (hy0 : 0 ≤ y) (hy1 : y ≤ 300) (W : World) :
    Calls Try.prog 15 #[.agg rc, .agg (Tree.cells t).toArray, .int .i64 y] W (SomeBetween (girthMin t y) (girthMax t y) W) := by
  obtain ⟨sa, sn, sc, es⟩ := hH.1.slice
  obtain ⟨wa, wn, wc, ew⟩ := hH.2.1.slice
  obtain ⟨⟨b0, b1, b2⟩, ⟨t0, t1⟩, ⟨g0, g1, g2⟩, ⟨w0, w1, w2⟩, _, _⟩ := ht
  have hup : t.taped ≤ y → girthMin t y = t.gmin + (y - t.taped) * t.wmin ∧ girthMax t y = t.gmax + (y - t.taped) * t.wmax := fun h => by
    unfold girthMin girthMax
    rw [if_pos (by omega), if_pos (by omega)]
    exact ⟨rfl, rfl⟩
  have hdn : y < t.taped → girthMin t y = max 0 (t.gmin - (t.taped - y) * t.wmax) ∧ girthMax t y = max 0 (t.gmax - (t.taped - y) * t.wmin) := fun h => by
    unfold girthMin girthMax
    rw [if_neg (by omega), if_neg (by omega)]
    have e1 : (y - t.taped) * t.wmax = -((t.taped - y) * t.wmax) := by rw [← Int.neg_mul]; congr 1; omega
    have e2 : (y - t.taped) * t.wmin = -((t.taped - y) * t.wmin) := by rw [← Int.neg_mul]; congr 1; omega
    rw [e1, e2]
    exact ⟨rfl, rfl⟩
  simp only [Tree.cells]
  rw [es, ew]
  exact realGirth_walk rc t.code t.bmin t.bmax t.taped t.gmin t.gmax t.wmin t.wmax sa sn sc wa wn wc t.dead y W hr t0 t1 g0 g1 g2 w0 w1 w2 hy0 hy1 (girthMin t y) (girthMax t y) hup hdn

theorem kept_says (rc : Array Value) (l : Law) (t : Tree) (y h : Int) (w : World) (hsz : rc.size = 66) (hr : RealFine rc) (hl : LawFine l) (hre : 1 ≤ l.rest ∧ l.rest ≤ 30) (ht : TreeFine t) (hH : TreeHeld w.heap.size w t) (hs10 : t.strips.length ≤ 10) (hw10 : t.wounds.length ≤ 10)
    (hy0 : 0 ≤ y) (hy1 : y ≤ 300) (hh0 : 1 ≤ h) (hh1 : h ≤ 15000) :
    ∃ p : Int, t.bmin ≤ p ∧ p ≤ t.bmax ∧ ∀ W, Below w.heap.size w W → Calls Try.prog 16 #[.agg rc, .agg (lawCells l), .agg (Tree.cells t).toArray, .int .i64 y, .int .i64 h] W (SomeKept (keptB l t y h p) (girthMin t y) (girthMax t y) W) := by
  obtain ⟨z, hz, hz0, hz1⟩ := hr 0 (by omega)
  have hG := real_says rc t y w hr ht hH hy0 hy1
  obtain ⟨gb0, _, gb2⟩ := girth_bounds t y ht hy0 hy1
  obtain ⟨sa, sc, es⟩ := hH.1.len
  obtain ⟨wa, wc, ew⟩ := hH.2.1.len
  have hS0 := hH.1
  have hW0 := hH.2.1
  obtain ⟨⟨b0, b1, b2⟩, ⟨t0, t1⟩, ⟨g0, g1, g2⟩, ⟨w0, w1, w2⟩, hsx, hwx⟩ := ht
  have hq0 : 0 ≤ z % (t.bmax - t.bmin + 1) := Int.emod_nonneg _ (by omega)
  have hq1 : z % (t.bmax - t.bmin + 1) < t.bmax - t.bmin + 1 := Int.emod_lt_of_pos _ (by omega)
  refine ⟨t.bmin + z % (t.bmax - t.bmin + 1), by omega, by omega, fun W hW => ?_⟩
  have hP := fun W => pick_calls t.bmin t.bmax z (t.bmin + z % (t.bmax - t.bmin + 1)) W b0 b1 (by omega) hz0 hz1 rfl
  have hp0 : 0 ≤ t.bmin + z % (t.bmax - t.bmin + 1) := by omega
  have hp1 : t.bmin + z % (t.bmax - t.bmin + 1) ≤ 300 := by omega
  have hS := (hS0.below hW).mono hW.size
  have hWd := (hW0.below hW).mono hW.size
  generalize t.bmin + z % (t.bmax - t.bmin + 1) = p at hP hp0 hp1 ⊢
  rw [es] at hS
  rw [ew] at hWd
  simp only [Tree.cells] at hG ⊢
  rw [es, ew] at hG ⊢
  unfold lawCells
  cases hfin : (((decide (t.dead < 0) || decide (y < t.dead)) && t.strips.all (farB y l.rest)) && t.wounds.all (healedB y l.heal)) with
  | false => exact kept_w0 rc l.age l.rest l.girth l.f0 l.f1 l.f2 l.heal t.code t.bmin t.bmax t.taped t.gmin t.gmax t.wmin t.wmax sa sc wa wc t.dead y h t.strips t.wounds W hsz hS hWd (by omega) (by omega) hsx hwx hy0 hy1 hre.1 hre.2 _ _ gb0 gb2 hG z p hz hP hp0 hp1 hl hh0 hh1 _ _ _ rfl rfl rfl hfin
  | true =>
    by_cases ha : l.age ≤ y - p
    · by_cases hc : 0 < countBefore t.strips y
      · exact kept_w2 rc l.age l.rest l.girth l.f0 l.f1 l.f2 l.heal t.code t.bmin t.bmax t.taped t.gmin t.gmax t.wmin t.wmax sa sc wa wc t.dead y h t.strips t.wounds W hsz hS hWd (by omega) (by omega) hsx hwx hy0 hy1 hre.1 hre.2 _ _ gb0 gb2 hG z p hz hP hp0 hp1 hl hh0 hh1 _ _ _ rfl rfl rfl hfin ha hc
      · exact kept_w3 rc l.age l.rest l.girth l.f0 l.f1 l.f2 l.heal t.code t.bmin t.bmax t.taped t.gmin t.gmax t.wmin t.wmax sa sc wa wc t.dead y h t.strips t.wounds W hsz hS hWd (by omega) (by omega) hsx hwx hy0 hy1 hre.1 hre.2 _ _ gb0 gb2 hG z p hz hP hp0 hp1 hl hh0 hh1 _ _ _ rfl rfl rfl hfin ha (by omega)
    · exact kept_w1 rc l.age l.rest l.girth l.f0 l.f1 l.f2 l.heal t.code t.bmin t.bmax t.taped t.gmin t.gmax t.wmin t.wmax sa sc wa wc t.dead y h t.strips t.wounds W hsz hS hWd (by omega) (by omega) hsx hwx hy0 hy1 hre.1 hre.2 _ _ gb0 gb2 hG z p hz hP hp0 hp1 hl hh0 hh1 _ _ _ rfl rfl rfl hfin ha
end Go.Proofs.Ytdpockkfmdkbhaa
