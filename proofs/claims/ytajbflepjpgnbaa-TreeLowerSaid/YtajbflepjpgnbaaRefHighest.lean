/- The document's own answers: the greatest heights. -/
import Derived.Test.YtajbflepjpgnbaaRefMayOf
import Derived.Test.YtajbflepjpgnbaaHeightOf
namespace Go.Proofs.Ytajbflepjpgnbaa
open Go.RowKit Go.Shelf

set_option maxRecDepth 100000 in
set_option maxHeartbeats 8000000 in
theorem refHigh_walk (age rest girth f0 f1 f2 heal : Int) (code : ByteArray) (bmin bmax taped gmin gmax wmin wmax : Int) (sa : Option Addr) (sn sc : Nat) (wa : Option Addr) (wn wc : Nat) (dead : Int) (year : Int) (b off N c k : Nat) (lo hi fac : Int) (n : Nat) (w : World) (v1 r1 v2 r2 : Int)
    (hk' : (k : Int) < (N : Int))
    (hfac : (n = 0 ∧ f0 = fac) ∨ (n = 1 ∧ f1 = fac) ∨ (n = 2 ∧ f2 = fac) ∨ (2 < n ∧ f2 = fac))
    (hp0 : 0 ≤ fac * lo) (hp1 : fac * lo ≤ 10000000) (hq0 : 0 ≤ fac * hi) (hq1 : fac * hi ≤ 10000000)
    (b1 b2 : Bool) (hb1 : (v1 != 1) = b1) (hb2 : (v2 == 2) = b2)
    (hc : ∀ W, Below w.heap.size w W → ∀ i u, ([.string code, .int .i64 bmin, .int .i64 bmax, .int .i64 taped, .int .i64 gmin, .int .i64 gmax, .int .i64 wmin, .int .i64 wmax, .slice sa sn sc, .slice wa wn wc, .int .i64 dead] : List Value)[i]? = some u → W.cell? ⟨b, off + k * 11 + i, none⟩ = some u)
    (hA : Calls Try.prog 36 #[.agg #[.int .i64 age, .int .i64 rest, .int .i64 girth, .int .i64 f0, .int .i64 f1, .int .i64 f2, .int .i64 heal, .slice (some ⟨b, off, none⟩) N c], .int .i64 (k : Nat), .int .i64 year, .int .i64 1] (w.alloc (.cells #[.int .i64 age, .int .i64 rest, .int .i64 girth, .int .i64 f0, .int .i64 f1, .int .i64 f2, .int .i64 heal, .slice (some ⟨b, off, none⟩) N c] 27)) fun e w' => e = .returned (.int .i64 0) ∧ Below (w.alloc (.cells #[.int .i64 age, .int .i64 rest, .int .i64 girth, .int .i64 f0, .int .i64 f1, .int .i64 f2, .int .i64 heal, .slice (some ⟨b, off, none⟩) N c] 27)).heap.size (w.alloc (.cells #[.int .i64 age, .int .i64 rest, .int .i64 girth, .int .i64 f0, .int .i64 f1, .int .i64 f2, .int .i64 heal, .slice (some ⟨b, off, none⟩) N c] 27)) w')
    (hG : ∀ W, Calls Try.prog 37 #[.agg #[.string code, .int .i64 bmin, .int .i64 bmax, .int .i64 taped, .int .i64 gmin, .int .i64 gmax, .int .i64 wmin, .int .i64 wmax, .slice sa sn sc, .slice wa wn wc, .int .i64 dead], .int .i64 year] W fun e w' => e = .returned (.agg #[.int .i64 lo, .int .i64 hi]) ∧ Below W.heap.size W w')
    (hN : ∀ W, Below w.heap.size w W → Calls Try.prog 48 #[.agg #[.string code, .int .i64 bmin, .int .i64 bmax, .int .i64 taped, .int .i64 gmin, .int .i64 gmax, .int .i64 wmin, .int .i64 wmax, .slice sa sn sc, .slice wa wn wc, .int .i64 dead], .int .i64 year] W fun e w' => e = .returned (.int .i64 (n : Nat)) ∧ Below W.heap.size W w')
    (hM1 : ∀ W, Below w.heap.size w W → Calls Try.prog 44 #[.agg #[.int .i64 age, .int .i64 rest, .int .i64 girth, .int .i64 f0, .int .i64 f1, .int .i64 f2, .int .i64 heal], .agg #[.string code, .int .i64 bmin, .int .i64 bmax, .int .i64 taped, .int .i64 gmin, .int .i64 gmax, .int .i64 wmin, .int .i64 wmax, .slice sa sn sc, .slice wa wn wc, .int .i64 dead], .int .i64 year, .int .i64 (max 1 (min 15000 (fac * lo / 10)))] W fun e w' => e = .returned (.tuple #[.int .i64 v1, .int .i64 r1]) ∧ Below W.heap.size W w')
    (hM2 : ∀ W, Below w.heap.size w W → Calls Try.prog 44 #[.agg #[.int .i64 age, .int .i64 rest, .int .i64 girth, .int .i64 f0, .int .i64 f1, .int .i64 f2, .int .i64 heal], .agg #[.string code, .int .i64 bmin, .int .i64 bmax, .int .i64 taped, .int .i64 gmin, .int .i64 gmax, .int .i64 wmin, .int .i64 wmax, .slice sa sn sc, .slice wa wn wc, .int .i64 dead], .int .i64 year, .int .i64 (max 1 (min 15000 (fac * hi / 10)))] W fun e w' => e = .returned (.tuple #[.int .i64 v2, .int .i64 r2]) ∧ Below W.heap.size W w') :
    Calls Try.prog 23 #[.agg #[.int .i64 age, .int .i64 rest, .int .i64 girth, .int .i64 f0, .int .i64 f1, .int .i64 f2, .int .i64 heal, .slice (some ⟨b, off, none⟩) N c], .int .i64 (k : Nat), .int .i64 year] w fun e w' => e = .returned (.tuple #[.int .i64 (if b1 then 0 else (min 15000 (fac * lo / 10))), .int .i64 (if b2 then 0 else (min 15000 (fac * hi / 10))), .int .i64 0]) ∧ Below w.heap.size w w' := by
  have HA := Lib.hid hA; clear hA
  have HG := Lib.hid hG; clear hG
  have HN := Lib.hid hN; clear hN
  have HC := Lib.hid hc; clear hc
  have HX := Lib.hid (show Below w.heap.size w (w.alloc (.cells #[.int .i64 age, .int .i64 rest, .int .i64 girth, .int .i64 f0, .int .i64 f1, .int .i64 f2, .int .i64 heal, .slice (some ⟨b, off, none⟩) N c] 27)) from (Below.refl _ _).alloc (Nat.le_refl _) _)
  have HK := Lib.hid (Blk.new w 27 #[.int .i64 age, .int .i64 rest, .int .i64 girth, .int .i64 f0, .int .i64 f1, .int .i64 f2, .int .i64 heal, .slice (some ⟨b, off, none⟩) N c])
  have HM1 := Lib.hid hM1; clear hM1
  have HM2 := Lib.hid hM2; clear hM2
  have HF := Lib.hid hfac; clear hfac
  have HB1 := Lib.hid hb1; clear hb1
  have HB2 := Lib.hid hb2; clear hb2
  go_enter Try.func23, Try.ntmps23
  go_wp2_with (go_at_call 36; refine HA.out.mono ?_; rintro e w1 ⟨rfl, hw1⟩; have hB1 := HX.out.trans (hw1.mono HX.out.size); have K1 := Lib.hid (HK.out.below hw1 HK.out.lt); have hz1 : w.heap.size < w1.heap.size := K1.out.lt; have g7 : w1.cell? ⟨w.heap.size, 7, none⟩ = some (.slice (some ⟨b, off, none⟩) N c) := K1.out.cell 7; have c0 : w1.cell? ⟨b, off + k * 11, none⟩ = some (Value.string code) := HC.out w1 hB1 0 _ rfl; have c1 : w1.cell? ⟨b, off + k * 11 + 1, none⟩ = some (Value.int .i64 bmin) := HC.out w1 hB1 1 _ rfl; have c2 : w1.cell? ⟨b, off + k * 11 + 2, none⟩ = some (Value.int .i64 bmax) := HC.out w1 hB1 2 _ rfl; have c3 : w1.cell? ⟨b, off + k * 11 + 3, none⟩ = some (Value.int .i64 taped) := HC.out w1 hB1 3 _ rfl; have c4 : w1.cell? ⟨b, off + k * 11 + 4, none⟩ = some (Value.int .i64 gmin) := HC.out w1 hB1 4 _ rfl; have c5 : w1.cell? ⟨b, off + k * 11 + 5, none⟩ = some (Value.int .i64 gmax) := HC.out w1 hB1 5 _ rfl; have c6 : w1.cell? ⟨b, off + k * 11 + 6, none⟩ = some (Value.int .i64 wmin) := HC.out w1 hB1 6 _ rfl; have c7 : w1.cell? ⟨b, off + k * 11 + 7, none⟩ = some (Value.int .i64 wmax) := HC.out w1 hB1 7 _ rfl; have c8 : w1.cell? ⟨b, off + k * 11 + 8, none⟩ = some (Value.slice sa sn sc) := HC.out w1 hB1 8 _ rfl; have c9 : w1.cell? ⟨b, off + k * 11 + 9, none⟩ = some (Value.slice wa wn wc) := HC.out w1 hB1 9 _ rfl; have c10 : w1.cell? ⟨b, off + k * 11 + 10, none⟩ = some (Value.int .i64 dead) := HC.out w1 hB1 10 _ rfl; clear hw1)
  clear g7 c0 c1 c2 c3 c4 c5 c6 c7 c8 c9 c10
  have hB1' := hB1.alloc hB1.size (.cells #[.string code, .int .i64 bmin, .int .i64 bmax, .int .i64 taped, .int .i64 gmin, .int .i64 gmax, .int .i64 wmin, .int .i64 wmax, .slice sa sn sc, .slice wa wn wc, .int .i64 dead] 53)
  have K1' := Lib.hid (K1.out.alloc (.cells #[.string code, .int .i64 bmin, .int .i64 bmax, .int .i64 taped, .int .i64 gmin, .int .i64 gmax, .int .i64 wmin, .int .i64 wmax, .slice sa sn sc, .slice wa wn wc, .int .i64 dead] 53))
  have T1 := Lib.hid (Blk.new w1 53 #[.string code, .int .i64 bmin, .int .i64 bmax, .int .i64 taped, .int .i64 gmin, .int .i64 gmax, .int .i64 wmin, .int .i64 wmax, .slice sa sn sc, .slice wa wn wc, .int .i64 dead])
  refine (HG.out _).mono ?_
  rintro e w2 ⟨rfl, hw2⟩
  have hB2 := hB1'.trans (hw2.mono hB1'.size)
  have K2 := Lib.hid (K1'.out.below hw2 K1'.out.lt)
  have T2 := Lib.hid (T1.out.below hw2 T1.out.lt)
  have hz2 : w1.heap.size < w2.heap.size := T2.out.lt
  clear hw2 hB1' K1' K1 T1 hB1
  have c0 : w2.cell? ⟨w1.heap.size, 0, none⟩ = some (Value.string code) := T2.out.cell 0
  have c1 : w2.cell? ⟨w1.heap.size, 1, none⟩ = some (Value.int .i64 bmin) := T2.out.cell 1
  have c2 : w2.cell? ⟨w1.heap.size, 2, none⟩ = some (Value.int .i64 bmax) := T2.out.cell 2
  have c3 : w2.cell? ⟨w1.heap.size, 3, none⟩ = some (Value.int .i64 taped) := T2.out.cell 3
  have c4 : w2.cell? ⟨w1.heap.size, 4, none⟩ = some (Value.int .i64 gmin) := T2.out.cell 4
  have c5 : w2.cell? ⟨w1.heap.size, 5, none⟩ = some (Value.int .i64 gmax) := T2.out.cell 5
  have c6 : w2.cell? ⟨w1.heap.size, 6, none⟩ = some (Value.int .i64 wmin) := T2.out.cell 6
  have c7 : w2.cell? ⟨w1.heap.size, 7, none⟩ = some (Value.int .i64 wmax) := T2.out.cell 7
  have c8 : w2.cell? ⟨w1.heap.size, 8, none⟩ = some (Value.slice sa sn sc) := T2.out.cell 8
  have c9 : w2.cell? ⟨w1.heap.size, 9, none⟩ = some (Value.slice wa wn wc) := T2.out.cell 9
  have c10 : w2.cell? ⟨w1.heap.size, 10, none⟩ = some (Value.int .i64 dead) := T2.out.cell 10
  go_wp2_with fail
  clear c0 c1 c2 c3 c4 c5 c6 c7 c8 c9 c10
  have hB2' := hB2.alloc hB2.size (.cells #[.int .i64 lo, .int .i64 hi] 31)
  have K2' := Lib.hid (K2.out.alloc (.cells #[.int .i64 lo, .int .i64 hi] 31))
  have T2' := Lib.hid (T2.out.alloc (.cells #[.int .i64 lo, .int .i64 hi] 31))
  have G2 := Lib.hid (Blk.new w2 31 #[.int .i64 lo, .int .i64 hi])
  refine (HN.out _ hB2').mono ?_
  rintro e w3 ⟨rfl, hw3⟩
  have hB3 := hB2'.trans (hw3.mono hB2'.size)
  have K3 := Lib.hid (K2'.out.below hw3 K2'.out.lt)
  have T3 := Lib.hid (T2'.out.below hw3 T2'.out.lt)
  have G3 := Lib.hid (G2.out.below hw3 G2.out.lt)
  clear hw3 hB2' K2' T2' G2 K2 T2 hB2
  have x0 : w3.cell? ⟨w2.heap.size, 0, none⟩ = some (.int .i64 lo) := G3.out.cell 0
  have x1 : w3.cell? ⟨w2.heap.size, 1, none⟩ = some (.int .i64 hi) := G3.out.cell 1
  have l0 : w3.cell? ⟨w.heap.size, 0, none⟩ = some (Value.int .i64 age) := K3.out.cell 0
  have l1 : w3.cell? ⟨w.heap.size, 1, none⟩ = some (Value.int .i64 rest) := K3.out.cell 1
  have l2 : w3.cell? ⟨w.heap.size, 2, none⟩ = some (Value.int .i64 girth) := K3.out.cell 2
  have l3 : w3.cell? ⟨w.heap.size, 3, none⟩ = some (Value.int .i64 f0) := K3.out.cell 3
  have l4 : w3.cell? ⟨w.heap.size, 4, none⟩ = some (Value.int .i64 f1) := K3.out.cell 4
  have l5 : w3.cell? ⟨w.heap.size, 5, none⟩ = some (Value.int .i64 f2) := K3.out.cell 5
  have l6 : w3.cell? ⟨w.heap.size, 6, none⟩ = some (Value.int .i64 heal) := K3.out.cell 6
  have c0 : w3.cell? ⟨w1.heap.size, 0, none⟩ = some (Value.string code) := T3.out.cell 0
  have c1 : w3.cell? ⟨w1.heap.size, 1, none⟩ = some (Value.int .i64 bmin) := T3.out.cell 1
  have c2 : w3.cell? ⟨w1.heap.size, 2, none⟩ = some (Value.int .i64 bmax) := T3.out.cell 2
  have c3 : w3.cell? ⟨w1.heap.size, 3, none⟩ = some (Value.int .i64 taped) := T3.out.cell 3
  have c4 : w3.cell? ⟨w1.heap.size, 4, none⟩ = some (Value.int .i64 gmin) := T3.out.cell 4
  have c5 : w3.cell? ⟨w1.heap.size, 5, none⟩ = some (Value.int .i64 gmax) := T3.out.cell 5
  have c6 : w3.cell? ⟨w1.heap.size, 6, none⟩ = some (Value.int .i64 wmin) := T3.out.cell 6
  have c7 : w3.cell? ⟨w1.heap.size, 7, none⟩ = some (Value.int .i64 wmax) := T3.out.cell 7
  have c8 : w3.cell? ⟨w1.heap.size, 8, none⟩ = some (Value.slice sa sn sc) := T3.out.cell 8
  have c9 : w3.cell? ⟨w1.heap.size, 9, none⟩ = some (Value.slice wa wn wc) := T3.out.cell 9
  have c10 : w3.cell? ⟨w1.heap.size, 10, none⟩ = some (Value.int .i64 dead) := T3.out.cell 10
  have hfc : w3.cell? ⟨w.heap.size, 3 + (min (n : Int) 2).toNat, none⟩ = some (.int .i64 fac) := by
    rcases HF.out with ⟨rfl, rfl⟩ | ⟨rfl, rfl⟩ | ⟨rfl, rfl⟩ | ⟨hn2, rfl⟩
    · exact l3
    · exact l4
    · exact l5
    · rw [show (min (n : Int) 2).toNat = 2 by omega]; exact l5
  go_wp2
  go_quiet (fail)
  go_wp2_with fail
  clear hfc x0 x1 l0 l1 l2 l3 l4 l5 l6 c0 c1 c2 c3 c4 c5 c6 c7 c8 c9 c10
  refine (HM1.out _ (by first | exact hB3 | exact below_drewN hB3 _)).mono ?_
  rintro e w4 ⟨rfl, hw4⟩
  have hT4 : Below w3.heap.size w3 w4 := Below.trans (by first | exact Below.refl _ _ | exact below_drewN (Below.refl _ _) _) hw4
  have hB4 := hB3.trans (hT4.mono hB3.size)
  have K4 := Lib.hid (K3.out.below hT4 K3.out.lt)
  have T4 := Lib.hid (T3.out.below hT4 T3.out.lt)
  clear hw4
  have l0 : w4.cell? ⟨w.heap.size, 0, none⟩ = some (Value.int .i64 age) := K4.out.cell 0
  have l1 : w4.cell? ⟨w.heap.size, 1, none⟩ = some (Value.int .i64 rest) := K4.out.cell 1
  have l2 : w4.cell? ⟨w.heap.size, 2, none⟩ = some (Value.int .i64 girth) := K4.out.cell 2
  have l3 : w4.cell? ⟨w.heap.size, 3, none⟩ = some (Value.int .i64 f0) := K4.out.cell 3
  have l4 : w4.cell? ⟨w.heap.size, 4, none⟩ = some (Value.int .i64 f1) := K4.out.cell 4
  have l5 : w4.cell? ⟨w.heap.size, 5, none⟩ = some (Value.int .i64 f2) := K4.out.cell 5
  have l6 : w4.cell? ⟨w.heap.size, 6, none⟩ = some (Value.int .i64 heal) := K4.out.cell 6
  have c0 : w4.cell? ⟨w1.heap.size, 0, none⟩ = some (Value.string code) := T4.out.cell 0
  have c1 : w4.cell? ⟨w1.heap.size, 1, none⟩ = some (Value.int .i64 bmin) := T4.out.cell 1
  have c2 : w4.cell? ⟨w1.heap.size, 2, none⟩ = some (Value.int .i64 bmax) := T4.out.cell 2
  have c3 : w4.cell? ⟨w1.heap.size, 3, none⟩ = some (Value.int .i64 taped) := T4.out.cell 3
  have c4 : w4.cell? ⟨w1.heap.size, 4, none⟩ = some (Value.int .i64 gmin) := T4.out.cell 4
  have c5 : w4.cell? ⟨w1.heap.size, 5, none⟩ = some (Value.int .i64 gmax) := T4.out.cell 5
  have c6 : w4.cell? ⟨w1.heap.size, 6, none⟩ = some (Value.int .i64 wmin) := T4.out.cell 6
  have c7 : w4.cell? ⟨w1.heap.size, 7, none⟩ = some (Value.int .i64 wmax) := T4.out.cell 7
  have c8 : w4.cell? ⟨w1.heap.size, 8, none⟩ = some (Value.slice sa sn sc) := T4.out.cell 8
  have c9 : w4.cell? ⟨w1.heap.size, 9, none⟩ = some (Value.slice wa wn wc) := T4.out.cell 9
  have c10 : w4.cell? ⟨w1.heap.size, 10, none⟩ = some (Value.int .i64 dead) := T4.out.cell 10
  have h1 := HB1.out
  cases b1
  all_goals
    go_wp2_with fail
    refine (HM2.out _ hB4).mono ?_
    rintro e w5 ⟨rfl, hw5⟩
    have hB5 := hB4.trans (hw5.mono hB4.size)
    clear hw5 l0 l1 l2 l3 l4 l5 l6 c0 c1 c2 c3 c4 c5 c6 c7 c8 c9 c10
    have h2 := HB2.out
    cases b2
    all_goals
      go_wp2
      go_ret3
      exact ⟨rfl, hB5⟩

theorem capped_min (x : Int) : capped x = min 15000 (x / 10) := by unfold capped; split <;> omega
theorem atLeast_max (x : Int) : atLeast x = max 1 x := by unfold atLeast; split <;> omega

theorem refHighestOf_yes (f : Forest) (tree year : Int) (w : World) (h : TreesHeld w.heap.size w f.tv f.trees) (he : askErr f tree year 1 = 0) :
    Calls Try.prog 23 #[.agg f.cells.toArray, .int .i64 tree, .int .i64 year] w fun e w' => e = .returned (.tuple #[.int .i64 (sureHeight f.law f.trees[tree.toNat]! year), .int .i64 (openHeight f.law f.trees[tree.toNat]! year), .int .i64 0]) ∧ Below w.heap.size w w' := by
  have hA := refAsked_calls f tree year 1 (w.alloc (.cells f.cells.toArray 27)) (h.at ((Below.refl _ _).alloc (Nat.le_refl _) _)) h.1.short
  rw [he] at hA
  have hk := asked_of f tree year 1 w h he
  have hG : ∀ W, Calls Try.prog 37 #[.agg f.trees[tree.toNat]!.cells.toArray, .int .i64 year] W fun e w' => e = .returned (.agg #[.int .i64 (girthMin f.trees[tree.toNat]! year), .int .i64 (girthMax f.trees[tree.toNat]! year)]) ∧ Below W.heap.size W w' := fun W =>
    refGirth_says _ _ w.heap.size w hk.fine hk.held hk.year0 hk.year1 W
  have hN : ∀ W, Below w.heap.size w W → Calls Try.prog 48 #[.agg f.trees[tree.toNat]!.cells.toArray, .int .i64 year] W fun e w' => e = .returned (.int .i64 (countBefore f.trees[tree.toNat]!.strips year : Nat)) ∧ Below W.heap.size W w' := fun W hW => refBefore_calls _ year w.heap.size W hW.size (hk.held.below hW)
  obtain ⟨s0, s1, s2⟩ := sides f.law f.trees[tree.toNat]! year hk.law hk.fine hk.year0 hk.year1
  have cb1 := capped_bounds _ s0
  have cb2 := capped_bounds (highSide f.law f.trees[tree.toNat]! year) (by omega)
  have ab1 := atLeast_bounds _ cb1.2
  have ab2 := atLeast_bounds _ cb2.2
  have hM1 : ∀ W, Below w.heap.size w W → Calls Try.prog 44 #[.agg f.law.cells.toArray, .agg f.trees[tree.toNat]!.cells.toArray, .int .i64 year, .int .i64 (atLeast (capped (lowSide f.law f.trees[tree.toNat]! year)))] W fun e w' => e = .returned (.tuple #[.int .i64 (verdictOn f.law f.trees[tree.toNat]! year (atLeast (capped (lowSide f.law f.trees[tree.toNat]! year)))).1, .int .i64 (verdictOn f.law f.trees[tree.toNat]! year (atLeast (capped (lowSide f.law f.trees[tree.toNat]! year)))).2]) ∧ Below W.heap.size W w' := fun W hW =>
    refMay_calls _ _ _ _ W hk.law hk.fine ((hk.held.below hW).mono hW.size) hk.year0 hk.year1 ab1.1 ab1.2
  have hM2 : ∀ W, Below w.heap.size w W → Calls Try.prog 44 #[.agg f.law.cells.toArray, .agg f.trees[tree.toNat]!.cells.toArray, .int .i64 year, .int .i64 (atLeast (capped (highSide f.law f.trees[tree.toNat]! year)))] W fun e w' => e = .returned (.tuple #[.int .i64 (verdictOn f.law f.trees[tree.toNat]! year (atLeast (capped (highSide f.law f.trees[tree.toNat]! year)))).1, .int .i64 (verdictOn f.law f.trees[tree.toNat]! year (atLeast (capped (highSide f.law f.trees[tree.toNat]! year)))).2]) ∧ Below W.heap.size W w' := fun W hW =>
    refMay_calls _ _ _ _ W hk.law hk.fine ((hk.held.below hW).mono hW.size) hk.year0 hk.year1 ab2.1 ab2.2
  unfold sureHeight openHeight
  generalize verdictOn f.law f.trees[tree.toNat]! year (atLeast (capped (lowSide f.law f.trees[tree.toNat]! year))) = va at hM1 ⊢
  generalize verdictOn f.law f.trees[tree.toNat]! year (atLeast (capped (highSide f.law f.trees[tree.toNat]! year))) = vb at hM2 ⊢
  rw [atLeast_max, capped_min] at hM1 hM2
  rw [capped_min, capped_min]
  have hsx := hk.held.1.slice
  have hwx := hk.held.2.1.slice
  unfold lowSide at hM1 s0 s1 ⊢
  unfold highSide at hM2 s1 s2 ⊢
  have hfac : (countBefore f.trees[tree.toNat]!.strips year = 0 ∧ f.law.f0 = factor f.law (countBefore f.trees[tree.toNat]!.strips year)) ∨ (countBefore f.trees[tree.toNat]!.strips year = 1 ∧ f.law.f1 = factor f.law (countBefore f.trees[tree.toNat]!.strips year)) ∨ (countBefore f.trees[tree.toNat]!.strips year = 2 ∧ f.law.f2 = factor f.law (countBefore f.trees[tree.toNat]!.strips year)) ∨ (2 < countBefore f.trees[tree.toNat]!.strips year ∧ f.law.f2 = factor f.law (countBefore f.trees[tree.toNat]!.strips year)) := by
    generalize countBefore f.trees[tree.toNat]!.strips year = n
    match n with
    | 0 => exact .inl ⟨rfl, rfl⟩
    | 1 => exact .inr (.inl ⟨rfl, rfl⟩)
    | 2 => exact .inr (.inr (.inl ⟨rfl, rfl⟩))
    | n + 3 => exact .inr (.inr (.inr ⟨by omega, rfl⟩))
  obtain ⟨k, rfl⟩ := Int.eq_ofNat_of_zero_le hk.tree0
  rw [Int.toNat_natCast] at hG hN hM1 hM2 hsx hwx hfac s0 s1 s2 ⊢
  have hkl : k < f.trees.length := by have := hk.tree1; omega
  have hkl' : (k : Int) < (f.trees.length : Int) := by omega
  obtain ⟨a, c, ev⟩ := h.1.len
  have h1 := h.1
  rw [ev] at h1
  obtain ⟨b, off, rfl, hb, hc⟩ := h1.place hkl
  have hc' := fun (W : World) (hW : Below w.heap.size w W) i u (hu : (Tree.cells f.trees[k]!)[i]? = some u) => (hW.cell (p := ⟨b, off + k * 11 + i, none⟩) hb).trans (hc k hkl i u hu)
  clear h h1 he hk hc cb1 cb2 ab1 ab2
  generalize countBefore f.trees[k]!.strips year = n at hN hM1 hM2 hfac s0 s1 s2 ⊢
  generalize factor f.law n = fac at hM1 hM2 hfac s0 s1 s2 ⊢
  generalize girthMin f.trees[k]! year = lo at hG hM1 s0 s1 ⊢
  generalize girthMax f.trees[k]! year = hi at hG hM2 s1 s2 ⊢
  generalize f.trees[k]! = x at hc' hG hN hM1 hM2 hsx hwx
  obtain ⟨code, bmin, bmax, taped, gmin, gmax, wmin, wmax, sv, wv, dead, strips, wounds⟩ := x
  dsimp only at hsx hwx
  obtain ⟨sa, sn, sc, rfl⟩ := hsx
  obtain ⟨wa, wn, wc, rfl⟩ := hwx
  obtain ⟨⟨age, rest, girth, f0, f1, f2, heal⟩, tv, ts⟩ := f
  dsimp only at ev hkl hkl' hfac
  subst ev
  simp only [Forest.cells] at hA ⊢
  simp only [Tree.cells, Law.cells] at hM1 hM2 hG hN hc'
  generalize ts.length = N at hA hkl hkl' ⊢
  exact refHigh_walk age rest girth f0 f1 f2 heal code bmin bmax taped gmin gmax wmin wmax sa sn sc wa wn wc dead year b off N c k lo hi fac n w va.1 va.2 vb.1 vb.2 hkl' hfac s0 (by omega) (by omega) (by omega) _ _ rfl rfl hc' hA hG hN hM1 hM2

set_option maxRecDepth 100000 in
set_option maxHeartbeats 1000000 in
theorem refHighestOf_no (f : Forest) (tree year : Int) (w : World) (h : TreesHeld w.heap.size w f.tv f.trees) (he : ¬ askErr f tree year 1 = 0) :
    Calls Try.prog 23 #[.agg f.cells.toArray, .int .i64 tree, .int .i64 year] w fun e w' => e = .returned (.tuple #[.int .i64 0, .int .i64 0, .int .i64 (askErr f tree year 1)]) ∧ Below w.heap.size w w' := by
  have hA := refAsked_calls f tree year 1 (w.alloc (.cells f.cells.toArray 27)) (h.at ((Below.refl _ _).alloc (Nat.le_refl _) _)) h.1.short
  have hne : (askErr f tree year 1 != 0) = true := by simpa using he
  obtain ⟨a, c, ev⟩ := h.1.len
  clear h he
  generalize askErr f tree year 1 = r at hA hne ⊢
  simp only [Forest.cells] at hA ⊢
  rw [ev] at hA ⊢
  clear ev
  have HA := Lib.hid hA; clear hA
  go_enter Try.func23, Try.ntmps23
  go_wp2_with (go_at_call 36; refine HA.out.mono ?_; rintro e w1 ⟨rfl, hw1⟩; have hB1 := ((Below.refl _ w).alloc (Nat.le_refl _) _).trans (hw1.mono (by simp)); clear hw1)
  go_ret3
  exact ⟨rfl, hB1⟩

theorem refHighestOf_calls (f : Forest) (tree year : Int) (w : World) (h : TreesHeld w.heap.size w f.tv f.trees) :
    Calls Try.prog 23 #[.agg f.cells.toArray, .int .i64 tree, .int .i64 year] w fun e w' => e = .returned (.tuple #[.int .i64 (highestOf f tree year).1, .int .i64 (highestOf f tree year).2.1, .int .i64 (highestOf f tree year).2.2]) ∧ Below w.heap.size w w' := by
  unfold highestOf
  by_cases he : askErr f tree year 1 = 0
  · rw [if_pos he]; exact refHighestOf_yes f tree year w h he
  · rw [if_neg he]; exact refHighestOf_no f tree year w h he
end Go.Proofs.Ytajbflepjpgnbaa
