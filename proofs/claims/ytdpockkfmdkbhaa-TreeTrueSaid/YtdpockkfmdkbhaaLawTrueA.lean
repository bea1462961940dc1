/- TreeTrue: the walks on which the question is in order. -/
import Derived.Test.YtdpockkfmdkbhaaKeptFacts
import Derived.Test.YtdpockkfmdkbhaaRowOf
namespace Go.Proofs.Ytdpockkfmdkbhaa
open Go.RowKit Go.Shelf

/-- Some answer of which something is known. -/
def BoolIs (p : Bool → Prop) (w : World) (e : Ending) (w' : World) : Prop := ∃ b : Bool, e = .returned (.bool b) ∧ p b ∧ Below w.heap.size w w'

set_option maxRecDepth 100000 in
set_option maxHeartbeats 8000000 in
theorem true_one (age rest girth f0 f1 f2 heal : Int) (b off n c K : Nat) (code : ByteArray) (bmin bmax taped gmin gmax wmin wmax : Int) (sa : Option Addr) (sn sc : Nat) (wa : Option Addr) (wn wc : Nat) (dead : Int) (which year height lo hi : Int) (rc : Array Value) (w : World) (hsz : rc.size = 66)
    (hw0 : 0 ≤ which) (hw1' : which ≤ 255) (hKe : which % (n : Int) = (K : Int)) (hKn : K < n) (hb : b < w.heap.size) (iy : inB year 0 300 = true) (ih : inB height 1 15000 = true)
    (hRow : ∀ W, Below w.heap.size w W → W.rangeAt b (off + K * 11) [.string code, .int .i64 bmin, .int .i64 bmax, .int .i64 taped, .int .i64 gmin, .int .i64 gmax, .int .i64 wmin, .int .i64 wmax, .slice sa sn sc, .slice wa wn wc, .int .i64 dead])
    (hGreat : ∀ W, Below w.heap.size w W → Calls Try.prog 9 #[.agg #[.int .i64 age, .int .i64 rest, .int .i64 girth, .int .i64 f0, .int .i64 f1, .int .i64 f2, .int .i64 heal, .slice (some ⟨b, off, none⟩) n c]] W (SomeBool W))
    (hCheck : ∀ W, Below w.heap.size w W → Calls Try.prog 10 #[.agg #[.int .i64 age, .int .i64 rest, .int .i64 girth, .int .i64 f0, .int .i64 f1, .int .i64 f2, .int .i64 heal, .slice (some ⟨b, off, none⟩) n c]] W fun e w' => e = .returned (.int .i64 0) ∧ Below W.heap.size W w')
    (hM : ∀ W, Below w.heap.size w W → Calls Try.prog 12 #[.agg #[.int .i64 age, .int .i64 rest, .int .i64 girth, .int .i64 f0, .int .i64 f1, .int .i64 f2, .int .i64 heal, .slice (some ⟨b, off, none⟩) n c], .int .i64 K, .int .i64 year, .int .i64 height] W fun e' w' => e' = .returned (.tuple #[.int .i64 1, .int .i64 0, .int .i64 0]) ∧ Below W.heap.size W w')
    (hG : ∀ W, Below w.heap.size w W → Calls Try.prog 13 #[.agg #[.int .i64 age, .int .i64 rest, .int .i64 girth, .int .i64 f0, .int .i64 f1, .int .i64 f2, .int .i64 heal, .slice (some ⟨b, off, none⟩) n c], .int .i64 K, .int .i64 year] W fun e' w' => e' = .returned (.tuple #[.agg #[.int .i64 lo, .int .i64 hi], .int .i64 0]) ∧ Below W.heap.size W w')
    (hR : ∀ W, Below w.heap.size w W → Calls Try.prog 15 #[.agg rc, .agg #[.string code, .int .i64 bmin, .int .i64 bmax, .int .i64 taped, .int .i64 gmin, .int .i64 gmax, .int .i64 wmin, .int .i64 wmax, .slice sa sn sc, .slice wa wn wc, .int .i64 dead], .int .i64 year] W (SomeBetween lo hi W))
    (hK : ∀ W, Below w.heap.size w W → Calls Try.prog 16 #[.agg rc, .agg #[.int .i64 age, .int .i64 rest, .int .i64 girth, .int .i64 f0, .int .i64 f1, .int .i64 f2, .int .i64 heal], .agg #[.string code, .int .i64 bmin, .int .i64 bmax, .int .i64 taped, .int .i64 gmin, .int .i64 gmax, .int .i64 wmin, .int .i64 wmax, .slice sa sn sc, .slice wa wn wc, .int .i64 dead], .int .i64 year, .int .i64 height] W (BoolIs (fun b => b = true) W)) :
    Calls Try.prog 3 #[.agg #[.int .i64 age, .int .i64 rest, .int .i64 girth, .int .i64 f0, .int .i64 f1, .int .i64 f2, .int .i64 heal, .slice (some ⟨b, off, none⟩) n c], .int .u8 which, .int .i64 year, .int .i64 height, .agg rc] w fun e w' => e = .returned (.bool true) ∧ Below w.heap.size w w' := by
  have HGreat := Lib.hid hGreat; clear hGreat
  have HCheck := Lib.hid hCheck; clear hCheck
  have HM := Lib.hid hM; clear hM
  have HG := Lib.hid hG; clear hG
  have HR := Lib.hid hR; clear hR
  have HK := Lib.hid hK; clear hK
  have HRow := Lib.hid hRow; clear hRow
  have HO := Lib.hid (show ([.string code, .int .i64 bmin, .int .i64 bmax, .int .i64 taped, .int .i64 gmin, .int .i64 gmax, .int .i64 wmin, .int .i64 wmax, .slice sa sn sc, .slice wa wn wc, .int .i64 dead] : List Value).toArray.all (·.oneCell') = true from by simp [Value.oneCell'])
  have HZ := Lib.hid (show (Try.prog.info? 31).map (·.size) = some rc.size from by rw [hsz]; exact size_real)
  clear hsz
  have hB0 := Lib.hid (show Below w.heap.size w ((w.alloc (.cells #[.int .i64 age, .int .i64 rest, .int .i64 girth, .int .i64 f0, .int .i64 f1, .int .i64 f2, .int .i64 heal, .slice (some ⟨b, off, none⟩) n c] 27)).alloc (.cells rc 31)) from ((Below.refl _ _).alloc (Nat.le_refl _) _).alloc (by rw [World.size_alloc]; omega) _)
  have K0 := Lib.hid (show Boxed ((w.alloc (.cells #[.int .i64 age, .int .i64 rest, .int .i64 girth, .int .i64 f0, .int .i64 f1, .int .i64 f2, .int .i64 heal, .slice (some ⟨b, off, none⟩) n c] 27)).alloc (.cells rc 31)) w.heap.size ⟨age, rest, girth, f0, f1, f2, heal⟩ (some ⟨b, off, none⟩) n c from Boxed.of ((Blk.new w 27 #[.int .i64 age, .int .i64 rest, .int .i64 girth, .int .i64 f0, .int .i64 f1, .int .i64 f2, .int .i64 heal, .slice (some ⟨b, off, none⟩) n c]).alloc _))
  have R0 := Lib.hid (show Blk ((w.alloc (.cells #[.int .i64 age, .int .i64 rest, .int .i64 girth, .int .i64 f0, .int .i64 f1, .int .i64 f2, .int .i64 heal, .slice (some ⟨b, off, none⟩) n c] 27)).alloc (.cells rc 31)) (w.heap.size + 1) 31 rc from by have := Blk.new (w.alloc (.cells #[.int .i64 age, .int .i64 rest, .int .i64 girth, .int .i64 f0, .int .i64 f1, .int .i64 f2, .int .i64 heal, .slice (some ⟨b, off, none⟩) n c] 27)) 31 rc; rwa [World.size_alloc] at this)
  have hn1 : (0 : Int) < (n : Int) := by omega
  have hnb : ((n : Int) == 0) = false := by simp; omega
  have hKn' : (K : Int) < (n : Int) := by omega
  go_enter Try.func3, Try.ntmps3
  go_wp2_with fail
  refine (HGreat.out _ hB0.out).mono ?_
  rintro e w1 ⟨b1, rfl, hw1⟩
  have hB1 := hB0.out.trans (hw1.mono hB0.out.size)
  have X1 := Lib.hid (K0.out.below hw1 (by rw [World.size_alloc, World.size_alloc]; omega))
  have R1 := Lib.hid (R0.out.below hw1 R0.out.lt)
  have hz1 : w.heap.size + 1 < w1.heap.size := R1.out.lt
  clear K0 hB0 hw1 R0
  cases b1
  · obtain ⟨g0, g1, g2, g3, g4, g5, g6, g7⟩ := X1.out
    dsimp only at g0 g1 g2 g3 g4 g5 g6
    go_wp2_with fail
    refine (HCheck.out _ hB1).mono ?_
    rintro e w2 ⟨rfl, hw2⟩
    clear g0 g1 g2 g3 g4 g5 g6 g7
    have hB2 := hB1.trans (hw2.mono hB1.size)
    have X2 := Lib.hid (X1.out.below hw2 (by omega))
    have R2 := Lib.hid (R1.out.below hw2 R1.out.lt)
    have hz2 : w.heap.size + 1 < w2.heap.size := R2.out.lt
    clear hw2 X1 R1
    obtain ⟨g0, g1, g2, g3, g4, g5, g6, g7⟩ := X2.out
    dsimp only at g0 g1 g2 g3 g4 g5 g6
    go_wp2_with fail
    refine (HM.out _ hB2).mono ?_
    rintro e w3 ⟨rfl, hw3⟩
    clear g0 g1 g2 g3 g4 g5 g6 g7
    have hB3 := hB2.trans (hw3.mono hB2.size)
    have X3 := Lib.hid (X2.out.below hw3 (by omega))
    have R3 := Lib.hid (R2.out.below hw3 R2.out.lt)
    have hz3 : w.heap.size + 1 < w3.heap.size := R3.out.lt
    clear hw3 X2 R2
    obtain ⟨g0, g1, g2, g3, g4, g5, g6, g7⟩ := X3.out
    dsimp only at g0 g1 g2 g3 g4 g5 g6
    go_wp2_with fail
    refine (HG.out _ hB3).mono ?_
    rintro e w4 ⟨rfl, hw4⟩
    clear g0 g1 g2 g3 g4 g5 g6 g7
    have hB4 := hB3.trans (hw4.mono hB3.size)
    have X4 := Lib.hid (X3.out.below hw4 (by omega))
    have R4 := Lib.hid (R3.out.below hw4 R3.out.lt)
    have hz4 : w.heap.size + 1 < w4.heap.size := R4.out.lt
    clear hw4 X3 R3
    go_wp2_with fail
    refine (in_calls _ _ _ _).mono ?_
    rintro e w5 ⟨rfl, hw5⟩
    have hB5 : Below w.heap.size w w5 := hw5 ▸ hB4.alloc hB4.size _
    have X5 := Lib.hid (show Boxed w5 w.heap.size ⟨age, rest, girth, f0, f1, f2, heal⟩ (some ⟨b, off, none⟩) n c from hw5 ▸ X4.out.below ((Below.refl _ w4).alloc (Nat.le_refl _) _) (by omega))
    have R5 := Lib.hid (show Blk w5 (w.heap.size + 1) 31 rc from hw5 ▸ R4.out.alloc _)
    have G5 := Lib.hid (show Blk w5 w4.heap.size 41 #[.int .i64 lo, .int .i64 hi] from hw5 ▸ Blk.new w4 _ _)
    have hz5 : w4.heap.size < w5.heap.size := G5.out.lt
    clear hw5 X4 R4
    obtain ⟨g0, g1, g2, g3, g4, g5, g6, g7⟩ := X5.out
    dsimp only at g0 g1 g2 g3 g4 g5 g6
    have bz5 : b < w5.heap.size := by omega
    go_wp2_with (first
      | ((with_reducible refine at_load 48 (.tmp 86) ?_); go_must (refine wpList_load_mid rfl 48 (.tmp 86) rfl b (off + K * 11) rfl [.string code, .int .i64 bmin, .int .i64 bmax, .int .i64 taped, .int .i64 gmin, .int .i64 gmax, .int .i64 wmin, .int .i64 wmax, .slice sa sn sc, .slice wa wn wc, .int .i64 dead] _ (HRow.out w5 hB5) Try.underlying48 rfl size_tree ?_))
      | ((with_reducible refine at_store 48 (.tmp 17) (.tmp 87) ?_); go_must (refine wpList_store_row rfl 48 (.tmp 17) (.tmp 87) rfl w5.heap.size ([.string code, .int .i64 bmin, .int .i64 bmax, .int .i64 taped, .int .i64 gmin, .int .i64 gmax, .int .i64 wmin, .int .i64 wmax, .slice sa sn sc, .slice wa wn wc, .int .i64 dead] : List Value).toArray rfl rfl 48 #[.string ⟨#[]⟩, .int .i64 0, .int .i64 0, .int .i64 0, .int .i64 0, .int .i64 0, .int .i64 0, .int .i64 0, .slice none 0 0, .slice none 0 0, .int .i64 0] (heap_alloc_new w5 _) size_tree rfl HO.out ?_); have hB6 := below_setRow (hB5.alloc hB5.size (.cells #[.string ⟨#[]⟩, .int .i64 0, .int .i64 0, .int .i64 0, .int .i64 0, .int .i64 0, .int .i64 0, .int .i64 0, .slice none 0 0, .slice none 0 0, .int .i64 0] 48)) hB5.size ([.string code, .int .i64 bmin, .int .i64 bmax, .int .i64 taped, .int .i64 gmin, .int .i64 gmax, .int .i64 wmin, .int .i64 wmax, .slice sa sn sc, .slice wa wn wc, .int .i64 dead] : List Value).toArray; have T6 := Lib.hid (show Blk _ _ _ _ from setRow_heap (w5.alloc (.cells #[.string ⟨#[]⟩, .int .i64 0, .int .i64 0, .int .i64 0, .int .i64 0, .int .i64 0, .int .i64 0, .int .i64 0, .slice none 0 0, .slice none 0 0, .int .i64 0] 48)) w5.heap.size _ ([.string code, .int .i64 bmin, .int .i64 bmax, .int .i64 taped, .int .i64 gmin, .int .i64 gmax, .int .i64 wmin, .int .i64 wmax, .slice sa sn sc, .slice wa wn wc, .int .i64 dead] : List Value).toArray _ _ (heap_alloc_new w5 _)); have X6 := Lib.hid (Boxed.below X5.out (B := w5.heap.size) (below_setRow ((Below.refl _ w5).alloc (Nat.le_refl _) (.cells #[.string ⟨#[]⟩, .int .i64 0, .int .i64 0, .int .i64 0, .int .i64 0, .int .i64 0, .int .i64 0, .int .i64 0, .slice none 0 0, .slice none 0 0, .int .i64 0] 48)) (Nat.le_refl _) ([.string code, .int .i64 bmin, .int .i64 bmax, .int .i64 taped, .int .i64 gmin, .int .i64 gmax, .int .i64 wmin, .int .i64 wmax, .slice sa sn sc, .slice wa wn wc, .int .i64 dead] : List Value).toArray) (by omega)); have R6 := Lib.hid (Blk.below R5.out (B := w5.heap.size) (below_setRow ((Below.refl _ w5).alloc (Nat.le_refl _) (.cells #[.string ⟨#[]⟩, .int .i64 0, .int .i64 0, .int .i64 0, .int .i64 0, .int .i64 0, .int .i64 0, .int .i64 0, .slice none 0 0, .slice none 0 0, .int .i64 0] 48)) (Nat.le_refl _) ([.string code, .int .i64 bmin, .int .i64 bmax, .int .i64 taped, .int .i64 gmin, .int .i64 gmax, .int .i64 wmin, .int .i64 wmax, .slice sa sn sc, .slice wa wn wc, .int .i64 dead] : List Value).toArray) (by omega)); have G6 := Lib.hid (Blk.below G5.out (B := w5.heap.size) (below_setRow ((Below.refl _ w5).alloc (Nat.le_refl _) (.cells #[.string ⟨#[]⟩, .int .i64 0, .int .i64 0, .int .i64 0, .int .i64 0, .int .i64 0, .int .i64 0, .int .i64 0, .slice none 0 0, .slice none 0 0, .int .i64 0] 48)) (Nat.le_refl _) ([.string code, .int .i64 bmin, .int .i64 bmax, .int .i64 taped, .int .i64 gmin, .int .i64 gmax, .int .i64 wmin, .int .i64 wmax, .slice sa sn sc, .slice wa wn wc, .int .i64 dead] : List Value).toArray) (by omega)); generalize (w5.alloc (.cells #[.string ⟨#[]⟩, .int .i64 0, .int .i64 0, .int .i64 0, .int .i64 0, .int .i64 0, .int .i64 0, .int .i64 0, .slice none 0 0, .slice none 0 0, .int .i64 0] 48)).setRow w5.heap.size ([.string code, .int .i64 bmin, .int .i64 bmax, .int .i64 taped, .int .i64 gmin, .int .i64 gmax, .int .i64 wmin, .int .i64 wmax, .slice sa sn sc, .slice wa wn wc, .int .i64 dead] : List Value).toArray = w6 at hB6 T6 X6 R6 G6 ⊢; have hz6 : w5.heap.size < w6.heap.size := T6.out.lt; clear g0 g1 g2 g3 g4 g5 g6 g7; obtain ⟨g0, g1, g2, g3, g4, g5, g6, g7⟩ := X6.out; dsimp only at g0 g1 g2 g3 g4 g5 g6)
      | ((with_reducible refine at_load 31 (.tmp 9) ?_); go_must (refine wpList_load_row rfl 31 (.tmp 9) rfl (w.heap.size + 1) rfl 31 rc (0, 0) _ R6.out Try.underlying31 rfl HZ.out ?_))
      | ((with_reducible refine at_load 48 (.tmp 17) ?_); go_must (refine wpList_load_row rfl 48 (.tmp 17) rfl w5.heap.size rfl 48 #[.string code, .int .i64 bmin, .int .i64 bmax, .int .i64 taped, .int .i64 gmin, .int .i64 gmax, .int .i64 wmin, .int .i64 wmax, .slice sa sn sc, .slice wa wn wc, .int .i64 dead] (0, 0) _ T6.out Try.underlying48 rfl size_tree ?_))
      | (go_at_call 14; refine (in_calls _ _ _ _).mono ?_; rintro e w' ⟨rfl, rfl⟩))
    refine (HR.out _ hB6).mono ?_
    rintro e w7 ⟨gi, rfl, hlo, hhi, hw7⟩
    clear g0 g1 g2 g3 g4 g5 g6 g7
    have hB7 := hB6.trans (hw7.mono hB6.size)
    have X7 := Lib.hid (X6.out.below hw7 (by omega))
    have R7 := Lib.hid (R6.out.below hw7 R6.out.lt)
    have T7 := Lib.hid (T6.out.below hw7 T6.out.lt)
    have G7 := Lib.hid (G6.out.below hw7 G6.out.lt)
    clear hw7 X6 R6 T6 G6
    obtain ⟨g0, g1, g2, g3, g4, g5, g6, g7⟩ := X7.out
    dsimp only at g0 g1 g2 g3 g4 g5 g6
    go_wp2_with (first
      | ((with_reducible refine at_load 31 (.tmp 9) ?_); go_must (refine wpList_load_row rfl 31 (.tmp 9) rfl (w.heap.size + 1) rfl 31 rc (0, 0) _ R7.out Try.underlying31 rfl HZ.out ?_))
      | ((with_reducible refine at_load 48 (.tmp 17) ?_); go_must (refine wpList_load_row rfl 48 (.tmp 17) rfl w5.heap.size rfl 48 #[.string code, .int .i64 bmin, .int .i64 bmax, .int .i64 taped, .int .i64 gmin, .int .i64 gmax, .int .i64 wmin, .int .i64 wmax, .slice sa sn sc, .slice wa wn wc, .int .i64 dead] (0, 0) _ T7.out Try.underlying48 rfl size_tree ?_)))
    refine (HK.out _ hB7).mono ?_
    rintro e w8 ⟨kb, rfl, hkb, hw8⟩
    clear g0 g1 g2 g3 g4 g5 g6 g7
    have hB8 := hB7.trans (hw8.mono hB7.size)
    have G8 := Lib.hid (G7.out.below hw8 G7.out.lt)
    clear hw8 X7 R7 T7 G7
    have c0 : w8.cell? ⟨w4.heap.size, 0, none⟩ = some (.int .i64 lo) := G8.out.cell 0
    have c1 : w8.cell? ⟨w4.heap.size, 1, none⟩ = some (.int .i64 hi) := G8.out.cell 1
    have d1 : decide (gi < lo) = false := decide_eq_false (by omega)
    have d2 : decide (hi < gi) = false := decide_eq_false (by omega)
    have d3 : ¬ gi < lo := by omega
    have d4 : ¬ hi < gi := by omega
    obtain rfl : kb = true := hkb
    go_wp2_with (go_at_call 11; refine (grows_calls _).mono ?_; rintro e w9 ⟨rfl, hw9⟩)
    all_goals
      go_ret
      exact ⟨rfl, hB8.trans (hw9.mono hB8.size)⟩
  · go_wp2_with fail
    refine (grows_calls _).mono ?_
    rintro e w2 ⟨rfl, hw2⟩
    go_wp2
    go_ret
    exact ⟨rfl, hB1.trans (hw2.mono hB1.size)⟩

set_option maxRecDepth 100000 in
set_option maxHeartbeats 8000000 in
theorem true_two (age rest girth f0 f1 f2 heal : Int) (b off n c K : Nat) (code : ByteArray) (bmin bmax taped gmin gmax wmin wmax : Int) (sa : Option Addr) (sn sc : Nat) (wa : Option Addr) (wn wc : Nat) (dead : Int) (which year height lo hi : Int) (r : Int) (hrb : (r == 0) = false) (rc : Array Value) (w : World) (hsz : rc.size = 66)
    (hw0 : 0 ≤ which) (hw1' : which ≤ 255) (hKe : which % (n : Int) = (K : Int)) (hKn : K < n) (hb : b < w.heap.size) (iy : inB year 0 300 = true) (ih : inB height 1 15000 = true)
    (hRow : ∀ W, Below w.heap.size w W → W.rangeAt b (off + K * 11) [.string code, .int .i64 bmin, .int .i64 bmax, .int .i64 taped, .int .i64 gmin, .int .i64 gmax, .int .i64 wmin, .int .i64 wmax, .slice sa sn sc, .slice wa wn wc, .int .i64 dead])
    (hGreat : ∀ W, Below w.heap.size w W → Calls Try.prog 9 #[.agg #[.int .i64 age, .int .i64 rest, .int .i64 girth, .int .i64 f0, .int .i64 f1, .int .i64 f2, .int .i64 heal, .slice (some ⟨b, off, none⟩) n c]] W (SomeBool W))
    (hCheck : ∀ W, Below w.heap.size w W → Calls Try.prog 10 #[.agg #[.int .i64 age, .int .i64 rest, .int .i64 girth, .int .i64 f0, .int .i64 f1, .int .i64 f2, .int .i64 heal, .slice (some ⟨b, off, none⟩) n c]] W fun e w' => e = .returned (.int .i64 0) ∧ Below W.heap.size W w')
    (hM : ∀ W, Below w.heap.size w W → Calls Try.prog 12 #[.agg #[.int .i64 age, .int .i64 rest, .int .i64 girth, .int .i64 f0, .int .i64 f1, .int .i64 f2, .int .i64 heal, .slice (some ⟨b, off, none⟩) n c], .int .i64 K, .int .i64 year, .int .i64 height] W fun e' w' => e' = .returned (.tuple #[.int .i64 2, .int .i64 r, .int .i64 0]) ∧ Below W.heap.size W w')
    (hG : ∀ W, Below w.heap.size w W → Calls Try.prog 13 #[.agg #[.int .i64 age, .int .i64 rest, .int .i64 girth, .int .i64 f0, .int .i64 f1, .int .i64 f2, .int .i64 heal, .slice (some ⟨b, off, none⟩) n c], .int .i64 K, .int .i64 year] W fun e' w' => e' = .returned (.tuple #[.agg #[.int .i64 lo, .int .i64 hi], .int .i64 0]) ∧ Below W.heap.size W w')
    (hR : ∀ W, Below w.heap.size w W → Calls Try.prog 15 #[.agg rc, .agg #[.string code, .int .i64 bmin, .int .i64 bmax, .int .i64 taped, .int .i64 gmin, .int .i64 gmax, .int .i64 wmin, .int .i64 wmax, .slice sa sn sc, .slice wa wn wc, .int .i64 dead], .int .i64 year] W (SomeBetween lo hi W))
    (hK : ∀ W, Below w.heap.size w W → Calls Try.prog 16 #[.agg rc, .agg #[.int .i64 age, .int .i64 rest, .int .i64 girth, .int .i64 f0, .int .i64 f1, .int .i64 f2, .int .i64 heal], .agg #[.string code, .int .i64 bmin, .int .i64 bmax, .int .i64 taped, .int .i64 gmin, .int .i64 gmax, .int .i64 wmin, .int .i64 wmax, .slice sa sn sc, .slice wa wn wc, .int .i64 dead], .int .i64 year, .int .i64 height] W (BoolIs (fun b => b = false) W)) :
    Calls Try.prog 3 #[.agg #[.int .i64 age, .int .i64 rest, .int .i64 girth, .int .i64 f0, .int .i64 f1, .int .i64 f2, .int .i64 heal, .slice (some ⟨b, off, none⟩) n c], .int .u8 which, .int .i64 year, .int .i64 height, .agg rc] w fun e w' => e = .returned (.bool true) ∧ Below w.heap.size w w' := by
  have HGreat := Lib.hid hGreat; clear hGreat
  have HCheck := Lib.hid hCheck; clear hCheck
  have HM := Lib.hid hM; clear hM
  have HG := Lib.hid hG; clear hG
  have HR := Lib.hid hR; clear hR
  have HK := Lib.hid hK; clear hK
  have HRow := Lib.hid hRow; clear hRow
  have HO := Lib.hid (show ([.string code, .int .i64 bmin, .int .i64 bmax, .int .i64 taped, .int .i64 gmin, .int .i64 gmax, .int .i64 wmin, .int .i64 wmax, .slice sa sn sc, .slice wa wn wc, .int .i64 dead] : List Value).toArray.all (·.oneCell') = true from by simp [Value.oneCell'])
  have HZ := Lib.hid (show (Try.prog.info? 31).map (·.size) = some rc.size from by rw [hsz]; exact size_real)
  clear hsz
  have hB0 := Lib.hid (show Below w.heap.size w ((w.alloc (.cells #[.int .i64 age, .int .i64 rest, .int .i64 girth, .int .i64 f0, .int .i64 f1, .int .i64 f2, .int .i64 heal, .slice (some ⟨b, off, none⟩) n c] 27)).alloc (.cells rc 31)) from ((Below.refl _ _).alloc (Nat.le_refl _) _).alloc (by rw [World.size_alloc]; omega) _)
  have K0 := Lib.hid (show Boxed ((w.alloc (.cells #[.int .i64 age, .int .i64 rest, .int .i64 girth, .int .i64 f0, .int .i64 f1, .int .i64 f2, .int .i64 heal, .slice (some ⟨b, off, none⟩) n c] 27)).alloc (.cells rc 31)) w.heap.size ⟨age, rest, girth, f0, f1, f2, heal⟩ (some ⟨b, off, none⟩) n c from Boxed.of ((Blk.new w 27 #[.int .i64 age, .int .i64 rest, .int .i64 girth, .int .i64 f0, .int .i64 f1, .int .i64 f2, .int .i64 heal, .slice (some ⟨b, off, none⟩) n c]).alloc _))
  have R0 := Lib.hid (show Blk ((w.alloc (.cells #[.int .i64 age, .int .i64 rest, .int .i64 girth, .int .i64 f0, .int .i64 f1, .int .i64 f2, .int .i64 heal, .slice (some ⟨b, off, none⟩) n c] 27)).alloc (.cells rc 31)) (w.heap.size + 1) 31 rc from by have := Blk.new (w.alloc (.cells #[.int .i64 age, .int .i64 rest, .int .i64 girth, .int .i64 f0, .int .i64 f1, .int .i64 f2, .int .i64 heal, .slice (some ⟨b, off, none⟩) n c] 27)) 31 rc; rwa [World.size_alloc] at this)
  have hn1 : (0 : Int) < (n : Int) := by omega
  have hnb : ((n : Int) == 0) = false := by simp; omega
  have hKn' : (K : Int) < (n : Int) := by omega
  go_enter Try.func3, Try.ntmps3
  go_wp2_with fail
  refine (HGreat.out _ hB0.out).mono ?_
  rintro e w1 ⟨b1, rfl, hw1⟩
  have hB1 := hB0.out.trans (hw1.mono hB0.out.size)
  have X1 := Lib.hid (K0.out.below hw1 (by rw [World.size_alloc, World.size_alloc]; omega))
  have R1 := Lib.hid (R0.out.below hw1 R0.out.lt)
  have hz1 : w.heap.size + 1 < w1.heap.size := R1.out.lt
  clear K0 hB0 hw1 R0
  cases b1
  · obtain ⟨g0, g1, g2, g3, g4, g5, g6, g7⟩ := X1.out
    dsimp only at g0 g1 g2 g3 g4 g5 g6
    go_wp2_with fail
    refine (HCheck.out _ hB1).mono ?_
    rintro e w2 ⟨rfl, hw2⟩
    clear g0 g1 g2 g3 g4 g5 g6 g7
    have hB2 := hB1.trans (hw2.mono hB1.size)
    have X2 := Lib.hid (X1.out.below hw2 (by omega))
    have R2 := Lib.hid (R1.out.below hw2 R1.out.lt)
    have hz2 : w.heap.size + 1 < w2.heap.size := R2.out.lt
    clear hw2 X1 R1
    obtain ⟨g0, g1, g2, g3, g4, g5, g6, g7⟩ := X2.out
    dsimp only at g0 g1 g2 g3 g4 g5 g6
    go_wp2_with fail
    refine (HM.out _ hB2).mono ?_
    rintro e w3 ⟨rfl, hw3⟩
    clear g0 g1 g2 g3 g4 g5 g6 g7
    have hB3 := hB2.trans (hw3.mono hB2.size)
    have X3 := Lib.hid (X2.out.below hw3 (by omega))
    have R3 := Lib.hid (R2.out.below hw3 R2.out.lt)
    have hz3 : w.heap.size + 1 < w3.heap.size := R3.out.lt
    clear hw3 X2 R2
    obtain ⟨g0, g1, g2, g3, g4, g5, g6, g7⟩ := X3.out
    dsimp only at g0 g1 g2 g3 g4 g5 g6
    go_wp2_with fail
    refine (HG.out _ hB3).mono ?_
    rintro e w4 ⟨rfl, hw4⟩
    clear g0 g1 g2 g3 g4 g5 g6 g7
    have hB4 := hB3.trans (hw4.mono hB3.size)
    have X4 := Lib.hid (X3.out.below hw4 (by omega))
    have R4 := Lib.hid (R3.out.below hw4 R3.out.lt)
    have hz4 : w.heap.size + 1 < w4.heap.size := R4.out.lt
    clear hw4 X3 R3
    go_wp2_with fail
    refine (in_calls _ _ _ _).mono ?_
    rintro e w5 ⟨rfl, hw5⟩
    have hB5 : Below w.heap.size w w5 := hw5 ▸ hB4.alloc hB4.size _
    have X5 := Lib.hid (show Boxed w5 w.heap.size ⟨age, rest, girth, f0, f1, f2, heal⟩ (some ⟨b, off, none⟩) n c from hw5 ▸ X4.out.below ((Below.refl _ w4).alloc (Nat.le_refl _) _) (by omega))
    have R5 := Lib.hid (show Blk w5 (w.heap.size + 1) 31 rc from hw5 ▸ R4.out.alloc _)
    have G5 := Lib.hid (show Blk w5 w4.heap.size 41 #[.int .i64 lo, .int .i64 hi] from hw5 ▸ Blk.new w4 _ _)
    have hz5 : w4.heap.size < w5.heap.size := G5.out.lt
    clear hw5 X4 R4
    obtain ⟨g0, g1, g2, g3, g4, g5, g6, g7⟩ := X5.out
    dsimp only at g0 g1 g2 g3 g4 g5 g6
    have bz5 : b < w5.heap.size := by omega
    go_wp2_with (first
      | ((with_reducible refine at_load 48 (.tmp 86) ?_); go_must (refine wpList_load_mid rfl 48 (.tmp 86) rfl b (off + K * 11) rfl [.string code, .int .i64 bmin, .int .i64 bmax, .int .i64 taped, .int .i64 gmin, .int .i64 gmax, .int .i64 wmin, .int .i64 wmax, .slice sa sn sc, .slice wa wn wc, .int .i64 dead] _ (HRow.out w5 hB5) Try.underlying48 rfl size_tree ?_))
      | ((with_reducible refine at_store 48 (.tmp 17) (.tmp 87) ?_); go_must (refine wpList_store_row rfl 48 (.tmp 17) (.tmp 87) rfl w5.heap.size ([.string code, .int .i64 bmin, .int .i64 bmax, .int .i64 taped, .int .i64 gmin, .int .i64 gmax, .int .i64 wmin, .int .i64 wmax, .slice sa sn sc, .slice wa wn wc, .int .i64 dead] : List Value).toArray rfl rfl 48 #[.string ⟨#[]⟩, .int .i64 0, .int .i64 0, .int .i64 0, .int .i64 0, .int .i64 0, .int .i64 0, .int .i64 0, .slice none 0 0, .slice none 0 0, .int .i64 0] (heap_alloc_new w5 _) size_tree rfl HO.out ?_); have hB6 := below_setRow (hB5.alloc hB5.size (.cells #[.string ⟨#[]⟩, .int .i64 0, .int .i64 0, .int .i64 0, .int .i64 0, .int .i64 0, .int .i64 0, .int .i64 0, .slice none 0 0, .slice none 0 0, .int .i64 0] 48)) hB5.size ([.string code, .int .i64 bmin, .int .i64 bmax, .int .i64 taped, .int .i64 gmin, .int .i64 gmax, .int .i64 wmin, .int .i64 wmax, .slice sa sn sc, .slice wa wn wc, .int .i64 dead] : List Value).toArray; have T6 := Lib.hid (show Blk _ _ _ _ from setRow_heap (w5.alloc (.cells #[.string ⟨#[]⟩, .int .i64 0, .int .i64 0, .int .i64 0, .int .i64 0, .int .i64 0, .int .i64 0, .int .i64 0, .slice none 0 0, .slice none 0 0, .int .i64 0] 48)) w5.heap.size _ ([.string code, .int .i64 bmin, .int .i64 bmax, .int .i64 taped, .int .i64 gmin, .int .i64 gmax, .int .i64 wmin, .int .i64 wmax, .slice sa sn sc, .slice wa wn wc, .int .i64 dead] : List Value).toArray _ _ (heap_alloc_new w5 _)); have X6 := Lib.hid (Boxed.below X5.out (B := w5.heap.size) (below_setRow ((Below.refl _ w5).alloc (Nat.le_refl _) (.cells #[.string ⟨#[]⟩, .int .i64 0, .int .i64 0, .int .i64 0, .int .i64 0, .int .i64 0, .int .i64 0, .int .i64 0, .slice none 0 0, .slice none 0 0, .int .i64 0] 48)) (Nat.le_refl _) ([.string code, .int .i64 bmin, .int .i64 bmax, .int .i64 taped, .int .i64 gmin, .int .i64 gmax, .int .i64 wmin, .int .i64 wmax, .slice sa sn sc, .slice wa wn wc, .int .i64 dead] : List Value).toArray) (by omega)); have R6 := Lib.hid (Blk.below R5.out (B := w5.heap.size) (below_setRow ((Below.refl _ w5).alloc (Nat.le_refl _) (.cells #[.string ⟨#[]⟩, .int .i64 0, .int .i64 0, .int .i64 0, .int .i64 0, .int .i64 0, .int .i64 0, .int .i64 0, .slice none 0 0, .slice none 0 0, .int .i64 0] 48)) (Nat.le_refl _) ([.string code, .int .i64 bmin, .int .i64 bmax, .int .i64 taped, .int .i64 gmin, .int .i64 gmax, .int .i64 wmin, .int .i64 wmax, .slice sa sn sc, .slice wa wn wc, .int .i64 dead] : List Value).toArray) (by omega)); have G6 := Lib.hid (Blk.below G5.out (B := w5.heap.size) (below_setRow ((Below.refl _ w5).alloc (Nat.le_refl _) (.cells #[.string ⟨#[]⟩, .int .i64 0, .int .i64 0, .int .i64 0, .int .i64 0, .int .i64 0, .int .i64 0, .int .i64 0, .slice none 0 0, .slice none 0 0, .int .i64 0] 48)) (Nat.le_refl _) ([.string code, .int .i64 bmin, .int .i64 bmax, .int .i64 taped, .int .i64 gmin, .int .i64 gmax, .int .i64 wmin, .int .i64 wmax, .slice sa sn sc, .slice wa wn wc, .int .i64 dead] : List Value).toArray) (by omega)); generalize (w5.alloc (.cells #[.string ⟨#[]⟩, .int .i64 0, .int .i64 0, .int .i64 0, .int .i64 0, .int .i64 0, .int .i64 0, .int .i64 0, .slice none 0 0, .slice none 0 0, .int .i64 0] 48)).setRow w5.heap.size ([.string code, .int .i64 bmin, .int .i64 bmax, .int .i64 taped, .int .i64 gmin, .int .i64 gmax, .int .i64 wmin, .int .i64 wmax, .slice sa sn sc, .slice wa wn wc, .int .i64 dead] : List Value).toArray = w6 at hB6 T6 X6 R6 G6 ⊢; have hz6 : w5.heap.size < w6.heap.size := T6.out.lt; clear g0 g1 g2 g3 g4 g5 g6 g7; obtain ⟨g0, g1, g2, g3, g4, g5, g6, g7⟩ := X6.out; dsimp only at g0 g1 g2 g3 g4 g5 g6)
      | ((with_reducible refine at_load 31 (.tmp 9) ?_); go_must (refine wpList_load_row rfl 31 (.tmp 9) rfl (w.heap.size + 1) rfl 31 rc (0, 0) _ R6.out Try.underlying31 rfl HZ.out ?_))
      | ((with_reducible refine at_load 48 (.tmp 17) ?_); go_must (refine wpList_load_row rfl 48 (.tmp 17) rfl w5.heap.size rfl 48 #[.string code, .int .i64 bmin, .int .i64 bmax, .int .i64 taped, .int .i64 gmin, .int .i64 gmax, .int .i64 wmin, .int .i64 wmax, .slice sa sn sc, .slice wa wn wc, .int .i64 dead] (0, 0) _ T6.out Try.underlying48 rfl size_tree ?_))
      | (go_at_call 14; refine (in_calls _ _ _ _).mono ?_; rintro e w' ⟨rfl, rfl⟩))
    refine (HR.out _ hB6).mono ?_
    rintro e w7 ⟨gi, rfl, hlo, hhi, hw7⟩
    clear g0 g1 g2 g3 g4 g5 g6 g7
    have hB7 := hB6.trans (hw7.mono hB6.size)
    have X7 := Lib.hid (X6.out.below hw7 (by omega))
    have R7 := Lib.hid (R6.out.below hw7 R6.out.lt)
    have T7 := Lib.hid (T6.out.below hw7 T6.out.lt)
    have G7 := Lib.hid (G6.out.below hw7 G6.out.lt)
    clear hw7 X6 R6 T6 G6
    obtain ⟨g0, g1, g2, g3, g4, g5, g6, g7⟩ := X7.out
    dsimp only at g0 g1 g2 g3 g4 g5 g6
    go_wp2_with (first
      | ((with_reducible refine at_load 31 (.tmp 9) ?_); go_must (refine wpList_load_row rfl 31 (.tmp 9) rfl (w.heap.size + 1) rfl 31 rc (0, 0) _ R7.out Try.underlying31 rfl HZ.out ?_))
      | ((with_reducible refine at_load 48 (.tmp 17) ?_); go_must (refine wpList_load_row rfl 48 (.tmp 17) rfl w5.heap.size rfl 48 #[.string code, .int .i64 bmin, .int .i64 bmax, .int .i64 taped, .int .i64 gmin, .int .i64 gmax, .int .i64 wmin, .int .i64 wmax, .slice sa sn sc, .slice wa wn wc, .int .i64 dead] (0, 0) _ T7.out Try.underlying48 rfl size_tree ?_)))
    refine (HK.out _ hB7).mono ?_
    rintro e w8 ⟨kb, rfl, hkb, hw8⟩
    clear g0 g1 g2 g3 g4 g5 g6 g7
    have hB8 := hB7.trans (hw8.mono hB7.size)
    have G8 := Lib.hid (G7.out.below hw8 G7.out.lt)
    clear hw8 X7 R7 T7 G7
    have c0 : w8.cell? ⟨w4.heap.size, 0, none⟩ = some (.int .i64 lo) := G8.out.cell 0
    have c1 : w8.cell? ⟨w4.heap.size, 1, none⟩ = some (.int .i64 hi) := G8.out.cell 1
    have d1 : decide (gi < lo) = false := decide_eq_false (by omega)
    have d2 : decide (hi < gi) = false := decide_eq_false (by omega)
    have d3 : ¬ gi < lo := by omega
    have d4 : ¬ hi < gi := by omega
    obtain rfl : kb = false := hkb
    go_wp2_with (go_at_call 11; refine (grows_calls _).mono ?_; rintro e w9 ⟨rfl, hw9⟩)
    all_goals
      go_ret
      exact ⟨rfl, hB8.trans (hw9.mono hB8.size)⟩
  · go_wp2_with fail
    refine (grows_calls _).mono ?_
    rintro e w2 ⟨rfl, hw2⟩
    go_wp2
    go_ret
    exact ⟨rfl, hB1.trans (hw2.mono hB1.size)⟩

set_option maxRecDepth 100000 in
set_option maxHeartbeats 8000000 in
theorem true_open (age rest girth f0 f1 f2 heal : Int) (b off n c K : Nat) (code : ByteArray) (bmin bmax taped gmin gmax wmin wmax : Int) (sa : Option Addr) (sn sc : Nat) (wa : Option Addr) (wn wc : Nat) (dead : Int) (which year height lo hi : Int) (r : Int) (hrb : (r == 0) = false) (rc : Array Value) (w : World) (hsz : rc.size = 66)
    (hw0 : 0 ≤ which) (hw1' : which ≤ 255) (hKe : which % (n : Int) = (K : Int)) (hKn : K < n) (hb : b < w.heap.size) (iy : inB year 0 300 = true) (ih : inB height 1 15000 = true)
    (hRow : ∀ W, Below w.heap.size w W → W.rangeAt b (off + K * 11) [.string code, .int .i64 bmin, .int .i64 bmax, .int .i64 taped, .int .i64 gmin, .int .i64 gmax, .int .i64 wmin, .int .i64 wmax, .slice sa sn sc, .slice wa wn wc, .int .i64 dead])
    (hGreat : ∀ W, Below w.heap.size w W → Calls Try.prog 9 #[.agg #[.int .i64 age, .int .i64 rest, .int .i64 girth, .int .i64 f0, .int .i64 f1, .int .i64 f2, .int .i64 heal, .slice (some ⟨b, off, none⟩) n c]] W (SomeBool W))
    (hCheck : ∀ W, Below w.heap.size w W → Calls Try.prog 10 #[.agg #[.int .i64 age, .int .i64 rest, .int .i64 girth, .int .i64 f0, .int .i64 f1, .int .i64 f2, .int .i64 heal, .slice (some ⟨b, off, none⟩) n c]] W fun e w' => e = .returned (.int .i64 0) ∧ Below W.heap.size W w')
    (hM : ∀ W, Below w.heap.size w W → Calls Try.prog 12 #[.agg #[.int .i64 age, .int .i64 rest, .int .i64 girth, .int .i64 f0, .int .i64 f1, .int .i64 f2, .int .i64 heal, .slice (some ⟨b, off, none⟩) n c], .int .i64 K, .int .i64 year, .int .i64 height] W fun e' w' => e' = .returned (.tuple #[.int .i64 0, .int .i64 r, .int .i64 0]) ∧ Below W.heap.size W w')
    (hG : ∀ W, Below w.heap.size w W → Calls Try.prog 13 #[.agg #[.int .i64 age, .int .i64 rest, .int .i64 girth, .int .i64 f0, .int .i64 f1, .int .i64 f2, .int .i64 heal, .slice (some ⟨b, off, none⟩) n c], .int .i64 K, .int .i64 year] W fun e' w' => e' = .returned (.tuple #[.agg #[.int .i64 lo, .int .i64 hi], .int .i64 0]) ∧ Below W.heap.size W w')
    (hR : ∀ W, Below w.heap.size w W → Calls Try.prog 15 #[.agg rc, .agg #[.string code, .int .i64 bmin, .int .i64 bmax, .int .i64 taped, .int .i64 gmin, .int .i64 gmax, .int .i64 wmin, .int .i64 wmax, .slice sa sn sc, .slice wa wn wc, .int .i64 dead], .int .i64 year] W (SomeBetween lo hi W))
    (hK : ∀ W, Below w.heap.size w W → Calls Try.prog 16 #[.agg rc, .agg #[.int .i64 age, .int .i64 rest, .int .i64 girth, .int .i64 f0, .int .i64 f1, .int .i64 f2, .int .i64 heal], .agg #[.string code, .int .i64 bmin, .int .i64 bmax, .int .i64 taped, .int .i64 gmin, .int .i64 gmax, .int .i64 wmin, .int .i64 wmax, .slice sa sn sc, .slice wa wn wc, .int .i64 dead], .int .i64 year, .int .i64 height] W (BoolIs (fun _ => True) W)) :
    Calls Try.prog 3 #[.agg #[.int .i64 age, .int .i64 rest, .int .i64 girth, .int .i64 f0, .int .i64 f1, .int .i64 f2, .int .i64 heal, .slice (some ⟨b, off, none⟩) n c], .int .u8 which, .int .i64 year, .int .i64 height, .agg rc] w fun e w' => e = .returned (.bool true) ∧ Below w.heap.size w w' := by
  have HGreat := Lib.hid hGreat; clear hGreat
  have HCheck := Lib.hid hCheck; clear hCheck
  have HM := Lib.hid hM; clear hM
  have HG := Lib.hid hG; clear hG
  have HR := Lib.hid hR; clear hR
  have HK := Lib.hid hK; clear hK
  have HRow := Lib.hid hRow; clear hRow
  have HO := Lib.hid (show ([.string code, .int .i64 bmin, .int .i64 bmax, .int .i64 taped, .int .i64 gmin, .int .i64 gmax, .int .i64 wmin, .int .i64 wmax, .slice sa sn sc, .slice wa wn wc, .int .i64 dead] : List Value).toArray.all (·.oneCell') = true from by simp [Value.oneCell'])
  have HZ := Lib.hid (show (Try.prog.info? 31).map (·.size) = some rc.size from by rw [hsz]; exact size_real)
  clear hsz
  have hB0 := Lib.hid (show Below w.heap.size w ((w.alloc (.cells #[.int .i64 age, .int .i64 rest, .int .i64 girth, .int .i64 f0, .int .i64 f1, .int .i64 f2, .int .i64 heal, .slice (some ⟨b, off, none⟩) n c] 27)).alloc (.cells rc 31)) from ((Below.refl _ _).alloc (Nat.le_refl _) _).alloc (by rw [World.size_alloc]; omega) _)
  have K0 := Lib.hid (show Boxed ((w.alloc (.cells #[.int .i64 age, .int .i64 rest, .int .i64 girth, .int .i64 f0, .int .i64 f1, .int .i64 f2, .int .i64 heal, .slice (some ⟨b, off, none⟩) n c] 27)).alloc (.cells rc 31)) w.heap.size ⟨age, rest, girth, f0, f1, f2, heal⟩ (some ⟨b, off, none⟩) n c from Boxed.of ((Blk.new w 27 #[.int .i64 age, .int .i64 rest, .int .i64 girth, .int .i64 f0, .int .i64 f1, .int .i64 f2, .int .i64 heal, .slice (some ⟨b, off, none⟩) n c]).alloc _))
  have R0 := Lib.hid (show Blk ((w.alloc (.cells #[.int .i64 age, .int .i64 rest, .int .i64 girth, .int .i64 f0, .int .i64 f1, .int .i64 f2, .int .i64 heal, .slice (some ⟨b, off, none⟩) n c] 27)).alloc (.cells rc 31)) (w.heap.size + 1) 31 rc from by have := Blk.new (w.alloc (.cells #[.int .i64 age, .int .i64 rest, .int .i64 girth, .int .i64 f0, .int .i64 f1, .int .i64 f2, .int .i64 heal, .slice (some ⟨b, off, none⟩) n c] 27)) 31 rc; rwa [World.size_alloc] at this)
  have hn1 : (0 : Int) < (n : Int) := by omega
  have hnb : ((n : Int) == 0) = false := by simp; omega
  have hKn' : (K : Int) < (n : Int) := by omega
  go_enter Try.func3, Try.ntmps3
  go_wp2_with fail
  refine (HGreat.out _ hB0.out).mono ?_
  rintro e w1 ⟨b1, rfl, hw1⟩
  have hB1 := hB0.out.trans (hw1.mono hB0.out.size)
  have X1 := Lib.hid (K0.out.below hw1 (by rw [World.size_alloc, World.size_alloc]; omega))
  have R1 := Lib.hid (R0.out.below hw1 R0.out.lt)
  have hz1 : w.heap.size + 1 < w1.heap.size := R1.out.lt
  clear K0 hB0 hw1 R0
  cases b1
  · obtain ⟨g0, g1, g2, g3, g4, g5, g6, g7⟩ := X1.out
    dsimp only at g0 g1 g2 g3 g4 g5 g6
    go_wp2_with fail
    refine (HCheck.out _ hB1).mono ?_
    rintro e w2 ⟨rfl, hw2⟩
    clear g0 g1 g2 g3 g4 g5 g6 g7
    have hB2 := hB1.trans (hw2.mono hB1.size)
    have X2 := Lib.hid (X1.out.below hw2 (by omega))
    have R2 := Lib.hid (R1.out.below hw2 R1.out.lt)
    have hz2 : w.heap.size + 1 < w2.heap.size := R2.out.lt
    clear hw2 X1 R1
    obtain ⟨g0, g1, g2, g3, g4, g5, g6, g7⟩ := X2.out
    dsimp only at g0 g1 g2 g3 g4 g5 g6
    go_wp2_with fail
    refine (HM.out _ hB2).mono ?_
    rintro e w3 ⟨rfl, hw3⟩
    clear g0 g1 g2 g3 g4 g5 g6 g7
    have hB3 := hB2.trans (hw3.mono hB2.size)
    have X3 := Lib.hid (X2.out.below hw3 (by omega))
    have R3 := Lib.hid (R2.out.below hw3 R2.out.lt)
    have hz3 : w.heap.size + 1 < w3.heap.size := R3.out.lt
    clear hw3 X2 R2
    obtain ⟨g0, g1, g2, g3, g4, g5, g6, g7⟩ := X3.out
    dsimp only at g0 g1 g2 g3 g4 g5 g6
    go_wp2_with fail
    refine (HG.out _ hB3).mono ?_
    rintro e w4 ⟨rfl, hw4⟩
    clear g0 g1 g2 g3 g4 g5 g6 g7
    have hB4 := hB3.trans (hw4.mono hB3.size)
    have X4 := Lib.hid (X3.out.below hw4 (by omega))
    have R4 := Lib.hid (R3.out.below hw4 R3.out.lt)
    have hz4 : w.heap.size + 1 < w4.heap.size := R4.out.lt
    clear hw4 X3 R3
    go_wp2_with fail
    refine (in_calls _ _ _ _).mono ?_
    rintro e w5 ⟨rfl, hw5⟩
    have hB5 : Below w.heap.size w w5 := hw5 ▸ hB4.alloc hB4.size _
    have X5 := Lib.hid (show Boxed w5 w.heap.size ⟨age, rest, girth, f0, f1, f2, heal⟩ (some ⟨b, off, none⟩) n c from hw5 ▸ X4.out.below ((Below.refl _ w4).alloc (Nat.le_refl _) _) (by omega))
    have R5 := Lib.hid (show Blk w5 (w.heap.size + 1) 31 rc from hw5 ▸ R4.out.alloc _)
    have G5 := Lib.hid (show Blk w5 w4.heap.size 41 #[.int .i64 lo, .int .i64 hi] from hw5 ▸ Blk.new w4 _ _)
    have hz5 : w4.heap.size < w5.heap.size := G5.out.lt
    clear hw5 X4 R4
    obtain ⟨g0, g1, g2, g3, g4, g5, g6, g7⟩ := X5.out
    dsimp only at g0 g1 g2 g3 g4 g5 g6
    have bz5 : b < w5.heap.size := by omega
    go_wp2_with (first
      | ((with_reducible refine at_load 48 (.tmp 86) ?_); go_must (refine wpList_load_mid rfl 48 (.tmp 86) rfl b (off + K * 11) rfl [.string code, .int .i64 bmin, .int .i64 bmax, .int .i64 taped, .int .i64 gmin, .int .i64 gmax, .int .i64 wmin, .int .i64 wmax, .slice sa sn sc, .slice wa wn wc, .int .i64 dead] _ (HRow.out w5 hB5) Try.underlying48 rfl size_tree ?_))
      | ((with_reducible refine at_store 48 (.tmp 17) (.tmp 87) ?_); go_must (refine wpList_store_row rfl 48 (.tmp 17) (.tmp 87) rfl w5.heap.size ([.string code, .int .i64 bmin, .int .i64 bmax, .int .i64 taped, .int .i64 gmin, .int .i64 gmax, .int .i64 wmin, .int .i64 wmax, .slice sa sn sc, .slice wa wn wc, .int .i64 dead] : List Value).toArray rfl rfl 48 #[.string ⟨#[]⟩, .int .i64 0, .int .i64 0, .int .i64 0, .int .i64 0, .int .i64 0, .int .i64 0, .int .i64 0, .slice none 0 0, .slice none 0 0, .int .i64 0] (heap_alloc_new w5 _) size_tree rfl HO.out ?_); have hB6 := below_setRow (hB5.alloc hB5.size (.cells #[.string ⟨#[]⟩, .int .i64 0, .int .i64 0, .int .i64 0, .int .i64 0, .int .i64 0, .int .i64 0, .int .i64 0, .slice none 0 0, .slice none 0 0, .int .i64 0] 48)) hB5.size ([.string code, .int .i64 bmin, .int .i64 bmax, .int .i64 taped, .int .i64 gmin, .int .i64 gmax, .int .i64 wmin, .int .i64 wmax, .slice sa sn sc, .slice wa wn wc, .int .i64 dead] : List Value).toArray; have T6 := Lib.hid (show Blk _ _ _ _ from setRow_heap (w5.alloc (.cells #[.string ⟨#[]⟩, .int .i64 0, .int .i64 0, .int .i64 0, .int .i64 0, .int .i64 0, .int .i64 0, .int .i64 0, .slice none 0 0, .slice none 0 0, .int .i64 0] 48)) w5.heap.size _ ([.string code, .int .i64 bmin, .int .i64 bmax, .int .i64 taped, .int .i64 gmin, .int .i64 gmax, .int .i64 wmin, .int .i64 wmax, .slice sa sn sc, .slice wa wn wc, .int .i64 dead] : List Value).toArray _ _ (heap_alloc_new w5 _)); have X6 := Lib.hid (Boxed.below X5.out (B := w5.heap.size) (below_setRow ((Below.refl _ w5).alloc (Nat.le_refl _) (.cells #[.string ⟨#[]⟩, .int .i64 0, .int .i64 0, .int .i64 0, .int .i64 0, .int .i64 0, .int .i64 0, .int .i64 0, .slice none 0 0, .slice none 0 0, .int .i64 0] 48)) (Nat.le_refl _) ([.string code, .int .i64 bmin, .int .i64 bmax, .int .i64 taped, .int .i64 gmin, .int .i64 gmax, .int .i64 wmin, .int .i64 wmax, .slice sa sn sc, .slice wa wn wc, .int .i64 dead] : List Value).toArray) (by omega)); have R6 := Lib.hid (Blk.below R5.out (B := w5.heap.size) (below_setRow ((Below.refl _ w5).alloc (Nat.le_refl _) (.cells #[.string ⟨#[]⟩, .int .i64 0, .int .i64 0, .int .i64 0, .int .i64 0, .int .i64 0, .int .i64 0, .int .i64 0, .slice none 0 0, .slice none 0 0, .int .i64 0] 48)) (Nat.le_refl _) ([.string code, .int .i64 bmin, .int .i64 bmax, .int .i64 taped, .int .i64 gmin, .int .i64 gmax, .int .i64 wmin, .int .i64 wmax, .slice sa sn sc, .slice wa wn wc, .int .i64 dead] : List Value).toArray) (by omega)); have G6 := Lib.hid (Blk.below G5.out (B := w5.heap.size) (below_setRow ((Below.refl _ w5).alloc (Nat.le_refl _) (.cells #[.string ⟨#[]⟩, .int .i64 0, .int .i64 0, .int .i64 0, .int .i64 0, .int .i64 0, .int .i64 0, .int .i64 0, .slice none 0 0, .slice none 0 0, .int .i64 0] 48)) (Nat.le_refl _) ([.string code, .int .i64 bmin, .int .i64 bmax, .int .i64 taped, .int .i64 gmin, .int .i64 gmax, .int .i64 wmin, .int .i64 wmax, .slice sa sn sc, .slice wa wn wc, .int .i64 dead] : List Value).toArray) (by omega)); generalize (w5.alloc (.cells #[.string ⟨#[]⟩, .int .i64 0, .int .i64 0, .int .i64 0, .int .i64 0, .int .i64 0, .int .i64 0, .int .i64 0, .slice none 0 0, .slice none 0 0, .int .i64 0] 48)).setRow w5.heap.size ([.string code, .int .i64 bmin, .int .i64 bmax, .int .i64 taped, .int .i64 gmin, .int .i64 gmax, .int .i64 wmin, .int .i64 wmax, .slice sa sn sc, .slice wa wn wc, .int .i64 dead] : List Value).toArray = w6 at hB6 T6 X6 R6 G6 ⊢; have hz6 : w5.heap.size < w6.heap.size := T6.out.lt; clear g0 g1 g2 g3 g4 g5 g6 g7; obtain ⟨g0, g1, g2, g3, g4, g5, g6, g7⟩ := X6.out; dsimp only at g0 g1 g2 g3 g4 g5 g6)
      | ((with_reducible refine at_load 31 (.tmp 9) ?_); go_must (refine wpList_load_row rfl 31 (.tmp 9) rfl (w.heap.size + 1) rfl 31 rc (0, 0) _ R6.out Try.underlying31 rfl HZ.out ?_))
      | ((with_reducible refine at_load 48 (.tmp 17) ?_); go_must (refine wpList_load_row rfl 48 (.tmp 17) rfl w5.heap.size rfl 48 #[.string code, .int .i64 bmin, .int .i64 bmax, .int .i64 taped, .int .i64 gmin, .int .i64 gmax, .int .i64 wmin, .int .i64 wmax, .slice sa sn sc, .slice wa wn wc, .int .i64 dead] (0, 0) _ T6.out Try.underlying48 rfl size_tree ?_))
      | (go_at_call 14; refine (in_calls _ _ _ _).mono ?_; rintro e w' ⟨rfl, rfl⟩))
    refine (HR.out _ hB6).mono ?_
    rintro e w7 ⟨gi, rfl, hlo, hhi, hw7⟩
    clear g0 g1 g2 g3 g4 g5 g6 g7
    have hB7 := hB6.trans (hw7.mono hB6.size)
    have X7 := Lib.hid (X6.out.below hw7 (by omega))
    have R7 := Lib.hid (R6.out.below hw7 R6.out.lt)
    have T7 := Lib.hid (T6.out.below hw7 T6.out.lt)
    have G7 := Lib.hid (G6.out.below hw7 G6.out.lt)
    clear hw7 X6 R6 T6 G6
    obtain ⟨g0, g1, g2, g3, g4, g5, g6, g7⟩ := X7.out
    dsimp only at g0 g1 g2 g3 g4 g5 g6
    go_wp2_with (first
      | ((with_reducible refine at_load 31 (.tmp 9) ?_); go_must (refine wpList_load_row rfl 31 (.tmp 9) rfl (w.heap.size + 1) rfl 31 rc (0, 0) _ R7.out Try.underlying31 rfl HZ.out ?_))
      | ((with_reducible refine at_load 48 (.tmp 17) ?_); go_must (refine wpList_load_row rfl 48 (.tmp 17) rfl w5.heap.size rfl 48 #[.string code, .int .i64 bmin, .int .i64 bmax, .int .i64 taped, .int .i64 gmin, .int .i64 gmax, .int .i64 wmin, .int .i64 wmax, .slice sa sn sc, .slice wa wn wc, .int .i64 dead] (0, 0) _ T7.out Try.underlying48 rfl size_tree ?_)))
    refine (HK.out _ hB7).mono ?_
    rintro e w8 ⟨kb, rfl, hkb, hw8⟩
    clear g0 g1 g2 g3 g4 g5 g6 g7
    have hB8 := hB7.trans (hw8.mono hB7.size)
    have G8 := Lib.hid (G7.out.below hw8 G7.out.lt)
    clear hw8 X7 R7 T7 G7
    have c0 : w8.cell? ⟨w4.heap.size, 0, none⟩ = some (.int .i64 lo) := G8.out.cell 0
    have c1 : w8.cell? ⟨w4.heap.size, 1, none⟩ = some (.int .i64 hi) := G8.out.cell 1
    have d1 : decide (gi < lo) = false := decide_eq_false (by omega)
    have d2 : decide (hi < gi) = false := decide_eq_false (by omega)
    have d3 : ¬ gi < lo := by omega
    have d4 : ¬ hi < gi := by omega
    skip
    go_wp2_with (go_at_call 11; refine (grows_calls _).mono ?_; rintro e w9 ⟨rfl, hw9⟩)
    all_goals
      go_ret
      exact ⟨rfl, hB8.trans (hw9.mono hB8.size)⟩
  · go_wp2_with fail
    refine (grows_calls _).mono ?_
    rintro e w2 ⟨rfl, hw2⟩
    go_wp2
    go_ret
    exact ⟨rfl, hB1.trans (hw2.mono hB1.size)⟩

set_option maxRecDepth 100000 in
set_option maxHeartbeats 8000000 in
theorem true_year (age rest girth f0 f1 f2 heal : Int) (b off n c K : Nat) (code : ByteArray) (bmin bmax taped gmin gmax wmin wmax : Int) (sa : Option Addr) (sn sc : Nat) (wa : Option Addr) (wn wc : Nat) (dead : Int) (which year height lo hi ge : Int) (rc : Array Value) (w : World) (hsz : rc.size = 66)
    (hw0 : 0 ≤ which) (hw1' : which ≤ 255) (hKe : which % (n : Int) = (K : Int)) (hKn : K < n) (iy : inB year 0 300 = false)
    (hRow : ∀ W, Below w.heap.size w W → W.rangeAt b (off + K * 11) [.string code, .int .i64 bmin, .int .i64 bmax, .int .i64 taped, .int .i64 gmin, .int .i64 gmax, .int .i64 wmin, .int .i64 wmax, .slice sa sn sc, .slice wa wn wc, .int .i64 dead])
    (hGreat : ∀ W, Below w.heap.size w W → Calls Try.prog 9 #[.agg #[.int .i64 age, .int .i64 rest, .int .i64 girth, .int .i64 f0, .int .i64 f1, .int .i64 f2, .int .i64 heal, .slice (some ⟨b, off, none⟩) n c]] W (SomeBool W))
    (hCheck : ∀ W, Below w.heap.size w W → Calls Try.prog 10 #[.agg #[.int .i64 age, .int .i64 rest, .int .i64 girth, .int .i64 f0, .int .i64 f1, .int .i64 f2, .int .i64 heal, .slice (some ⟨b, off, none⟩) n c]] W fun e w' => e = .returned (.int .i64 0) ∧ Below W.heap.size W w')
    (hM : ∀ W, Below w.heap.size w W → Calls Try.prog 12 #[.agg #[.int .i64 age, .int .i64 rest, .int .i64 girth, .int .i64 f0, .int .i64 f1, .int .i64 f2, .int .i64 heal, .slice (some ⟨b, off, none⟩) n c], .int .i64 K, .int .i64 year, .int .i64 height] W fun e' w' => e' = .returned (.tuple #[.int .i64 0, .int .i64 0, .int .i64 1]) ∧ Below W.heap.size W w')
    (hG : ∀ W, Below w.heap.size w W → Calls Try.prog 13 #[.agg #[.int .i64 age, .int .i64 rest, .int .i64 girth, .int .i64 f0, .int .i64 f1, .int .i64 f2, .int .i64 heal, .slice (some ⟨b, off, none⟩) n c], .int .i64 K, .int .i64 year] W fun e' w' => e' = .returned (.tuple #[.agg #[.int .i64 lo, .int .i64 hi], .int .i64 ge]) ∧ Below W.heap.size W w') :
    Calls Try.prog 3 #[.agg #[.int .i64 age, .int .i64 rest, .int .i64 girth, .int .i64 f0, .int .i64 f1, .int .i64 f2, .int .i64 heal, .slice (some ⟨b, off, none⟩) n c], .int .u8 which, .int .i64 year, .int .i64 height, .agg rc] w fun e w' => e = .returned (.bool true) ∧ Below w.heap.size w w' := by
  have HGreat := Lib.hid hGreat; clear hGreat
  have HCheck := Lib.hid hCheck; clear hCheck
  have HM := Lib.hid hM; clear hM
  have HG := Lib.hid hG; clear hG
  have HRow := Lib.hid hRow; clear hRow
  have HO := Lib.hid (show ([.string code, .int .i64 bmin, .int .i64 bmax, .int .i64 taped, .int .i64 gmin, .int .i64 gmax, .int .i64 wmin, .int .i64 wmax, .slice sa sn sc, .slice wa wn wc, .int .i64 dead] : List Value).toArray.all (·.oneCell') = true from by simp [Value.oneCell'])
  have HZ := Lib.hid (show (Try.prog.info? 31).map (·.size) = some rc.size from by rw [hsz]; exact size_real)
  clear hsz
  have hB0 := Lib.hid (show Below w.heap.size w ((w.alloc (.cells #[.int .i64 age, .int .i64 rest, .int .i64 girth, .int .i64 f0, .int .i64 f1, .int .i64 f2, .int .i64 heal, .slice (some ⟨b, off, none⟩) n c] 27)).alloc (.cells rc 31)) from ((Below.refl _ _).alloc (Nat.le_refl _) _).alloc (by rw [World.size_alloc]; omega) _)
  have K0 := Lib.hid (show Boxed ((w.alloc (.cells #[.int .i64 age, .int .i64 rest, .int .i64 girth, .int .i64 f0, .int .i64 f1, .int .i64 f2, .int .i64 heal, .slice (some ⟨b, off, none⟩) n c] 27)).alloc (.cells rc 31)) w.heap.size ⟨age, rest, girth, f0, f1, f2, heal⟩ (some ⟨b, off, none⟩) n c from Boxed.of ((Blk.new w 27 #[.int .i64 age, .int .i64 rest, .int .i64 girth, .int .i64 f0, .int .i64 f1, .int .i64 f2, .int .i64 heal, .slice (some ⟨b, off, none⟩) n c]).alloc _))
  have R0 := Lib.hid (show Blk ((w.alloc (.cells #[.int .i64 age, .int .i64 rest, .int .i64 girth, .int .i64 f0, .int .i64 f1, .int .i64 f2, .int .i64 heal, .slice (some ⟨b, off, none⟩) n c] 27)).alloc (.cells rc 31)) (w.heap.size + 1) 31 rc from by have := Blk.new (w.alloc (.cells #[.int .i64 age, .int .i64 rest, .int .i64 girth, .int .i64 f0, .int .i64 f1, .int .i64 f2, .int .i64 heal, .slice (some ⟨b, off, none⟩) n c] 27)) 31 rc; rwa [World.size_alloc] at this)
  have hn1 : (0 : Int) < (n : Int) := by omega
  have hnb : ((n : Int) == 0) = false := by simp; omega
  have hKn' : (K : Int) < (n : Int) := by omega
  go_enter Try.func3, Try.ntmps3
  go_wp2_with fail
  refine (HGreat.out _ hB0.out).mono ?_
  rintro e w1 ⟨b1, rfl, hw1⟩
  have hB1 := hB0.out.trans (hw1.mono hB0.out.size)
  have X1 := Lib.hid (K0.out.below hw1 (by rw [World.size_alloc, World.size_alloc]; omega))
  have R1 := Lib.hid (R0.out.below hw1 R0.out.lt)
  have hz1 : w.heap.size + 1 < w1.heap.size := R1.out.lt
  clear K0 hB0 hw1 R0
  cases b1
  · obtain ⟨g0, g1, g2, g3, g4, g5, g6, g7⟩ := X1.out
    dsimp only at g0 g1 g2 g3 g4 g5 g6
    go_wp2_with fail
    refine (HCheck.out _ hB1).mono ?_
    rintro e w2 ⟨rfl, hw2⟩
    clear g0 g1 g2 g3 g4 g5 g6 g7
    have hB2 := hB1.trans (hw2.mono hB1.size)
    have X2 := Lib.hid (X1.out.below hw2 (by omega))
    have R2 := Lib.hid (R1.out.below hw2 R1.out.lt)
    have hz2 : w.heap.size + 1 < w2.heap.size := R2.out.lt
    clear hw2 X1 R1
    obtain ⟨g0, g1, g2, g3, g4, g5, g6, g7⟩ := X2.out
    dsimp only at g0 g1 g2 g3 g4 g5 g6
    go_wp2_with fail
    refine (HM.out _ hB2).mono ?_
    rintro e w3 ⟨rfl, hw3⟩
    clear g0 g1 g2 g3 g4 g5 g6 g7
    have hB3 := hB2.trans (hw3.mono hB2.size)
    have X3 := Lib.hid (X2.out.below hw3 (by omega))
    have R3 := Lib.hid (R2.out.below hw3 R2.out.lt)
    have hz3 : w.heap.size + 1 < w3.heap.size := R3.out.lt
    clear hw3 X2 R2
    obtain ⟨g0, g1, g2, g3, g4, g5, g6, g7⟩ := X3.out
    dsimp only at g0 g1 g2 g3 g4 g5 g6
    go_wp2_with fail
    refine (HG.out _ hB3).mono ?_
    rintro e w4 ⟨rfl, hw4⟩
    clear g0 g1 g2 g3 g4 g5 g6 g7
    have hB4 := hB3.trans (hw4.mono hB3.size)
    have X4 := Lib.hid (X3.out.below hw4 (by omega))
    have R4 := Lib.hid (R3.out.below hw4 R3.out.lt)
    have hz4 : w.heap.size + 1 < w4.heap.size := R4.out.lt
    clear hw4 X3 R3
    go_wp2_with fail
    refine (in_calls _ _ _ _).mono ?_
    rintro e w5 ⟨rfl, hw5⟩
    have hB5 : Below w.heap.size w w5 := hw5 ▸ hB4.alloc hB4.size _
    clear hw5 X4 R4
    go_wp2_with (first | (go_at_call 11; refine (grows_calls _).mono ?_; rintro e w9 ⟨rfl, hw9⟩) | (go_at_call 14; refine (in_calls _ _ _ _).mono ?_; rintro e w' ⟨rfl, rfl⟩))
    go_ret
    exact ⟨rfl, hB5.trans (hw9.mono hB5.size)⟩
  · go_wp2_with fail
    refine (grows_calls _).mono ?_
    rintro e w2 ⟨rfl, hw2⟩
    go_wp2
    go_ret
    exact ⟨rfl, hB1.trans (hw2.mono hB1.size)⟩

set_option maxRecDepth 100000 in
set_option maxHeartbeats 8000000 in
theorem true_height (age rest girth f0 f1 f2 heal : Int) (b off n c K : Nat) (code : ByteArray) (bmin bmax taped gmin gmax wmin wmax : Int) (sa : Option Addr) (sn sc : Nat) (wa : Option Addr) (wn wc : Nat) (dead : Int) (which year height lo hi ge : Int) (rc : Array Value) (w : World) (hsz : rc.size = 66)
    (hw0 : 0 ≤ which) (hw1' : which ≤ 255) (hKe : which % (n : Int) = (K : Int)) (hKn : K < n) (iy : inB year 0 300 = true) (ih : inB height 1 15000 = false)
    (hRow : ∀ W, Below w.heap.size w W → W.rangeAt b (off + K * 11) [.string code, .int .i64 bmin, .int .i64 bmax, .int .i64 taped, .int .i64 gmin, .int .i64 gmax, .int .i64 wmin, .int .i64 wmax, .slice sa sn sc, .slice wa wn wc, .int .i64 dead])
    (hGreat : ∀ W, Below w.heap.size w W → Calls Try.prog 9 #[.agg #[.int .i64 age, .int .i64 rest, .int .i64 girth, .int .i64 f0, .int .i64 f1, .int .i64 f2, .int .i64 heal, .slice (some ⟨b, off, none⟩) n c]] W (SomeBool W))
    (hCheck : ∀ W, Below w.heap.size w W → Calls Try.prog 10 #[.agg #[.int .i64 age, .int .i64 rest, .int .i64 girth, .int .i64 f0, .int .i64 f1, .int .i64 f2, .int .i64 heal, .slice (some ⟨b, off, none⟩) n c]] W fun e w' => e = .returned (.int .i64 0) ∧ Below W.heap.size W w')
    (hM : ∀ W, Below w.heap.size w W → Calls Try.prog 12 #[.agg #[.int .i64 age, .int .i64 rest, .int .i64 girth, .int .i64 f0, .int .i64 f1, .int .i64 f2, .int .i64 heal, .slice (some ⟨b, off, none⟩) n c], .int .i64 K, .int .i64 year, .int .i64 height] W fun e' w' => e' = .returned (.tuple #[.int .i64 0, .int .i64 0, .int .i64 1]) ∧ Below W.heap.size W w')
    (hG : ∀ W, Below w.heap.size w W → Calls Try.prog 13 #[.agg #[.int .i64 age, .int .i64 rest, .int .i64 girth, .int .i64 f0, .int .i64 f1, .int .i64 f2, .int .i64 heal, .slice (some ⟨b, off, none⟩) n c], .int .i64 K, .int .i64 year] W fun e' w' => e' = .returned (.tuple #[.agg #[.int .i64 lo, .int .i64 hi], .int .i64 ge]) ∧ Below W.heap.size W w') :
    Calls Try.prog 3 #[.agg #[.int .i64 age, .int .i64 rest, .int .i64 girth, .int .i64 f0, .int .i64 f1, .int .i64 f2, .int .i64 heal, .slice (some ⟨b, off, none⟩) n c], .int .u8 which, .int .i64 year, .int .i64 height, .agg rc] w fun e w' => e = .returned (.bool true) ∧ Below w.heap.size w w' := by
  have HGreat := Lib.hid hGreat; clear hGreat
  have HCheck := Lib.hid hCheck; clear hCheck
  have HM := Lib.hid hM; clear hM
  have HG := Lib.hid hG; clear hG
  have HRow := Lib.hid hRow; clear hRow
  have HO := Lib.hid (show ([.string code, .int .i64 bmin, .int .i64 bmax, .int .i64 taped, .int .i64 gmin, .int .i64 gmax, .int .i64 wmin, .int .i64 wmax, .slice sa sn sc, .slice wa wn wc, .int .i64 dead] : List Value).toArray.all (·.oneCell') = true from by simp [Value.oneCell'])
  have HZ := Lib.hid (show (Try.prog.info? 31).map (·.size) = some rc.size from by rw [hsz]; exact size_real)
  clear hsz
  have hB0 := Lib.hid (show Below w.heap.size w ((w.alloc (.cells #[.int .i64 age, .int .i64 rest, .int .i64 girth, .int .i64 f0, .int .i64 f1, .int .i64 f2, .int .i64 heal, .slice (some ⟨b, off, none⟩) n c] 27)).alloc (.cells rc 31)) from ((Below.refl _ _).alloc (Nat.le_refl _) _).alloc (by rw [World.size_alloc]; omega) _)
  have K0 := Lib.hid (show Boxed ((w.alloc (.cells #[.int .i64 age, .int .i64 rest, .int .i64 girth, .int .i64 f0, .int .i64 f1, .int .i64 f2, .int .i64 heal, .slice (some ⟨b, off, none⟩) n c] 27)).alloc (.cells rc 31)) w.heap.size ⟨age, rest, girth, f0, f1, f2, heal⟩ (some ⟨b, off, none⟩) n c from Boxed.of ((Blk.new w 27 #[.int .i64 age, .int .i64 rest, .int .i64 girth, .int .i64 f0, .int .i64 f1, .int .i64 f2, .int .i64 heal, .slice (some ⟨b, off, none⟩) n c]).alloc _))
  have R0 := Lib.hid (show Blk ((w.alloc (.cells #[.int .i64 age, .int .i64 rest, .int .i64 girth, .int .i64 f0, .int .i64 f1, .int .i64 f2, .int .i64 heal, .slice (some ⟨b, off, none⟩) n c] 27)).alloc (.cells rc 31)) (w.heap.size + 1) 31 rc from by have := Blk.new (w.alloc (.cells #[.int .i64 age, .int .i64 rest, .int .i64 girth, .int .i64 f0, .int .i64 f1, .int .i64 f2, .int .i64 heal, .slice (some ⟨b, off, none⟩) n c] 27)) 31 rc; rwa [World.size_alloc] at this)
  have hn1 : (0 : Int) < (n : Int) := by omega
  have hnb : ((n : Int) == 0) = false := by simp; omega
  have hKn' : (K : Int) < (n : Int) := by omega
  go_enter Try.func3, Try.ntmps3
  go_wp2_with fail
  refine (HGreat.out _ hB0.out).mono ?_
  rintro e w1 ⟨b1, rfl, hw1⟩
  have hB1 := hB0.out.trans (hw1.mono hB0.out.size)
  have X1 := Lib.hid (K0.out.below hw1 (by rw [World.size_alloc, World.size_alloc]; omega))
  have R1 := Lib.hid (R0.out.below hw1 R0.out.lt)
  have hz1 : w.heap.size + 1 < w1.heap.size := R1.out.lt
  clear K0 hB0 hw1 R0
  cases b1
  · obtain ⟨g0, g1, g2, g3, g4, g5, g6, g7⟩ := X1.out
    dsimp only at g0 g1 g2 g3 g4 g5 g6
    go_wp2_with fail
    refine (HCheck.out _ hB1).mono ?_
    rintro e w2 ⟨rfl, hw2⟩
    clear g0 g1 g2 g3 g4 g5 g6 g7
    have hB2 := hB1.trans (hw2.mono hB1.size)
    have X2 := Lib.hid (X1.out.below hw2 (by omega))
    have R2 := Lib.hid (R1.out.below hw2 R1.out.lt)
    have hz2 : w.heap.size + 1 < w2.heap.size := R2.out.lt
    clear hw2 X1 R1
    obtain ⟨g0, g1, g2, g3, g4, g5, g6, g7⟩ := X2.out
    dsimp only at g0 g1 g2 g3 g4 g5 g6
    go_wp2_with fail
    refine (HM.out _ hB2).mono ?_
    rintro e w3 ⟨rfl, hw3⟩
    clear g0 g1 g2 g3 g4 g5 g6 g7
    have hB3 := hB2.trans (hw3.mono hB2.size)
    have X3 := Lib.hid (X2.out.below hw3 (by omega))
    have R3 := Lib.hid (R2.out.below hw3 R2.out.lt)
    have hz3 : w.heap.size + 1 < w3.heap.size := R3.out.lt
    clear hw3 X2 R2
    obtain ⟨g0, g1, g2, g3, g4, g5, g6, g7⟩ := X3.out
    dsimp only at g0 g1 g2 g3 g4 g5 g6
    go_wp2_with fail
    refine (HG.out _ hB3).mono ?_
    rintro e w4 ⟨rfl, hw4⟩
    clear g0 g1 g2 g3 g4 g5 g6 g7
    have hB4 := hB3.trans (hw4.mono hB3.size)
    have X4 := Lib.hid (X3.out.below hw4 (by omega))
    have R4 := Lib.hid (R3.out.below hw4 R3.out.lt)
    have hz4 : w.heap.size + 1 < w4.heap.size := R4.out.lt
    clear hw4 X3 R3
    go_wp2_with fail
    refine (in_calls _ _ _ _).mono ?_
    rintro e w5 ⟨rfl, hw5⟩
    have hB5 : Below w.heap.size w w5 := hw5 ▸ hB4.alloc hB4.size _
    clear hw5 X4 R4
    go_wp2_with (first | (go_at_call 11; refine (grows_calls _).mono ?_; rintro e w9 ⟨rfl, hw9⟩) | (go_at_call 14; refine (in_calls _ _ _ _).mono ?_; rintro e w' ⟨rfl, rfl⟩))
    go_ret
    exact ⟨rfl, hB5.trans (hw9.mono hB5.size)⟩
  · go_wp2_with fail
    refine (grows_calls _).mono ?_
    rintro e w2 ⟨rfl, hw2⟩
    go_wp2
    go_ret
    exact ⟨rfl, hB1.trans (hw2.mono hB1.size)⟩

set_option maxRecDepth 100000 in
set_option maxHeartbeats 8000000 in
theorem true_bad (age rest girth f0 f1 f2 heal : Int) (a : Option Addr) (n c : Nat) (which year height : Int) (rc : Array Value) (w : World) (ck : Int)
    (hbad : ck = 0 → 0 < (n : Int) → False)
    (hGreat : ∀ W, Below w.heap.size w W → Calls Try.prog 9 #[.agg #[.int .i64 age, .int .i64 rest, .int .i64 girth, .int .i64 f0, .int .i64 f1, .int .i64 f2, .int .i64 heal, .slice a n c]] W (SomeBool W))
    (hCheck : ∀ W, Below w.heap.size w W → Calls Try.prog 10 #[.agg #[.int .i64 age, .int .i64 rest, .int .i64 girth, .int .i64 f0, .int .i64 f1, .int .i64 f2, .int .i64 heal, .slice a n c]] W fun e w' => e = .returned (.int .i64 ck) ∧ Below W.heap.size W w') :
    Calls Try.prog 3 #[.agg #[.int .i64 age, .int .i64 rest, .int .i64 girth, .int .i64 f0, .int .i64 f1, .int .i64 f2, .int .i64 heal, .slice a n c], .int .u8 which, .int .i64 year, .int .i64 height, .agg rc] w fun e w' => e = .returned (.bool true) ∧ Below w.heap.size w w' := by
  have HGreat := Lib.hid hGreat; clear hGreat
  have HCheck := Lib.hid hCheck; clear hCheck
  have hB0 := Lib.hid (show Below w.heap.size w ((w.alloc (.cells #[.int .i64 age, .int .i64 rest, .int .i64 girth, .int .i64 f0, .int .i64 f1, .int .i64 f2, .int .i64 heal, .slice a n c] 27)).alloc (.cells rc 31)) from ((Below.refl _ _).alloc (Nat.le_refl _) _).alloc (by rw [World.size_alloc]; omega) _)
  have K0 := Lib.hid (show Boxed ((w.alloc (.cells #[.int .i64 age, .int .i64 rest, .int .i64 girth, .int .i64 f0, .int .i64 f1, .int .i64 f2, .int .i64 heal, .slice a n c] 27)).alloc (.cells rc 31)) w.heap.size ⟨age, rest, girth, f0, f1, f2, heal⟩ a n c from Boxed.of ((Blk.new w 27 #[.int .i64 age, .int .i64 rest, .int .i64 girth, .int .i64 f0, .int .i64 f1, .int .i64 f2, .int .i64 heal, .slice a n c]).alloc _))
  go_enter Try.func3, Try.ntmps3
  go_wp2_with fail
  refine (HGreat.out _ hB0.out).mono ?_
  rintro e w1 ⟨b, rfl, hw1⟩
  have hB1 := hB0.out.trans (hw1.mono hB0.out.size)
  have X1 := Lib.hid (K0.out.below hw1 (by rw [World.size_alloc, World.size_alloc]; omega))
  have hz1 : w.heap.size < w1.heap.size := by have := hw1.size; simp at this; omega
  clear K0 hB0 hw1
  cases b
  · obtain ⟨g0, g1, g2, g3, g4, g5, g6, g7⟩ := X1.out
    dsimp only at g0 g1 g2 g3 g4 g5 g6
    go_wp2_with fail
    refine (HCheck.out _ hB1).mono ?_
    rintro e w2 ⟨rfl, hw2⟩
    clear g0 g1 g2 g3 g4 g5 g6 g7
    have hB2 := hB1.trans (hw2.mono hB1.size)
    have X2 := Lib.hid (X1.out.below hw2 hz1)
    clear hw2 X1
    by_cases hck : ck = 0
    · subst hck
      obtain ⟨g0, g1, g2, g3, g4, g5, g6, g7⟩ := X2.out
      dsimp only at g0 g1 g2 g3 g4 g5 g6
      by_cases hn0 : n = 0
      · subst hn0
        go_wp2_with fail
        refine (grows_calls _).mono ?_
        rintro e w3 ⟨rfl, hw3⟩
        go_wp2
        go_ret
        exact ⟨rfl, hB2.trans (hw3.mono hB2.size)⟩
      · exact (hbad rfl (by omega)).elim
    · have hckb : (ck != 0) = true := by simpa using hck
      clear hck
      go_wp2_with fail
      refine (grows_calls _).mono ?_
      rintro e w3 ⟨rfl, hw3⟩
      go_wp2
      go_ret
      exact ⟨rfl, hB2.trans (hw3.mono hB2.size)⟩
  · go_wp2_with fail
    refine (grows_calls _).mono ?_
    rintro e w2 ⟨rfl, hw2⟩
    go_wp2
    go_ret
    exact ⟨rfl, hB1.trans (hw2.mono hB1.size)⟩
end Go.Proofs.Ytdpockkfmdkbhaa
