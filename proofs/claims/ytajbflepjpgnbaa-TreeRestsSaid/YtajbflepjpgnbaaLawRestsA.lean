/- TreeRests: the ways on which nothing is entered in the book. -/
import Derived.Test.YtajbflepjpgnbaaBoxed
import Derived.Test.YtajbflepjpgnbaaCopy
namespace Go.Proofs.Ytajbflepjpgnbaa
open Go.RowKit Go.Shelf

theorem size_tree : (Try.prog.info? 53).map (·.size) = some 11 := by kernel_rfl

set_option maxRecDepth 100000 in
set_option maxHeartbeats 4000000 in
theorem rests_err (age rest girth f0 f1 f2 heal : Int) (b off n c K : Nat) (code : ByteArray) (bmin bmax taped gmin gmax wmin wmax : Int) (sa : Option Addr) (sn sc : Nat) (wa : Option Addr) (wn wc : Nat) (dead : Int) (which year height soon : Int) (v r e : Int) (w : World)
    (hw0 : 0 ≤ which) (hw1' : which ≤ 255) (hKe : which % (n : Int) = (K : Int)) (hKn : K < n) (hb : b < w.heap.size)
    (hRow : ∀ W, Below w.heap.size w W → W.rangeAt b (off + K * 11) [.string code, .int .i64 bmin, .int .i64 bmax, .int .i64 taped, .int .i64 gmin, .int .i64 gmax, .int .i64 wmin, .int .i64 wmax, .slice sa sn sc, .slice wa wn wc, .int .i64 dead])
    (hGreat : ∀ W, Below w.heap.size w W → Calls Try.prog 14 #[.agg #[.int .i64 age, .int .i64 rest, .int .i64 girth, .int .i64 f0, .int .i64 f1, .int .i64 f2, .int .i64 heal, .slice (some ⟨b, off, none⟩) n c]] W (SomeBool W))
    (hCheck : ∀ W, Below w.heap.size w W → Calls Try.prog 19 #[.agg #[.int .i64 age, .int .i64 rest, .int .i64 girth, .int .i64 f0, .int .i64 f1, .int .i64 f2, .int .i64 heal, .slice (some ⟨b, off, none⟩) n c]] W fun e w' => e = .returned (.int .i64 0) ∧ Below W.heap.size W w')
    (hM : ∀ W, Below w.heap.size w W → Calls Try.prog 20 #[.agg #[.int .i64 age, .int .i64 rest, .int .i64 girth, .int .i64 f0, .int .i64 f1, .int .i64 f2, .int .i64 heal, .slice (some ⟨b, off, none⟩) n c], .int .i64 K, .int .i64 year, .int .i64 height] W fun e' w' => e' = .returned (.tuple #[.int .i64 v, .int .i64 r, .int .i64 e]) ∧ Below W.heap.size W w')
    (hx : ¬ e = 0) :
    Calls Try.prog 12 #[.agg #[.int .i64 age, .int .i64 rest, .int .i64 girth, .int .i64 f0, .int .i64 f1, .int .i64 f2, .int .i64 heal, .slice (some ⟨b, off, none⟩) n c], .int .u8 which, .int .i64 year, .int .i64 height, .int .u8 soon] w fun e w' => e = .returned (.bool true) ∧ Below w.heap.size w w' := by
  have hxb := bne_iff_ne.2 hx; clear hx
  have HGreat := Lib.hid hGreat; clear hGreat
  have HCheck := Lib.hid hCheck; clear hCheck
  have HM := Lib.hid hM; clear hM
  have HRow := Lib.hid hRow; clear hRow
  have HO := Lib.hid (show ([.string code, .int .i64 bmin, .int .i64 bmax, .int .i64 taped, .int .i64 gmin, .int .i64 gmax, .int .i64 wmin, .int .i64 wmax, .slice sa sn sc, .slice wa wn wc, .int .i64 dead] : List Value).toArray.all (·.oneCell') = true from by simp [Value.oneCell'])
  have hB0 := Lib.hid (show Below w.heap.size w (w.alloc (.cells #[.int .i64 age, .int .i64 rest, .int .i64 girth, .int .i64 f0, .int .i64 f1, .int .i64 f2, .int .i64 heal, .slice (some ⟨b, off, none⟩) n c] 27)) from (Below.refl _ _).alloc (Nat.le_refl _) _)
  have K0 := Lib.hid (boxed_new w ⟨age, rest, girth, f0, f1, f2, heal⟩ (some ⟨b, off, none⟩) n c)
  have hn1 : (0 : Int) < (n : Int) := by omega
  have hnb : ((n : Int) == 0) = false := by simp; omega
  have hKn' : (K : Int) < (n : Int) := by omega
  go_enter Try.func12, Try.ntmps12
  go_wp2_with fail
  refine (HGreat.out _ hB0.out).mono ?_
  rintro e w1 ⟨b1, rfl, hw1⟩
  have hB1 := hB0.out.trans (hw1.mono hB0.out.size)
  have X1 := Lib.hid (K0.out.below hw1 (by simp))
  have hz1 : w.heap.size < w1.heap.size := by have := hw1.size; simp at this; omega
  clear K0 hB0 hw1
  cases b1
  · obtain ⟨g0, g1, g2, g3, g4, g5, g6, g7⟩ := X1.out
    dsimp only at g0 g1 g2 g3 g4 g5 g6
    go_wp2_with fail
    refine (HCheck.out _ hB1).mono ?_
    rintro e w2 ⟨rfl, hw2⟩
    clear g0 g1 g2 g3 g4 g5 g6 g7
    have hB2 := hB1.trans (hw2.mono hB1.size)
    have hz2 : w.heap.size < w2.heap.size := Nat.lt_of_lt_of_le hz1 hw2.size
    have X2 := Lib.hid (X1.out.below hw2 hz1)
    clear hw2 X1
    obtain ⟨g0, g1, g2, g3, g4, g5, g6, g7⟩ := X2.out
    dsimp only at g0 g1 g2 g3 g4 g5 g6
    have bz2 : b < w2.heap.size := by omega
    go_wp2_with (first | ((with_reducible refine at_load 53 (.tmp 47) ?_); go_must (refine wpList_load_mid rfl 53 (.tmp 47) rfl b (off + K * 11) rfl [.string code, .int .i64 bmin, .int .i64 bmax, .int .i64 taped, .int .i64 gmin, .int .i64 gmax, .int .i64 wmin, .int .i64 wmax, .slice sa sn sc, .slice wa wn wc, .int .i64 dead] _ (HRow.out w2 hB2) Try.underlying53 rfl size_tree ?_)) | ((with_reducible refine at_store 53 (.tmp 12) (.tmp 48) ?_); go_must (refine wpList_store_row rfl 53 (.tmp 12) (.tmp 48) rfl w2.heap.size ([.string code, .int .i64 bmin, .int .i64 bmax, .int .i64 taped, .int .i64 gmin, .int .i64 gmax, .int .i64 wmin, .int .i64 wmax, .slice sa sn sc, .slice wa wn wc, .int .i64 dead] : List Value).toArray rfl rfl 53 #[.string ⟨#[]⟩, .int .i64 0, .int .i64 0, .int .i64 0, .int .i64 0, .int .i64 0, .int .i64 0, .int .i64 0, .slice none 0 0, .slice none 0 0, .int .i64 0] (heap_alloc_new w2 _) size_tree rfl HO.out ?_); have hB3 := below_setRow (hB2.alloc hB2.size (.cells #[.string ⟨#[]⟩, .int .i64 0, .int .i64 0, .int .i64 0, .int .i64 0, .int .i64 0, .int .i64 0, .int .i64 0, .slice none 0 0, .slice none 0 0, .int .i64 0] 53)) hB2.size ([.string code, .int .i64 bmin, .int .i64 bmax, .int .i64 taped, .int .i64 gmin, .int .i64 gmax, .int .i64 wmin, .int .i64 wmax, .slice sa sn sc, .slice wa wn wc, .int .i64 dead] : List Value).toArray; have HT3 := Lib.hid (show Blk _ _ _ _ from setRow_heap (w2.alloc (.cells #[.string ⟨#[]⟩, .int .i64 0, .int .i64 0, .int .i64 0, .int .i64 0, .int .i64 0, .int .i64 0, .int .i64 0, .slice none 0 0, .slice none 0 0, .int .i64 0] 53)) w2.heap.size _ ([.string code, .int .i64 bmin, .int .i64 bmax, .int .i64 taped, .int .i64 gmin, .int .i64 gmax, .int .i64 wmin, .int .i64 wmax, .slice sa sn sc, .slice wa wn wc, .int .i64 dead] : List Value).toArray _ _ (heap_alloc_new w2 _)); have X3 := Lib.hid (Boxed.below X2.out (B := w2.heap.size) (below_setRow ((Below.refl _ w2).alloc (Nat.le_refl _) (.cells #[.string ⟨#[]⟩, .int .i64 0, .int .i64 0, .int .i64 0, .int .i64 0, .int .i64 0, .int .i64 0, .int .i64 0, .slice none 0 0, .slice none 0 0, .int .i64 0] 53)) (Nat.le_refl _) ([.string code, .int .i64 bmin, .int .i64 bmax, .int .i64 taped, .int .i64 gmin, .int .i64 gmax, .int .i64 wmin, .int .i64 wmax, .slice sa sn sc, .slice wa wn wc, .int .i64 dead] : List Value).toArray) hz2); generalize (w2.alloc (.cells #[.string ⟨#[]⟩, .int .i64 0, .int .i64 0, .int .i64 0, .int .i64 0, .int .i64 0, .int .i64 0, .int .i64 0, .slice none 0 0, .slice none 0 0, .int .i64 0] 53)).setRow w2.heap.size ([.string code, .int .i64 bmin, .int .i64 bmax, .int .i64 taped, .int .i64 gmin, .int .i64 gmax, .int .i64 wmin, .int .i64 wmax, .slice sa sn sc, .slice wa wn wc, .int .i64 dead] : List Value).toArray = w3 at hB3 HT3 X3 ⊢; clear g0 g1 g2 g3 g4 g5 g6 g7; obtain ⟨g0, g1, g2, g3, g4, g5, g6, g7⟩ := X3.out; dsimp only at g0 g1 g2 g3 g4 g5 g6; have c8 : w3.cell? ⟨w2.heap.size, 8, none⟩ = some (.slice sa sn sc) := HT3.out.cell 8))
    refine (HM.out _ hB3).mono ?_
    rintro e w4 ⟨rfl, hw4⟩
    clear g0 g1 g2 g3 g4 g5 g6 g7 c8
    have hB4 := hB3.trans (hw4.mono hB3.size)
    have hT3 := HT3.out.lt
    have hz4 : w.heap.size < w4.heap.size := Nat.lt_of_lt_of_le (Nat.lt_trans hz2 hT3) hw4.size
    have X4 := Lib.hid (X3.out.below hw4 (Nat.lt_trans hz2 hT3))
    have HT4 := Lib.hid (HT3.out.below hw4 hT3)
    have hT4 : w2.heap.size < w4.heap.size := HT4.out.lt
    clear hw4 X3 HT3 hT3
    obtain ⟨g0, g1, g2, g3, g4, g5, g6, g7⟩ := X4.out
    dsimp only at g0 g1 g2 g3 g4 g5 g6
    have c8 : w4.cell? ⟨w2.heap.size, 8, none⟩ = some (.slice sa sn sc) := HT4.out.cell 8
    go_wp2_with fail
    refine (grows_calls _).mono ?_
    rintro e w5 ⟨rfl, hw5⟩
    go_wp2
    go_ret
    exact ⟨rfl, hB4.trans (hw5.mono hB4.size)⟩
  · go_wp2_with fail
    refine (grows_calls _).mono ?_
    rintro e w2 ⟨rfl, hw2⟩
    go_wp2
    go_ret
    exact ⟨rfl, hB1.trans (hw2.mono hB1.size)⟩

set_option maxRecDepth 100000 in
set_option maxHeartbeats 4000000 in
theorem rests_not (age rest girth f0 f1 f2 heal : Int) (b off n c K : Nat) (code : ByteArray) (bmin bmax taped gmin gmax wmin wmax : Int) (sa : Option Addr) (sn sc : Nat) (wa : Option Addr) (wn wc : Nat) (dead : Int) (which year height soon : Int) (v r e : Int) (w : World)
    (hw0 : 0 ≤ which) (hw1' : which ≤ 255) (hKe : which % (n : Int) = (K : Int)) (hKn : K < n) (hb : b < w.heap.size)
    (hRow : ∀ W, Below w.heap.size w W → W.rangeAt b (off + K * 11) [.string code, .int .i64 bmin, .int .i64 bmax, .int .i64 taped, .int .i64 gmin, .int .i64 gmax, .int .i64 wmin, .int .i64 wmax, .slice sa sn sc, .slice wa wn wc, .int .i64 dead])
    (hGreat : ∀ W, Below w.heap.size w W → Calls Try.prog 14 #[.agg #[.int .i64 age, .int .i64 rest, .int .i64 girth, .int .i64 f0, .int .i64 f1, .int .i64 f2, .int .i64 heal, .slice (some ⟨b, off, none⟩) n c]] W (SomeBool W))
    (hCheck : ∀ W, Below w.heap.size w W → Calls Try.prog 19 #[.agg #[.int .i64 age, .int .i64 rest, .int .i64 girth, .int .i64 f0, .int .i64 f1, .int .i64 f2, .int .i64 heal, .slice (some ⟨b, off, none⟩) n c]] W fun e w' => e = .returned (.int .i64 0) ∧ Below W.heap.size W w')
    (hM : ∀ W, Below w.heap.size w W → Calls Try.prog 20 #[.agg #[.int .i64 age, .int .i64 rest, .int .i64 girth, .int .i64 f0, .int .i64 f1, .int .i64 f2, .int .i64 heal, .slice (some ⟨b, off, none⟩) n c], .int .i64 K, .int .i64 year, .int .i64 height] W fun e' w' => e' = .returned (.tuple #[.int .i64 v, .int .i64 r, .int .i64 e]) ∧ Below W.heap.size W w')
    (he : e = 0) (hx : ¬ v = 1) :
    Calls Try.prog 12 #[.agg #[.int .i64 age, .int .i64 rest, .int .i64 girth, .int .i64 f0, .int .i64 f1, .int .i64 f2, .int .i64 heal, .slice (some ⟨b, off, none⟩) n c], .int .u8 which, .int .i64 year, .int .i64 height, .int .u8 soon] w fun e w' => e = .returned (.bool true) ∧ Below w.heap.size w w' := by
  subst he
  have hxb := bne_iff_ne.2 hx; clear hx
  have HGreat := Lib.hid hGreat; clear hGreat
  have HCheck := Lib.hid hCheck; clear hCheck
  have HM := Lib.hid hM; clear hM
  have HRow := Lib.hid hRow; clear hRow
  have HO := Lib.hid (show ([.string code, .int .i64 bmin, .int .i64 bmax, .int .i64 taped, .int .i64 gmin, .int .i64 gmax, .int .i64 wmin, .int .i64 wmax, .slice sa sn sc, .slice wa wn wc, .int .i64 dead] : List Value).toArray.all (·.oneCell') = true from by simp [Value.oneCell'])
  have hB0 := Lib.hid (show Below w.heap.size w (w.alloc (.cells #[.int .i64 age, .int .i64 rest, .int .i64 girth, .int .i64 f0, .int .i64 f1, .int .i64 f2, .int .i64 heal, .slice (some ⟨b, off, none⟩) n c] 27)) from (Below.refl _ _).alloc (Nat.le_refl _) _)
  have K0 := Lib.hid (boxed_new w ⟨age, rest, girth, f0, f1, f2, heal⟩ (some ⟨b, off, none⟩) n c)
  have hn1 : (0 : Int) < (n : Int) := by omega
  have hnb : ((n : Int) == 0) = false := by simp; omega
  have hKn' : (K : Int) < (n : Int) := by omega
  go_enter Try.func12, Try.ntmps12
  go_wp2_with fail
  refine (HGreat.out _ hB0.out).mono ?_
  rintro e w1 ⟨b1, rfl, hw1⟩
  have hB1 := hB0.out.trans (hw1.mono hB0.out.size)
  have X1 := Lib.hid (K0.out.below hw1 (by simp))
  have hz1 : w.heap.size < w1.heap.size := by have := hw1.size; simp at this; omega
  clear K0 hB0 hw1
  cases b1
  · obtain ⟨g0, g1, g2, g3, g4, g5, g6, g7⟩ := X1.out
    dsimp only at g0 g1 g2 g3 g4 g5 g6
    go_wp2_with fail
    refine (HCheck.out _ hB1).mono ?_
    rintro e w2 ⟨rfl, hw2⟩
    clear g0 g1 g2 g3 g4 g5 g6 g7
    have hB2 := hB1.trans (hw2.mono hB1.size)
    have hz2 : w.heap.size < w2.heap.size := Nat.lt_of_lt_of_le hz1 hw2.size
    have X2 := Lib.hid (X1.out.below hw2 hz1)
    clear hw2 X1
    obtain ⟨g0, g1, g2, g3, g4, g5, g6, g7⟩ := X2.out
    dsimp only at g0 g1 g2 g3 g4 g5 g6
    have bz2 : b < w2.heap.size := by omega
    go_wp2_with (first | ((with_reducible refine at_load 53 (.tmp 47) ?_); go_must (refine wpList_load_mid rfl 53 (.tmp 47) rfl b (off + K * 11) rfl [.string code, .int .i64 bmin, .int .i64 bmax, .int .i64 taped, .int .i64 gmin, .int .i64 gmax, .int .i64 wmin, .int .i64 wmax, .slice sa sn sc, .slice wa wn wc, .int .i64 dead] _ (HRow.out w2 hB2) Try.underlying53 rfl size_tree ?_)) | ((with_reducible refine at_store 53 (.tmp 12) (.tmp 48) ?_); go_must (refine wpList_store_row rfl 53 (.tmp 12) (.tmp 48) rfl w2.heap.size ([.string code, .int .i64 bmin, .int .i64 bmax, .int .i64 taped, .int .i64 gmin, .int .i64 gmax, .int .i64 wmin, .int .i64 wmax, .slice sa sn sc, .slice wa wn wc, .int .i64 dead] : List Value).toArray rfl rfl 53 #[.string ⟨#[]⟩, .int .i64 0, .int .i64 0, .int .i64 0, .int .i64 0, .int .i64 0, .int .i64 0, .int .i64 0, .slice none 0 0, .slice none 0 0, .int .i64 0] (heap_alloc_new w2 _) size_tree rfl HO.out ?_); have hB3 := below_setRow (hB2.alloc hB2.size (.cells #[.string ⟨#[]⟩, .int .i64 0, .int .i64 0, .int .i64 0, .int .i64 0, .int .i64 0, .int .i64 0, .int .i64 0, .slice none 0 0, .slice none 0 0, .int .i64 0] 53)) hB2.size ([.string code, .int .i64 bmin, .int .i64 bmax, .int .i64 taped, .int .i64 gmin, .int .i64 gmax, .int .i64 wmin, .int .i64 wmax, .slice sa sn sc, .slice wa wn wc, .int .i64 dead] : List Value).toArray; have HT3 := Lib.hid (show Blk _ _ _ _ from setRow_heap (w2.alloc (.cells #[.string ⟨#[]⟩, .int .i64 0, .int .i64 0, .int .i64 0, .int .i64 0, .int .i64 0, .int .i64 0, .int .i64 0, .slice none 0 0, .slice none 0 0, .int .i64 0] 53)) w2.heap.size _ ([.string code, .int .i64 bmin, .int .i64 bmax, .int .i64 taped, .int .i64 gmin, .int .i64 gmax, .int .i64 wmin, .int .i64 wmax, .slice sa sn sc, .slice wa wn wc, .int .i64 dead] : List Value).toArray _ _ (heap_alloc_new w2 _)); have X3 := Lib.hid (Boxed.below X2.out (B := w2.heap.size) (below_setRow ((Below.refl _ w2).alloc (Nat.le_refl _) (.cells #[.string ⟨#[]⟩, .int .i64 0, .int .i64 0, .int .i64 0, .int .i64 0, .int .i64 0, .int .i64 0, .int .i64 0, .slice none 0 0, .slice none 0 0, .int .i64 0] 53)) (Nat.le_refl _) ([.string code, .int .i64 bmin, .int .i64 bmax, .int .i64 taped, .int .i64 gmin, .int .i64 gmax, .int .i64 wmin, .int .i64 wmax, .slice sa sn sc, .slice wa wn wc, .int .i64 dead] : List Value).toArray) hz2); generalize (w2.alloc (.cells #[.string ⟨#[]⟩, .int .i64 0, .int .i64 0, .int .i64 0, .int .i64 0, .int .i64 0, .int .i64 0, .int .i64 0, .slice none 0 0, .slice none 0 0, .int .i64 0] 53)).setRow w2.heap.size ([.string code, .int .i64 bmin, .int .i64 bmax, .int .i64 taped, .int .i64 gmin, .int .i64 gmax, .int .i64 wmin, .int .i64 wmax, .slice sa sn sc, .slice wa wn wc, .int .i64 dead] : List Value).toArray = w3 at hB3 HT3 X3 ⊢; clear g0 g1 g2 g3 g4 g5 g6 g7; obtain ⟨g0, g1, g2, g3, g4, g5, g6, g7⟩ := X3.out; dsimp only at g0 g1 g2 g3 g4 g5 g6; have c8 : w3.cell? ⟨w2.heap.size, 8, none⟩ = some (.slice sa sn sc) := HT3.out.cell 8))
    refine (HM.out _ hB3).mono ?_
    rintro e w4 ⟨rfl, hw4⟩
    clear g0 g1 g2 g3 g4 g5 g6 g7 c8
    have hB4 := hB3.trans (hw4.mono hB3.size)
    have hT3 := HT3.out.lt
    have hz4 : w.heap.size < w4.heap.size := Nat.lt_of_lt_of_le (Nat.lt_trans hz2 hT3) hw4.size
    have X4 := Lib.hid (X3.out.below hw4 (Nat.lt_trans hz2 hT3))
    have HT4 := Lib.hid (HT3.out.below hw4 hT3)
    have hT4 : w2.heap.size < w4.heap.size := HT4.out.lt
    clear hw4 X3 HT3 hT3
    obtain ⟨g0, g1, g2, g3, g4, g5, g6, g7⟩ := X4.out
    dsimp only at g0 g1 g2 g3 g4 g5 g6
    have c8 : w4.cell? ⟨w2.heap.size, 8, none⟩ = some (.slice sa sn sc) := HT4.out.cell 8
    go_wp2_with fail
    refine (grows_calls _).mono ?_
    rintro e w5 ⟨rfl, hw5⟩
    go_wp2
    go_ret
    exact ⟨rfl, hB4.trans (hw5.mono hB4.size)⟩
  · go_wp2_with fail
    refine (grows_calls _).mono ?_
    rintro e w2 ⟨rfl, hw2⟩
    go_wp2
    go_ret
    exact ⟨rfl, hB1.trans (hw2.mono hB1.size)⟩

set_option maxRecDepth 100000 in
set_option maxHeartbeats 4000000 in
theorem rests_full (age rest girth f0 f1 f2 heal : Int) (b off n c K : Nat) (code : ByteArray) (bmin bmax taped gmin gmax wmin wmax : Int) (sa : Option Addr) (sn sc : Nat) (wa : Option Addr) (wn wc : Nat) (dead : Int) (which year height soon : Int) (v r e : Int) (w : World)
    (hw0 : 0 ≤ which) (hw1' : which ≤ 255) (hKe : which % (n : Int) = (K : Int)) (hKn : K < n) (hb : b < w.heap.size)
    (hRow : ∀ W, Below w.heap.size w W → W.rangeAt b (off + K * 11) [.string code, .int .i64 bmin, .int .i64 bmax, .int .i64 taped, .int .i64 gmin, .int .i64 gmax, .int .i64 wmin, .int .i64 wmax, .slice sa sn sc, .slice wa wn wc, .int .i64 dead])
    (hGreat : ∀ W, Below w.heap.size w W → Calls Try.prog 14 #[.agg #[.int .i64 age, .int .i64 rest, .int .i64 girth, .int .i64 f0, .int .i64 f1, .int .i64 f2, .int .i64 heal, .slice (some ⟨b, off, none⟩) n c]] W (SomeBool W))
    (hCheck : ∀ W, Below w.heap.size w W → Calls Try.prog 19 #[.agg #[.int .i64 age, .int .i64 rest, .int .i64 girth, .int .i64 f0, .int .i64 f1, .int .i64 f2, .int .i64 heal, .slice (some ⟨b, off, none⟩) n c]] W fun e w' => e = .returned (.int .i64 0) ∧ Below W.heap.size W w')
    (hM : ∀ W, Below w.heap.size w W → Calls Try.prog 20 #[.agg #[.int .i64 age, .int .i64 rest, .int .i64 girth, .int .i64 f0, .int .i64 f1, .int .i64 f2, .int .i64 heal, .slice (some ⟨b, off, none⟩) n c], .int .i64 K, .int .i64 year, .int .i64 height] W fun e' w' => e' = .returned (.tuple #[.int .i64 v, .int .i64 r, .int .i64 e]) ∧ Below W.heap.size W w')
    (he : e = 0) (hx : v = 1) (hs : sn = 10) :
    Calls Try.prog 12 #[.agg #[.int .i64 age, .int .i64 rest, .int .i64 girth, .int .i64 f0, .int .i64 f1, .int .i64 f2, .int .i64 heal, .slice (some ⟨b, off, none⟩) n c], .int .u8 which, .int .i64 year, .int .i64 height, .int .u8 soon] w fun e w' => e = .returned (.bool true) ∧ Below w.heap.size w w' := by
  subst he hx
  have hsb : ((sn : Int) == 10) = true := by simp; omega
  clear hs
  have HGreat := Lib.hid hGreat; clear hGreat
  have HCheck := Lib.hid hCheck; clear hCheck
  have HM := Lib.hid hM; clear hM
  have HRow := Lib.hid hRow; clear hRow
  have HO := Lib.hid (show ([.string code, .int .i64 bmin, .int .i64 bmax, .int .i64 taped, .int .i64 gmin, .int .i64 gmax, .int .i64 wmin, .int .i64 wmax, .slice sa sn sc, .slice wa wn wc, .int .i64 dead] : List Value).toArray.all (·.oneCell') = true from by simp [Value.oneCell'])
  have hB0 := Lib.hid (show Below w.heap.size w (w.alloc (.cells #[.int .i64 age, .int .i64 rest, .int .i64 girth, .int .i64 f0, .int .i64 f1, .int .i64 f2, .int .i64 heal, .slice (some ⟨b, off, none⟩) n c] 27)) from (Below.refl _ _).alloc (Nat.le_refl _) _)
  have K0 := Lib.hid (boxed_new w ⟨age, rest, girth, f0, f1, f2, heal⟩ (some ⟨b, off, none⟩) n c)
  have hn1 : (0 : Int) < (n : Int) := by omega
  have hnb : ((n : Int) == 0) = false := by simp; omega
  have hKn' : (K : Int) < (n : Int) := by omega
  go_enter Try.func12, Try.ntmps12
  go_wp2_with fail
  refine (HGreat.out _ hB0.out).mono ?_
  rintro e w1 ⟨b1, rfl, hw1⟩
  have hB1 := hB0.out.trans (hw1.mono hB0.out.size)
  have X1 := Lib.hid (K0.out.below hw1 (by simp))
  have hz1 : w.heap.size < w1.heap.size := by have := hw1.size; simp at this; omega
  clear K0 hB0 hw1
  cases b1
  · obtain ⟨g0, g1, g2, g3, g4, g5, g6, g7⟩ := X1.out
    dsimp only at g0 g1 g2 g3 g4 g5 g6
    go_wp2_with fail
    refine (HCheck.out _ hB1).mono ?_
    rintro e w2 ⟨rfl, hw2⟩
    clear g0 g1 g2 g3 g4 g5 g6 g7
    have hB2 := hB1.trans (hw2.mono hB1.size)
    have hz2 : w.heap.size < w2.heap.size := Nat.lt_of_lt_of_le hz1 hw2.size
    have X2 := Lib.hid (X1.out.below hw2 hz1)
    clear hw2 X1
    obtain ⟨g0, g1, g2, g3, g4, g5, g6, g7⟩ := X2.out
    dsimp only at g0 g1 g2 g3 g4 g5 g6
    have bz2 : b < w2.heap.size := by omega
    go_wp2_with (first | ((with_reducible refine at_load 53 (.tmp 47) ?_); go_must (refine wpList_load_mid rfl 53 (.tmp 47) rfl b (off + K * 11) rfl [.string code, .int .i64 bmin, .int .i64 bmax, .int .i64 taped, .int .i64 gmin, .int .i64 gmax, .int .i64 wmin, .int .i64 wmax, .slice sa sn sc, .slice wa wn wc, .int .i64 dead] _ (HRow.out w2 hB2) Try.underlying53 rfl size_tree ?_)) | ((with_reducible refine at_store 53 (.tmp 12) (.tmp 48) ?_); go_must (refine wpList_store_row rfl 53 (.tmp 12) (.tmp 48) rfl w2.heap.size ([.string code, .int .i64 bmin, .int .i64 bmax, .int .i64 taped, .int .i64 gmin, .int .i64 gmax, .int .i64 wmin, .int .i64 wmax, .slice sa sn sc, .slice wa wn wc, .int .i64 dead] : List Value).toArray rfl rfl 53 #[.string ⟨#[]⟩, .int .i64 0, .int .i64 0, .int .i64 0, .int .i64 0, .int .i64 0, .int .i64 0, .int .i64 0, .slice none 0 0, .slice none 0 0, .int .i64 0] (heap_alloc_new w2 _) size_tree rfl HO.out ?_); have hB3 := below_setRow (hB2.alloc hB2.size (.cells #[.string ⟨#[]⟩, .int .i64 0, .int .i64 0, .int .i64 0, .int .i64 0, .int .i64 0, .int .i64 0, .int .i64 0, .slice none 0 0, .slice none 0 0, .int .i64 0] 53)) hB2.size ([.string code, .int .i64 bmin, .int .i64 bmax, .int .i64 taped, .int .i64 gmin, .int .i64 gmax, .int .i64 wmin, .int .i64 wmax, .slice sa sn sc, .slice wa wn wc, .int .i64 dead] : List Value).toArray; have HT3 := Lib.hid (show Blk _ _ _ _ from setRow_heap (w2.alloc (.cells #[.string ⟨#[]⟩, .int .i64 0, .int .i64 0, .int .i64 0, .int .i64 0, .int .i64 0, .int .i64 0, .int .i64 0, .slice none 0 0, .slice none 0 0, .int .i64 0] 53)) w2.heap.size _ ([.string code, .int .i64 bmin, .int .i64 bmax, .int .i64 taped, .int .i64 gmin, .int .i64 gmax, .int .i64 wmin, .int .i64 wmax, .slice sa sn sc, .slice wa wn wc, .int .i64 dead] : List Value).toArray _ _ (heap_alloc_new w2 _)); have X3 := Lib.hid (Boxed.below X2.out (B := w2.heap.size) (below_setRow ((Below.refl _ w2).alloc (Nat.le_refl _) (.cells #[.string ⟨#[]⟩, .int .i64 0, .int .i64 0, .int .i64 0, .int .i64 0, .int .i64 0, .int .i64 0, .int .i64 0, .slice none 0 0, .slice none 0 0, .int .i64 0] 53)) (Nat.le_refl _) ([.string code, .int .i64 bmin, .int .i64 bmax, .int .i64 taped, .int .i64 gmin, .int .i64 gmax, .int .i64 wmin, .int .i64 wmax, .slice sa sn sc, .slice wa wn wc, .int .i64 dead] : List Value).toArray) hz2); generalize (w2.alloc (.cells #[.string ⟨#[]⟩, .int .i64 0, .int .i64 0, .int .i64 0, .int .i64 0, .int .i64 0, .int .i64 0, .int .i64 0, .slice none 0 0, .slice none 0 0, .int .i64 0] 53)).setRow w2.heap.size ([.string code, .int .i64 bmin, .int .i64 bmax, .int .i64 taped, .int .i64 gmin, .int .i64 gmax, .int .i64 wmin, .int .i64 wmax, .slice sa sn sc, .slice wa wn wc, .int .i64 dead] : List Value).toArray = w3 at hB3 HT3 X3 ⊢; clear g0 g1 g2 g3 g4 g5 g6 g7; obtain ⟨g0, g1, g2, g3, g4, g5, g6, g7⟩ := X3.out; dsimp only at g0 g1 g2 g3 g4 g5 g6; have c8 : w3.cell? ⟨w2.heap.size, 8, none⟩ = some (.slice sa sn sc) := HT3.out.cell 8))
    refine (HM.out _ hB3).mono ?_
    rintro e w4 ⟨rfl, hw4⟩
    clear g0 g1 g2 g3 g4 g5 g6 g7 c8
    have hB4 := hB3.trans (hw4.mono hB3.size)
    have hT3 := HT3.out.lt
    have hz4 : w.heap.size < w4.heap.size := Nat.lt_of_lt_of_le (Nat.lt_trans hz2 hT3) hw4.size
    have X4 := Lib.hid (X3.out.below hw4 (Nat.lt_trans hz2 hT3))
    have HT4 := Lib.hid (HT3.out.below hw4 hT3)
    have hT4 : w2.heap.size < w4.heap.size := HT4.out.lt
    clear hw4 X3 HT3 hT3
    obtain ⟨g0, g1, g2, g3, g4, g5, g6, g7⟩ := X4.out
    dsimp only at g0 g1 g2 g3 g4 g5 g6
    have c8 : w4.cell? ⟨w2.heap.size, 8, none⟩ = some (.slice sa sn sc) := HT4.out.cell 8
    go_wp2_with fail
    refine (grows_calls _).mono ?_
    rintro e w5 ⟨rfl, hw5⟩
    go_wp2
    go_ret
    exact ⟨rfl, hB4.trans (hw5.mono hB4.size)⟩
  · go_wp2_with fail
    refine (grows_calls _).mono ?_
    rintro e w2 ⟨rfl, hw2⟩
    go_wp2
    go_ret
    exact ⟨rfl, hB1.trans (hw2.mono hB1.size)⟩

set_option maxRecDepth 100000 in
set_option maxHeartbeats 4000000 in
theorem rests_late (age rest girth f0 f1 f2 heal : Int) (b off n c K : Nat) (code : ByteArray) (bmin bmax taped gmin gmax wmin wmax : Int) (b2 off2 : Nat) (sn sc : Nat) (wa : Option Addr) (wn wc : Nat) (dead : Int) (which year height soon : Int) (v r e : Int) (w : World)
    (hw0 : 0 ≤ which) (hw1' : which ≤ 255) (hKe : which % (n : Int) = (K : Int)) (hKn : K < n) (hb : b < w.heap.size)
    (hRow : ∀ W, Below w.heap.size w W → W.rangeAt b (off + K * 11) [.string code, .int .i64 bmin, .int .i64 bmax, .int .i64 taped, .int .i64 gmin, .int .i64 gmax, .int .i64 wmin, .int .i64 wmax, .slice (some ⟨b2, off2, none⟩) sn sc, .slice wa wn wc, .int .i64 dead])
    (hGreat : ∀ W, Below w.heap.size w W → Calls Try.prog 14 #[.agg #[.int .i64 age, .int .i64 rest, .int .i64 girth, .int .i64 f0, .int .i64 f1, .int .i64 f2, .int .i64 heal, .slice (some ⟨b, off, none⟩) n c]] W (SomeBool W))
    (hCheck : ∀ W, Below w.heap.size w W → Calls Try.prog 19 #[.agg #[.int .i64 age, .int .i64 rest, .int .i64 girth, .int .i64 f0, .int .i64 f1, .int .i64 f2, .int .i64 heal, .slice (some ⟨b, off, none⟩) n c]] W fun e w' => e = .returned (.int .i64 0) ∧ Below W.heap.size W w')
    (hM : ∀ W, Below w.heap.size w W → Calls Try.prog 20 #[.agg #[.int .i64 age, .int .i64 rest, .int .i64 girth, .int .i64 f0, .int .i64 f1, .int .i64 f2, .int .i64 heal, .slice (some ⟨b, off, none⟩) n c], .int .i64 K, .int .i64 year, .int .i64 height] W fun e' w' => e' = .returned (.tuple #[.int .i64 v, .int .i64 r, .int .i64 e]) ∧ Below W.heap.size W w')
    (last : Int) (hsn : sn ≤ 10) (he : e = 0) (hx : v = 1) (hs : ¬ sn = 10) (hs0 : 0 < sn) (hlast : ∀ W, Below w.heap.size w W → W.cell? ⟨b2, off2 + (sn - 1) * 2, none⟩ = some (.int .i64 last)) (hl : year < last) :
    Calls Try.prog 12 #[.agg #[.int .i64 age, .int .i64 rest, .int .i64 girth, .int .i64 f0, .int .i64 f1, .int .i64 f2, .int .i64 heal, .slice (some ⟨b, off, none⟩) n c], .int .u8 which, .int .i64 year, .int .i64 height, .int .u8 soon] w fun e w' => e = .returned (.bool true) ∧ Below w.heap.size w w' := by
  subst he hx
  have hsb : ((sn : Int) == 10) = false := by simp; omega
  have hs1 : (0 : Int) < (sn : Int) := by omega
  have hs10 : (sn : Int) ≤ 10 := by omega
  have HL := Lib.hid hlast; clear hlast
  have hd : decide (year < last) = true := decide_eq_true hl
  have HGreat := Lib.hid hGreat; clear hGreat
  have HCheck := Lib.hid hCheck; clear hCheck
  have HM := Lib.hid hM; clear hM
  have HRow := Lib.hid hRow; clear hRow
  have HO := Lib.hid (show ([.string code, .int .i64 bmin, .int .i64 bmax, .int .i64 taped, .int .i64 gmin, .int .i64 gmax, .int .i64 wmin, .int .i64 wmax, .slice (some ⟨b2, off2, none⟩) sn sc, .slice wa wn wc, .int .i64 dead] : List Value).toArray.all (·.oneCell') = true from by simp [Value.oneCell'])
  have hB0 := Lib.hid (show Below w.heap.size w (w.alloc (.cells #[.int .i64 age, .int .i64 rest, .int .i64 girth, .int .i64 f0, .int .i64 f1, .int .i64 f2, .int .i64 heal, .slice (some ⟨b, off, none⟩) n c] 27)) from (Below.refl _ _).alloc (Nat.le_refl _) _)
  have K0 := Lib.hid (boxed_new w ⟨age, rest, girth, f0, f1, f2, heal⟩ (some ⟨b, off, none⟩) n c)
  have hn1 : (0 : Int) < (n : Int) := by omega
  have hnb : ((n : Int) == 0) = false := by simp; omega
  have hKn' : (K : Int) < (n : Int) := by omega
  go_enter Try.func12, Try.ntmps12
  go_wp2_with fail
  refine (HGreat.out _ hB0.out).mono ?_
  rintro e w1 ⟨b1, rfl, hw1⟩
  have hB1 := hB0.out.trans (hw1.mono hB0.out.size)
  have X1 := Lib.hid (K0.out.below hw1 (by simp))
  have hz1 : w.heap.size < w1.heap.size := by have := hw1.size; simp at this; omega
  clear K0 hB0 hw1
  cases b1
  · obtain ⟨g0, g1, g2, g3, g4, g5, g6, g7⟩ := X1.out
    dsimp only at g0 g1 g2 g3 g4 g5 g6
    go_wp2_with fail
    refine (HCheck.out _ hB1).mono ?_
    rintro e w2 ⟨rfl, hw2⟩
    clear g0 g1 g2 g3 g4 g5 g6 g7
    have hB2 := hB1.trans (hw2.mono hB1.size)
    have hz2 : w.heap.size < w2.heap.size := Nat.lt_of_lt_of_le hz1 hw2.size
    have X2 := Lib.hid (X1.out.below hw2 hz1)
    clear hw2 X1
    obtain ⟨g0, g1, g2, g3, g4, g5, g6, g7⟩ := X2.out
    dsimp only at g0 g1 g2 g3 g4 g5 g6
    have bz2 : b < w2.heap.size := by omega
    go_wp2_with (first | ((with_reducible refine at_load 53 (.tmp 47) ?_); go_must (refine wpList_load_mid rfl 53 (.tmp 47) rfl b (off + K * 11) rfl [.string code, .int .i64 bmin, .int .i64 bmax, .int .i64 taped, .int .i64 gmin, .int .i64 gmax, .int .i64 wmin, .int .i64 wmax, .slice (some ⟨b2, off2, none⟩) sn sc, .slice wa wn wc, .int .i64 dead] _ (HRow.out w2 hB2) Try.underlying53 rfl size_tree ?_)) | ((with_reducible refine at_store 53 (.tmp 12) (.tmp 48) ?_); go_must (refine wpList_store_row rfl 53 (.tmp 12) (.tmp 48) rfl w2.heap.size ([.string code, .int .i64 bmin, .int .i64 bmax, .int .i64 taped, .int .i64 gmin, .int .i64 gmax, .int .i64 wmin, .int .i64 wmax, .slice (some ⟨b2, off2, none⟩) sn sc, .slice wa wn wc, .int .i64 dead] : List Value).toArray rfl rfl 53 #[.string ⟨#[]⟩, .int .i64 0, .int .i64 0, .int .i64 0, .int .i64 0, .int .i64 0, .int .i64 0, .int .i64 0, .slice none 0 0, .slice none 0 0, .int .i64 0] (heap_alloc_new w2 _) size_tree rfl HO.out ?_); have hB3 := below_setRow (hB2.alloc hB2.size (.cells #[.string ⟨#[]⟩, .int .i64 0, .int .i64 0, .int .i64 0, .int .i64 0, .int .i64 0, .int .i64 0, .int .i64 0, .slice none 0 0, .slice none 0 0, .int .i64 0] 53)) hB2.size ([.string code, .int .i64 bmin, .int .i64 bmax, .int .i64 taped, .int .i64 gmin, .int .i64 gmax, .int .i64 wmin, .int .i64 wmax, .slice (some ⟨b2, off2, none⟩) sn sc, .slice wa wn wc, .int .i64 dead] : List Value).toArray; have HT3 := Lib.hid (show Blk _ _ _ _ from setRow_heap (w2.alloc (.cells #[.string ⟨#[]⟩, .int .i64 0, .int .i64 0, .int .i64 0, .int .i64 0, .int .i64 0, .int .i64 0, .int .i64 0, .slice none 0 0, .slice none 0 0, .int .i64 0] 53)) w2.heap.size _ ([.string code, .int .i64 bmin, .int .i64 bmax, .int .i64 taped, .int .i64 gmin, .int .i64 gmax, .int .i64 wmin, .int .i64 wmax, .slice (some ⟨b2, off2, none⟩) sn sc, .slice wa wn wc, .int .i64 dead] : List Value).toArray _ _ (heap_alloc_new w2 _)); have X3 := Lib.hid (Boxed.below X2.out (B := w2.heap.size) (below_setRow ((Below.refl _ w2).alloc (Nat.le_refl _) (.cells #[.string ⟨#[]⟩, .int .i64 0, .int .i64 0, .int .i64 0, .int .i64 0, .int .i64 0, .int .i64 0, .int .i64 0, .slice none 0 0, .slice none 0 0, .int .i64 0] 53)) (Nat.le_refl _) ([.string code, .int .i64 bmin, .int .i64 bmax, .int .i64 taped, .int .i64 gmin, .int .i64 gmax, .int .i64 wmin, .int .i64 wmax, .slice (some ⟨b2, off2, none⟩) sn sc, .slice wa wn wc, .int .i64 dead] : List Value).toArray) hz2); generalize (w2.alloc (.cells #[.string ⟨#[]⟩, .int .i64 0, .int .i64 0, .int .i64 0, .int .i64 0, .int .i64 0, .int .i64 0, .int .i64 0, .slice none 0 0, .slice none 0 0, .int .i64 0] 53)).setRow w2.heap.size ([.string code, .int .i64 bmin, .int .i64 bmax, .int .i64 taped, .int .i64 gmin, .int .i64 gmax, .int .i64 wmin, .int .i64 wmax, .slice (some ⟨b2, off2, none⟩) sn sc, .slice wa wn wc, .int .i64 dead] : List Value).toArray = w3 at hB3 HT3 X3 ⊢; clear g0 g1 g2 g3 g4 g5 g6 g7; obtain ⟨g0, g1, g2, g3, g4, g5, g6, g7⟩ := X3.out; dsimp only at g0 g1 g2 g3 g4 g5 g6; have c8 : w3.cell? ⟨w2.heap.size, 8, none⟩ = some (.slice (some ⟨b2, off2, none⟩) sn sc) := HT3.out.cell 8))
    refine (HM.out _ hB3).mono ?_
    rintro e w4 ⟨rfl, hw4⟩
    clear g0 g1 g2 g3 g4 g5 g6 g7 c8
    have hB4 := hB3.trans (hw4.mono hB3.size)
    have hT3 := HT3.out.lt
    have hz4 : w.heap.size < w4.heap.size := Nat.lt_of_lt_of_le (Nat.lt_trans hz2 hT3) hw4.size
    have X4 := Lib.hid (X3.out.below hw4 (Nat.lt_trans hz2 hT3))
    have HT4 := Lib.hid (HT3.out.below hw4 hT3)
    have hT4 : w2.heap.size < w4.heap.size := HT4.out.lt
    clear hw4 X3 HT3 hT3
    obtain ⟨g0, g1, g2, g3, g4, g5, g6, g7⟩ := X4.out
    dsimp only at g0 g1 g2 g3 g4 g5 g6
    have c8 : w4.cell? ⟨w2.heap.size, 8, none⟩ = some (.slice (some ⟨b2, off2, none⟩) sn sc) := HT4.out.cell 8
    have cl := HL.out w4 hB4
    have en : ((sn : Int) - 1).toNat = sn - 1 := by omega
    go_wp2_with fail
    refine (grows_calls _).mono ?_
    rintro e w5 ⟨rfl, hw5⟩
    go_wp2
    go_ret
    exact ⟨rfl, hB4.trans (hw5.mono hB4.size)⟩
  · go_wp2_with fail
    refine (grows_calls _).mono ?_
    rintro e w2 ⟨rfl, hw2⟩
    go_wp2
    go_ret
    exact ⟨rfl, hB1.trans (hw2.mono hB1.size)⟩

set_option maxRecDepth 100000 in
set_option maxHeartbeats 8000000 in
theorem rests_bad (age rest girth f0 f1 f2 heal : Int) (a : Option Addr) (n c : Nat) (which year height soon : Int) (w : World) (ck : Int)
    (v r e : Int)
    (hbad : ck = 0 → 0 < (n : Int) → False)
    (hGreat : ∀ W, Below w.heap.size w W → Calls Try.prog 14 #[.agg #[.int .i64 age, .int .i64 rest, .int .i64 girth, .int .i64 f0, .int .i64 f1, .int .i64 f2, .int .i64 heal, .slice a n c]] W (SomeBool W))
    (hCheck : ∀ W, Below w.heap.size w W → Calls Try.prog 19 #[.agg #[.int .i64 age, .int .i64 rest, .int .i64 girth, .int .i64 f0, .int .i64 f1, .int .i64 f2, .int .i64 heal, .slice a n c]] W fun e w' => e = .returned (.int .i64 ck) ∧ Below W.heap.size W w')
    (hM : ∀ W, Below w.heap.size w W → Calls Try.prog 20 #[.agg #[.int .i64 age, .int .i64 rest, .int .i64 girth, .int .i64 f0, .int .i64 f1, .int .i64 f2, .int .i64 heal, .slice a n c], .int .i64 (which % (n : Int)), .int .i64 year, .int .i64 height] W fun e' w' => e' = .returned (.tuple #[.int .i64 v, .int .i64 r, .int .i64 e]) ∧ Below W.heap.size W w') :
    Calls Try.prog 12 #[.agg #[.int .i64 age, .int .i64 rest, .int .i64 girth, .int .i64 f0, .int .i64 f1, .int .i64 f2, .int .i64 heal, .slice a n c], .int .u8 which, .int .i64 year, .int .i64 height, .int .u8 soon] w fun e w' => e = .returned (.bool true) ∧ Below w.heap.size w w' := by
  have HGreat := Lib.hid hGreat; clear hGreat
  have HCheck := Lib.hid hCheck; clear hCheck
  have hB0 := Lib.hid (show Below w.heap.size w (w.alloc (.cells #[.int .i64 age, .int .i64 rest, .int .i64 girth, .int .i64 f0, .int .i64 f1, .int .i64 f2, .int .i64 heal, .slice a n c] 27)) from (Below.refl _ _).alloc (Nat.le_refl _) _)
  have K0 := Lib.hid (boxed_new w ⟨age, rest, girth, f0, f1, f2, heal⟩ a n c)
  go_enter Try.func12, Try.ntmps12
  go_wp2_with fail
  refine (HGreat.out _ hB0.out).mono ?_
  rintro e w1 ⟨b, rfl, hw1⟩
  have hB1 := hB0.out.trans (hw1.mono hB0.out.size)
  have X1 := Lib.hid (K0.out.below hw1 (by simp))
  have hz1 : w.heap.size < w1.heap.size := by have := hw1.size; simp at this; omega
  clear K0 hB0 hw1
  cases b
  · obtain ⟨g0, g1, g2, g3, g4, g5, g6, g7⟩ := X1.out
    dsimp only at g0 g1 g2 g3 g4 g5 g6
    go_wp2_with fail
    refine (HCheck.out _ hB1).mono ?_
    rintro e w2 ⟨rfl, hw2⟩
    clear g0 g1 g2 g3 g4 g5 g6 g7
    have hB2 := hB1.trans (hw2.mono hB1.size)
    have hz2 : w.heap.size < w2.heap.size := Nat.lt_of_lt_of_le hz1 hw2.size
    have X2 := Lib.hid (X1.out.below hw2 hz1)
    clear hw2 X1
    by_cases hck : ck = 0
    · subst hck
      obtain ⟨g0, g1, g2, g3, g4, g5, g6, g7⟩ := X2.out
      dsimp only at g0 g1 g2 g3 g4 g5 g6
      by_cases hn0 : n = 0
      · subst hn0
        go_wp2_with fail
        refine (grows_calls _).mono ?_
        rintro e w3 ⟨rfl, hw3⟩
        go_wp2
        go_ret
        exact ⟨rfl, hB2.trans (hw3.mono hB2.size)⟩
      · have hn1 : (0 : Int) < (n : Int) := by omega
        have hnb : ((n : Int) == 0) = false := by simp; omega
        exact (hbad rfl hn1).elim
    · have hckb : (ck != 0) = true := by simpa using hck
      clear hck
      go_wp2_with fail
      refine (grows_calls _).mono ?_
      rintro e w3 ⟨rfl, hw3⟩
      go_wp2
      go_ret
      exact ⟨rfl, hB2.trans (hw3.mono hB2.size)⟩
  · go_wp2_with fail
    refine (grows_calls _).mono ?_
    rintro e w2 ⟨rfl, hw2⟩
    go_wp2
    go_ret
    exact ⟨rfl, hB1.trans (hw2.mono hB1.size)⟩
end Go.Proofs.Ytajbflepjpgnbaa
