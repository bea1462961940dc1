/- TreeNarrow: narrower bounds never make a verdict less known: the walk. -/
import Derived.Test.YtdpockkfmdkbhaaRowOf
import Derived.Test.YtdpockkfmdkbhaaInner
import Derived.Test.YtdpockkfmdkbhaaNarrowFacts
import Derived.Test.YtdpockkfmdkbhaaSplitBelow
import Derived.Deep.MidRow
namespace Go.Proofs.Ytdpockkfmdkbhaa
open Go.RowKit Go.Shelf

theorem new_at (w : World) {B : Nat} (h : w.heap.size = B) (o : Obj) : (w.alloc o).heap[B]? = some o := h ▸ heap_alloc_new w o
theorem row_low (w : World) {B : Nat} (h : w.heap.size = B) (o : Obj) (cs : Array Value) (k : Nat) (hk : k < B) : ((w.alloc o).setRow B cs).heap[k]? = w.heap[k]? :=
  (below_setRow ((Below.refl B w).alloc (by omega) o) (Nat.le_refl _) cs).block k hk

theorem Blk.there {w : World} {g : Nat} {t : TypeId} {cs : Array Value} (h : Blk w g t cs) {o n : Nat} (hn : o + n ≤ cs.size) : w.there g o n := fun j hj => ⟨by rw [h.cell (o + j), Array.getElem?_eq_getElem (by omega)]; rfl, h.frozen _⟩
theorem Blk.sets2 {w : World} {g : Nat} {t : TypeId} {cs : Array Value} (h : Blk w g t cs) (o : Nat) (u v : Value) : Blk (w.setCells g o [u, v]) g t ((cs.setIfInBounds o u).setIfInBounds (o + 1) v) := (h.set_ o u).set_ (o + 1) v

set_option maxRecDepth 100000 in
set_option maxHeartbeats 8000000 in
theorem narrow_walk (age rest girth f0 f1 f2 heal : Int) (b off n c K : Nat) (code : ByteArray) (bmin bmax taped gmin gmax wmin wmax : Int) (sa : Option Addr) (sn sc : Nat) (wa : Option Addr) (wn wc : Nat) (dead : Int) (strips : List (Int × Int)) (wounds : List Int) (which year height y0 y1 y2 y3 y4 y5 n0 m0 n1 m1 n2 m2 : Int) (v r e v2 r2 e2 : Int) (ts : List Tree) (w : World)
    (hw0 : 0 ≤ which) (hw1' : which ≤ 255) (hKe : which % (n : Int) = (K : Int)) (hKn : K < n) (hts : ts.length = n) (hn20 : n ≤ 20)
    (hRow : ∀ W, Below w.heap.size w W → W.rangeAt b (off + K * 11) [.string code, .int .i64 bmin, .int .i64 bmax, .int .i64 taped, .int .i64 gmin, .int .i64 gmax, .int .i64 wmin, .int .i64 wmax, .slice sa sn sc, .slice wa wn wc, .int .i64 dead])
    (hTH : ∀ W, Below w.heap.size w W → Held W.heap.size W 11 Tree.cells (.slice (some ⟨b, off, none⟩) n c) ts ∧ ∀ t ∈ ts, TreeHeld W.heap.size W t)
    (hKt : ts[K]! = ⟨code, bmin, bmax, taped, gmin, gmax, wmin, wmax, .slice sa sn sc, .slice wa wn wc, dead, strips, wounds⟩) (hones : ∀ t ∈ ts, ∀ u ∈ Tree.cells t, u.oneCell' = true)
    (hGreat : ∀ W, Below w.heap.size w W → Calls Try.prog 9 #[.agg #[.int .i64 age, .int .i64 rest, .int .i64 girth, .int .i64 f0, .int .i64 f1, .int .i64 f2, .int .i64 heal, .slice (some ⟨b, off, none⟩) n c]] W (SomeBool W))
    (hCheck : ∀ W, Below w.heap.size w W → Calls Try.prog 10 #[.agg #[.int .i64 age, .int .i64 rest, .int .i64 girth, .int .i64 f0, .int .i64 f1, .int .i64 f2, .int .i64 heal, .slice (some ⟨b, off, none⟩) n c]] W fun e w' => e = .returned (.int .i64 0) ∧ Below W.heap.size W w')
    (hM : ∀ W, Below w.heap.size w W → Calls Try.prog 12 #[.agg #[.int .i64 age, .int .i64 rest, .int .i64 girth, .int .i64 f0, .int .i64 f1, .int .i64 f2, .int .i64 heal, .slice (some ⟨b, off, none⟩) n c], .int .i64 K, .int .i64 year, .int .i64 height] W fun e' w' => e' = .returned (.tuple #[.int .i64 v, .int .i64 r, .int .i64 e]) ∧ Below W.heap.size W w')
    (hI0 : ∀ W, Below w.heap.size w W → Calls Try.prog 17 #[.agg #[.int .i64 bmin, .int .i64 bmax], .int .u16 y0, .int .u16 y1] W fun e' w' => e' = .returned (.agg #[.int .i64 n0, .int .i64 m0]) ∧ Below W.heap.size W w')
    (hI1 : ∀ W, Below w.heap.size w W → Calls Try.prog 17 #[.agg #[.int .i64 gmin, .int .i64 gmax], .int .u16 y2, .int .u16 y3] W fun e' w' => e' = .returned (.agg #[.int .i64 n1, .int .i64 m1]) ∧ Below W.heap.size W w')
    (hI2 : ∀ W, Below w.heap.size w W → Calls Try.prog 17 #[.agg #[.int .i64 wmin, .int .i64 wmax], .int .u16 y4, .int .u16 y5] W fun e' w' => e' = .returned (.agg #[.int .i64 n2, .int .i64 m2]) ∧ Below W.heap.size W w')
    (hM2 : ∀ W g cap, Below w.heap.size w W → TreesHeld W.heap.size W (.slice (some ⟨g, 0, none⟩) n cap) (ts.set K ⟨code, n0, m0, taped, n1, m1, n2, m2, .slice sa sn sc, .slice wa wn wc, dead, strips, wounds⟩) → Calls Try.prog 12 #[.agg #[.int .i64 age, .int .i64 rest, .int .i64 girth, .int .i64 f0, .int .i64 f1, .int .i64 f2, .int .i64 heal, .slice (some ⟨g, 0, none⟩) n cap], .int .i64 K, .int .i64 year, .int .i64 height] W fun e' w' => e' = .returned (.tuple #[.int .i64 v2, .int .i64 r2, .int .i64 e2]) ∧ Below W.heap.size W w')
    (hcase : (¬ e = 0 ∧ e2 = e) ∨ (e = 0 ∧ e2 = 0 ∧ ((v = 0 ∧ ((v2 = 1 ∧ r2 = 0) ∨ ((v2 = 0 ∨ v2 = 2) ∧ ¬ r2 = 0))) ∨ (v = 1 ∧ v2 = 1 ∧ r2 = 0) ∨ (v = 2 ∧ v2 = 2 ∧ ¬ r2 = 0 ∧ r2 ≤ r)))) :
    Calls Try.prog 5 #[.agg #[.int .i64 age, .int .i64 rest, .int .i64 girth, .int .i64 f0, .int .i64 f1, .int .i64 f2, .int .i64 heal, .slice (some ⟨b, off, none⟩) n c], .int .u8 which, .int .i64 year, .int .i64 height, .agg #[.int .u16 y0, .int .u16 y1, .int .u16 y2, .int .u16 y3, .int .u16 y4, .int .u16 y5]] w fun e w' => e = .returned (.bool true) ∧ Below w.heap.size w w' := by
  have HGreat := Lib.hid hGreat; clear hGreat
  have HCheck := Lib.hid hCheck; clear hCheck
  have HM := Lib.hid hM; clear hM
  have HRow := Lib.hid hRow; clear hRow
  have HTH := Lib.hid hTH; clear hTH
  have HKt := Lib.hid hKt; clear hKt
  have Hones := Lib.hid hones; clear hones
  have HI0 := Lib.hid hI0; clear hI0
  have HI1 := Lib.hid hI1; clear hI1
  have HI2 := Lib.hid hI2; clear hI2
  have HM2 := Lib.hid hM2; clear hM2
  have Hcase := Lib.hid hcase; clear hcase
  have Hts := Lib.hid hts; clear hts
  have HO := Lib.hid (show ([.string code, .int .i64 bmin, .int .i64 bmax, .int .i64 taped, .int .i64 gmin, .int .i64 gmax, .int .i64 wmin, .int .i64 wmax, .slice sa sn sc, .slice wa wn wc, .int .i64 dead] : List Value).toArray.all (·.oneCell') = true from by simp [Value.oneCell'])
  obtain ⟨i1, hi1, hi1a, hi1b, hi1c⟩ := info_parts info_tree
  have HJ1 := Lib.hid hi1; clear hi1
  have HJ1a := Lib.hid hi1a; clear hi1a
  have HJ1b := Lib.hid hi1b; clear hi1b
  have HJ1c := Lib.hid hi1c; clear hi1c
  have hB0 := Lib.hid (show Below w.heap.size w ((w.alloc (.cells #[.int .i64 age, .int .i64 rest, .int .i64 girth, .int .i64 f0, .int .i64 f1, .int .i64 f2, .int .i64 heal, .slice (some ⟨b, off, none⟩) n c] 27)).alloc (.cells #[.int .u16 y0, .int .u16 y1, .int .u16 y2, .int .u16 y3, .int .u16 y4, .int .u16 y5] 53)) from ((Below.refl _ _).alloc (Nat.le_refl _) _).alloc (by rw [World.size_alloc]; omega) _)
  have K0 := Lib.hid (show Boxed ((w.alloc (.cells #[.int .i64 age, .int .i64 rest, .int .i64 girth, .int .i64 f0, .int .i64 f1, .int .i64 f2, .int .i64 heal, .slice (some ⟨b, off, none⟩) n c] 27)).alloc (.cells #[.int .u16 y0, .int .u16 y1, .int .u16 y2, .int .u16 y3, .int .u16 y4, .int .u16 y5] 53)) w.heap.size ⟨age, rest, girth, f0, f1, f2, heal⟩ (some ⟨b, off, none⟩) n c from Boxed.of ((Blk.new w 27 #[.int .i64 age, .int .i64 rest, .int .i64 girth, .int .i64 f0, .int .i64 f1, .int .i64 f2, .int .i64 heal, .slice (some ⟨b, off, none⟩) n c]).alloc _))
  have Q0 := Lib.hid (show Blk ((w.alloc (.cells #[.int .i64 age, .int .i64 rest, .int .i64 girth, .int .i64 f0, .int .i64 f1, .int .i64 f2, .int .i64 heal, .slice (some ⟨b, off, none⟩) n c] 27)).alloc (.cells #[.int .u16 y0, .int .u16 y1, .int .u16 y2, .int .u16 y3, .int .u16 y4, .int .u16 y5] 53)) (w.heap.size + 1) 53 #[.int .u16 y0, .int .u16 y1, .int .u16 y2, .int .u16 y3, .int .u16 y4, .int .u16 y5] from by have := Blk.new (w.alloc (.cells #[.int .i64 age, .int .i64 rest, .int .i64 girth, .int .i64 f0, .int .i64 f1, .int .i64 f2, .int .i64 heal, .slice (some ⟨b, off, none⟩) n c] 27)) 53 #[.int .u16 y0, .int .u16 y1, .int .u16 y2, .int .u16 y3, .int .u16 y4, .int .u16 y5]; rwa [World.size_alloc] at this)
  have hn1 : (0 : Int) < (n : Int) := by omega
  have hnb : ((n : Int) == 0) = false := by simp; omega
  have hKn' : (K : Int) < (n : Int) := by omega
  go_enter Try.func5, Try.ntmps5
  go_wp2_with fail
  refine (HGreat.out _ hB0.out).mono ?_
  rintro e w1 ⟨b1, rfl, hw1⟩
  have hB1 := hB0.out.trans (hw1.mono hB0.out.size)
  have X1 := Lib.hid (K0.out.below hw1 (by rw [World.size_alloc, World.size_alloc]; omega))
  have Q1 := Lib.hid (Q0.out.below hw1 Q0.out.lt)
  have hz1 : w.heap.size + 1 < w1.heap.size := Q1.out.lt
  clear K0 hB0 hw1 Q0
  cases b1
  · obtain ⟨g0, g1, g2, g3, g4, g5, g6, g7⟩ := X1.out
    dsimp only at g0 g1 g2 g3 g4 g5 g6
    go_wp2_with fail
    refine (HCheck.out _ hB1).mono ?_
    rintro e w2 ⟨rfl, hw2⟩
    clear g0 g1 g2 g3 g4 g5 g6 g7
    have hB2 := hB1.trans (hw2.mono hB1.size)
    have X2 := Lib.hid (X1.out.below hw2 (by omega))
    have Q2 := Lib.hid (Q1.out.below hw2 Q1.out.lt)
    have hz2 : w.heap.size + 1 < w2.heap.size := Q2.out.lt
    clear hw2 X1 Q1
    obtain ⟨g0, g1, g2, g3, g4, g5, g6, g7⟩ := X2.out
    dsimp only at g0 g1 g2 g3 g4 g5 g6
    go_wp2_with fail
    refine (HM.out _ hB2).mono ?_
    rintro e w3 ⟨rfl, hw3⟩
    clear g0 g1 g2 g3 g4 g5 g6 g7
    have hB3 := hB2.trans (hw3.mono hB2.size)
    have X3 := Lib.hid (X2.out.below hw3 (by omega))
    have Q3 := Lib.hid (Q2.out.below hw3 Q2.out.lt)
    have hz3 : w.heap.size + 1 < w3.heap.size := Q3.out.lt
    have hz3' : w.heap.size < w3.heap.size := by omega
    clear hw3 X2 Q2
    obtain ⟨g0, g1, g2, g3, g4, g5, g6, g7⟩ := X3.out
    dsimp only at g0 g1 g2 g3 g4 g5 g6
    have HFL := Lib.hid (show (flat Tree.cells ts).length = n * 11 from by rw [flat_length tree_eleven, Hts.out])
    have HFO := Lib.hid (show ∀ u ∈ flat Tree.cells ts, u.oneCell' = true from flat_ones_of Hones.out)
    have HOWN1 := Lib.hid (owns_at (w3.alloc (.cells #[.int .i64 age, .int .i64 rest, .int .i64 girth, .int .i64 f0, .int .i64 f1, .int .i64 f2, .int .i64 heal, .slice (some ⟨b, off, none⟩) n c] 27)) 48 11 (World.size_alloc w3 _))
    have HBV1 := Lib.hid (show Below w.heap.size w ((w3.alloc (.cells #[.int .i64 age, .int .i64 rest, .int .i64 girth, .int .i64 f0, .int .i64 f1, .int .i64 f2, .int .i64 heal, .slice (some ⟨b, off, none⟩) n c] 27)).alloc (.cells #[] 48)) from (hB3.alloc hB3.size _).alloc (by rw [World.size_alloc]; omega) _)
    have HSZ1 := Lib.hid (show w3.heap.size + 1 ≤ ((w3.alloc (.cells #[.int .i64 age, .int .i64 rest, .int .i64 girth, .int .i64 f0, .int .i64 f1, .int .i64 f2, .int .i64 heal, .slice (some ⟨b, off, none⟩) n c] 27)).alloc (.cells #[] 48)).heap.size from by rw [World.size_alloc, World.size_alloc]; omega)
    go_wp2_with (first | (at_builtin; refine wpList_append_own _ rfl (.tmp 50) (.tmp 52) 25 rfl (w3.heap.size + 1) 48 i1 (.agg #[.string ⟨#[]⟩, .int .i64 0, .int .i64 0, .int .i64 0, .int .i64 0, .int .i64 0, .int .i64 0, .int .i64 0, .slice none 0 0, .slice none 0 0, .int .i64 0]) 11 128 Try.underlying25 HJ1.out HJ1a.out HJ1b.out HJ1c.out rfl (by decide) _ _ _ rfl HOWN1.out ⟨b, off, none⟩ n c (flat Tree.cells ts) rfl HFL.out (fun j u hu => (HTH.out _ HBV1.out).1.flat tree_eleven (by decide) j u hu) HFO.out (by unfold maxLen; omega) (by omega) HSZ1.out ?_; intro v1' w4 hown4 hgrow4 hnil4; have hne4 : v1' ≠ .slice none 0 0 := (fun hh => (by have := (hnil4.1 hh).1; cases this)); simp only [Nat.zero_add, List.nil_append] at hown4; obtain ⟨g, cap, hv4, hgb4, hgl4, hgc4, hheld4, hthere4⟩ := owned_held tree_eleven hown4 Hts.out (by omega) hne4; subst hv4; have hbel4 : Below (w3.heap.size + 1) ((w3.alloc (.cells #[.int .i64 age, .int .i64 rest, .int .i64 girth, .int .i64 f0, .int .i64 f1, .int .i64 f2, .int .i64 heal, .slice (some ⟨b, off, none⟩) n c] 27)).alloc (.cells #[] 48)) w4 := (Below.refl _ _).grown hgrow4 HSZ1.out (fun k e => (by cases e; exact Nat.le_refl _)); have HO4 := Lib.hid (((Blk.new w3 27 #[.int .i64 age, .int .i64 rest, .int .i64 girth, .int .i64 f0, .int .i64 f1, .int .i64 f2, .int .i64 heal, .slice (some ⟨b, off, none⟩) n c]).alloc (.cells #[] 48)).below hbel4 (by omega)); have Q4 := Lib.hid (((Q3.out.alloc (.cells #[.int .i64 age, .int .i64 rest, .int .i64 girth, .int .i64 f0, .int .i64 f1, .int .i64 f2, .int .i64 heal, .slice (some ⟨b, off, none⟩) n c] 27)).alloc (.cells #[] 48)).below hbel4 (by omega)); have X4 := Lib.hid (Boxed.below (Boxed.below X3.out (B := w3.heap.size) (((Below.refl _ w3).alloc (Nat.le_refl _) (.cells #[.int .i64 age, .int .i64 rest, .int .i64 girth, .int .i64 f0, .int .i64 f1, .int .i64 f2, .int .i64 heal, .slice (some ⟨b, off, none⟩) n c] 27)).alloc (by simp) (.cells #[] 48)) hz3') hbel4 (by omega)); have hB4 : Below w.heap.size w w4 := HBV1.out.trans (hbel4.mono (by omega)); have hz4 : w3.heap.size + 1 < w4.heap.size := (by have := HSZ1.out; omega); have HH4 := Lib.hid hheld4; have HE4 := Lib.hid hthere4; clear hheld4 hthere4 hown4 hgrow4 hnil4 hne4 hbel4 g0 g1 g2 g3 g4 g5 g6 g7; have o7 : w4.cell? ⟨w3.heap.size, 7, none⟩ = some (.slice (some ⟨b, off, none⟩) n c) := HO4.out.cell 7; have z7 : w4.frozen? ⟨w3.heap.size, 7, none⟩ = false := HO4.out.frozen 7; have g7 : w4.cell? ⟨w.heap.size, 7, none⟩ = some (.slice (some ⟨b, off, none⟩) n c) := X4.out.2.2.2.2.2.2.2; have nFO : w.heap.size ≠ w3.heap.size := (by omega); have ngO : g ≠ w3.heap.size := (by omega); have ngT : g ≠ w4.heap.size := (by omega); have hB4s : Below w.heap.size w (w4.setCell ⟨w3.heap.size, 7, none⟩ (.slice (some ⟨g, 0, none⟩) n cap)) := hB4.setCell (p := ⟨w3.heap.size, 7, none⟩) (by dsimp only; omega) _; have hs4 : (w4.setCell ⟨w3.heap.size, 7, none⟩ (.slice (some ⟨g, 0, none⟩) n cap)).heap.size = w4.heap.size := size_setCell _ _ _) | ((with_reducible refine at_load 48 (.tmp 58) ?_); go_must (refine wpList_load_mid rfl 48 (.tmp 58) rfl b (off + K * 11) rfl [.string code, .int .i64 bmin, .int .i64 bmax, .int .i64 taped, .int .i64 gmin, .int .i64 gmax, .int .i64 wmin, .int .i64 wmax, .slice sa sn sc, .slice wa wn wc, .int .i64 dead] _ (HRow.out (w4.setCell ⟨w3.heap.size, 7, none⟩ (.slice (some ⟨g, 0, none⟩) n cap)) hB4s) Try.underlying48 rfl size_tree ?_)) | ((with_reducible refine at_store 48 (.tmp 16) (.tmp 59) ?_); go_must (refine wpList_store_row rfl 48 (.tmp 16) (.tmp 59) rfl w4.heap.size ([.string code, .int .i64 bmin, .int .i64 bmax, .int .i64 taped, .int .i64 gmin, .int .i64 gmax, .int .i64 wmin, .int .i64 wmax, .slice sa sn sc, .slice wa wn wc, .int .i64 dead] : List Value).toArray rfl rfl 48 #[.string ⟨#[]⟩, .int .i64 0, .int .i64 0, .int .i64 0, .int .i64 0, .int .i64 0, .int .i64 0, .int .i64 0, .slice none 0 0, .slice none 0 0, .int .i64 0] (new_at (w4.setCell ⟨w3.heap.size, 7, none⟩ (.slice (some ⟨g, 0, none⟩) n cap)) hs4 _) size_tree rfl HO.out ?_); have hB5 : Below w.heap.size w (((w4.setCell ⟨w3.heap.size, 7, none⟩ (.slice (some ⟨g, 0, none⟩) n cap)).alloc (.cells #[.string ⟨#[]⟩, .int .i64 0, .int .i64 0, .int .i64 0, .int .i64 0, .int .i64 0, .int .i64 0, .int .i64 0, .slice none 0 0, .slice none 0 0, .int .i64 0] 48)).setRow w4.heap.size ([.string code, .int .i64 bmin, .int .i64 bmax, .int .i64 taped, .int .i64 gmin, .int .i64 gmax, .int .i64 wmin, .int .i64 wmax, .slice sa sn sc, .slice wa wn wc, .int .i64 dead] : List Value).toArray) := below_setRow (hB4s.alloc hB4s.size (.cells #[.string ⟨#[]⟩, .int .i64 0, .int .i64 0, .int .i64 0, .int .i64 0, .int .i64 0, .int .i64 0, .int .i64 0, .slice none 0 0, .slice none 0 0, .int .i64 0] 48)) (by omega) _; have hlow : ∀ k, k < w4.heap.size → (((w4.setCell ⟨w3.heap.size, 7, none⟩ (.slice (some ⟨g, 0, none⟩) n cap)).alloc (.cells #[.string ⟨#[]⟩, .int .i64 0, .int .i64 0, .int .i64 0, .int .i64 0, .int .i64 0, .int .i64 0, .int .i64 0, .slice none 0 0, .slice none 0 0, .int .i64 0] 48)).setRow w4.heap.size ([.string code, .int .i64 bmin, .int .i64 bmax, .int .i64 taped, .int .i64 gmin, .int .i64 gmax, .int .i64 wmin, .int .i64 wmax, .slice sa sn sc, .slice wa wn wc, .int .i64 dead] : List Value).toArray).heap[k]? = (w4.setCell ⟨w3.heap.size, 7, none⟩ (.slice (some ⟨g, 0, none⟩) n cap)).heap[k]? := (fun k hk => row_low (w4.setCell ⟨w3.heap.size, 7, none⟩ (.slice (some ⟨g, 0, none⟩) n cap)) hs4 _ _ k hk); have HT5 := Lib.hid (show Blk (((w4.setCell ⟨w3.heap.size, 7, none⟩ (.slice (some ⟨g, 0, none⟩) n cap)).alloc (.cells #[.string ⟨#[]⟩, .int .i64 0, .int .i64 0, .int .i64 0, .int .i64 0, .int .i64 0, .int .i64 0, .int .i64 0, .slice none 0 0, .slice none 0 0, .int .i64 0] 48)).setRow w4.heap.size ([.string code, .int .i64 bmin, .int .i64 bmax, .int .i64 taped, .int .i64 gmin, .int .i64 gmax, .int .i64 wmin, .int .i64 wmax, .slice sa sn sc, .slice wa wn wc, .int .i64 dead] : List Value).toArray) _ _ _ from setRow_heap ((w4.setCell ⟨w3.heap.size, 7, none⟩ (.slice (some ⟨g, 0, none⟩) n cap)).alloc (.cells #[.string ⟨#[]⟩, .int .i64 0, .int .i64 0, .int .i64 0, .int .i64 0, .int .i64 0, .int .i64 0, .int .i64 0, .slice none 0 0, .slice none 0 0, .int .i64 0] 48)) w4.heap.size _ ([.string code, .int .i64 bmin, .int .i64 bmax, .int .i64 taped, .int .i64 gmin, .int .i64 gmax, .int .i64 wmin, .int .i64 wmax, .slice sa sn sc, .slice wa wn wc, .int .i64 dead] : List Value).toArray _ _ (new_at (w4.setCell ⟨w3.heap.size, 7, none⟩ (.slice (some ⟨g, 0, none⟩) n cap)) hs4 _)); have HO5 := Lib.hid (show Blk (((w4.setCell ⟨w3.heap.size, 7, none⟩ (.slice (some ⟨g, 0, none⟩) n cap)).alloc (.cells #[.string ⟨#[]⟩, .int .i64 0, .int .i64 0, .int .i64 0, .int .i64 0, .int .i64 0, .int .i64 0, .int .i64 0, .slice none 0 0, .slice none 0 0, .int .i64 0] 48)).setRow w4.heap.size ([.string code, .int .i64 bmin, .int .i64 bmax, .int .i64 taped, .int .i64 gmin, .int .i64 gmax, .int .i64 wmin, .int .i64 wmax, .slice sa sn sc, .slice wa wn wc, .int .i64 dead] : List Value).toArray) w3.heap.size 27 #[.int .i64 age, .int .i64 rest, .int .i64 girth, .int .i64 f0, .int .i64 f1, .int .i64 f2, .int .i64 heal, .slice (some ⟨g, 0, none⟩) n cap] from (hlow _ (by omega)).trans (HO4.out.set_ 7 (.slice (some ⟨g, 0, none⟩) n cap))); have Q5 := Lib.hid (show Blk (((w4.setCell ⟨w3.heap.size, 7, none⟩ (.slice (some ⟨g, 0, none⟩) n cap)).alloc (.cells #[.string ⟨#[]⟩, .int .i64 0, .int .i64 0, .int .i64 0, .int .i64 0, .int .i64 0, .int .i64 0, .int .i64 0, .slice none 0 0, .slice none 0 0, .int .i64 0] 48)).setRow w4.heap.size ([.string code, .int .i64 bmin, .int .i64 bmax, .int .i64 taped, .int .i64 gmin, .int .i64 gmax, .int .i64 wmin, .int .i64 wmax, .slice sa sn sc, .slice wa wn wc, .int .i64 dead] : List Value).toArray) (w.heap.size + 1) 53 #[.int .u16 y0, .int .u16 y1, .int .u16 y2, .int .u16 y3, .int .u16 y4, .int .u16 y5] from (hlow _ (by omega)).trans (Q4.out.far (p := ⟨w3.heap.size, 7, none⟩) (by dsimp only; omega) _)); have HG5 := Lib.hid ((hlow g hgl4).trans (Below.heap_setCell w4 ⟨w3.heap.size, 7, none⟩ (.slice (some ⟨g, 0, none⟩) n cap) g ngO)); have hz5 : w4.heap.size < (((w4.setCell ⟨w3.heap.size, 7, none⟩ (.slice (some ⟨g, 0, none⟩) n cap)).alloc (.cells #[.string ⟨#[]⟩, .int .i64 0, .int .i64 0, .int .i64 0, .int .i64 0, .int .i64 0, .int .i64 0, .int .i64 0, .slice none 0 0, .slice none 0 0, .int .i64 0] 48)).setRow w4.heap.size ([.string code, .int .i64 bmin, .int .i64 bmax, .int .i64 taped, .int .i64 gmin, .int .i64 gmax, .int .i64 wmin, .int .i64 wmax, .slice sa sn sc, .slice wa wn wc, .int .i64 dead] : List Value).toArray).heap.size := HT5.out.lt; clear hlow o7 z7 g7 hB4s hs4; generalize (((w4.setCell ⟨w3.heap.size, 7, none⟩ (.slice (some ⟨g, 0, none⟩) n cap)).alloc (.cells #[.string ⟨#[]⟩, .int .i64 0, .int .i64 0, .int .i64 0, .int .i64 0, .int .i64 0, .int .i64 0, .int .i64 0, .slice none 0 0, .slice none 0 0, .int .i64 0] 48)).setRow w4.heap.size ([.string code, .int .i64 bmin, .int .i64 bmax, .int .i64 taped, .int .i64 gmin, .int .i64 gmax, .int .i64 wmin, .int .i64 wmax, .slice sa sn sc, .slice wa wn wc, .int .i64 dead] : List Value).toArray) = w5 at hB5 HT5 HO5 Q5 HG5 hz5 ⊢))
    have w5t1 : w5.cell? ⟨w4.heap.size, 1, none⟩ = some (.int .i64 bmin) := HT5.out.cell 1; have w5t2 : w5.cell? ⟨w4.heap.size, 2, none⟩ = some (.int .i64 bmax) := HT5.out.cell 2; have w5t4 : w5.cell? ⟨w4.heap.size, 4, none⟩ = some (.int .i64 gmin) := HT5.out.cell 4; have w5t5 : w5.cell? ⟨w4.heap.size, 5, none⟩ = some (.int .i64 gmax) := HT5.out.cell 5; have w5t6 : w5.cell? ⟨w4.heap.size, 6, none⟩ = some (.int .i64 wmin) := HT5.out.cell 6; have w5t7 : w5.cell? ⟨w4.heap.size, 7, none⟩ = some (.int .i64 wmax) := HT5.out.cell 7
    have q0 : w5.cell? ⟨w.heap.size + 1, 0, none⟩ = some (.int .u16 y0) := Q5.out.cell 0
    have q1 : w5.cell? ⟨w.heap.size + 1, 1, none⟩ = some (.int .u16 y1) := Q5.out.cell 1
    have q2 : w5.cell? ⟨w.heap.size + 1, 2, none⟩ = some (.int .u16 y2) := Q5.out.cell 2
    have q3 : w5.cell? ⟨w.heap.size + 1, 3, none⟩ = some (.int .u16 y3) := Q5.out.cell 3
    have q4 : w5.cell? ⟨w.heap.size + 1, 4, none⟩ = some (.int .u16 y4) := Q5.out.cell 4
    have q5 : w5.cell? ⟨w.heap.size + 1, 5, none⟩ = some (.int .u16 y5) := Q5.out.cell 5
    have kt1 := cell_regrown w5t1
    have kt2 := cell_regrown w5t2
    have kt4 := cell_regrown w5t4
    have kt5 := cell_regrown w5t5
    have kt6 := cell_regrown w5t6
    have kt7 := cell_regrown w5t7
    have kq0 := cell_regrown q0
    have kq1 := cell_regrown q1
    have kq2 := cell_regrown q2
    have kq3 := cell_regrown q3
    have kq4 := cell_regrown q4
    have kq5 := cell_regrown q5
    clear w5t1 w5t2 w5t4 w5t5 w5t6 w5t7 q0 q1 q2 q3 q4 q5
    have cI0 : ∀ d os, Calls Try.prog 17 #[.agg #[.int .i64 bmin, .int .i64 bmax], .int .u16 y0, .int .u16 y1] (Go.Sort.grow (redrawn w5 d) os) fun e w'' => e = .returned (.agg #[.int .i64 n0, .int .i64 m0]) ∧ ∃ p : Regrown, w'' = Go.Sort.grow (redrawn w5 p.d) p.os := fun d os => Calls.regrown_of (HI0.out _ (hB5.trans ((below_regrown w5 d os).mono hB5.size)))
    have cI1 : ∀ d os, Calls Try.prog 17 #[.agg #[.int .i64 gmin, .int .i64 gmax], .int .u16 y2, .int .u16 y3] (Go.Sort.grow (redrawn w5 d) os) fun e w'' => e = .returned (.agg #[.int .i64 n1, .int .i64 m1]) ∧ ∃ p : Regrown, w'' = Go.Sort.grow (redrawn w5 p.d) p.os := fun d os => Calls.regrown_of (HI1.out _ (hB5.trans ((below_regrown w5 d os).mono hB5.size)))
    have cI2 : ∀ d os, Calls Try.prog 17 #[.agg #[.int .i64 wmin, .int .i64 wmax], .int .u16 y4, .int .u16 y5] (Go.Sort.grow (redrawn w5 d) os) fun e w'' => e = .returned (.agg #[.int .i64 n2, .int .i64 m2]) ∧ ∃ p : Regrown, w'' = Go.Sort.grow (redrawn w5 p.d) p.os := fun d os => Calls.regrown_of (HI2.out _ (hB5.trans ((below_regrown w5 d os).mono hB5.size)))
    refine region_split_below 22 (by kernel_rfl) (by kernel_rfl) (by kernel_rfl) ?_
    simp only [Act.put, List.take_succ_cons, List.take_zero, List.drop_succ_cons, List.drop_zero]
    repeat (go_big_quiet_step (first | (with_reducible exact cI0 _ _) | (with_reducible exact cI1 _ _) | (with_reducible exact cI2 _ _)))
    refine wpQuiet_nil ?_
    intro w8 hw'
    have hb8 : Below w5.heap.size w5 w8 := by obtain ⟨⟨dq, osq⟩, hw''⟩ := hw'; rw [hw'']; exact below_regrown w5 dq osq
    clear hw' kt1 kt2 kt4 kt5 kt6 kt7 kq0 kq1 kq2 kq3 kq4 kq5 cI0 cI1 cI2
    have HT80 := Lib.hid (HT5.out.below hb8 hz5)
    have HO80 := Lib.hid (HO5.out.below hb8 (by omega))
    have hg5 : g < w5.heap.size := by omega
    have HG80 := Lib.hid ((hb8.block g hg5).trans HG5.out)
    have hB80 : Below w.heap.size w w8 := hB5.trans (hb8.mono hB5.size)
    have hs80 : w5.heap.size ≤ w8.heap.size := hb8.size
    have hOT : w3.heap.size ≠ w4.heap.size := by omega
    have hWT : w.heap.size ≤ w4.heap.size := by omega
    have HON2 := Lib.hid (show (#[.int .i64 n1, .int .i64 m1] : Array Value).all (·.oneCell') = true from by simp [Value.oneCell'])
    have HON3 := Lib.hid (show (#[.int .i64 n2, .int .i64 m2] : Array Value).all (·.oneCell') = true from by simp [Value.oneCell'])
    have HON4 := Lib.hid (show (#[.string code, .int .i64 n0, .int .i64 m0, .int .i64 taped, .int .i64 n1, .int .i64 m1, .int .i64 n2, .int .i64 m2, .slice sa sn sc, .slice wa wn wc, .int .i64 dead] : Array Value).all (·.oneCell') = true from by simp [Value.oneCell'])
    have HE1 := Lib.hid (Blk.there HT80.out (o := 1) (n := 2) (Nat.le_of_ble_eq_true rfl))
    refine wpList_store_mid rfl 41 (.tmp 81) (.tmp 66) rfl w4.heap.size 1 #[.int .i64 n0, .int .i64 m0] rfl rfl HE1.out size_bounds (by simp [Value.oneCell']) ?_
    change wpList _ _ _ _ _ (w8.setCells w4.heap.size 1 [.int .i64 n0, .int .i64 m0])
    have hB81 : Below w.heap.size w (w8.setCells w4.heap.size 1 [.int .i64 n0, .int .i64 m0]) := below_setCells hB80 hWT [.int .i64 n0, .int .i64 m0] 1
    have HT81 := Lib.hid (show Blk (w8.setCells w4.heap.size 1 [.int .i64 n0, .int .i64 m0]) w4.heap.size 48 #[.string code, .int .i64 n0, .int .i64 m0, .int .i64 taped, .int .i64 gmin, .int .i64 gmax, .int .i64 wmin, .int .i64 wmax, .slice sa sn sc, .slice wa wn wc, .int .i64 dead] from Blk.sets2 HT80.out 1 (.int .i64 n0) (.int .i64 m0))
    have HO81 := Lib.hid (show Blk (w8.setCells w4.heap.size 1 [.int .i64 n0, .int .i64 m0]) w3.heap.size 27 #[.int .i64 age, .int .i64 rest, .int .i64 girth, .int .i64 f0, .int .i64 f1, .int .i64 f2, .int .i64 heal, .slice (some ⟨g, 0, none⟩) n cap] from (heap_setCells w8 w4.heap.size hOT [.int .i64 n0, .int .i64 m0] 1).trans HO80.out)
    have HG81 := Lib.hid (show (w8.setCells w4.heap.size 1 [.int .i64 n0, .int .i64 m0]).heap[g]? = w4.heap[g]? from (heap_setCells w8 w4.heap.size ngT [.int .i64 n0, .int .i64 m0] 1).trans HG80.out)
    have hs81 : w5.heap.size ≤ (w8.setCells w4.heap.size 1 [.int .i64 n0, .int .i64 m0]).heap.size := (by rw [size_setCells]; exact hs80)
    have HE2 := Lib.hid (Blk.there HT81.out (o := 4) (n := 2) (Nat.le_of_ble_eq_true rfl))
    simp only [Act.put]
    generalize (w8.setCells w4.heap.size 1 [.int .i64 n0, .int .i64 m0]) = x1 at hB81 HT81 HO81 HG81 hs81 HE2 ⊢
    go_wp2_with (first | ((with_reducible refine at_store 41 (.tmp 82) (.tmp 73) ?_); go_must (refine wpList_store_mid rfl 41 (.tmp 82) (.tmp 73) rfl w4.heap.size 4 #[.int .i64 n1, .int .i64 m1] rfl rfl HE2.out size_bounds HON2.out ?_); change wpList _ _ _ _ _ (x1.setCells w4.heap.size 4 [.int .i64 n1, .int .i64 m1]); have hB82 : Below w.heap.size w (x1.setCells w4.heap.size 4 [.int .i64 n1, .int .i64 m1]) := below_setCells hB81 hWT [.int .i64 n1, .int .i64 m1] 4; have HT82 := Lib.hid (show Blk (x1.setCells w4.heap.size 4 [.int .i64 n1, .int .i64 m1]) w4.heap.size 48 #[.string code, .int .i64 n0, .int .i64 m0, .int .i64 taped, .int .i64 n1, .int .i64 m1, .int .i64 wmin, .int .i64 wmax, .slice sa sn sc, .slice wa wn wc, .int .i64 dead] from Blk.sets2 HT81.out 4 (.int .i64 n1) (.int .i64 m1)); have HO82 := Lib.hid (show Blk (x1.setCells w4.heap.size 4 [.int .i64 n1, .int .i64 m1]) w3.heap.size 27 #[.int .i64 age, .int .i64 rest, .int .i64 girth, .int .i64 f0, .int .i64 f1, .int .i64 f2, .int .i64 heal, .slice (some ⟨g, 0, none⟩) n cap] from (heap_setCells x1 w4.heap.size hOT [.int .i64 n1, .int .i64 m1] 4).trans HO81.out); have HG82 := Lib.hid (show (x1.setCells w4.heap.size 4 [.int .i64 n1, .int .i64 m1]).heap[g]? = w4.heap[g]? from (heap_setCells x1 w4.heap.size ngT [.int .i64 n1, .int .i64 m1] 4).trans HG81.out); have hs82 : w5.heap.size ≤ (x1.setCells w4.heap.size 4 [.int .i64 n1, .int .i64 m1]).heap.size := (by rw [size_setCells]; exact hs81); have HE3 := Lib.hid (Blk.there HT82.out (o := 6) (n := 2) (Nat.le_of_ble_eq_true rfl)); generalize (x1.setCells w4.heap.size 4 [.int .i64 n1, .int .i64 m1]) = x2 at hB82 HT82 HO82 HG82 hs82 HE3 ⊢) | ((with_reducible refine at_store 41 (.tmp 83) (.tmp 80) ?_); go_must (refine wpList_store_mid rfl 41 (.tmp 83) (.tmp 80) rfl w4.heap.size 6 #[.int .i64 n2, .int .i64 m2] rfl rfl HE3.out size_bounds HON3.out ?_); change wpList _ _ _ _ _ (x2.setCells w4.heap.size 6 [.int .i64 n2, .int .i64 m2]); have hB83 : Below w.heap.size w (x2.setCells w4.heap.size 6 [.int .i64 n2, .int .i64 m2]) := below_setCells hB82 hWT [.int .i64 n2, .int .i64 m2] 6; have HT83 := Lib.hid (show Blk (x2.setCells w4.heap.size 6 [.int .i64 n2, .int .i64 m2]) w4.heap.size 48 #[.string code, .int .i64 n0, .int .i64 m0, .int .i64 taped, .int .i64 n1, .int .i64 m1, .int .i64 n2, .int .i64 m2, .slice sa sn sc, .slice wa wn wc, .int .i64 dead] from Blk.sets2 HT82.out 6 (.int .i64 n2) (.int .i64 m2)); have HO83 := Lib.hid (show Blk (x2.setCells w4.heap.size 6 [.int .i64 n2, .int .i64 m2]) w3.heap.size 27 #[.int .i64 age, .int .i64 rest, .int .i64 girth, .int .i64 f0, .int .i64 f1, .int .i64 f2, .int .i64 heal, .slice (some ⟨g, 0, none⟩) n cap] from (heap_setCells x2 w4.heap.size hOT [.int .i64 n2, .int .i64 m2] 6).trans HO82.out); have HG83 := Lib.hid (show (x2.setCells w4.heap.size 6 [.int .i64 n2, .int .i64 m2]).heap[g]? = w4.heap[g]? from (heap_setCells x2 w4.heap.size ngT [.int .i64 n2, .int .i64 m2] 6).trans HG82.out); have hs83 : w5.heap.size ≤ (x2.setCells w4.heap.size 6 [.int .i64 n2, .int .i64 m2]).heap.size := (by rw [size_setCells]; exact hs82); generalize (x2.setCells w4.heap.size 6 [.int .i64 n2, .int .i64 m2]) = w9 at hB83 HT83 HO83 HG83 hs83 ⊢; have hB9 := hB83; have HT9 := HT83; have HO9 := HO83; have HG9 := HG83; have hs9 : w4.heap.size ≤ w9.heap.size := (by omega); have hs9' := hs83; have o7 : w9.cell? ⟨w3.heap.size, 7, none⟩ = some (.slice (some ⟨g, 0, none⟩) n cap) := HO9.out.cell 7; have HE9 := Lib.hid (there_same HG9.out (HE4.out K hKn))) | ((with_reducible refine at_load 48 (.tmp 16) ?_); go_must (refine wpList_load_row rfl 48 (.tmp 16) rfl w4.heap.size rfl 48 #[.string code, .int .i64 n0, .int .i64 m0, .int .i64 taped, .int .i64 n1, .int .i64 m1, .int .i64 n2, .int .i64 m2, .slice sa sn sc, .slice wa wn wc, .int .i64 dead] (0, 0) _ HT9.out Try.underlying48 rfl size_tree ?_)) | ((with_reducible refine at_store 48 (.tmp 88) (.tmp 87) ?_); go_must (refine wpList_store_mid rfl 48 (.tmp 88) (.tmp 87) rfl g (K * 11) #[.string code, .int .i64 n0, .int .i64 m0, .int .i64 taped, .int .i64 n1, .int .i64 m1, .int .i64 n2, .int .i64 m2, .slice sa sn sc, .slice wa wn wc, .int .i64 dead] rfl rfl HE9.out size_tree HON4.out ?_); change wpList _ _ _ _ _ (w9.setCells g (K * 11) [.string code, .int .i64 n0, .int .i64 m0, .int .i64 taped, .int .i64 n1, .int .i64 m1, .int .i64 n2, .int .i64 m2, .slice sa sn sc, .slice wa wn wc, .int .i64 dead]); have hB10 : Below w.heap.size w (w9.setCells g (K * 11) [.string code, .int .i64 n0, .int .i64 m0, .int .i64 taped, .int .i64 n1, .int .i64 m1, .int .i64 n2, .int .i64 m2, .slice sa sn sc, .slice wa wn wc, .int .i64 dead]) := below_setCells hB9 (by omega) _ _; have HO10 := Lib.hid (show Blk (w9.setCells g (K * 11) [.string code, .int .i64 n0, .int .i64 m0, .int .i64 taped, .int .i64 n1, .int .i64 m1, .int .i64 n2, .int .i64 m2, .slice sa sn sc, .slice wa wn wc, .int .i64 dead]) w3.heap.size 27 #[.int .i64 age, .int .i64 rest, .int .i64 girth, .int .i64 f0, .int .i64 f1, .int .i64 f2, .int .i64 heal, .slice (some ⟨g, 0, none⟩) n cap] from (heap_setCells _ g (fun hh => ngO hh.symm) _ _).trans HO9.out); have hold := hold_at (HTH.out _ hB10).2 (show K < ts.length from (by rw [Hts.out]; exact hKn)); rw [HKt.out] at hold; have HTR := Lib.hid (show TreesHeld (w9.setCells g (K * 11) [.string code, .int .i64 n0, .int .i64 m0, .int .i64 taped, .int .i64 n1, .int .i64 m1, .int .i64 n2, .int .i64 m2, .slice sa sn sc, .slice wa wn wc, .int .i64 dead]).heap.size (w9.setCells g (K * 11) [.string code, .int .i64 n0, .int .i64 m0, .int .i64 taped, .int .i64 n1, .int .i64 m1, .int .i64 n2, .int .i64 m2, .slice sa sn sc, .slice wa wn wc, .int .i64 dead]) (.slice (some ⟨g, 0, none⟩) n cap) (ts.set K ⟨code, n0, m0, taped, n1, m1, n2, m2, .slice sa sn sc, .slice wa wn wc, dead, strips, wounds⟩) from trees_set (Held.store tree_eleven (Held.same HH4.out hs9 HG9.out) K (by rw [Hts.out]; exact hKn) ⟨code, n0, m0, taped, n1, m1, n2, m2, .slice sa sn sc, .slice wa wn wc, dead, strips, wounds⟩ HE9.out) (HTH.out _ hB10).2 hold); clear hold o7; generalize w9.setCells g (K * 11) [.string code, .int .i64 n0, .int .i64 m0, .int .i64 taped, .int .i64 n1, .int .i64 m1, .int .i64 n2, .int .i64 m2, .slice sa sn sc, .slice wa wn wc, .int .i64 dead] = w10 at hB10 HO10 HTR ⊢; have o0 : w10.cell? ⟨w3.heap.size, 0, none⟩ = some (.int .i64 age) := HO10.out.cell 0; have o1 : w10.cell? ⟨w3.heap.size, 1, none⟩ = some (.int .i64 rest) := HO10.out.cell 1; have o2 : w10.cell? ⟨w3.heap.size, 2, none⟩ = some (.int .i64 girth) := HO10.out.cell 2; have o3 : w10.cell? ⟨w3.heap.size, 3, none⟩ = some (.int .i64 f0) := HO10.out.cell 3; have o4 : w10.cell? ⟨w3.heap.size, 4, none⟩ = some (.int .i64 f1) := HO10.out.cell 4; have o5 : w10.cell? ⟨w3.heap.size, 5, none⟩ = some (.int .i64 f2) := HO10.out.cell 5; have o6 : w10.cell? ⟨w3.heap.size, 6, none⟩ = some (.int .i64 heal) := HO10.out.cell 6; have o7 : w10.cell? ⟨w3.heap.size, 7, none⟩ = some (.slice (some ⟨g, 0, none⟩) n cap) := HO10.out.cell 7))
    refine (HM2.out _ g cap hB10 HTR.out).mono ?_
    rintro e w11 ⟨rfl, hw11⟩
    have hB11 := hB10.trans (hw11.mono hB10.size)
    clear hw11 o0 o1 o2 o3 o4 o5 o6 o7
    rcases Hcase.out with ⟨he, rfl⟩ | ⟨rfl, rfl, ⟨rfl, ⟨rfl, rfl⟩ | ⟨rfl | rfl, hr⟩⟩ | ⟨rfl, rfl, rfl⟩ | ⟨rfl, rfl, hr, hle⟩⟩
    · have heb := bne_iff_ne.2 he
      clear he
      go_wp2_with fail
      refine (grows_calls _).mono ?_
      rintro e w12 ⟨rfl, hw12⟩
      go_wp2
      go_ret
      exact ⟨rfl, hB11.trans (hw12.mono hB11.size)⟩
    · go_wp2_with fail
      refine (grows_calls _).mono ?_
      rintro e w12 ⟨rfl, hw12⟩
      go_wp2
      go_ret
      exact ⟨rfl, hB11.trans (hw12.mono hB11.size)⟩
    · have hrb := beq_eq_false_iff_ne.2 hr
      clear hr
      go_wp2_with fail
      refine (grows_calls _).mono ?_
      rintro e w12 ⟨rfl, hw12⟩
      go_wp2
      go_ret
      exact ⟨rfl, hB11.trans (hw12.mono hB11.size)⟩
    · have hrb := beq_eq_false_iff_ne.2 hr
      clear hr
      go_wp2_with fail
      refine (grows_calls _).mono ?_
      rintro e w12 ⟨rfl, hw12⟩
      go_wp2
      go_ret
      exact ⟨rfl, hB11.trans (hw12.mono hB11.size)⟩
    · go_wp2_with fail
      refine (grows_calls _).mono ?_
      rintro e w12 ⟨rfl, hw12⟩
      go_wp2
      go_ret
      exact ⟨rfl, hB11.trans (hw12.mono hB11.size)⟩
    · have hrb := beq_eq_false_iff_ne.2 hr
      have hd := decide_eq_true hle
      clear hr
      go_wp2_with fail
      refine (grows_calls _).mono ?_
      rintro e w12 ⟨rfl, hw12⟩
      go_wp2
      go_ret
      exact ⟨rfl, hB11.trans (hw12.mono hB11.size)⟩
  · go_wp2_with fail
    refine (grows_calls _).mono ?_
    rintro e w2 ⟨rfl, hw2⟩
    go_wp2
    go_ret
    exact ⟨rfl, hB1.trans (hw2.mono hB1.size)⟩
end Go.Proofs.Ytdpockkfmdkbhaa
