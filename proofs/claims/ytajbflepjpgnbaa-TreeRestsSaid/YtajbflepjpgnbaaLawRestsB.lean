/- TreeRests: the way on which a strip is entered in the book. -/
import Derived.Test.YtajbflepjpgnbaaBoxed
import Derived.Test.YtajbflepjpgnbaaLawRestsA
import Derived.Test.YtajbflepjpgnbaaKept
import Derived.Test.YtajbflepjpgnbaaRestFacts
import Derived.Laws.AppendOwnNone
namespace Go.Proofs.Ytajbflepjpgnbaa
open Go.RowKit Go.Shelf


theorem info_tree : (Try.prog.info? 53).map (fun i => (i.zero, i.size, i.bytes)) = some (some (.agg #[.string ⟨#[]⟩, .int .i64 0, .int .i64 0, .int .i64 0, .int .i64 0, .int .i64 0, .int .i64 0, .int .i64 0, .slice none 0 0, .slice none 0 0, .int .i64 0]), 11, 128) := by kernel_rfl
theorem info_strip : (Try.prog.info? 64).map (fun i => (i.zero, i.size, i.bytes)) = some (some (.agg #[.int .i64 0, .int .i64 0]), 2, 16) := by kernel_rfl

theorem owns_at (w : World) (e : TypeId) (size : Nat) {B : Nat} (h : w.heap.size = B) : (w.alloc (.cells #[] e)).ownsRow B e size (.slice (some ⟨B, 0, none⟩) 0 0) 0 [] := h ▸ owns_empty w e size
theorem new_cell (w : World) (t : TypeId) (l : List Value) (j : Nat) (u : Value) (h : l[j]? = some u) : (w.alloc (.cells l.toArray t)).cell? ((⟨w.heap.size, 0, none⟩ : Addr).add j) = some u := by
  rw [Addr.add_mid, Nat.zero_add]
  have := (Blk.new w t l.toArray).cell j
  rw [this]
  simpa using h
theorem trees_set {B : Nat} {w : World} {v : Value} {ts : List Tree} {K : Nat} {x : Tree} (h : Held B w 11 Tree.cells v (ts.set K x)) (ho : ∀ t ∈ ts, TreeHeld B w t) (hx : TreeHeld B w x) : TreesHeld B w v (ts.set K x) := ⟨h, fun t ht => by
  rcases List.mem_or_eq_of_mem_set ht with ht | rfl
  · exact ho t ht
  · exact hx⟩
theorem hold_at {B : Nat} {w : World} {ts : List Tree} (h : ∀ t ∈ ts, TreeHeld B w t) {K : Nat} (hK : K < ts.length) : TreeHeld B w ts[K]! := by
  rw [getElem!_pos ts K hK]; exact h _ (List.getElem_mem hK)
theorem flat_ones_of {α : Type} {enc : α → List Value} {xs : List α} (h : ∀ a ∈ xs, ∀ u ∈ enc a, u.oneCell' = true) : ∀ u ∈ flat enc xs, u.oneCell' = true := by
  intro u hu
  unfold flat at hu
  rw [List.mem_flatten] at hu
  obtain ⟨l, hl, hu⟩ := hu
  obtain ⟨a, ha, rfl⟩ := List.mem_map.1 hl
  exact h a ha u hu

set_option maxRecDepth 100000 in
set_option maxHeartbeats 8000000 in
theorem rests_pos (age rest girth f0 f1 f2 heal : Int) (b off n c K : Nat) (code : ByteArray) (bmin bmax taped gmin gmax wmin wmax : Int) (b2 off2 sn sc : Nat) (wa : Option Addr) (wn wc : Nat) (dead : Int) (which year height soon : Int) (v r e : Int) (w : World)
    (hw0 : 0 ≤ which) (hw1' : which ≤ 255) (hKe : which % (n : Int) = (K : Int)) (hKn : K < n) (hb : b < w.heap.size)
    (hRow : ∀ W, Below w.heap.size w W → W.rangeAt b (off + K * 11) [.string code, .int .i64 bmin, .int .i64 bmax, .int .i64 taped, .int .i64 gmin, .int .i64 gmax, .int .i64 wmin, .int .i64 wmax, .slice (some ⟨b2, off2, none⟩) sn sc, .slice wa wn wc, .int .i64 dead])
    (hGreat : ∀ W, Below w.heap.size w W → Calls Try.prog 14 #[.agg #[.int .i64 age, .int .i64 rest, .int .i64 girth, .int .i64 f0, .int .i64 f1, .int .i64 f2, .int .i64 heal, .slice (some ⟨b, off, none⟩) n c]] W (SomeBool W))
    (hCheck : ∀ W, Below w.heap.size w W → Calls Try.prog 19 #[.agg #[.int .i64 age, .int .i64 rest, .int .i64 girth, .int .i64 f0, .int .i64 f1, .int .i64 f2, .int .i64 heal, .slice (some ⟨b, off, none⟩) n c]] W fun e w' => e = .returned (.int .i64 0) ∧ Below W.heap.size W w')
    (hM : ∀ W, Below w.heap.size w W → Calls Try.prog 20 #[.agg #[.int .i64 age, .int .i64 rest, .int .i64 girth, .int .i64 f0, .int .i64 f1, .int .i64 f2, .int .i64 heal, .slice (some ⟨b, off, none⟩) n c], .int .i64 K, .int .i64 year, .int .i64 height] W fun e' w' => e' = .returned (.tuple #[.int .i64 v, .int .i64 r, .int .i64 e]) ∧ Below W.heap.size W w')
    (ts : List Tree) (strips : List (Int × Int)) (wounds : List Int) (yv i ru : Int)
    (hsn : sn ≤ 10) (he : e = 0) (hx : v = 1) (hs : ¬ sn = 10) (hts : ts.length = n) (hn20 : n ≤ 20) (hst : strips.length = sn)
    (hy0 : 0 ≤ year) (hy1 : year ≤ 300) (hr0 : 1 ≤ rest) (hr1 : rest ≤ 30) (hso0 : 0 ≤ soon) (hso1 : soon ≤ 255) (hyv : year + soon % rest = yv)
    (hTH : ∀ W, Below w.heap.size w W → Held W.heap.size W 11 Tree.cells (.slice (some ⟨b, off, none⟩) n c) ts ∧ ∀ t ∈ ts, TreeHeld W.heap.size W t)
    (hKt : ts[K]! = ⟨code, bmin, bmax, taped, gmin, gmax, wmin, wmax, .slice (some ⟨b2, off2, none⟩) sn sc, .slice wa wn wc, dead, strips, wounds⟩)
    (hones : ∀ t ∈ ts, ∀ u ∈ Tree.cells t, u.oneCell' = true)
    (hF1 : ∀ W, Below w.heap.size w W → Calls Try.prog 31 #[.agg #[.int .i64 age, .int .i64 rest, .int .i64 girth, .int .i64 f0, .int .i64 f1, .int .i64 f2, .int .i64 heal, .slice (some ⟨b, off, none⟩) n c], .int .i64 K] W fun e' w' => e' = .returned (.tuple #[.int .i64 i, .int .i64 ru, .int .i64 0]) ∧ Below W.heap.size W w')
    (hF2 : ∀ W v3 g cap, Below w.heap.size w W → TreesHeld W.heap.size W (.slice (some ⟨g, 0, none⟩) n cap) (ts.set K ⟨code, bmin, bmax, taped, gmin, gmax, wmin, wmax, v3, .slice wa wn wc, dead, strips ++ [(year, height)], wounds⟩) → Calls Try.prog 31 #[.agg #[.int .i64 age, .int .i64 rest, .int .i64 girth, .int .i64 f0, .int .i64 f1, .int .i64 f2, .int .i64 heal, .slice (some ⟨g, 0, none⟩) n cap], .int .i64 K] W fun e' w' => e' = .returned (.tuple #[.int .i64 i, .int .i64 ru, .int .i64 0]) ∧ Below W.heap.size W w')
    (hM2 : (300 < yv ∨ (0 ≤ dead ∧ dead ≤ yv)) ∨ (yv ≤ 300 ∧ (dead < 0 ∨ yv < dead) ∧ ∀ W v3 g cap, Below w.heap.size w W → TreesHeld W.heap.size W (.slice (some ⟨g, 0, none⟩) n cap) (ts.set K ⟨code, bmin, bmax, taped, gmin, gmax, wmin, wmax, v3, .slice wa wn wc, dead, strips ++ [(year, height)], wounds⟩) → Calls Try.prog 20 #[.agg #[.int .i64 age, .int .i64 rest, .int .i64 girth, .int .i64 f0, .int .i64 f1, .int .i64 f2, .int .i64 heal, .slice (some ⟨g, 0, none⟩) n cap], .int .i64 K, .int .i64 yv, .int .i64 1] W fun e' w' => e' = .returned (.tuple #[.int .i64 2, .int .i64 3, .int .i64 0]) ∧ Below W.heap.size W w'))
    (last : Int) (hs0 : 0 < sn) (hlast : ∀ W, Below w.heap.size w W → W.cell? ⟨b2, off2 + (sn - 1) * 2, none⟩ = some (.int .i64 last)) (hl : last ≤ year) :
    Calls Try.prog 12 #[.agg #[.int .i64 age, .int .i64 rest, .int .i64 girth, .int .i64 f0, .int .i64 f1, .int .i64 f2, .int .i64 heal, .slice (some ⟨b, off, none⟩) n c], .int .u8 which, .int .i64 year, .int .i64 height, .int .u8 soon] w fun e w' => e = .returned (.bool true) ∧ Below w.heap.size w w' := by
  subst he hx
  have hsb : ((sn : Int) == 10) = false := by simp; omega
  have hs10 : (sn : Int) ≤ 10 := by omega
  have hs1 : (0 : Int) < (sn : Int) := by omega
  have HL := Lib.hid hlast; clear hlast
  have hd : decide (year < last) = false := decide_eq_false (by omega)
  have HTS := Lib.hid hts; clear hts
  have HST := Lib.hid hst; clear hst
  have HTH := Lib.hid hTH; clear hTH
  have HKt := Lib.hid hKt; clear hKt
  have HON := Lib.hid hones; clear hones
  have HF1 := Lib.hid hF1; clear hF1
  have HF2 := Lib.hid hF2; clear hF2
  have HM2 := Lib.hid hM2; clear hM2
  have hq0 : 0 ≤ soon % rest := Int.emod_nonneg _ (by omega)
  have hq1 : soon % rest ≤ 30 := by have := Int.emod_lt_of_pos soon (show 0 < rest by omega); omega
  obtain ⟨i1, hi1, hi1a, hi1b, hi1c⟩ := info_parts info_tree
  obtain ⟨i2, hi2, hi2a, hi2b, hi2c⟩ := info_parts info_strip
  have HI1 := Lib.hid hi1; clear hi1
  have HI1a := Lib.hid hi1a; clear hi1a
  have HI1b := Lib.hid hi1b; clear hi1b
  have HI1c := Lib.hid hi1c; clear hi1c
  have HI2 := Lib.hid hi2; clear hi2
  have HI2a := Lib.hid hi2a; clear hi2a
  have HI2b := Lib.hid hi2b; clear hi2b
  have HI2c := Lib.hid hi2c; clear hi2c
  have HGreat := Lib.hid hGreat; clear hGreat
  have HCheck := Lib.hid hCheck; clear hCheck
  have HM := Lib.hid hM; clear hM
  have HRow := Lib.hid hRow; clear hRow
  have HO := Lib.hid (show ([.string code, .int .i64 bmin, .int .i64 bmax, .int .i64 taped, .int .i64 gmin, .int .i64 gmax, .int .i64 wmin, .int .i64 wmax, .slice (some ⟨b2, off2, none⟩) sn sc, .slice wa wn wc, .int .i64 dead] : List Value).toArray.all (·.oneCell') = true from by simp [Value.oneCell'])
  have hB0 := Lib.hid (show Below w.heap.size w (w.alloc (.cells #[.int .i64 age, .int .i64 rest, .int .i64 girth, .int .i64 f0, .int .i64 f1, .int .i64 f2, .int .i64 heal, .slice (some ⟨b, off, none⟩) n c] 27)) from (Below.refl _ _).alloc (Nat.le_refl _) _)
  have K0 := Lib.hid (boxed_new w ⟨age, rest, girth, f0, f1, f2, heal⟩ (some ⟨b, off, none⟩) n c)
  have hn1 : (0 : Int) < (n : Int) := by omega
  have hnb : ((n : Int) == 0) = false := by simp; omega
  have hKn' : (K : Int) < (n : Int) := by omega
  go_enter Try.func12, Try.ntmps12
  go_wp2_with fail
  refine (HGreat.out _ hB0.out).mono ?_
  rintro e w1 ⟨b1, rfl, hw1⟩
  have hB1 := hB0.out.trans (hw1.mono hB0.out.size)
  have X1 := Lib.hid (K0.out.below hw1 (by simp))
  have hz1 : w.heap.size < w1.heap.size := by have := hw1.size; simp at this; omega
  clear K0 hB0 hw1
  cases b1
  · obtain ⟨g0, g1, g2, g3, g4, g5, g6, g7⟩ := X1.out
    dsimp only at g0 g1 g2 g3 g4 g5 g6
    go_wp2_with fail
    refine (HCheck.out _ hB1).mono ?_
    rintro e w2 ⟨rfl, hw2⟩
    clear g0 g1 g2 g3 g4 g5 g6 g7
    have hB2 := hB1.trans (hw2.mono hB1.size)
    have hz2 : w.heap.size < w2.heap.size := Nat.lt_of_lt_of_le hz1 hw2.size
    have X2 := Lib.hid (X1.out.below hw2 hz1)
    clear hw2 X1
    obtain ⟨g0, g1, g2, g3, g4, g5, g6, g7⟩ := X2.out
    dsimp only at g0 g1 g2 g3 g4 g5 g6
    have bz2 : b < w2.heap.size := by omega
    go_wp2_with (first | ((with_reducible refine at_load 53 (.tmp 47) ?_); go_must (refine wpList_load_mid rfl 53 (.tmp 47) rfl b (off + K * 11) rfl [.string code, .int .i64 bmin, .int .i64 bmax, .int .i64 taped, .int .i64 gmin, .int .i64 gmax, .int .i64 wmin, .int .i64 wmax, .slice (some ⟨b2, off2, none⟩) sn sc, .slice wa wn wc, .int .i64 dead] _ (HRow.out w2 hB2) Try.underlying53 rfl size_tree ?_)) | ((with_reducible refine at_store 53 (.tmp 12) (.tmp 48) ?_); go_must (refine wpList_store_row rfl 53 (.tmp 12) (.tmp 48) rfl w2.heap.size ([.string code, .int .i64 bmin, .int .i64 bmax, .int .i64 taped, .int .i64 gmin, .int .i64 gmax, .int .i64 wmin, .int .i64 wmax, .slice (some ⟨b2, off2, none⟩) sn sc, .slice wa wn wc, .int .i64 dead] : List Value).toArray rfl rfl 53 #[.string ⟨#[]⟩, .int .i64 0, .int .i64 0, .int .i64 0, .int .i64 0, .int .i64 0, .int .i64 0, .int .i64 0, .slice none 0 0, .slice none 0 0, .int .i64 0] (heap_alloc_new w2 _) size_tree rfl HO.out ?_); have hB3 := below_setRow (hB2.alloc hB2.size (.cells #[.string ⟨#[]⟩, .int .i64 0, .int .i64 0, .int .i64 0, .int .i64 0, .int .i64 0, .int .i64 0, .int .i64 0, .slice none 0 0, .slice none 0 0, .int .i64 0] 53)) hB2.size ([.string code, .int .i64 bmin, .int .i64 bmax, .int .i64 taped, .int .i64 gmin, .int .i64 gmax, .int .i64 wmin, .int .i64 wmax, .slice (some ⟨b2, off2, none⟩) sn sc, .slice wa wn wc, .int .i64 dead] : List Value).toArray; have HT3 := Lib.hid (show Blk _ _ _ _ from setRow_heap (w2.alloc (.cells #[.string ⟨#[]⟩, .int .i64 0, .int .i64 0, .int .i64 0, .int .i64 0, .int .i64 0, .int .i64 0, .int .i64 0, .slice none 0 0, .slice none 0 0, .int .i64 0] 53)) w2.heap.size _ ([.string code, .int .i64 bmin, .int .i64 bmax, .int .i64 taped, .int .i64 gmin, .int .i64 gmax, .int .i64 wmin, .int .i64 wmax, .slice (some ⟨b2, off2, none⟩) sn sc, .slice wa wn wc, .int .i64 dead] : List Value).toArray _ _ (heap_alloc_new w2 _)); have X3 := Lib.hid (Boxed.below X2.out (B := w2.heap.size) (below_setRow ((Below.refl _ w2).alloc (Nat.le_refl _) (.cells #[.string ⟨#[]⟩, .int .i64 0, .int .i64 0, .int .i64 0, .int .i64 0, .int .i64 0, .int .i64 0, .int .i64 0, .slice none 0 0, .slice none 0 0, .int .i64 0] 53)) (Nat.le_refl _) ([.string code, .int .i64 bmin, .int .i64 bmax, .int .i64 taped, .int .i64 gmin, .int .i64 gmax, .int .i64 wmin, .int .i64 wmax, .slice (some ⟨b2, off2, none⟩) sn sc, .slice wa wn wc, .int .i64 dead] : List Value).toArray) hz2); generalize (w2.alloc (.cells #[.string ⟨#[]⟩, .int .i64 0, .int .i64 0, .int .i64 0, .int .i64 0, .int .i64 0, .int .i64 0, .int .i64 0, .slice none 0 0, .slice none 0 0, .int .i64 0] 53)).setRow w2.heap.size ([.string code, .int .i64 bmin, .int .i64 bmax, .int .i64 taped, .int .i64 gmin, .int .i64 gmax, .int .i64 wmin, .int .i64 wmax, .slice (some ⟨b2, off2, none⟩) sn sc, .slice wa wn wc, .int .i64 dead] : List Value).toArray = w3 at hB3 HT3 X3 ⊢; clear g0 g1 g2 g3 g4 g5 g6 g7; obtain ⟨g0, g1, g2, g3, g4, g5, g6, g7⟩ := X3.out; dsimp only at g0 g1 g2 g3 g4 g5 g6; have c8 : w3.cell? ⟨w2.heap.size, 8, none⟩ = some (.slice (some ⟨b2, off2, none⟩) sn sc) := HT3.out.cell 8))
    refine (HM.out _ hB3).mono ?_
    rintro e w4 ⟨rfl, hw4⟩
    clear g0 g1 g2 g3 g4 g5 g6 g7 c8
    have hB4 := hB3.trans (hw4.mono hB3.size)
    have hT3 := HT3.out.lt
    have hz4 : w.heap.size < w4.heap.size := Nat.lt_of_lt_of_le (Nat.lt_trans hz2 hT3) hw4.size
    have X4 := Lib.hid (X3.out.below hw4 (Nat.lt_trans hz2 hT3))
    have HT4 := Lib.hid (HT3.out.below hw4 hT3)
    have hT4 : w2.heap.size < w4.heap.size := HT4.out.lt
    clear hw4 X3 HT3 hT3
    obtain ⟨g0, g1, g2, g3, g4, g5, g6, g7⟩ := X4.out
    dsimp only at g0 g1 g2 g3 g4 g5 g6
    have c8 : w4.cell? ⟨w2.heap.size, 8, none⟩ = some (.slice (some ⟨b2, off2, none⟩) sn sc) := HT4.out.cell 8
    have HFL := Lib.hid (show (flat Tree.cells ts).length = n * 11 from by rw [flat_length tree_eleven, HTS.out])
    have HFO := Lib.hid (show ∀ u ∈ flat Tree.cells ts, u.oneCell' = true from flat_ones_of HON.out)
    have HOWN1 := Lib.hid (owns_at (w4.alloc (.cells #[.int .i64 age, .int .i64 rest, .int .i64 girth, .int .i64 f0, .int .i64 f1, .int .i64 f2, .int .i64 heal, .slice (some ⟨b, off, none⟩) n c] 27)) 53 11 (World.size_alloc w4 _))
    have HBV1 := Lib.hid (show Below w.heap.size w ((w4.alloc (.cells #[.int .i64 age, .int .i64 rest, .int .i64 girth, .int .i64 f0, .int .i64 f1, .int .i64 f2, .int .i64 heal, .slice (some ⟨b, off, none⟩) n c] 27)).alloc (.cells #[] 53)) from (hB4.alloc hB4.size _).alloc (by rw [World.size_alloc]; omega) _)
    have HSZ1 := Lib.hid (show w4.heap.size + 1 ≤ ((w4.alloc (.cells #[.int .i64 age, .int .i64 rest, .int .i64 girth, .int .i64 f0, .int .i64 f1, .int .i64 f2, .int .i64 heal, .slice (some ⟨b, off, none⟩) n c] 27)).alloc (.cells #[] 53)).heap.size from by rw [World.size_alloc, World.size_alloc]; omega)
    have hKm : ts[K]! ∈ ts := by rw [getElem!_pos ts K (by rw [HTS.out]; exact hKn)]; exact List.getElem_mem _
    have HSH := Lib.hid (fun W hW => by have := ((HTH.out W hW).2 _ hKm).1; rw [HKt.out] at this; exact this : ∀ W, Below w.heap.size w W → Held W.heap.size W 2 stripCells (.slice (some ⟨b2, off2, none⟩) sn sc) strips)
    have HFSL := Lib.hid (show (flat stripCells strips).length = sn * 2 from by rw [flat_length strip_two, HST.out])
    have HFSO := Lib.hid (show ∀ u ∈ flat stripCells strips, u.oneCell' = true from flat_ones strip_ones strips)
    have HONE2 := Lib.hid (show ∀ u ∈ ([.int .i64 year, .int .i64 height] : List Value), u.oneCell' = true from strip_ones (year, height))
    clear hKm
    have cl := HL.out w4 hB4
    have en : ((sn : Int) - 1).toNat = sn - 1 := by omega
    go_wp2_with (first | (at_builtin; refine wpList_append_own _ rfl (.tmp 88) (.tmp 90) 25 rfl (w4.heap.size + 1) 53 i1 (.agg #[.string ⟨#[]⟩, .int .i64 0, .int .i64 0, .int .i64 0, .int .i64 0, .int .i64 0, .int .i64 0, .int .i64 0, .slice none 0 0, .slice none 0 0, .int .i64 0]) 11 128 Try.underlying25 HI1.out HI1a.out HI1b.out HI1c.out rfl (by decide) _ _ _ rfl HOWN1.out ⟨b, off, none⟩ n c (flat Tree.cells ts) rfl HFL.out (fun j u hu => (HTH.out _ HBV1.out).1.flat tree_eleven (by decide) j u hu) HFO.out (by unfold maxLen; omega) (by omega) HSZ1.out ?_; intro v1' w6 hown6 hgrow6 hnil6; have hne6 : v1' ≠ .slice none 0 0 := (fun hh => (by have := (hnil6.1 hh).1; cases this)); simp only [Nat.zero_add, List.nil_append] at hown6; obtain ⟨g, cap, hv6, hgb6, hgl6, hgc6, hheld6, hthere6⟩ := owned_held tree_eleven hown6 HTS.out (by omega) hne6; subst hv6; have hbel6 : Below (w4.heap.size + 1) ((w4.alloc (.cells #[.int .i64 age, .int .i64 rest, .int .i64 girth, .int .i64 f0, .int .i64 f1, .int .i64 f2, .int .i64 heal, .slice (some ⟨b, off, none⟩) n c] 27)).alloc (.cells #[] 53)) w6 := (Below.refl _ _).grown hgrow6 HSZ1.out (fun k e => (by cases e; exact Nat.le_refl _)); have HO6 := Lib.hid (((Blk.new w4 27 #[.int .i64 age, .int .i64 rest, .int .i64 girth, .int .i64 f0, .int .i64 f1, .int .i64 f2, .int .i64 heal, .slice (some ⟨b, off, none⟩) n c]).alloc (.cells #[] 53)).below hbel6 (by omega)); have HT6 := Lib.hid (((HT4.out.alloc (.cells #[.int .i64 age, .int .i64 rest, .int .i64 girth, .int .i64 f0, .int .i64 f1, .int .i64 f2, .int .i64 heal, .slice (some ⟨b, off, none⟩) n c] 27)).alloc (.cells #[] 53)).below hbel6 (by omega)); have X6 := Lib.hid (Boxed.below (Boxed.below X4.out (B := w4.heap.size) (((Below.refl _ w4).alloc (Nat.le_refl _) (.cells #[.int .i64 age, .int .i64 rest, .int .i64 girth, .int .i64 f0, .int .i64 f1, .int .i64 f2, .int .i64 heal, .slice (some ⟨b, off, none⟩) n c] 27)).alloc (by simp) (.cells #[] 53)) hz4) hbel6 (by omega)); have hB6 : Below w.heap.size w w6 := HBV1.out.trans (hbel6.mono (by omega)); have hz6 : w4.heap.size + 1 < w6.heap.size := (by have := HSZ1.out; omega); have HH6 := Lib.hid hheld6; have HE6 := Lib.hid hthere6; clear hheld6 hthere6 hown6 hgrow6 hnil6 hne6 hbel6 g0 g1 g2 g3 g4 g5 g6 g7 c8; have o7 : w6.cell? ⟨w4.heap.size, 7, none⟩ = some (.slice (some ⟨b, off, none⟩) n c) := HO6.out.cell 7; have z7 : w6.frozen? ⟨w4.heap.size, 7, none⟩ = false := HO6.out.frozen 7; have c8 : w6.cell? ⟨w2.heap.size, 8, none⟩ = some (.slice (some ⟨b2, off2, none⟩) sn sc) := HT6.out.cell 8; have nTO : w2.heap.size ≠ w4.heap.size := (by omega); have ngO : g ≠ w4.heap.size := (by omega); have ngT : g ≠ w2.heap.size := (by omega); have nT6 : w2.heap.size < w6.heap.size := (by omega); have nO6 : w4.heap.size < w6.heap.size := (by omega); have HOWN2 := Lib.hid (owns_at (w6.setCell ⟨w4.heap.size, 7, none⟩ (.slice (some ⟨g, 0, none⟩) n cap)) 64 2 (size_setCell w6 ⟨w4.heap.size, 7, none⟩ (.slice (some ⟨g, 0, none⟩) n cap))); have hB6s : Below w.heap.size w (w6.setCell ⟨w4.heap.size, 7, none⟩ (.slice (some ⟨g, 0, none⟩) n cap)) := hB6.setCell (p := ⟨w4.heap.size, 7, none⟩) (by dsimp only; omega) _; have HBV2 := Lib.hid (show Below w.heap.size w ((w6.setCell ⟨w4.heap.size, 7, none⟩ (.slice (some ⟨g, 0, none⟩) n cap)).alloc (.cells #[] 64)) from hB6s.alloc hB6s.size _); have HSZ2 := Lib.hid (show w6.heap.size ≤ ((w6.setCell ⟨w4.heap.size, 7, none⟩ (.slice (some ⟨g, 0, none⟩) n cap)).alloc (.cells #[] 64)).heap.size from (by rw [World.size_alloc, size_setCell]; omega)); clear hB6s) | (at_builtin; refine wpList_append_own _ rfl (.tmp 93) (.tmp 95) 50 rfl w6.heap.size 64 i2 (.agg #[.int .i64 0, .int .i64 0]) 2 16 Try.underlying50 HI2.out HI2a.out HI2b.out HI2c.out rfl (by decide) _ _ _ rfl HOWN2.out ⟨b2, off2, none⟩ sn sc (flat stripCells strips) rfl HFSL.out (fun j u hu => (HSH.out _ HBV2.out).flat strip_two (by decide) j u hu) HFSO.out (by unfold maxLen; omega) (by omega) HSZ2.out ?_; intro v2' w8 hown8 hgrow8 hnil8; have hne8 : v2' ≠ .slice none 0 0 := (fun hh => (by have := (hnil8.1 hh).1; cases this)); simp only [Nat.zero_add, List.nil_append] at hown8; have hbel8 : Below w6.heap.size ((w6.setCell ⟨w4.heap.size, 7, none⟩ (.slice (some ⟨g, 0, none⟩) n cap)).alloc (.cells #[] 64)) w8 := (Below.refl _ _).grown hgrow8 HSZ2.out (fun k e => (by cases e; exact Nat.le_refl _)); have HB8 := Lib.hid (HBV2.out.trans (hbel8.mono (by have := hB6.size; omega))); have hz8 : w6.heap.size < w8.heap.size := (by have := hbel8.size; rw [World.size_alloc, size_setCell] at this; omega); have HO8 := Lib.hid (Blk.below ((HO6.out.set_ 7 (.slice (some ⟨g, 0, none⟩) n cap)).alloc (.cells #[] 64)) hbel8 nO6); have HT8 := Lib.hid (Blk.below ((HT6.out.far (p := ⟨w4.heap.size, 7, none⟩) nTO (.slice (some ⟨g, 0, none⟩) n cap)).alloc (.cells #[] 64)) hbel8 nT6); have HG8 := Lib.hid ((hbel8.block g hgl6).trans ((Below.heap_alloc _ (.cells #[] 64) g (by rw [size_setCell]; exact hgl6)).trans (Below.heap_setCell w6 ⟨w4.heap.size, 7, none⟩ (.slice (some ⟨g, 0, none⟩) n cap) g ngO))); have X8 := Lib.hid (Boxed.below X6.out (B := w4.heap.size) ((((Below.refl w4.heap.size w6).setCell (p := ⟨w4.heap.size, 7, none⟩) (Nat.le_refl _) (.slice (some ⟨g, 0, none⟩) n cap)).alloc (by rw [size_setCell]; omega) (.cells #[] 64)).trans (hbel8.mono (by omega))) hz4); have HOWN8 := Lib.hid hown8; have HNE8 := Lib.hid hne8; clear hown8 hgrow8 hnil8 hne8 hbel8 o7 z7 c8; have HBV3 := Lib.hid (show Below w.heap.size w (w8.alloc (.cells #[.int .i64 year, .int .i64 height] 64)) from HB8.out.alloc HB8.out.size _)) | (at_builtin; refine wpList_append_own _ rfl (.tmp 96) (.tmp 100) 50 rfl w6.heap.size 64 i2 (.agg #[.int .i64 0, .int .i64 0]) 2 16 Try.underlying50 HI2.out HI2a.out HI2b.out HI2c.out rfl (by decide) _ _ _ rfl (HOWN8.out.alloc _) ⟨w8.heap.size, 0, none⟩ 1 1 [.int .i64 year, .int .i64 height] rfl rfl (fun j u hu => new_cell w8 64 _ j u hu) HONE2.out (by unfold maxLen; omega) (by omega) (by rw [World.size_alloc]; omega) ?_; intro v3 w9 hown9 hgrow9 hnil9; have hne9 : v3 ≠ .slice none 0 0 := (fun hh => HNE8.out (hnil9.1 hh).1); have hfl : flat stripCells strips ++ [.int .i64 year, .int .i64 height] = flat stripCells (strips ++ [(year, height)]) := (by rw [flat_append]; rfl); rw [hfl] at hown9; obtain ⟨g2, cap2, hv9, hgb9, hgl9, hgc9, hheld9, _⟩ := owned_held strip_two hown9 (by rw [List.length_append, HST.out]; rfl) (by omega) hne9; subst hv9; have hbel9 : Below w6.heap.size (w8.alloc (.cells #[.int .i64 year, .int .i64 height] 64)) w9 := (Below.refl _ _).grown hgrow9 (by rw [World.size_alloc]; omega) (fun k e => (HOWN8.out.lt k e).1); have HB9 := Lib.hid (HBV3.out.trans (hbel9.mono (by have := hB6.size; omega))); have hz9 : w8.heap.size < w9.heap.size := (by have := hbel9.size; rw [World.size_alloc] at this; omega); have HO9 := Lib.hid (Blk.below (HO8.out.alloc (.cells #[.int .i64 year, .int .i64 height] 64)) hbel9 nO6); have HT9 := Lib.hid (Blk.below (HT8.out.alloc (.cells #[.int .i64 year, .int .i64 height] 64)) hbel9 nT6); have HG9 := Lib.hid (((hbel9.block g hgl6).trans (Below.heap_alloc w8 (.cells #[.int .i64 year, .int .i64 height] 64) g (by omega))).trans HG8.out); have X9 := Lib.hid (Boxed.below X8.out (B := w6.heap.size) (((Below.refl _ w8).alloc (by omega) (.cells #[.int .i64 year, .int .i64 height] 64)).trans hbel9) (by omega)); have HH9 := Lib.hid hheld9; clear hown9 hgrow9 hnil9 hne9 hbel9 hheld9 hfl; have o7 : w9.cell? ⟨w4.heap.size, 7, none⟩ = some (.slice (some ⟨g, 0, none⟩) n cap) := HO9.out.cell 7; have c8 : w9.cell? ⟨w2.heap.size, 8, none⟩ = some (.slice (some ⟨b2, off2, none⟩) sn sc) := HT9.out.cell 8; have y8 : w9.frozen? ⟨w2.heap.size, 8, none⟩ = false := HT9.out.frozen 8; have nOT : w4.heap.size ≠ w2.heap.size := (by omega); have HT10 := Lib.hid (HT9.out.set_ 8 (.slice (some ⟨g2, 0, none⟩) (sn + 1) cap2)); have HE10 := Lib.hid (there_same (w' := w9.setCell ⟨w2.heap.size, 8, none⟩ (.slice (some ⟨g2, 0, none⟩) (sn + 1) cap2)) ((Below.heap_setCell w9 ⟨w2.heap.size, 8, none⟩ (.slice (some ⟨g2, 0, none⟩) (sn + 1) cap2) g ngT).trans HG9.out) (HE6.out K hKn))) | ((with_reducible refine at_load 53 (.tmp 12) ?_); go_must (refine wpList_load_row rfl 53 (.tmp 12) rfl w2.heap.size rfl 53 #[.string code, .int .i64 bmin, .int .i64 bmax, .int .i64 taped, .int .i64 gmin, .int .i64 gmax, .int .i64 wmin, .int .i64 wmax, .slice (some ⟨g2, 0, none⟩) (sn + 1) cap2, .slice wa wn wc, .int .i64 dead] (0, 0) _ HT10.out Try.underlying53 rfl size_tree ?_)) | ((with_reducible refine at_store 53 (.tmp 107) (.tmp 106) ?_); go_must (refine wpList_store_mid rfl 53 (.tmp 107) (.tmp 106) rfl g (K * 11) #[.string code, .int .i64 bmin, .int .i64 bmax, .int .i64 taped, .int .i64 gmin, .int .i64 gmax, .int .i64 wmin, .int .i64 wmax, .slice (some ⟨g2, 0, none⟩) (sn + 1) cap2, .slice wa wn wc, .int .i64 dead] rfl rfl HE10.out size_tree (by simp [Value.oneCell']) ?_); change wpList _ _ _ _ _ ((w9.setCell ⟨w2.heap.size, 8, none⟩ (.slice (some ⟨g2, 0, none⟩) (sn + 1) cap2)).setCells g (K * 11) [.string code, .int .i64 bmin, .int .i64 bmax, .int .i64 taped, .int .i64 gmin, .int .i64 gmax, .int .i64 wmin, .int .i64 wmax, .slice (some ⟨g2, 0, none⟩) (sn + 1) cap2, .slice wa wn wc, .int .i64 dead]); have hB10 : Below w.heap.size w (w9.setCell ⟨w2.heap.size, 8, none⟩ (.slice (some ⟨g2, 0, none⟩) (sn + 1) cap2)) := HB9.out.setCell (p := ⟨w2.heap.size, 8, none⟩) (by dsimp only; omega) _; have hB11 : Below w.heap.size w ((w9.setCell ⟨w2.heap.size, 8, none⟩ (.slice (some ⟨g2, 0, none⟩) (sn + 1) cap2)).setCells g (K * 11) [.string code, .int .i64 bmin, .int .i64 bmax, .int .i64 taped, .int .i64 gmin, .int .i64 gmax, .int .i64 wmin, .int .i64 wmax, .slice (some ⟨g2, 0, none⟩) (sn + 1) cap2, .slice wa wn wc, .int .i64 dead]) := below_setCells hB10 (by omega) _ _; have X11 := Lib.hid (show Boxed ((w9.setCell ⟨w2.heap.size, 8, none⟩ (.slice (some ⟨g2, 0, none⟩) (sn + 1) cap2)).setCells g (K * 11) [.string code, .int .i64 bmin, .int .i64 bmax, .int .i64 taped, .int .i64 gmin, .int .i64 gmax, .int .i64 wmin, .int .i64 wmax, .slice (some ⟨g2, 0, none⟩) (sn + 1) cap2, .slice wa wn wc, .int .i64 dead]) _ _ _ _ _ from Boxed.below X9.out (B := w2.heap.size) (below_setCells ((Below.refl w2.heap.size w9).setCell (p := ⟨w2.heap.size, 8, none⟩) (Nat.le_refl _) _) (by omega) _ _) hz2); have HO11 := Lib.hid (show Blk ((w9.setCell ⟨w2.heap.size, 8, none⟩ (.slice (some ⟨g2, 0, none⟩) (sn + 1) cap2)).setCells g (K * 11) [.string code, .int .i64 bmin, .int .i64 bmax, .int .i64 taped, .int .i64 gmin, .int .i64 gmax, .int .i64 wmin, .int .i64 wmax, .slice (some ⟨g2, 0, none⟩) (sn + 1) cap2, .slice wa wn wc, .int .i64 dead]) w4.heap.size 27 #[.int .i64 age, .int .i64 rest, .int .i64 girth, .int .i64 f0, .int .i64 f1, .int .i64 f2, .int .i64 heal, .slice (some ⟨g, 0, none⟩) n cap] from (heap_setCells _ g (fun hh => ngO hh.symm) _ _).trans ((Below.heap_setCell w9 ⟨w2.heap.size, 8, none⟩ _ w4.heap.size nOT).trans HO9.out)); have HT11 := Lib.hid (show Blk ((w9.setCell ⟨w2.heap.size, 8, none⟩ (.slice (some ⟨g2, 0, none⟩) (sn + 1) cap2)).setCells g (K * 11) [.string code, .int .i64 bmin, .int .i64 bmax, .int .i64 taped, .int .i64 gmin, .int .i64 gmax, .int .i64 wmin, .int .i64 wmax, .slice (some ⟨g2, 0, none⟩) (sn + 1) cap2, .slice wa wn wc, .int .i64 dead]) w2.heap.size 53 #[.string code, .int .i64 bmin, .int .i64 bmax, .int .i64 taped, .int .i64 gmin, .int .i64 gmax, .int .i64 wmin, .int .i64 wmax, .slice (some ⟨g2, 0, none⟩) (sn + 1) cap2, .slice wa wn wc, .int .i64 dead] from (heap_setCells _ g (fun hh => ngT hh.symm) _ _).trans HT10.out); have ng2 : g2 ≠ g := (by omega); have ng2T : g2 ≠ w2.heap.size := (by omega); have HK9 := Lib.hid ((Below.heap_setCell w9 ⟨w2.heap.size, 8, none⟩ (.slice (some ⟨g2, 0, none⟩) (sn + 1) cap2) g ngT).trans HG9.out); have hs69 : w6.heap.size ≤ (w9.setCell ⟨w2.heap.size, 8, none⟩ (.slice (some ⟨g2, 0, none⟩) (sn + 1) cap2)).heap.size := (by rw [size_setCell]; omega); have hold := hold_at (HTH.out _ hB11).2 (show K < ts.length from (by rw [HTS.out]; exact hKn)); rw [HKt.out] at hold; have HTR := Lib.hid (show TreesHeld ((w9.setCell ⟨w2.heap.size, 8, none⟩ (.slice (some ⟨g2, 0, none⟩) (sn + 1) cap2)).setCells g (K * 11) [.string code, .int .i64 bmin, .int .i64 bmax, .int .i64 taped, .int .i64 gmin, .int .i64 gmax, .int .i64 wmin, .int .i64 wmax, .slice (some ⟨g2, 0, none⟩) (sn + 1) cap2, .slice wa wn wc, .int .i64 dead]).heap.size ((w9.setCell ⟨w2.heap.size, 8, none⟩ (.slice (some ⟨g2, 0, none⟩) (sn + 1) cap2)).setCells g (K * 11) [.string code, .int .i64 bmin, .int .i64 bmax, .int .i64 taped, .int .i64 gmin, .int .i64 gmax, .int .i64 wmin, .int .i64 wmax, .slice (some ⟨g2, 0, none⟩) (sn + 1) cap2, .slice wa wn wc, .int .i64 dead]) (.slice (some ⟨g, 0, none⟩) n cap) (ts.set K ⟨code, bmin, bmax, taped, gmin, gmax, wmin, wmax, .slice (some ⟨g2, 0, none⟩) (sn + 1) cap2, .slice wa wn wc, dead, strips ++ [(year, height)], wounds⟩) from trees_set (Held.store tree_eleven (Held.same HH6.out hs69 HK9.out) K (by rw [HTS.out]; exact hKn) ⟨code, bmin, bmax, taped, gmin, gmax, wmin, wmax, .slice (some ⟨g2, 0, none⟩) (sn + 1) cap2, .slice wa wn wc, dead, strips ++ [(year, height)], wounds⟩ HE10.out) (HTH.out _ hB11).2 ⟨Held.same HH9.out (by rw [size_setCells, size_setCell]; exact Nat.le_refl _) ((heap_setCells _ g ng2 _ _).trans (Below.heap_setCell w9 ⟨w2.heap.size, 8, none⟩ _ g2 ng2T)), hold.2⟩); clear hold; have hz11 : w.heap.size < ((w9.setCell ⟨w2.heap.size, 8, none⟩ (.slice (some ⟨g2, 0, none⟩) (sn + 1) cap2)).setCells g (K * 11) [.string code, .int .i64 bmin, .int .i64 bmax, .int .i64 taped, .int .i64 gmin, .int .i64 gmax, .int .i64 wmin, .int .i64 wmax, .slice (some ⟨g2, 0, none⟩) (sn + 1) cap2, .slice wa wn wc, .int .i64 dead]).heap.size := (by rw [size_setCells, size_setCell]; omega); have hx11 : w2.heap.size < ((w9.setCell ⟨w2.heap.size, 8, none⟩ (.slice (some ⟨g2, 0, none⟩) (sn + 1) cap2)).setCells g (K * 11) [.string code, .int .i64 bmin, .int .i64 bmax, .int .i64 taped, .int .i64 gmin, .int .i64 gmax, .int .i64 wmin, .int .i64 wmax, .slice (some ⟨g2, 0, none⟩) (sn + 1) cap2, .slice wa wn wc, .int .i64 dead]).heap.size ∧ w4.heap.size < ((w9.setCell ⟨w2.heap.size, 8, none⟩ (.slice (some ⟨g2, 0, none⟩) (sn + 1) cap2)).setCells g (K * 11) [.string code, .int .i64 bmin, .int .i64 bmax, .int .i64 taped, .int .i64 gmin, .int .i64 gmax, .int .i64 wmin, .int .i64 wmax, .slice (some ⟨g2, 0, none⟩) (sn + 1) cap2, .slice wa wn wc, .int .i64 dead]).heap.size := (by rw [size_setCells, size_setCell]; omega); clear hB10 ng2 ng2T hs69 o7 c8 y8; generalize ((w9.setCell ⟨w2.heap.size, 8, none⟩ (.slice (some ⟨g2, 0, none⟩) (sn + 1) cap2)).setCells g (K * 11) [.string code, .int .i64 bmin, .int .i64 bmax, .int .i64 taped, .int .i64 gmin, .int .i64 gmax, .int .i64 wmin, .int .i64 wmax, .slice (some ⟨g2, 0, none⟩) (sn + 1) cap2, .slice wa wn wc, .int .i64 dead]) = w11 at hB11 X11 HO11 HT11 HTR hz11 hx11 ⊢; clear HO9 HT9 HT10 HE10 HG9 X9 HH9 HB9 HO8 HT8 HG8 X8 HB8 HO6 HT6 X6 HH6 HE6; obtain ⟨g0, g1, g2', g3, g4, g5, g6, g7⟩ := X11.out; dsimp only at g0 g1 g2' g3 g4 g5 g6))
    have HTR11 := HTR
    refine (HF1.out _ hB11).mono ?_
    rintro e w12 ⟨rfl, hw12⟩
    have hB12 := hB11.trans (hw12.mono hB11.size)
    have X12 := Lib.hid (X11.out.below hw12 hz11)
    have HO12 := Lib.hid (HO11.out.below hw12 hx11.2)
    have HT12 := Lib.hid (HT11.out.below hw12 hx11.1)
    have HTR12 := Lib.hid (HTR11.out.at hw12)
    have hz12 : w.heap.size < w12.heap.size := Nat.lt_of_lt_of_le hz11 hw12.size
    have hx12 : w2.heap.size < w12.heap.size ∧ w4.heap.size < w12.heap.size := ⟨Nat.lt_of_lt_of_le hx11.1 hw12.size, Nat.lt_of_lt_of_le hx11.2 hw12.size⟩
    clear hw12
    clear g0 g1 g2' g3 g4 g5 g6 g7
    have o0 : w12.cell? ⟨w4.heap.size, 0, none⟩ = some (.int .i64 age) := HO12.out.cell 0; have o1 : w12.cell? ⟨w4.heap.size, 1, none⟩ = some (.int .i64 rest) := HO12.out.cell 1; have o2 : w12.cell? ⟨w4.heap.size, 2, none⟩ = some (.int .i64 girth) := HO12.out.cell 2; have o3 : w12.cell? ⟨w4.heap.size, 3, none⟩ = some (.int .i64 f0) := HO12.out.cell 3; have o4 : w12.cell? ⟨w4.heap.size, 4, none⟩ = some (.int .i64 f1) := HO12.out.cell 4; have o5 : w12.cell? ⟨w4.heap.size, 5, none⟩ = some (.int .i64 f2) := HO12.out.cell 5; have o6 : w12.cell? ⟨w4.heap.size, 6, none⟩ = some (.int .i64 heal) := HO12.out.cell 6; have o7 : w12.cell? ⟨w4.heap.size, 7, none⟩ = some (.slice (some ⟨g, 0, none⟩) n cap) := HO12.out.cell 7
    go_wp2_with fail
    refine (HF2.out w12 _ g cap hB12 HTR12.out).mono ?_
    rintro e w13 ⟨rfl, hw13⟩
    have hB13 := hB12.trans (hw13.mono hB12.size)
    have X13 := Lib.hid (X12.out.below hw13 hz12)
    have HO13 := Lib.hid (HO12.out.below hw13 hx12.2)
    have HT13 := Lib.hid (HT12.out.below hw13 hx12.1)
    have HTR13 := Lib.hid (HTR12.out.at hw13)
    have hz13 : w.heap.size < w13.heap.size := Nat.lt_of_lt_of_le hz12 hw13.size
    have hx13 : w2.heap.size < w13.heap.size ∧ w4.heap.size < w13.heap.size := ⟨Nat.lt_of_lt_of_le hx12.1 hw13.size, Nat.lt_of_lt_of_le hx12.2 hw13.size⟩
    clear hw13
    clear o0 o1 o2 o3 o4 o5 o6 o7
    have q1 : w13.cell? ⟨w.heap.size, 1, none⟩ = some (.int .i64 rest) := X13.out.2.1
    have q10 : w13.cell? ⟨w2.heap.size, 10, none⟩ = some (.int .i64 dead) := HT13.out.cell 10
    have hrb : (rest == 0) = false := by simp; omega
    by_cases h3 : 300 < yv
    · have d3 : decide (300 < yv) = true := decide_eq_true h3
      go_wp2_with fail
      refine (grows_calls _).mono ?_
      rintro e w14 ⟨rfl, hw14⟩
      go_wp2
      go_ret
      exact ⟨rfl, hB13.trans (hw14.mono hB13.size)⟩
    · have d3 : decide (300 < yv) = false := decide_eq_false h3
      by_cases h4 : 0 ≤ dead ∧ dead ≤ yv
      · have d4 : decide (0 ≤ dead) = true := decide_eq_true h4.1
        have d5 : decide (dead ≤ yv) = true := decide_eq_true h4.2
        go_wp2_with fail
        refine (grows_calls _).mono ?_
        rintro e w14 ⟨rfl, hw14⟩
        go_wp2
        go_ret
        exact ⟨rfl, hB13.trans (hw14.mono hB13.size)⟩
      · have hM3 : _ := HM2.out.resolve_left (fun hh => by rcases hh with hh | hh; exact h3 hh; exact h4 hh)
        have HM3 := Lib.hid (hM3.2.2 w13 _ g cap hB13 HTR13.out)
        clear hM3
        have o0 : w13.cell? ⟨w4.heap.size, 0, none⟩ = some (.int .i64 age) := HO13.out.cell 0; have o1 : w13.cell? ⟨w4.heap.size, 1, none⟩ = some (.int .i64 rest) := HO13.out.cell 1; have o2 : w13.cell? ⟨w4.heap.size, 2, none⟩ = some (.int .i64 girth) := HO13.out.cell 2; have o3 : w13.cell? ⟨w4.heap.size, 3, none⟩ = some (.int .i64 f0) := HO13.out.cell 3; have o4 : w13.cell? ⟨w4.heap.size, 4, none⟩ = some (.int .i64 f1) := HO13.out.cell 4; have o5 : w13.cell? ⟨w4.heap.size, 5, none⟩ = some (.int .i64 f2) := HO13.out.cell 5; have o6 : w13.cell? ⟨w4.heap.size, 6, none⟩ = some (.int .i64 heal) := HO13.out.cell 6; have o7 : w13.cell? ⟨w4.heap.size, 7, none⟩ = some (.slice (some ⟨g, 0, none⟩) n cap) := HO13.out.cell 7
        by_cases h5 : 0 ≤ dead
        · have d4 : decide (0 ≤ dead) = true := decide_eq_true h5
          have d5 : decide (dead ≤ yv) = false := decide_eq_false (fun hh => h4 ⟨h5, hh⟩)
          go_wp2_with fail
          refine HM3.out.mono ?_
          rintro e w14 ⟨rfl, hw14⟩
          have hB14 := hB13.trans (hw14.mono hB13.size)
          go_wp2_with fail
          refine (grows_calls _).mono ?_
          rintro e w15 ⟨rfl, hw15⟩
          go_wp2
          go_ret
          exact ⟨rfl, hB14.trans (hw15.mono hB14.size)⟩
        · have d4 : decide (0 ≤ dead) = false := decide_eq_false h5
          go_wp2_with fail
          refine HM3.out.mono ?_
          rintro e w14 ⟨rfl, hw14⟩
          have hB14 := hB13.trans (hw14.mono hB13.size)
          go_wp2_with fail
          refine (grows_calls _).mono ?_
          rintro e w15 ⟨rfl, hw15⟩
          go_wp2
          go_ret
          exact ⟨rfl, hB14.trans (hw15.mono hB14.size)⟩
  · go_wp2_with fail
    refine (grows_calls _).mono ?_
    rintro e w2 ⟨rfl, hw2⟩
    go_wp2
    go_ret
    exact ⟨rfl, hB1.trans (hw2.mono hB1.size)⟩
end Go.Proofs.Ytajbflepjpgnbaa
