/- What is known of a forest without an error: all its numbers are small. Plain. The program's Print. -/
import Derived.Test.YtnoofdjlocadbaaGreatDoorPrintTree
import Derived.Test.YtnoofdjlocadbaaGreatDoorForest
namespace Go.Proofs.YtnoofdjlocadbaaGreatDoor
open Go Go.RowKit Go.Lib

theorem inb_ok {n a b : Int} : inB n a b = true ↔ a ≤ n ∧ n ≤ b := by simp [inB]
theorem bnd_ok {x y a b : Int} : boundsB x y a b = true ↔ a ≤ x ∧ x ≤ y ∧ y ≤ b := by simp [boundsB]
def Low (n : Int) : Prop := -1 ≤ n ∧ n ≤ 15000
theorem Low.i64 {n : Int} (h : Low n) : I64 n := ⟨by have := h.1; omega, by have := h.2; omega⟩
theorem Low.small {n : Int} (h : Low n) : Small n := ⟨by have := h.1; omega, by have := h.2; omega⟩

theorem strips_low : ∀ (xs : List (Int × Int)) (l : Int), stripsErr l xs = 0 → ∀ s ∈ xs, Low s.1 ∧ Low s.2
  | [], _, _, s, hs => by cases hs
  | x :: r, l, h, s, hs => by
    simp only [stripsErr] at h
    split at h
    · rename_i hx
      simp only [Bool.and_eq_true, inb_ok] at hx
      split at h
      · cases h
      · rcases List.mem_cons.1 hs with rfl | hs
        · exact ⟨⟨by omega, by omega⟩, ⟨by omega, by omega⟩⟩
        · exact strips_low r x.1 h s hs
    · cases h
theorem wounds_low : ∀ (xs : List Int) (l : Int), woundsErr l xs = 0 → ∀ s ∈ xs, Low s
  | [], _, _, s, hs => by cases hs
  | x :: r, l, h, s, hs => by
    simp only [woundsErr] at h
    split at h
    · rename_i hx
      simp only [inb_ok] at hx
      split at h
      · cases h
      · rcases List.mem_cons.1 hs with rfl | hs
        · exact ⟨by omega, by omega⟩
        · exact wounds_low r x h s hs
    · cases h

/-- A tree without an error. -/
structure Valid (t : Tree) : Prop where
  nums : ∀ n ∈ t.plain.nums, Low n
  strips : ∀ s ∈ t.strips, Low s.1 ∧ Low s.2
  wounds : ∀ n ∈ t.wounds, Low n
  code : codeB t.code.data.toList = true
  many : t.strips.length ≤ 10 ∧ t.wounds.length ≤ 10

theorem tree_valid {t : Tree} (hc : codeB t.code.data.toList = true) (h : treeErr t = 0) : Valid t := by
  unfold treeErr at h
  split at h
  · rename_i hm
    simp only [measuredB, Bool.and_eq_true, inb_ok, bnd_ok] at hm
    obtain ⟨⟨⟨⟨a, b⟩, c⟩, d⟩, e⟩ := hm
    split at h
    · rename_i hs
      unfold checkStrips at hs
      unfold checkWounds at h
      split at hs
      · cases hs
      · split at h
        · cases h
        · refine ⟨fun n hn => ?_, strips_low _ _ hs, wounds_low _ _ h, hc, by omega, by omega⟩
          simp only [Tree.plain, PTree.nums, List.mem_cons, List.not_mem_nil, or_false] at hn
          rcases hn with rfl | rfl | rfl | rfl | rfl | rfl | rfl | rfl <;> exact ⟨by omega, by omega⟩
    · exact absurd h (by assumption)
  · cases h
theorem trees_valid : ∀ (ts es : List Tree), treesErr es ts = 0 → ∀ t ∈ ts, Valid t
  | [], _, _, t, ht => by cases ht
  | x :: r, es, h, t, ht => by
    simp only [treesErr] at h
    split at h
    · rename_i hx
      rcases List.mem_cons.1 ht with rfl | ht
      · unfold checkTree at hx
        split at hx
        · rename_i hc
          split at hx
          · cases hx
          · exact tree_valid hc hx
        · cases hx
      · exact trees_valid r _ h t ht
    · exact absurd h (by assumption)
theorem forest_valid {f : Forest} (h : checkForest f = 0) : (∀ n ∈ f.law.nums, Low n) ∧ f.trees.length ≤ 20 ∧ ∀ t ∈ f.trees, Valid t := by
  unfold checkForest at h
  split at h
  · rename_i hl
    split at h
    · cases h
    · refine ⟨fun n hn => ?_, by omega, trees_valid _ _ h⟩
      simp only [lawB, Bool.and_eq_true, inb_ok] at hl
      simp only [Law.nums, List.mem_cons, List.not_mem_nil, or_false] at hn
      rcases hn with rfl | rfl | rfl | rfl | rfl | rfl | rfl <;> exact ⟨by omega, by omega⟩
  · cases h

theorem code_len {s : List UInt8} (h : codeB s = true) : s.length ≤ 8 := by
  unfold codeB at h
  split at h
  · cases h
  · simp only [Bool.and_eq_true, decide_eq_true_eq] at h
    exact h.1.1
theorem capital_not {c : UInt8} (h : capital c = true) : c ≠ 59 ∧ c ≠ 10 := by
  simp only [capital, decide_eq_true_eq] at h
  exact ⟨fun e => by subst e; revert h; decide, fun e => by subst e; revert h; decide⟩
theorem later_not {c : UInt8} (h : later c = true) : c ≠ 59 ∧ c ≠ 10 := ⟨fun e => by subst e; revert h; decide, fun e => by subst e; revert h; decide⟩
theorem code_each {s : List UInt8} (h : codeB s = true) : ∀ c ∈ s, c ≠ 59 ∧ c ≠ 10 := by
  cases s with
  | nil => intro c hc; cases hc
  | cons a r =>
    simp only [codeB, Bool.and_eq_true, decide_eq_true_eq] at h
    intro c hc
    rcases List.mem_cons.1 hc with rfl | hc
    · exact capital_not h.1.2
    · exact later_not (List.all_eq_true.1 h.2 c hc)
theorem code_not {s : List UInt8} (h : codeB s = true) : (59 : UInt8) ∉ s ∧ (10 : UInt8) ∉ s := ⟨fun hm => (code_each h _ hm).1 rfl, fun hm => (code_each h _ hm).2 rfl⟩
theorem Valid.size {t : Tree} (h : Valid t) : t.code.size ≤ 8 := by
  have := code_len h.code
  rwa [Array.length_toList] at this
theorem Valid.treeSmall {t : Tree} (h : Valid t) : TreeSmall t := ⟨fun n hn => (h.nums n hn).i64, fun s hs => ⟨(h.strips s hs).1.i64, (h.strips s hs).2.i64⟩, fun n hn => (h.wounds n hn).i64, by have := h.size; omega, h.many⟩
theorem Valid.fine {t : Tree} (h : Valid t) : t.plain.Fine := ⟨code_not h.code, fun n hn => (h.nums n hn).small, fun s hs => ⟨(h.strips s hs).1.small, (h.strips s hs).2.small⟩, fun n hn => (h.wounds n hn).small⟩
theorem forest_fine {f : Forest} (h : checkForest f = 0) : f.plain.Fine := by
  obtain ⟨h1, _, h3⟩ := forest_valid h
  refine ⟨fun n hn => (h1 n hn).small, fun t ht => ?_⟩
  obtain ⟨u, hu, rfl⟩ := List.mem_map.1 ht
  exact (h3 u hu).fine

/-! ### The text of a forest -/
def forestText (f : Forest) : List UInt8 := lineL wLaw f.law.nums ++ f.trees.flatMap treeText
theorem feed_cons (r : List UInt8) (rs : List (List UInt8)) : feedL (r :: rs) = (r ++ [10]) ++ feedL rs := by simp [feedL]
theorem feed_flat {α : Type} (g : α → List (List UInt8)) (xs : List α) : feedL (xs.flatMap g) = xs.flatMap fun x => feedL (g x) := by
  induction xs with
  | nil => rfl
  | cons x r ih => simp only [List.flatMap_cons, feed_append, ih]
theorem feed_map {α : Type} (g : α → List UInt8) (xs : List α) : feedL (xs.map g) = xs.flatMap fun x => g x ++ [10] := by
  induction xs with
  | nil => rfl
  | cons x r ih => simp only [List.map_cons, List.flatMap_cons, feed_cons, ih]
theorem tree_text (t : Tree) : treeText t = feedL (treeRows t.plain) := by
  unfold treeText treeRows
  rw [feed_cons, feed_append, feed_map, feed_map, List.append_assoc]
  rfl
theorem forest_text (f : Forest) : forestText f = textL f.plain := by
  unfold forestText textL rows
  rw [feed_cons, feed_flat]
  simp only [Forest.plain, List.flatMap_map, ← tree_text]
  rfl
theorem tree_len {t : Tree} (h : TreeSmall t) (hc : t.code.size ≤ 8) : (treeText t).length ≤ 1300 := by
  have h1 := line_len (wTree ++ 59 :: t.code.data.toList) t.plain.nums h.nums
  have h2 := strips_len t.strips h.strips
  have h3 := wounds_len t.wounds h.wounds
  have h4 : wTree.length = 4 := rfl
  have h5 : t.code.data.toList.length ≤ 8 := by rw [Array.length_toList]; exact hc
  have h6 : t.plain.nums.length = 8 := rfl
  have h7 := h.many
  unfold treeText
  simp only [List.length_append, List.length_cons] at *
  omega
theorem trees_len : ∀ (ts : List Tree), (∀ t ∈ ts, (treeText t).length ≤ 1300) → (ts.flatMap treeText).length ≤ 1300 * ts.length
  | [], _ => by simp
  | t :: r, h => by
    have h1 := trees_len r fun u hu => h u (List.mem_cons_of_mem _ hu)
    have h2 := h t (by simp)
    simp only [List.flatMap_cons, List.length_append, List.length_cons] at *
    omega
end Go.Proofs.YtnoofdjlocadbaaGreatDoor
namespace Go.Proofs.YtnoofdjlocadbaaGreatDoor
open Go Go.RowKit Go.Lib Go.Shelf Go.Sort

theorem tree_acc {T : List UInt8} {xs : List Tree} {k : Nat} (h : k < xs.length) : (T ++ (xs.take k).flatMap treeText) ++ treeText xs[k]! = T ++ (xs.take (k + 1)).flatMap treeText := by
  rw [List.take_add_one, List.getElem?_eq_getElem h, getElem!_pos xs k h, List.flatMap_append]
  simp only [Option.toList_some, List.flatMap_cons, List.flatMap_nil, List.append_nil, List.append_assoc]

set_option maxRecDepth 100000 in
set_option maxHeartbeats 4000000 in
theorem print_calls (f : Forest) (w : World) (h : TreesHeld w.heap.size w f.tv f.trees) (hL : Libs w) :
    Calls Tryz.prog 7 #[.agg f.cells.toArray] w fun e w' => Below w.heap.size w w' ∧
      ((checkForest f ≠ 0 ∧ e = .returned (.tuple #[.string ⟨#[]⟩, .int .i64 (checkForest f)])) ∨ (checkForest f = 0 ∧ e = .returned (.tuple #[.string (str (forestText f)), .int .i64 0]))) := by
  have HV := Lib.hid (fun h0 => forest_valid (f := f) h0)
  have HTT := Lib.hid (show forestText f = forestText f from rfl)
  generalize hft : forestText f = tt at HTT ⊢
  have HFT := Lib.hid hft
  clear HTT hft
  have HCF := Lib.hid (fun W (hW : Below w.heap.size w W) => checkForest_calls f W ((h.below hW).mono hW.size))
  generalize hce : checkForest f = ce at HV HCF ⊢
  clear hce
  obtain ⟨⟨age, rest, girth, fa0, fa1, fa2, heal⟩, tv, trees⟩ := f
  dsimp only [Forest.cells] at h HV HCF ⊢
  obtain ⟨hth, htree⟩ := h
  obtain ⟨ta, tc, rfl, hta⟩ := held_open hth
  have HTA := Lib.hid hta; have HTR := Lib.hid htree; have HL := Lib.hid hL
  clear hta htree hth hL
  simp only [List.toArray] at HCF ⊢
  have HA := Lib.hid ((Below.refl w.heap.size w).alloc (Nat.le_refl _) (.cells #[.int .i64 age, .int .i64 rest, .int .i64 girth, .int .i64 fa0, .int .i64 fa1, .int .i64 fa2, .int .i64 heal, .slice ta trees.length tc] 27))
  have HFB := Lib.hid (Bkt.new w 27 #[.int .i64 age, .int .i64 rest, .int .i64 girth, .int .i64 fa0, .int .i64 fa1, .int .i64 fa2, .int .i64 heal, .slice ta trees.length tc])
  have HC1 := Lib.hid (HCF.out _ HA.out)
  clear HCF
  go_enter Tryz.func7, Tryz.ntmps7
  go_upto_region 2 with (go_at_call 18; refine HC1.out.mono ?_; rintro e w1 ⟨rfl, hb1⟩)
  have HB1 := Lib.hid (HA.out.trans (hb1.mono (by rw [World.size_alloc]; omega)))
  have HF1 := Lib.hid (HFB.out.below hb1)
  have HS1 := Lib.hid (show w.heap.size < w1.heap.size from by have := hb1.size; rw [World.size_alloc] at this; omega)
  clear hb1 HC1 HA HFB
  by_cases hz0 : ce = 0
  case neg =>
    have HNZ := Lib.hid hz0
    go_wp2_with fail
    go_ret2
    exact ⟨HB1.out, .inl ⟨HNZ.out, rfl⟩⟩
  subst hz0
  obtain ⟨hlaw, hmany, hval⟩ := HV.out rfl
  have HLAW := Lib.hid hlaw; have HMANY := Lib.hid hmany; have HVAL := Lib.hid hval
  clear hlaw hmany hval HV
  have o0 : w1.cell? ⟨w.heap.size, 0, none⟩ = some (.int .i64 age) := HF1.out.at 0 _ rfl
  have o1 : w1.cell? ⟨w.heap.size, 1, none⟩ = some (.int .i64 rest) := HF1.out.at 1 _ rfl
  have o2 : w1.cell? ⟨w.heap.size, 2, none⟩ = some (.int .i64 girth) := HF1.out.at 2 _ rfl
  have o3 : w1.cell? ⟨w.heap.size, 3, none⟩ = some (.int .i64 fa0) := HF1.out.at 3 _ rfl
  have o4 : w1.cell? ⟨w.heap.size, 4, none⟩ = some (.int .i64 fa1) := HF1.out.at 4 _ rfl
  have o5 : w1.cell? ⟨w.heap.size, 5, none⟩ = some (.int .i64 fa2) := HF1.out.at 5 _ rfl
  have o6 : w1.cell? ⟨w.heap.size, 6, none⟩ = some (.int .i64 heal) := HF1.out.at 6 _ rfl
  have o7 : w1.cell? ⟨w.heap.size, 7, none⟩ = some (.slice ta trees.length tc) := HF1.out.at 7 _ rfl
  have hsz := HS1.out
  have HBL := Lib.hid ((HB1.out.alloc HB1.out.size (.cells #[.int .i64 age, .int .i64 rest, .int .i64 girth, .int .i64 fa0, .int .i64 fa1, .int .i64 fa2, .int .i64 heal] 24)).alloc (by rw [World.size_alloc]; have := HB1.out.size; omega) (.cells #[.pointer none, .slice none 0 0] TB))
  have HBN := Lib.hid (show IsBuilder TB TU (w1.heap.size + 1) (w1.heap.size + 1) [] ((w1.alloc (.cells #[.int .i64 age, .int .i64 rest, .int .i64 girth, .int .i64 fa0, .int .i64 fa1, .int .i64 fa2, .int .i64 heal] 24)).alloc (.cells #[.pointer none, .slice none 0 0] TB)) from by
    have := builder_new (w1.alloc (.cells #[.int .i64 age, .int .i64 rest, .int .i64 girth, .int .i64 fa0, .int .i64 fa1, .int .i64 fa2, .int .i64 heal] 24))
    rw [World.size_alloc] at this
    exact this)
  have HLI := Lib.hid (line_calls wLaw [age, rest, girth, fa0, fa1, fa2, heal] (w1.heap.size + 2) 0 7 (fun n hn => (HLAW.out n hn).i64) (by decide) (Nat.le_of_ble_eq_true rfl) (((w1.alloc (.cells #[.int .i64 age, .int .i64 rest, .int .i64 girth, .int .i64 fa0, .int .i64 fa1, .int .i64 fa2, .int .i64 heal] 24)).alloc (.cells #[.pointer none, .slice none 0 0] TB)).alloc (.cells #[.int .i64 age, .int .i64 rest, .int .i64 girth, .int .i64 fa0, .int .i64 fa1, .int .i64 fa2, .int .i64 heal] 3)) ((HL.out.below HBL.out).below ((Below.refl _ _).alloc (Nat.le_refl _) _)) (by
    have := fresh_ints ((w1.alloc (.cells #[.int .i64 age, .int .i64 rest, .int .i64 girth, .int .i64 fa0, .int .i64 fa1, .int .i64 fa2, .int .i64 heal] 24)).alloc (.cells #[.pointer none, .slice none 0 0] TB)) [age, rest, girth, fa0, fa1, fa2, heal] _ rfl 3
    rw [World.size_alloc, World.size_alloc] at this
    exact this))
  have HLL := Lib.hid (show (lineL wLaw [age, rest, girth, fa0, fa1, fa2, heal]).length ≤ 200 from by
    have h1 := line_len wLaw [age, rest, girth, fa0, fa1, fa2, heal] (fun n hn => (HLAW.out n hn).i64)
    have h2 : wLaw.length = 3 := rfl
    simp only [List.length_cons, List.length_nil] at h1
    omega)
  go_upto_region 7 with (first
    | (go_at_call 20; go_must (refine HLI.out.mono ?_); rintro e w2 ⟨rfl, hb2⟩; have HB2 := Lib.hid ((HBL.out.alloc (by rw [World.size_alloc, World.size_alloc]; have := HB1.out.size; omega) _).trans (hb2.mono (by simp only [World.size_alloc]; have := HB1.out.size; omega))); have HBU2 := Lib.hid (builder_below (builder_below HBN.out ((Below.refl _ _).alloc (Nat.le_refl _) _)) hb2); have HS2 := Lib.hid (show w1.heap.size + 1 ≤ w2.heap.size from by have := hb2.size; simp only [World.size_alloc] at this; omega); have HF2 := Lib.hid ((((HF1.out.alloc _).alloc _).alloc _).below hb2); clear hb2; have HWS := Lib.hid (writeString_calls (w1.heap.size + 1) (w1.heap.size + 1) [] (str (lineL wLaw [age, rest, girth, fa0, fa1, fa2, heal])) w2 HBU2.out (by rw [size_str]; have := HLL.out; simp only [List.length_nil]; omega) HS2.out))
    | (go_at_call 19; go_must (refine HWS.out.mono ?_); rintro e v0 ⟨rfl, hb3, hl3⟩; have HBU0 := Lib.hid (show IsBuilder TB TU (w1.heap.size + 1) (w1.heap.size + 1) (byteCells (lineL wLaw [age, rest, girth, fa0, fa1, fa2, heal])) v0 from by rw [List.nil_append, cells_str] at hb3; exact hb3); have HB0 := Lib.hid (HB2.out.trans (hl3.mono (by have := HS1.out; omega))); have HF0 := Lib.hid (show Bkt v0 w.heap.size 27 _ from (hl3.block w.heap.size (by have := HS1.out; omega)).trans HF2.out); have HS0 := Lib.hid (show w1.heap.size + 1 ≤ v0.heap.size from Nat.le_trans HS2.out hl3.size); clear hb3 hl3))
  clear o0 o1 o2 o3 o4 o5 o6 o7 HLI HBN HBL HF1 HB1
  have o7 : v0.cell? ⟨w.heap.size, 7, none⟩ = some (.slice ta trees.length tc) := HF0.out.at 7 _ rfl
  generalize hT0 : lineL wLaw [age, rest, girth, fa0, fa1, fa2, heal] = T0 at *
  have HT0 := Lib.hid hT0
  clear hT0
  generalize hb : w1.heap.size + 1 = b at *
  have HBB := Lib.hid (show w.heap.size < b from by rw [← hb]; have := HS1.out; omega)
  clear hb
  go_wp2_with fail
  go_loopw [39] (fun i wr => ∃ k : Nat, k ≤ trees.length ∧ i = .int .i64 k ∧ Hid (IsBuilder TB TU b b (byteCells (T0 ++ (trees.take k).flatMap treeText)) wr) ∧ Hid (Below b v0 wr)) (fun i _ => trees.length - (RowKit.intOf i).toNat)
  case atStart => exact ⟨0, Nat.zero_le _, rfl, Lib.hid (by simpa using HBU0.out), Lib.hid (Below.refl _ _)⟩
  case round =>
    clear HBU0
    obtain ⟨k, hk, rfl, HBU, HB⟩ := hrel
    have HBW := Lib.hid (HB0.out.trans (HB.out.mono (Nat.le_of_lt HBB.out)))
    have HSB := Lib.hid (Nat.le_trans HS0.out HB.out.size)
    have HLE := Lib.hid (show (T0 ++ (trees.take k).flatMap treeText).length ≤ 200 + 1300 * 20 from by
      have h1 := trees_len (trees.take k) (fun t ht => tree_len (HVAL.out t (List.take_subset _ _ ht)).treeSmall (HVAL.out t (List.take_subset _ _ ht)).size)
      have h2 : (trees.take k).length ≤ 20 := by rw [List.length_take]; have : trees.length ≤ 20 := HMANY.out; omega
      have h3 := HLL.out
      rw [List.length_append]; omega)
    by_cases hlt : k < trees.length
    · obtain ⟨g, off, rfl, hg, hc⟩ := HTA.out k hlt
      have s0 : wr.cell? ⟨g, off + k * 11, none⟩ = some (.string trees[k]!.code) := (HBW.out.cell (p := ⟨g, off + k * 11, none⟩) hg).trans (hc k hlt 0 _ rfl)
      have s1 : wr.cell? ⟨g, off + k * 11 + 1, none⟩ = some (.int .i64 trees[k]!.bmin) := (HBW.out.cell (p := ⟨g, off + k * 11 + 1, none⟩) hg).trans (hc k hlt 1 _ rfl)
      have s2 : wr.cell? ⟨g, off + k * 11 + 2, none⟩ = some (.int .i64 trees[k]!.bmax) := (HBW.out.cell (p := ⟨g, off + k * 11 + 2, none⟩) hg).trans (hc k hlt 2 _ rfl)
      have s3 : wr.cell? ⟨g, off + k * 11 + 3, none⟩ = some (.int .i64 trees[k]!.taped) := (HBW.out.cell (p := ⟨g, off + k * 11 + 3, none⟩) hg).trans (hc k hlt 3 _ rfl)
      have s4 : wr.cell? ⟨g, off + k * 11 + 4, none⟩ = some (.int .i64 trees[k]!.gmin) := (HBW.out.cell (p := ⟨g, off + k * 11 + 4, none⟩) hg).trans (hc k hlt 4 _ rfl)
      have s5 : wr.cell? ⟨g, off + k * 11 + 5, none⟩ = some (.int .i64 trees[k]!.gmax) := (HBW.out.cell (p := ⟨g, off + k * 11 + 5, none⟩) hg).trans (hc k hlt 5 _ rfl)
      have s6 : wr.cell? ⟨g, off + k * 11 + 6, none⟩ = some (.int .i64 trees[k]!.wmin) := (HBW.out.cell (p := ⟨g, off + k * 11 + 6, none⟩) hg).trans (hc k hlt 6 _ rfl)
      have s7 : wr.cell? ⟨g, off + k * 11 + 7, none⟩ = some (.int .i64 trees[k]!.wmax) := (HBW.out.cell (p := ⟨g, off + k * 11 + 7, none⟩) hg).trans (hc k hlt 7 _ rfl)
      have s8 : wr.cell? ⟨g, off + k * 11 + 8, none⟩ = some (trees[k]!.sv) := (HBW.out.cell (p := ⟨g, off + k * 11 + 8, none⟩) hg).trans (hc k hlt 8 _ rfl)
      have s9 : wr.cell? ⟨g, off + k * 11 + 9, none⟩ = some (trees[k]!.wv) := (HBW.out.cell (p := ⟨g, off + k * 11 + 9, none⟩) hg).trans (hc k hlt 9 _ rfl)
      have s10 : wr.cell? ⟨g, off + k * 11 + 10, none⟩ = some (.int .i64 trees[k]!.dead) := (HBW.out.cell (p := ⟨g, off + k * 11 + 10, none⟩) hg).trans (hc k hlt 10 _ rfl)
      clear hc
      have HM := Lib.hid (show trees[k]! ∈ trees from by rw [getElem!_pos trees k hlt]; exact List.getElem_mem hlt)
      have HX := Lib.hid (HVAL.out trees[k]! HM.out)
      have HH := Lib.hid (HTR.out trees[k]! HM.out)
      clear HM
      have HACC := Lib.hid (tree_acc (T := T0) hlt)
      have hm20 : trees.length ≤ 20 := HMANY.out
      generalize trees[k]! = t at s0 s1 s2 s3 s4 s5 s6 s7 s8 s9 s10 HX HH HACC
      have hzs := HX.out.size
      have HTL := Lib.hid (tree_len HX.out.treeSmall HX.out.size)
      obtain ⟨code, bmin, bmax, taped, gmin, gmax, wmin, wmax, sv, wv, dead, strips, wounds⟩ := t
      dsimp only at s0 s1 s2 s3 s4 s5 s6 s7 s8 s9 s10 HH
      obtain ⟨sa, sc, hsv, _⟩ := held_open HH.out.1
      obtain ⟨ua, uc, hwv, _⟩ := held_open HH.out.2.1
      dsimp only at hsv hwv
      subst hsv hwv
      have hkl : (k : Int) < (trees.length : Int) := by omega
      have HBA := Lib.hid (HBW.out.alloc HBW.out.size (.cells #[.string code, .int .i64 bmin, .int .i64 bmax, .int .i64 taped, .int .i64 gmin, .int .i64 gmax, .int .i64 wmin, .int .i64 wmax, .slice sa strips.length sc, .slice ua wounds.length uc, .int .i64 dead] 45))
      have HPT := Lib.hid (show Calls Tryz.prog 21 #[.agg #[.string code, .int .i64 bmin, .int .i64 bmax, .int .i64 taped, .int .i64 gmin, .int .i64 gmax, .int .i64 wmin, .int .i64 wmax, .slice sa strips.length sc, .slice ua wounds.length uc, .int .i64 dead]] _ _ from printTree_calls ⟨code, bmin, bmax, taped, gmin, gmax, wmin, wmax, .slice sa strips.length sc, .slice ua wounds.length uc, dead, strips, wounds⟩ (wr.alloc (.cells #[.string code, .int .i64 bmin, .int .i64 bmax, .int .i64 taped, .int .i64 gmin, .int .i64 gmax, .int .i64 wmin, .int .i64 wmax, .slice sa strips.length sc, .slice ua wounds.length uc, .int .i64 dead] 45)) ((HH.out.below HBA.out).mono HBA.out.size) HX.out.treeSmall (HL.out.below HBA.out))
      generalize hu : treeText ⟨code, bmin, bmax, taped, gmin, gmax, wmin, wmax, .slice sa strips.length sc, .slice ua wounds.length uc, dead, strips, wounds⟩ = U at HPT HACC HTL
      clear hu
      go_wp2_with (first
        | (go_at_call 21; go_must (refine HPT.out.mono ?_); rintro e w2 ⟨rfl, hb2⟩; have hb3 := ((Below.refl wr.heap.size wr).alloc (Nat.le_refl _) _).trans (hb2.mono (by rw [World.size_alloc]; omega)); have HBU2 := Lib.hid (builder_below HBU.out hb3); have HB2 := Lib.hid (HB.out.trans (hb3.mono HSB.out)); clear hb2 hb3; have HWS := Lib.hid (writeString_calls b b _ (str U) w2 HBU2.out (by rw [byteCells_length, size_str]; have h1 := HLE.out; have h2 := HTL.out; omega) (Nat.le_trans HS0.out HB2.out.size)))
        | (go_at_call 19; go_must (refine HWS.out.mono ?_); rintro e w3 ⟨rfl, hb3, hl3⟩; have HBU3 := Lib.hid (show IsBuilder TB TU b b (byteCells (T0 ++ (trees.take (k + 1)).flatMap treeText)) w3 from by rw [← HACC.out, cells_app, ← cells_str U]; exact hb3); have HB3 := Lib.hid (HB2.out.trans hl3); clear hb3 hl3))
      exact ⟨⟨k + 1, hlt, congrArg (Value.int .i64) (Int.natCast_add k 1).symm, HBU3, HB3⟩, numbers_measure _ k hlt⟩
    · obtain rfl : k = trees.length := by omega
      rw [List.take_of_length_le (Nat.le_refl _)] at *
      have HLEN := Lib.hid (Tryz.Builder_Len b b _ wr HBU.out)
      have HST := Lib.hid (Tryz.Builder_String_any b b _ wr HBU.out HSB.out)
      have hsz6 : ¬ (60000 : Int) < ((byteCells (T0 ++ trees.flatMap treeText)).length : Int) := by rw [byteCells_length]; have := HLE.out; omega
      go_wp2_with (first
        | (go_at_call 22; go_must (refine HLEN.out.mono ?_); rintro e w2 ⟨rfl, rfl⟩)
        | (go_at_call 23; go_must (refine HST.out.mono ?_); rintro e w3 ⟨rfl, hb3⟩))
      go_ret2
      have hfin : tt = T0 ++ trees.flatMap treeText := by rw [← HFT.out, ← HT0.out]; rfl
      rw [hfin]
      exact ⟨HBW.out.trans (hb3.mono (Nat.le_of_lt HBB.out)), rfl⟩
end Go.Proofs.YtnoofdjlocadbaaGreatDoor
