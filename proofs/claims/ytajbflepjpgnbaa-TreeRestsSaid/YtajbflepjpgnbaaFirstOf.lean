/- The first strip of a tree's history that surely broke a rule: the program's answer. -/
import Derived.Test.YtajbflepjpgnbaaHigh
import Derived.Test.YtajbflepjpgnbaaGreat
namespace Go.Proofs.Ytajbflepjpgnbaa
open Go.RowKit Go.Shelf

theorem treeErr_heights (t : Tree) (h : treeErr t = 0) : ∀ s ∈ t.strips, 1 ≤ s.2 ∧ s.2 ≤ 15000 := by
  unfold treeErr at h
  split at h
  · split at h
    · rename_i hs
      unfold checkStrips at hs
      split at hs
      · cases hs
      · exact fun s hx => (stripsErr_fine _ _ hs s hx).2
    · exact absurd h (by assumption)
  · cases h

theorem treesErr_heights : ∀ (ts es : List Tree), treesErr es ts = 0 → ∀ t ∈ ts, ∀ s ∈ t.strips, 1 ≤ s.2 ∧ s.2 ≤ 15000
  | [], _, _, t, ht => by cases ht
  | x :: r, es, h, t, ht => by
    simp only [treesErr] at h
    split at h
    · rename_i hx
      rcases List.mem_cons.1 ht with rfl | ht
      · unfold checkTree at hx
        split at hx
        · split at hx
          · cases hx
          · exact treeErr_heights _ hx
        · cases hx
      · exact treesErr_heights r _ h t ht
    · exact absurd h (by assumption)

theorem checkForest_heights (f : Forest) (h : checkForest f = 0) : ∀ t ∈ f.trees, ∀ s ∈ t.strips, 1 ≤ s.2 ∧ s.2 ≤ 15000 := by
  unfold checkForest at h
  split at h
  · split at h
    · cases h
    · exact treesErr_heights _ _ h
  · cases h

/-- A list of strips of which the first ones are taken. -/
def cutTo (v : Value) (k : Nat) : Value := match v with | .slice a _ c => .slice a k c | v => v
/-- A tree as it was when it had k strips. -/
def Tree.upTo (t : Tree) (k : Nat) : Tree := { t with sv := cutTo t.sv k, strips := t.strips.take k }

theorem Held.take {α : Type} [Inhabited α] {B : Nat} {w : World} {k : Nat} {enc : α → List Value} {v : Value} {xs : List α} (h : Held B w k enc v xs) (j : Nat) (hj : j ≤ xs.length) : Held B w k enc (cutTo v j) (xs.take j) := by
  rcases h with ⟨⟨a, c, h1⟩, h2⟩ | ⟨b, off, c, h1, hb, hl, hc⟩
  · subst h2
    have hj0 : j = 0 := by simpa using hj
    exact .inl ⟨⟨a, c, by rw [h1, hj0]; rfl⟩, by simp⟩
  · refine .inr ⟨b, off, c, by rw [h1, List.length_take, Nat.min_eq_left hj]; rfl, hb, by rw [List.length_take]; omega, fun i hi n u hu => ?_⟩
    rw [List.length_take] at hi
    have e : (xs.take j)[i]! = xs[i]! := by
      rw [getElem!_pos (xs.take j) i (by rw [List.length_take]; omega), getElem!_pos xs i (by omega), List.getElem_take]
    rw [e] at hu
    exact hc i (by omega) n u hu

theorem TreeHeld.upTo {B : Nat} {w : World} {t : Tree} (h : TreeHeld B w t) (j : Nat) (hj : j ≤ t.strips.length) : TreeHeld B w (t.upTo j) := ⟨h.1.take j hj, h.2.1, h.2.2⟩
theorem TreeFine.upTo {t : Tree} (h : TreeFine t) (j : Nat) : TreeFine (t.upTo j) := by
  obtain ⟨a, b, c, d, e, f⟩ := h
  exact ⟨a, b, c, d, fun s hs => e s (List.mem_of_mem_take hs), f⟩

/-- The first strip, from the k-th one on, that surely broke a rule, and the rule. -/
def firstRun (l : Law) (t : Tree) : Nat → List (Int × Int) → Int × Int
  | _, [] => (-1, 0)
  | k, s :: r => if (verdictOn l (t.upTo k) s.1 s.2).1 = 2 then ((k : Int), (verdictOn l (t.upTo k) s.1 s.2).2) else firstRun l t (k + 1) r
theorem drop_at (ts : List (Int × Int)) (k : Nat) (h : k < ts.length) : ts.drop k = ts[k]! :: ts.drop (k + 1) := by
  rw [List.drop_eq_getElem_cons h, getElem!_pos ts k h]
theorem run_hit (l : Law) (t : Tree) (k : Nat) (h : k < t.strips.length) (hv : (verdictOn l (t.upTo k) t.strips[k]!.1 t.strips[k]!.2).1 = 2) : firstRun l t k (t.strips.drop k) = ((k : Int), (verdictOn l (t.upTo k) t.strips[k]!.1 t.strips[k]!.2).2) := by
  rw [drop_at _ _ h]; simp only [firstRun]; rw [if_pos hv]
theorem run_miss (l : Law) (t : Tree) (k : Nat) (h : k < t.strips.length) (hv : ¬ (verdictOn l (t.upTo k) t.strips[k]!.1 t.strips[k]!.2).1 = 2) : firstRun l t k (t.strips.drop k) = firstRun l t (k + 1) (t.strips.drop (k + 1)) := by
  rw [drop_at _ _ h]; simp only [firstRun]; rw [if_neg hv]
theorem run_end (l : Law) (t : Tree) (k : Nat) (h : t.strips.length ≤ k) : firstRun l t k (t.strips.drop k) = (-1, 0) := by
  rw [List.drop_eq_nil_of_le h]; rfl

set_option maxRecDepth 100000 in
set_option maxHeartbeats 1000000 in
theorem first_no (f : Forest) (tree : Int) (w : World) (h : TreesHeld w.heap.size w f.tv f.trees) (he : ¬ askErr f tree 0 1 = 0) :
    Calls Try.prog 31 #[.agg f.cells.toArray, .int .i64 tree] w fun e w' => e = .returned (.tuple #[.int .i64 0, .int .i64 0, .int .i64 (askErr f tree 0 1)]) ∧ Below w.heap.size w w' := by
  have hA := ask_no f tree 0 1 (w.alloc (.cells f.cells.toArray 27)) ((h.below ((Below.refl _ w).alloc (Nat.le_refl _) _)).mono (by simp)) he
  have hne : (askErr f tree 0 1 != 0) = true := by simpa using he
  obtain ⟨a, c, ev⟩ := h.1.len
  clear h he
  generalize askErr f tree 0 1 = r at hA hne ⊢
  simp only [Forest.cells] at hA ⊢
  rw [ev] at hA ⊢
  clear ev
  have HA := Lib.hid hA; clear hA
  go_enter Try.func31, Try.ntmps31
  go_wp2_with (first | (go_at_call 34; refine HA.out.mono ?_; rintro e w1 ⟨rfl, hw1⟩; have hB1 := ((Below.refl _ w).alloc (Nat.le_refl _) _).trans (hw1.mono (by simp)); clear hw1) | ((with_reducible refine at_store 74 (.tmp 7) (.tmp 17) ?_); go_must (refine wpList_store_row rfl 74 (.tmp 7) (.tmp 17) rfl w1.heap.size (noQuestion) rfl rfl 74 #[.int .i64 0, .int .i64 0, .int .i64 0, .int .i64 0, .int .i64 0, .int .i64 0, .int .i64 0, .string ⟨#[]⟩, .int .i64 0, .int .i64 0, .int .i64 0, .int .i64 0, .int .i64 0, .int .i64 0, .int .i64 0, .slice none 0 0, .slice none 0 0, .int .i64 0, .int .i64 0, .int .i64 0] (heap_alloc_new w1 _) size_question rfl none_cells ?_); have hB2 := below_setRow (hB1.alloc hB1.size (.cells #[.int .i64 0, .int .i64 0, .int .i64 0, .int .i64 0, .int .i64 0, .int .i64 0, .int .i64 0, .string ⟨#[]⟩, .int .i64 0, .int .i64 0, .int .i64 0, .int .i64 0, .int .i64 0, .int .i64 0, .int .i64 0, .slice none 0 0, .slice none 0 0, .int .i64 0, .int .i64 0, .int .i64 0] 74)) hB1.size (noQuestion); have HQ2 := Lib.hid (setRow_heap (w1.alloc (.cells #[.int .i64 0, .int .i64 0, .int .i64 0, .int .i64 0, .int .i64 0, .int .i64 0, .int .i64 0, .string ⟨#[]⟩, .int .i64 0, .int .i64 0, .int .i64 0, .int .i64 0, .int .i64 0, .int .i64 0, .int .i64 0, .slice none 0 0, .slice none 0 0, .int .i64 0, .int .i64 0, .int .i64 0] 74)) w1.heap.size _ (noQuestion) _ _ (heap_alloc_new w1 _)); generalize (w1.alloc (.cells #[.int .i64 0, .int .i64 0, .int .i64 0, .int .i64 0, .int .i64 0, .int .i64 0, .int .i64 0, .string ⟨#[]⟩, .int .i64 0, .int .i64 0, .int .i64 0, .int .i64 0, .int .i64 0, .int .i64 0, .int .i64 0, .slice none 0 0, .slice none 0 0, .int .i64 0, .int .i64 0, .int .i64 0] 74)).setRow w1.heap.size (noQuestion) = w2 at hB2 HQ2 ⊢))
  go_ret3
  exact ⟨rfl, hB2⟩

/-- The strips' cells, in every world behind w. -/
theorem strip_cells {w : World} {a : Option Addr} {n c : Nat} {xs : List (Int × Int)} (h : Held w.heap.size w 2 stripCells (.slice a n c) xs) {k : Nat} (hk : k < xs.length) : ∃ b off, a = some ⟨b, off, none⟩ ∧ b < w.heap.size ∧ ∀ W, Below w.heap.size w W → W.cell? ⟨b, off + k * 2, none⟩ = some (.int .i64 xs[k]!.1) ∧ W.cell? ⟨b, off + k * 2 + 1, none⟩ = some (.int .i64 xs[k]!.2) := by
  obtain ⟨b, off, rfl, hb, hc⟩ := h.place hk
  exact ⟨b, off, rfl, hb, fun W hW => ⟨(hW.cell (p := ⟨b, off + k * 2, none⟩) hb).trans (hc k hk 0 _ rfl), (hW.cell (p := ⟨b, off + k * 2 + 1, none⟩) hb).trans (hc k hk 1 _ rfl)⟩⟩

theorem Blk.drew {w : World} {g : Nat} {t : TypeId} {cs : Array Value} (h : Blk w g t cs) : Blk w.drew g t cs := h

/-- A question's cells with another list of strips, another year and another height. -/
theorem qCells_turn (l : Law) (t : Tree) (v : Value) (y h : Int) (xs : List (Int × Int)) (v2 : Value) (y2 h2 : Int) : (((qCells l { t with sv := v } y h).setIfInBounds 15 v2).setIfInBounds 18 (.int .i64 y2)).setIfInBounds 19 (.int .i64 h2) = qCells l { t with sv := v2, strips := xs } y2 h2 := rfl

attribute [local go_sem ↓] fold_loadQ
attribute [local go_sem] load_question load_question_drew load_question_drewN

set_option maxRecDepth 100000 in
set_option maxHeartbeats 2000000 in
theorem first_yes (f : Forest) (tree : Int) (w : World) (h : TreesHeld w.heap.size w f.tv f.trees) (he : askErr f tree 0 1 = 0) :
    Calls Try.prog 31 #[.agg f.cells.toArray, .int .i64 tree] w fun e w' => e = .returned (.tuple #[.int .i64 (firstRun f.law f.trees[tree.toNat]! 0 f.trees[tree.toNat]!.strips).1, .int .i64 (firstRun f.law f.trees[tree.toNat]! 0 f.trees[tree.toNat]!.strips).2, .int .i64 0]) ∧ Below w.heap.size w w' := by
  have hA := ask_yes f tree 0 1 (w.alloc (.cells f.cells.toArray 27)) ((h.below ((Below.refl _ w).alloc (Nat.le_refl _) _)).mono (by simp)) he
  have hk := asked_of f tree 0 1 w h he
  have hhs : ∀ s ∈ f.trees[tree.toNat]!.strips, 1 ≤ s.2 ∧ s.2 ≤ 15000 := checkForest_heights f hk.forest _ (by
    have := hk.tree1; have := hk.tree0
    rw [getElem!_pos f.trees tree.toNat (by omega)]; exact List.getElem_mem _)
  have hO := qCells_ones f.law f.trees[tree.toNat]! 0 1 hk.held.1.slice hk.held.2.1.slice
  have hfine := hk.fine
  have hheld := hk.held
  have hlaw := hk.law
  clear hk
  generalize f.trees[tree.toNat]! = t at hA hhs hO hfine hheld ⊢
  obtain ⟨a, c, esv⟩ := hheld.1.len
  have hV : ∀ W, Below w.heap.size w W → ∀ k, k < t.strips.length → Calls Try.prog 43 #[.agg (qCells f.law (t.upTo k) t.strips[k]!.1 t.strips[k]!.2)] W fun e w' => e = .returned (.tuple #[.int .i64 (verdictOn f.law (t.upTo k) t.strips[k]!.1 t.strips[k]!.2).1, .int .i64 (verdictOn f.law (t.upTo k) t.strips[k]!.1 t.strips[k]!.2).2]) ∧ Below W.heap.size W w' := fun W hW k hk => by
    have hm : t.strips[k]! ∈ t.strips := by rw [getElem!_pos t.strips k hk]; exact List.getElem_mem hk
    exact verdict_says _ _ _ _ W hlaw (hfine.upTo k) (((hheld.upTo k (by omega)).below hW).mono hW.size) (hfine.2.2.2.2.1 _ hm).1 (hfine.2.2.2.2.1 _ hm).2 (hhs _ hm).1 (hhs _ hm).2
  have hS : Held w.heap.size w 2 stripCells (.slice a t.strips.length c) t.strips := esv ▸ hheld.1
  have hcap : t.strips.length ≤ c ∧ t.strips.length ≤ 140737488355328 ∧ c ≤ 9223372036854775807 ∨ t.strips.length = 0 := by
    rcases hS with ⟨_, h2⟩ | ⟨_, _, c', h1, _, h2, _⟩
    · right; rw [h2]; rfl
    · cases h1; exact .inl h2
  have h15 : (qCells f.law t 0 1)[15]? = some (.slice a t.strips.length c) := by rw [← esv]; rfl
  have ht0 : { t with sv := t.sv } = t := rfl
  obtain ⟨b', c', ev⟩ := h.1.len
  clear h he hhs hheld hfine
  have hR : Hid (firstRun f.law t 0 t.strips = firstRun f.law t 0 (t.strips.drop 0)) := Lib.hid rfl
  obtain ⟨q, hq⟩ : ∃ q, qCells f.law t 0 1 = q := ⟨_, rfl⟩
  rw [hq] at hA hO h15
  have hs : q.size = 20 := by rw [← hq]; rfl
  obtain ⟨n, hn⟩ : ∃ n, t.strips.length = n := ⟨_, rfl⟩
  have hqq : ∃ v y h, q = qCells f.law { t with sv := v } y h := ⟨t.sv, 0, 1, hq.symm⟩
  rw [hn] at h15 hS hcap hV
  have HQ0 := Lib.hid hqq; clear hqq
  simp only [Forest.cells] at hA ⊢
  rw [ev] at hA ⊢
  clear ev ht0 hq hlaw
  have HA := Lib.hid hA; clear hA
  have HV := Lib.hid hV; clear hV
  have HO := Lib.hid hO; clear hO
  have HST := Lib.hid hS; clear hS
  have HE15 := Lib.hid h15; clear h15
  have HN := Lib.hid hn; clear hn
  have HCAP := Lib.hid hcap; clear hcap
  have HSV := Lib.hid esv; clear esv
  obtain ⟨R, hRR⟩ : ∃ R, firstRun f.law t 0 t.strips = R := ⟨_, rfl⟩
  rw [hRR] at hR ⊢
  clear hRR
  have HS0 := Lib.hid hs
  have HS := Lib.hid (show (Try.prog.info? 74).map (·.size) = some q.size from by rw [hs]; exact size_question)
  have HS2 := Lib.hid (show (#[.int .i64 0, .int .i64 0, .int .i64 0, .int .i64 0, .int .i64 0, .int .i64 0, .int .i64 0, .string ⟨#[]⟩, .int .i64 0, .int .i64 0, .int .i64 0, .int .i64 0, .int .i64 0, .int .i64 0, .int .i64 0, .slice none 0 0, .slice none 0 0, .int .i64 0, .int .i64 0, .int .i64 0] : Array Value).size = q.size from by rw [hs]; rfl)
  clear hs
  go_enter Try.func31, Try.ntmps31
  go_wp2_with (first | (go_at_call 34; refine HA.out.mono ?_; rintro e w1 ⟨rfl, hw1⟩; have hB1 := ((Below.refl _ w).alloc (Nat.le_refl _) _).trans (hw1.mono (by simp)); clear hw1) | ((with_reducible refine at_store 74 (.tmp 7) (.tmp 17) ?_); go_must (refine wpList_store_row rfl 74 (.tmp 7) (.tmp 17) rfl w1.heap.size (q) rfl rfl 74 #[.int .i64 0, .int .i64 0, .int .i64 0, .int .i64 0, .int .i64 0, .int .i64 0, .int .i64 0, .string ⟨#[]⟩, .int .i64 0, .int .i64 0, .int .i64 0, .int .i64 0, .int .i64 0, .int .i64 0, .int .i64 0, .slice none 0 0, .slice none 0 0, .int .i64 0, .int .i64 0, .int .i64 0] (heap_alloc_new w1 _) HS.out HS2.out HO.out ?_); have hB2 := below_setRow (hB1.alloc hB1.size (.cells #[.int .i64 0, .int .i64 0, .int .i64 0, .int .i64 0, .int .i64 0, .int .i64 0, .int .i64 0, .string ⟨#[]⟩, .int .i64 0, .int .i64 0, .int .i64 0, .int .i64 0, .int .i64 0, .int .i64 0, .int .i64 0, .slice none 0 0, .slice none 0 0, .int .i64 0, .int .i64 0, .int .i64 0] 74)) hB1.size (q); have HQ2 := Lib.hid (setRow_heap (w1.alloc (.cells #[.int .i64 0, .int .i64 0, .int .i64 0, .int .i64 0, .int .i64 0, .int .i64 0, .int .i64 0, .string ⟨#[]⟩, .int .i64 0, .int .i64 0, .int .i64 0, .int .i64 0, .int .i64 0, .int .i64 0, .int .i64 0, .slice none 0 0, .slice none 0 0, .int .i64 0, .int .i64 0, .int .i64 0] 74)) w1.heap.size _ (q) _ _ (heap_alloc_new w1 _)); generalize (w1.alloc (.cells #[.int .i64 0, .int .i64 0, .int .i64 0, .int .i64 0, .int .i64 0, .int .i64 0, .int .i64 0, .string ⟨#[]⟩, .int .i64 0, .int .i64 0, .int .i64 0, .int .i64 0, .int .i64 0, .int .i64 0, .int .i64 0, .slice none 0 0, .slice none 0 0, .int .i64 0, .int .i64 0, .int .i64 0] 74)).setRow w1.heap.size (q) = w2 at hB2 HQ2 ⊢; have c15 : w2.cell? ⟨w1.heap.size, 15, none⟩ = some (.slice a n c) := (Blk.cell HQ2.out 15).trans HE15.out))
  go_loopw [27] (fun i wr => ∃ k : Nat, k ≤ n ∧ i = .int .i64 k ∧ Below w.heap.size w wr ∧ w1.heap.size < wr.heap.size ∧ Hid (∃ v y h, Blk wr w1.heap.size 74 (qCells f.law { t with sv := v } y h)) ∧ Hid (R = firstRun f.law t k (t.strips.drop k))) (fun i _ => n - (intOf i).toNat)
  case atStart => exact ⟨0, by omega, rfl, hB2, Blk.lt HQ2.out, Lib.hid (by obtain ⟨v, y, h, e⟩ := HQ0.out; exact ⟨v, y, h, e ▸ HQ2.out⟩), hR⟩
  case round =>
    obtain ⟨k, hk, rfl, hB, hzq, HQ, HR⟩ := hrel
    by_cases hlt : k < n
    · obtain ⟨b, off, rfl, hb, hc⟩ := strip_cells HST.out (k := k) (by rw [HN.out]; exact hlt)
      obtain ⟨cs0, cs1⟩ := hc wr hB
      clear hc
      have hnc : n ≤ c ∧ n ≤ 140737488355328 ∧ c ≤ 9223372036854775807 := by rcases HCAP.out with h | h; exact h; omega
      obtain ⟨hnc, hn47, hc63⟩ := hnc
      have hk47 : (k : Int) ≤ 140737488355328 := by omega
      have hkc : k ≤ c := by omega
      have hwz := hB.size
      obtain ⟨v, y, hh, HB⟩ := HQ.out
      have e15 := HB.cell 15
      have e18 := HB.cell 18
      have e19 := HB.cell 19
      have z15 := HB.frozen 15
      have z18 := HB.frozen 18
      have z19 := HB.frozen 19
      simp only [qCells, List.getElem?_toArray, List.getElem?_cons_zero, List.getElem?_cons_succ] at e15 e18 e19
      have HBB := Lib.hid HB; clear HB
      have hkl : k < t.strips.length := by rw [HN.out]; exact hlt
      have hhit := run_hit f.law t k hkl
      have hmiss := run_miss f.law t k hkl
      have hVk := fun W hW => HV.out W hW k hlt
      have hup : t.upTo k = { t with sv := .slice (some ⟨b, off, none⟩) k c, strips := t.strips.take k } := by unfold Tree.upTo; rw [HSV.out]; rfl
      have hqs : (qCells f.law (t.upTo k) t.strips[k]!.1 t.strips[k]!.2).size = 20 := rfl
      generalize verdictOn f.law (t.upTo k) t.strips[k]!.1 t.strips[k]!.2 = vv at hVk hhit hmiss
      generalize hqk : qCells f.law (t.upTo k) t.strips[k]!.1 t.strips[k]!.2 = qk at hVk hqs
      rw [hup] at hqk
      generalize t.strips[k]!.1 = s1 at cs0 hqk
      generalize t.strips[k]!.2 = s2 at cs1 hqk
      have HQK := Lib.hid hqk; clear hqk hup
      have HSK := Lib.hid (show (Try.prog.info? 74).map (·.size) = some qk.size from by rw [hqs]; exact size_question)
      clear hqs
      have HVK := Lib.hid hVk; clear hVk
      have HH := Lib.hid hhit; clear hhit
      have HM := Lib.hid hmiss; clear hmiss
      have HK := Lib.hid (show k + 1 ≤ n from hlt); clear hkl
      have nq : w1.heap.size ≠ wr.heap.size := by omega
      go_wp2_with fail
      go_region
      have hwz1 : w.heap.size ≤ w1.heap.size := by have := hB1.size; simpa using this
      have hB4 : Below w.heap.size w (((((wr.setCell ⟨w1.heap.size, 15, none⟩ (.slice (some ⟨b, off, none⟩) k c)).setCell ⟨w1.heap.size, 18, none⟩ (.int .i64 s1)).setCell ⟨w1.heap.size, 19, none⟩ (.int .i64 s2)).alloc (.cells #[.int .i64 s1, .int .i64 s2] 64)).drew) :=
        ((((hB.setCell (p := ⟨w1.heap.size, 15, none⟩) hwz1 _).setCell (p := ⟨w1.heap.size, 18, none⟩) hwz1 _).setCell (p := ⟨w1.heap.size, 19, none⟩) hwz1 _).alloc (by simp [World.setCell]; omega) _).drew
      have HQ4 : Blk (((((wr.setCell ⟨w1.heap.size, 15, none⟩ (.slice (some ⟨b, off, none⟩) k c)).setCell ⟨w1.heap.size, 18, none⟩ (.int .i64 s1)).setCell ⟨w1.heap.size, 19, none⟩ (.int .i64 s2)).alloc (.cells #[.int .i64 s1, .int .i64 s2] 64)).drew) w1.heap.size 74 qk := by
        have := ((((HBB.out).set_ 15 (.slice (some ⟨b, off, none⟩) k c)).set_ 18 (.int .i64 s1)).set_ 19 (.int .i64 s2)).alloc (.cells #[.int .i64 s1, .int .i64 s2] 64)
        rw [qCells_turn f.law t v y hh (t.strips.take k) (.slice (some ⟨b, off, none⟩) k c) s1 s2, HQK.out] at this
        exact Blk.drew this
      generalize ((((wr.setCell ⟨w1.heap.size, 15, none⟩ (.slice (some ⟨b, off, none⟩) k c)).setCell ⟨w1.heap.size, 18, none⟩ (.int .i64 s1)).setCell ⟨w1.heap.size, 19, none⟩ (.int .i64 s2)).alloc (.cells #[.int .i64 s1, .int .i64 s2] 64)).drew = v4 at hB4 HQ4 ⊢
      clear HBB e15 e18 e19 z15 z18 z19 cs0 cs1 nq
      have HQ5 := Lib.hid HQ4; clear HQ4
      obtain ⟨v1, v2⟩ := vv
      have HVC := Lib.hid (HVK.out v4 hB4); clear HVK
      dsimp only at HVC
      by_cases hv : v1 = 2
      · have hvb : (v1 == 2) = true := beq_iff_eq.2 hv
        have HE := Lib.hid (HR.out.trans (HH.out hv))
        clear hv HH HM
        go_wp2_with (first | ((with_reducible refine at_load 74 (.tmp 7) ?_); go_must (refine wpList_load_row rfl 74 (.tmp 7) rfl w1.heap.size rfl 74 qk (0, 0) _ HQ5.out Try.underlying74 rfl HSK.out ?_)) | (go_at_call 43; refine HVC.out.mono ?_; rintro e w5 ⟨rfl, hw5⟩))
        go_ret3
        exact ⟨by rw [HE.out]; rfl, hB4.trans (hw5.mono hB4.size)⟩
      · have hvb : (v1 == 2) = false := beq_eq_false_iff_ne.2 hv
        have HE := Lib.hid (HR.out.trans (HM.out hv))
        clear hv HH HM
        go_wp2_with (first | ((with_reducible refine at_load 74 (.tmp 7) ?_); go_must (refine wpList_load_row rfl 74 (.tmp 7) rfl w1.heap.size rfl 74 qk (0, 0) _ HQ5.out Try.underlying74 rfl HSK.out ?_)) | (go_at_call 43; refine HVC.out.mono ?_; rintro e w5 ⟨rfl, hw5⟩; have hB6 := hB4.trans (hw5.mono hB4.size); have HQ6 := Blk.below HQ5.out hw5 (Blk.lt HQ5.out); clear hw5))
        have hk1 := HK.out
        exact ⟨⟨k + 1, hk1, by go_num, hB6, Blk.lt HQ6, Lib.hid ⟨_, s1, s2, by rw [← HQK.out] at HQ6; exact HQ6⟩, HE⟩, by simp [intOf]; omega⟩
    · obtain rfl : k = n := by omega
      have HE := Lib.hid (HR.out.trans (run_end f.law t k (by rw [HN.out]; exact Nat.le_refl _)))
      go_wp2
      go_ret3
      exact ⟨by rw [HE.out]; rfl, hB⟩

/-- What First answers. -/
def stripOf (f : Forest) (tree : Int) : Int × Int × Int :=
  if askErr f tree 0 1 = 0 then ((firstRun f.law f.trees[tree.toNat]! 0 f.trees[tree.toNat]!.strips).1, (firstRun f.law f.trees[tree.toNat]! 0 f.trees[tree.toNat]!.strips).2, 0) else (0, 0, askErr f tree 0 1)

theorem stripOf_calls (f : Forest) (tree : Int) (w : World) (h : TreesHeld w.heap.size w f.tv f.trees) :
    Calls Try.prog 31 #[.agg f.cells.toArray, .int .i64 tree] w fun e w' => e = .returned (.tuple #[.int .i64 (stripOf f tree).1, .int .i64 (stripOf f tree).2.1, .int .i64 (stripOf f tree).2.2]) ∧ Below w.heap.size w w' := by
  unfold stripOf
  by_cases he : askErr f tree 0 1 = 0
  · rw [if_pos he]; exact first_yes f tree w h he
  · rw [if_neg he]; exact first_no f tree w h he
end Go.Proofs.Ytajbflepjpgnbaa
