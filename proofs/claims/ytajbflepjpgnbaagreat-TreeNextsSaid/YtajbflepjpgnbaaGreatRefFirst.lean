/- The document's own answers: the first strip of a tree's history that surely broke a rule. -/
import Derived.Test.YtajbflepjpgnbaaGreatBoxed
import Derived.Test.YtajbflepjpgnbaaGreatFirstOf
namespace Go.Proofs.YtajbflepjpgnbaaGreat
open Go.RowKit Go.Shelf

set_option maxRecDepth 100000 in
set_option maxHeartbeats 1000000 in
theorem refFirst_no (f : Forest) (tree : Int) (w : World) (h : TreesHeld w.heap.size w f.tv f.trees) (he : ¬ askErr f tree 0 1 = 0) :
    Calls Tryz.prog 9 #[.agg f.cells.toArray, .int .i64 tree] w fun e w' => e = .returned (.tuple #[.int .i64 0, .int .i64 0, .int .i64 (askErr f tree 0 1)]) ∧ Below w.heap.size w w' := by
  have hA := refAsked_calls f tree 0 1 (w.alloc (.cells f.cells.toArray 27)) (h.at ((Below.refl _ _).alloc (Nat.le_refl _) _)) h.1.short
  have hne : (askErr f tree 0 1 != 0) = true := by simpa using he
  obtain ⟨a, c, ev⟩ := h.1.len
  clear h he
  generalize askErr f tree 0 1 = r at hA hne ⊢
  simp only [Forest.cells] at hA ⊢
  rw [ev] at hA ⊢
  clear ev
  have HA := Lib.hid hA; clear hA
  go_enter Tryz.func9, Tryz.ntmps9
  go_wp2_with (go_at_call 18; refine HA.out.mono ?_; rintro e w1 ⟨rfl, hw1⟩; have hB1 := ((Below.refl _ w).alloc (Nat.le_refl _) _).trans (hw1.mono (by simp)); clear hw1)
  go_ret3
  exact ⟨rfl, hB1⟩

theorem size_tree : (Tryz.prog.info? 42).map (·.size) = some 11 := by kernel_rfl

set_option maxRecDepth 100000 in
set_option maxHeartbeats 4000000 in
theorem refFirst_yes (f : Forest) (tree : Int) (w : World) (h : TreesHeld w.heap.size w f.tv f.trees) (he : askErr f tree 0 1 = 0) :
    Calls Tryz.prog 9 #[.agg f.cells.toArray, .int .i64 tree] w fun e w' => e = .returned (.tuple #[.int .i64 (firstRun f.law f.trees[tree.toNat]! 0 f.trees[tree.toNat]!.strips).1, .int .i64 (firstRun f.law f.trees[tree.toNat]! 0 f.trees[tree.toNat]!.strips).2, .int .i64 0]) ∧ Below w.heap.size w w' := by
  have hA := refAsked_calls f tree 0 1 (w.alloc (.cells f.cells.toArray 27)) (h.at ((Below.refl _ _).alloc (Nat.le_refl _) _)) h.1.short
  rw [he] at hA
  have hk := asked_of f tree 0 1 w h he
  have hhs : ∀ s ∈ f.trees[tree.toNat]!.strips, 1 ≤ s.2 ∧ s.2 ≤ 15000 := checkForest_heights f hk.forest _ (by
    have := hk.tree1; have := hk.tree0
    rw [getElem!_pos f.trees tree.toNat (by omega)]; exact List.getElem_mem _)
  have hfine := hk.fine
  have hheld := hk.held
  have hlaw := hk.law
  obtain ⟨K, rfl⟩ := Int.eq_ofNat_of_zero_le hk.tree0
  rw [Int.toNat_natCast] at hhs hfine hheld ⊢
  have hkl : K < f.trees.length := by have := hk.tree1; omega
  have hkl' : (K : Int) < (f.trees.length : Int) := by omega
  obtain ⟨a, c, ev⟩ := h.1.len
  have h1 := h.1
  rw [ev] at h1
  obtain ⟨b, off, rfl, hb, hc⟩ := h1.place hkl
  have HC := Lib.hid (fun (W : World) (hW : Below w.heap.size w W) i u (hu : (Tree.cells f.trees[K]!)[i]? = some u) => (hW.cell (p := ⟨b, off + K * 11 + i, none⟩) hb).trans (hc K hkl i u hu))
  clear h h1 he hk hc
  generalize f.trees[K]! = t at HC hhs hfine hheld ⊢
  obtain ⟨sa, sc, esv⟩ := hheld.1.len
  obtain ⟨wa, wn, wc, ewv⟩ := hheld.2.1.slice
  have hV : ∀ W, Below w.heap.size w W → ∀ k, k < t.strips.length → Calls Tryz.prog 19 #[.agg f.law.cells.toArray, .agg (t.upTo k).cells.toArray, .int .i64 t.strips[k]!.1, .int .i64 t.strips[k]!.2] W fun e w' => e = .returned (.tuple #[.int .i64 (verdictOn f.law (t.upTo k) t.strips[k]!.1 t.strips[k]!.2).1, .int .i64 (verdictOn f.law (t.upTo k) t.strips[k]!.1 t.strips[k]!.2).2]) ∧ Below W.heap.size W w' := fun W hW k hk => by
    have hm : t.strips[k]! ∈ t.strips := by rw [getElem!_pos t.strips k hk]; exact List.getElem_mem hk
    exact refMay_calls _ _ _ _ W hlaw (hfine.upTo k) (((hheld.upTo k (by omega)).below hW).mono hW.size) (hfine.2.2.2.2.1 _ hm).1 (hfine.2.2.2.2.1 _ hm).2 (hhs _ hm).1 (hhs _ hm).2
  have hS : Held w.heap.size w 2 stripCells (.slice sa t.strips.length sc) t.strips := esv ▸ hheld.1
  have hcap : t.strips.length ≤ sc ∧ sc ≤ 140737488355328 ∨ t.strips.length = 0 := by
    rcases hS with ⟨_, h2⟩ | ⟨_, _, c', h1, _, h2, _⟩
    · right; rw [h2]; rfl
    · cases h1; exact .inl h2
  clear hhs hheld hfine hlaw
  have hR : Hid (firstRun f.law t 0 t.strips = firstRun f.law t 0 (t.strips.drop 0)) := Lib.hid rfl
  obtain ⟨n, hn⟩ : ∃ n, t.strips.length = n := ⟨_, rfl⟩
  rw [hn] at hS hcap hV esv
  obtain ⟨R, hRR⟩ : ∃ R, firstRun f.law t 0 t.strips = R := ⟨_, rfl⟩
  rw [hRR] at hR ⊢
  clear hRR
  obtain ⟨code, bmin, bmax, taped, gmin, gmax, wmin, wmax, sv, wv, dead, strips, wounds⟩ := t
  dsimp only at esv ewv hn hV hR hS
  subst esv ewv
  obtain ⟨⟨age, rest, girth, f0, f1, f2, heal⟩, tv, ts⟩ := f
  dsimp only at ev hkl hkl' hV hR
  subst ev
  simp only [Forest.cells] at hA ⊢
  generalize ts.length = N at hA hkl hkl' ⊢
  have HA := Lib.hid hA; clear hA
  have HV := Lib.hid hV; clear hV
  have HST := Lib.hid hS; clear hS
  have HN := Lib.hid hn; clear hn
  have HCAP := Lib.hid hcap; clear hcap
  have HX := Lib.hid (show Below w.heap.size w (w.alloc (.cells #[.int .i64 age, .int .i64 rest, .int .i64 girth, .int .i64 f0, .int .i64 f1, .int .i64 f2, .int .i64 heal, .slice (some ⟨b, off, none⟩) N c] 27)) from (Below.refl _ _).alloc (Nat.le_refl _) _)
  have HK := Lib.hid (boxed_new w ⟨age, rest, girth, f0, f1, f2, heal⟩ (some ⟨b, off, none⟩) N c)
  have HO := Lib.hid (show (#[.string code, .int .i64 bmin, .int .i64 bmax, .int .i64 taped, .int .i64 gmin, .int .i64 gmax, .int .i64 wmin, .int .i64 wmax, .slice sa n sc, .slice wa wn wc, .int .i64 dead] : Array Value).all (·.oneCell') = true from by simp [Value.oneCell'])
  go_enter Tryz.func9, Tryz.ntmps9
  go_wp2_with (first | (go_at_call 18; refine HA.out.mono ?_; rintro e w1 ⟨rfl, hw1⟩; have hB1 := HX.out.trans (hw1.mono HX.out.size); have X1 := Lib.hid (HK.out.below hw1 (by simp)); have hz1 : w.heap.size < w1.heap.size := (by (have := hw1.size; simp at this; omega)); obtain ⟨g0, g1, g2, g3, g4, g5, g6, g7⟩ := X1.out; dsimp only at g0 g1 g2 g3 g4 g5 g6; have c0 : w1.cell? ⟨b, off + K * 11, none⟩ = some (Value.string code) := HC.out w1 hB1 0 _ rfl; have c1 : w1.cell? ⟨b, off + K * 11 + 1, none⟩ = some (Value.int .i64 bmin) := HC.out w1 hB1 1 _ rfl; have c2 : w1.cell? ⟨b, off + K * 11 + 2, none⟩ = some (Value.int .i64 bmax) := HC.out w1 hB1 2 _ rfl; have c3 : w1.cell? ⟨b, off + K * 11 + 3, none⟩ = some (Value.int .i64 taped) := HC.out w1 hB1 3 _ rfl; have c4 : w1.cell? ⟨b, off + K * 11 + 4, none⟩ = some (Value.int .i64 gmin) := HC.out w1 hB1 4 _ rfl; have c5 : w1.cell? ⟨b, off + K * 11 + 5, none⟩ = some (Value.int .i64 gmax) := HC.out w1 hB1 5 _ rfl; have c6 : w1.cell? ⟨b, off + K * 11 + 6, none⟩ = some (Value.int .i64 wmin) := HC.out w1 hB1 6 _ rfl; have c7 : w1.cell? ⟨b, off + K * 11 + 7, none⟩ = some (Value.int .i64 wmax) := HC.out w1 hB1 7 _ rfl; have c8 : w1.cell? ⟨b, off + K * 11 + 8, none⟩ = some (Value.slice sa n sc) := HC.out w1 hB1 8 _ rfl; have c9 : w1.cell? ⟨b, off + K * 11 + 9, none⟩ = some (Value.slice wa wn wc) := HC.out w1 hB1 9 _ rfl; have c10 : w1.cell? ⟨b, off + K * 11 + 10, none⟩ = some (Value.int .i64 dead) := HC.out w1 hB1 10 _ rfl; clear hw1) | ((with_reducible refine at_store 42 (.tmp 8) (.tmp 23) ?_); go_must (refine wpList_store_row rfl 42 (.tmp 8) (.tmp 23) rfl w1.heap.size #[.string code, .int .i64 bmin, .int .i64 bmax, .int .i64 taped, .int .i64 gmin, .int .i64 gmax, .int .i64 wmin, .int .i64 wmax, .slice sa n sc, .slice wa wn wc, .int .i64 dead] rfl rfl 42 #[.string ⟨#[]⟩, .int .i64 0, .int .i64 0, .int .i64 0, .int .i64 0, .int .i64 0, .int .i64 0, .int .i64 0, .slice none 0 0, .slice none 0 0, .int .i64 0] (heap_alloc_new w1 _) size_tree rfl HO.out ?_)))
  have hB2 := below_setRow (hB1.alloc hB1.size (.cells #[.string ⟨#[]⟩, .int .i64 0, .int .i64 0, .int .i64 0, .int .i64 0, .int .i64 0, .int .i64 0, .int .i64 0, .slice none 0 0, .slice none 0 0, .int .i64 0] 42)) hB1.size #[.string code, .int .i64 bmin, .int .i64 bmax, .int .i64 taped, .int .i64 gmin, .int .i64 gmax, .int .i64 wmin, .int .i64 wmax, .slice sa n sc, .slice wa wn wc, .int .i64 dead]
  have HQ2 := Lib.hid (setRow_heap (w1.alloc (.cells #[.string ⟨#[]⟩, .int .i64 0, .int .i64 0, .int .i64 0, .int .i64 0, .int .i64 0, .int .i64 0, .int .i64 0, .slice none 0 0, .slice none 0 0, .int .i64 0] 42)) w1.heap.size _ #[.string code, .int .i64 bmin, .int .i64 bmax, .int .i64 taped, .int .i64 gmin, .int .i64 gmax, .int .i64 wmin, .int .i64 wmax, .slice sa n sc, .slice wa wn wc, .int .i64 dead] _ _ (heap_alloc_new w1 _))
  have X2 := Lib.hid (Boxed.below X1.out (B := w1.heap.size) (below_setRow ((Below.refl _ w1).alloc (Nat.le_refl _) (.cells #[.string ⟨#[]⟩, .int .i64 0, .int .i64 0, .int .i64 0, .int .i64 0, .int .i64 0, .int .i64 0, .int .i64 0, .slice none 0 0, .slice none 0 0, .int .i64 0] 42)) (Nat.le_refl _) #[.string code, .int .i64 bmin, .int .i64 bmax, .int .i64 taped, .int .i64 gmin, .int .i64 gmax, .int .i64 wmin, .int .i64 wmax, .slice sa n sc, .slice wa wn wc, .int .i64 dead]) hz1)
  clear g0 g1 g2 g3 g4 g5 g6 g7 c0 c1 c2 c3 c4 c5 c6 c7 c8 c9 c10 X1
  generalize (w1.alloc (.cells #[.string ⟨#[]⟩, .int .i64 0, .int .i64 0, .int .i64 0, .int .i64 0, .int .i64 0, .int .i64 0, .int .i64 0, .slice none 0 0, .slice none 0 0, .int .i64 0] 42)).setRow w1.heap.size #[.string code, .int .i64 bmin, .int .i64 bmax, .int .i64 taped, .int .i64 gmin, .int .i64 gmax, .int .i64 wmin, .int .i64 wmax, .slice sa n sc, .slice wa wn wc, .int .i64 dead] = w2 at hB2 HQ2 X2 ⊢
  go_loopw [9] (fun i wr => ∃ k : Nat, k ≤ n ∧ i = .int .i64 k ∧ Below w.heap.size w wr ∧ w1.heap.size < wr.heap.size ∧ Hid (Boxed wr w.heap.size ⟨age, rest, girth, f0, f1, f2, heal⟩ (some ⟨b, off, none⟩) N c) ∧ Hid (∃ v, Blk wr w1.heap.size 42 #[.string code, .int .i64 bmin, .int .i64 bmax, .int .i64 taped, .int .i64 gmin, .int .i64 gmax, .int .i64 wmin, .int .i64 wmax, v, .slice wa wn wc, .int .i64 dead]) ∧ Hid (R = firstRun ⟨age, rest, girth, f0, f1, f2, heal⟩ ⟨code, bmin, bmax, taped, gmin, gmax, wmin, wmax, .slice sa n sc, .slice wa wn wc, dead, strips, wounds⟩ k (strips.drop k))) (fun i _ => n - (intOf i).toNat)
  case atStart => exact ⟨0, by omega, rfl, hB2, Blk.lt HQ2.out, X2, Lib.hid ⟨_, HQ2.out⟩, hR⟩
  case round =>
    clear X2 HQ2 hB2
    obtain ⟨k, hk, rfl, hB, hzq, X, HQ, HR⟩ := hrel
    obtain ⟨g0, g1, g2, g3, g4, g5, g6, g7⟩ := X.out
    dsimp only at g0 g1 g2 g3 g4 g5 g6
    have c8 : wr.cell? ⟨b, off + K * 11 + 8, none⟩ = some (Value.slice sa n sc) := HC.out wr hB 8 _ rfl
    by_cases hlt : k < n
    · obtain ⟨b2, off2, rfl, hb2, hc2⟩ := strip_cells HST.out (k := k) (by rw [HN.out]; exact hlt)
      obtain ⟨cs0, cs1⟩ := hc2 wr hB
      clear hc2
      have hnc : n ≤ sc ∧ sc ≤ 140737488355328 := by rcases HCAP.out with h | h; exact h; omega
      obtain ⟨hnc, hc47⟩ := hnc
      have hk47 : (k : Int) ≤ 140737488355328 := by omega
      have hkc : k ≤ sc := by omega
      have hwz := hB.size
      obtain ⟨v, HB⟩ := HQ.out
      have e8 := HB.cell 8
      have z8 := HB.frozen 8
      simp only [List.getElem?_toArray, List.getElem?_cons_zero, List.getElem?_cons_succ] at e8
      have HBB := Lib.hid HB; clear HB
      have hkl2 : k < strips.length := by rw [HN.out]; exact hlt
      have hhit := run_hit ⟨age, rest, girth, f0, f1, f2, heal⟩ ⟨code, bmin, bmax, taped, gmin, gmax, wmin, wmax, .slice (some ⟨b2, off2, none⟩) n sc, .slice wa wn wc, dead, strips, wounds⟩ k hkl2
      have hmiss := run_miss ⟨age, rest, girth, f0, f1, f2, heal⟩ ⟨code, bmin, bmax, taped, gmin, gmax, wmin, wmax, .slice (some ⟨b2, off2, none⟩) n sc, .slice wa wn wc, dead, strips, wounds⟩ k hkl2
      have hVk := fun W hW => HV.out W hW k hlt
      dsimp only at hVk hhit hmiss
      simp only [Tree.cells, Law.cells, Tree.upTo, cutTo] at hVk
      simp only [Tree.upTo, cutTo] at hhit hmiss
      generalize verdictOn _ _ strips[k]!.1 strips[k]!.2 = vv at hVk hhit hmiss
      generalize strips[k]!.1 = s1 at cs0 hVk
      generalize strips[k]!.2 = s2 at cs1 hVk
      have HVK := Lib.hid hVk; clear hVk
      have HH := Lib.hid hhit; clear hhit
      have HM := Lib.hid hmiss; clear hmiss
      have HKK := Lib.hid (show k + 1 ≤ n from hlt); clear hkl2
      have nq : w1.heap.size ≠ wr.heap.size := by omega
      have ng : w.heap.size ≠ w1.heap.size := by omega
      have ng2 : w.heap.size ≠ wr.heap.size := by omega
      have zw : w.heap.size < wr.heap.size := by omega
      have zb : b < wr.heap.size := by omega
      have nb : b ≠ wr.heap.size := by omega
      have nb1 : b ≠ w1.heap.size := by omega
      have nc : b2 ≠ wr.heap.size := by omega
      have hwz1 : w.heap.size ≤ w1.heap.size := by omega
      have hB4 : Below w.heap.size w ((wr.setCell ⟨w1.heap.size, 8, none⟩ (.slice (some ⟨b2, off2, none⟩) k sc)).alloc (.cells #[.int .i64 s1, .int .i64 s2] 60)) := (hB.setCell (p := ⟨w1.heap.size, 8, none⟩) hwz1 _).alloc (by simp [World.setCell]; omega) _
      have HQ4 : Blk ((wr.setCell ⟨w1.heap.size, 8, none⟩ (.slice (some ⟨b2, off2, none⟩) k sc)).alloc (.cells #[.int .i64 s1, .int .i64 s2] 60)) w1.heap.size 42 #[.string code, .int .i64 bmin, .int .i64 bmax, .int .i64 taped, .int .i64 gmin, .int .i64 gmax, .int .i64 wmin, .int .i64 wmax, .slice (some ⟨b2, off2, none⟩) k sc, .slice wa wn wc, .int .i64 dead] := ((HBB.out).set_ 8 (.slice (some ⟨b2, off2, none⟩) k sc)).alloc _
      have HQ5 := Lib.hid HQ4; clear HQ4
      have X4 := Lib.hid (Boxed.below X.out (B := w1.heap.size) ((((Below.refl _ wr).setCell (p := ⟨w1.heap.size, 8, none⟩) (Nat.le_refl _) (.slice (some ⟨b2, off2, none⟩) k sc))).alloc (by simp [World.setCell]; omega) (.cells #[.int .i64 s1, .int .i64 s2] 60)) hz1)
      obtain ⟨v1, v2⟩ := vv
      have HVC := Lib.hid (HVK.out _ hB4); clear HVK
      dsimp only at HVC
      have HB4 := Lib.hid hB4; clear hB4
      by_cases hv : v1 = 2
      · have hvb : (v1 == 2) = true := beq_iff_eq.2 hv
        have HE := Lib.hid (HR.out.trans (HH.out hv))
        clear hv HH HM
        go_wp2_with (first | ((with_reducible refine at_load 42 (.tmp 8) ?_); go_must (refine wpList_load_row rfl 42 (.tmp 8) rfl w1.heap.size rfl 42 #[.string code, .int .i64 bmin, .int .i64 bmax, .int .i64 taped, .int .i64 gmin, .int .i64 gmax, .int .i64 wmin, .int .i64 wmax, .slice (some ⟨b2, off2, none⟩) k sc, .slice wa wn wc, .int .i64 dead] (0, 0) _ HQ5.out Tryz.underlying42 rfl size_tree ?_)) | (go_at_call 19; refine HVC.out.mono ?_; rintro e w5 ⟨rfl, hw5⟩))
        go_ret3
        exact ⟨by rw [HE.out]; rfl, HB4.out.trans (hw5.mono HB4.out.size)⟩
      · have hvb : (v1 == 2) = false := beq_eq_false_iff_ne.2 hv
        have HE := Lib.hid (HR.out.trans (HM.out hv))
        clear hv HH HM
        go_wp2_with (first | ((with_reducible refine at_load 42 (.tmp 8) ?_); go_must (refine wpList_load_row rfl 42 (.tmp 8) rfl w1.heap.size rfl 42 #[.string code, .int .i64 bmin, .int .i64 bmax, .int .i64 taped, .int .i64 gmin, .int .i64 gmax, .int .i64 wmin, .int .i64 wmax, .slice (some ⟨b2, off2, none⟩) k sc, .slice wa wn wc, .int .i64 dead] (0, 0) _ HQ5.out Tryz.underlying42 rfl size_tree ?_)) | (go_at_call 19; refine HVC.out.mono ?_; rintro e w5 ⟨rfl, hw5⟩; have hB6 := HB4.out.trans (hw5.mono HB4.out.size); have HQ6 := Blk.below HQ5.out hw5 (Blk.lt HQ5.out); have X6 := Lib.hid (Boxed.below X4.out hw5 (lt_of_boxed X4.out)); clear hw5))
        have hk1 := HKK.out
        exact ⟨⟨k + 1, hk1, by go_num, hB6, Blk.lt HQ6, X6, Lib.hid ⟨_, HQ6⟩, HE⟩, by simp [intOf]; omega⟩
    · obtain rfl : k = n := by omega
      have HE := Lib.hid (HR.out.trans (run_end ⟨age, rest, girth, f0, f1, f2, heal⟩ ⟨code, bmin, bmax, taped, gmin, gmax, wmin, wmax, .slice sa k sc, .slice wa wn wc, dead, strips, wounds⟩ k (by dsimp only; rw [HN.out]; exact Nat.le_refl _)))
      go_wp2
      go_ret3
      exact ⟨by rw [HE.out]; rfl, hB⟩

theorem refFirst_calls (f : Forest) (tree : Int) (w : World) (h : TreesHeld w.heap.size w f.tv f.trees) :
    Calls Tryz.prog 9 #[.agg f.cells.toArray, .int .i64 tree] w fun e w' => e = .returned (.tuple #[.int .i64 (stripOf f tree).1, .int .i64 (stripOf f tree).2.1, .int .i64 (stripOf f tree).2.2]) ∧ Below w.heap.size w w' := by
  unfold stripOf
  by_cases he : askErr f tree 0 1 = 0
  · rw [if_pos he]; exact refFirst_yes f tree w h he
  · rw [if_neg he]; exact refFirst_no f tree w h he
end Go.Proofs.YtajbflepjpgnbaaGreat
