/- The program's Dryness. -/
import Derived.Test.YtbgojeppfhldjaaYRainDry
namespace Go.Proofs.Ytbgojeppfhldjaa
open Go Go.RowKit Go.Shelf Yd
theorem info_bds : (Try.prog.info? 23).map (fun i => (i.zero, i.size, i.bytes)) = some (some (.agg #[.int .i64 0, .int .i64 0]), 2, 16) := by kernel_rfl
theorem bd_two (b : Bd) : (bdCells b).length = 2 := rfl
/-- A row of the call's own, read. -/
theorem held_own {α : Type} [Inhabited α] {enc : α → List Value} {w : World} {base k n : Nat} {e : TypeId} {v : Value} {es : List α} (h : w.ownsRow base e k v n (flat enc es)) (hk : ∀ a, (enc a).length = k) (hl : es.length = n) (h47 : n ≤ 140737488355328) : Held w.heap.size w k enc v es := by
  obtain ⟨_, ⟨h1, h0⟩ | ⟨g, cap, cur, hv, hg, hb, hc, hm, hs, ht⟩⟩ := h
  · subst h1
    subst h0
    exact .inl ⟨⟨_, _, rfl⟩, List.length_eq_zero_iff.1 hl⟩
  · subst hl
    have hb : Blk w g e cur := hb
    refine .inr ⟨g, 0, cap, hv, hb.lt, ⟨hc, h47, by unfold maxLen at hm; omega⟩, fun j hj i u hu => ?_⟩
    have hi : i < k := by have := (List.getElem?_eq_some_iff.1 hu).1; rwa [hk] at this
    have h2 : (flat enc es)[j * k + i]? = some u := by rw [flat_get hk es j i hj hi]; exact hu
    have hjk : j * k + i < es.length * k := by
      have : (j + 1) * k ≤ es.length * k := Nat.mul_le_mul_right k hj
      rw [Nat.succ_mul] at this
      omega
    rw [← ht, List.getElem?_take, if_pos hjk] at h2
    rw [Nat.zero_add, hb.cell]
    simpa using h2
/-- What Dryness leaves. -/
def DryDone (w : World) (ds : List Bd) (e : Ending) (w' : World) : Prop :=
  ∃ v, e = .returned (.tuple #[v, .int .i64 0]) ∧ Below w.heap.size w w' ∧ w'.ownsRow w.heap.size 23 2 v ds.length (flat bdCells ds)
theorem drys_step {s : Bd} {l : List Bd} {q : Nat} (h : q < l.length) {cur : Bd} {dl : List Bd} (hd : drys s l = dl ++ drys cur (l.drop q)) : drys s l = (dl ++ [nextDry cur l[q]!]) ++ drys (nextDry cur l[q]!) (l.drop (q + 1)) := by
  rw [hd, drop_get h, drys]
  simp

set_option linter.unusedSimpArgs false in
set_option maxRecDepth 100000 in
set_option maxHeartbeats 4000000 in
theorem dryness_calls (slo shi : Int) (v : Value) (l : List Bd) (w : World) (h : Held w.heap.size w 2 bdCells v l) (h60 : l.length ≤ 60) (hs : boundsB slo shi 0 9 = true) (hok : ∀ b ∈ l, boundsB b.lo b.hi 0 50 = true) :
    Calls Try.prog 8 #[.agg #[.int .i64 slo, .int .i64 shi], v] w (DryDone w (drys ⟨slo, shi⟩ l)) := by
  have HCR := Lib.hid (fun (W : World) (hW : Below w.heap.size w W) => checkRain_calls slo shi v l W ((h.below hW).mono hW.size) h60 hs hok)
  obtain ⟨a, cp, rfl, _, hcs⟩ := h.slice
  have HCS := Lib.hid hcs; have HOK := Lib.hid hok
  have HAIR := Lib.hid (show Air ⟨slo, shi⟩ from by simpa [boundsB, Air] using hs)
  obtain ⟨n, hn⟩ : ∃ n, n = l.length := ⟨_, rfl⟩
  have HN := Lib.hid hn
  rw [← hn] at h60 HCR ⊢
  clear h hcs hn hok hs
  have HL0 := Lib.hid (show Locs w (w.alloc (.cells #[.int .i64 slo, .int .i64 shi] 23)) [(w.heap.size, 23, [.int .i64 slo, .int .i64 shi])] [] from (Locs.start w).alloc 23 [.int .i64 slo, .int .i64 shi] rfl)
  go_enter Try.func8, Try.ntmps8
  go_upto_region 6 with (first
    | (go_at_call 22; refine (HCR.out _ HL0.out.low).mono ?_; rintro e w1 ⟨rfl, hb⟩; have HL1 := Lib.hid (HL0.out.below hb); have y0 := HL1.out.at 0 0 (v := .int .i64 slo) rfl rfl; have y1 := HL1.out.at 0 1 (v := .int .i64 shi) rfl rfl; clear hb)
    | ((with_reducible refine at_store 23 (.tmp 8) (.tmp 17) ?_); go_must (refine wpList_store_mid rfl 23 (.tmp 8) (.tmp 17) rfl w1.heap.size 0 #[.int .i64 slo, .int .i64 shi] rfl rfl ((Blk.new w1 23 #[.int .i64 0, .int .i64 0]).there (o := 0) (n := 2) (Nat.le_of_ble_eq_true rfl)) size_bounds (by simp [Value.oneCell']) ?_)))
  clear HL0 HCR y0 y1
  generalize w.heap.size = gs at HL1 ⊢
  have HL2 := Lib.hid (show Locs w ((w1.alloc (.cells #[.int .i64 0, .int .i64 0] 23)).setCells w1.heap.size 0 [.int .i64 slo, .int .i64 shi]) [(gs, 23, [.int .i64 slo, .int .i64 shi]), (w1.heap.size, 23, [.int .i64 slo, .int .i64 shi])] [] from (HL1.out.alloc 23 [.int .i64 0, .int .i64 0] rfl).setLoc 1 [] [.int .i64 0, .int .i64 0] [] [.int .i64 slo, .int .i64 shi] rfl rfl)
  clear HL1
  generalize ((w1.alloc (.cells #[.int .i64 0, .int .i64 0] 23)).setCells w1.heap.size 0 [.int .i64 slo, .int .i64 shi]) = v1 at HL2 ⊢
  generalize w1.heap.size = gd at HL2 ⊢
  try simp only [Act.put]
  go_wp2
  have HR0 := Lib.hid (Rowed.nil w v1 ([(gs, 23, [.int .i64 slo, .int .i64 shi]), (gd, 23, [.int .i64 slo, .int .i64 shi])] : List (Nat × TypeId × List Value)) 23 2)
  go_loopw [7, 20] (fun cv iv wr => ∃ (q : Nat) (clo chi : Int) (dl : List Bd), q ≤ n ∧ iv = .int .i64 q ∧ Hid (Air ⟨clo, chi⟩) ∧ Hid (dl.length = q) ∧ Hid (drys ⟨slo, shi⟩ l = dl ++ drys ⟨clo, chi⟩ (l.drop q)) ∧ Hid (Rowed w wr ([(gs, 23, [.int .i64 slo, .int .i64 shi]), (gd, 23, [.int .i64 clo, .int .i64 chi])] : List (Nat × TypeId × List Value)) 23 2 (cv) (q) (flat bdCells dl)) ∧ Hid (Locs w wr [(gs, 23, [.int .i64 slo, .int .i64 shi]), (gd, 23, [.int .i64 clo, .int .i64 chi])] [])) (fun _ iv _ => n - (intOf iv).toNat)
  case atStart => exact ⟨0, slo, shi, [], Nat.zero_le _, rfl, HAIR, Lib.hid rfl, Lib.hid rfl, HR0, HL2⟩
  case round =>
    clear HL2 HR0
    obtain ⟨q, clo, chi, dl, hq, rfl, HA, HDL, HDR, HR, HL3⟩ := hrel
    obtain ⟨sa, sn, sc, rfl⟩ := row_slice HR.out.own
    by_cases hlt : q < n
    · skip
      have hqI : (q : Int) < (n : Int) := by omega
      have hql : q < l.length := by rw [← HN.out]; exact hlt
      obtain ⟨b, off, rfl, hbl, ⟨hnc, hcm⟩, hcells⟩ := HCS.out (by omega)
      obtain ⟨⟨lo, hi⟩, hd⟩ : ∃ d, d = l[q]! := ⟨_, rfl⟩
      have hdo := HOK.out _ (get_in hql)
      have hst := drys_step hql HDR.out
      rw [← hd] at hdo hst
      have hro : 0 ≤ lo ∧ lo ≤ hi ∧ hi ≤ 50 := by simpa [boundsB] using hdo
      have HST := Lib.hid hst
      have HA2 := Lib.hid (next_air (r := ⟨lo, hi⟩) HA.out ⟨hro.1, hro.2.1⟩)
      have hair := HA.out
      unfold Air at hair
      simp only at hair
      have HD1 := Lib.hid (fun W => dryAfter_calls clo hi W (by omega) (by omega))
      have HD2 := Lib.hid (fun W => dryAfter_calls chi lo W (by omega) (by omega))
      have c0 := (show wr.cell? ⟨b, off + q * 2, none⟩ = some (.int .i64 lo) from (HL3.out.low.cell (p := ⟨b, off + q * 2 + 0, none⟩) hbl).trans (hcells q hql 0 _ (by rw [← hd]; rfl)))
      have c1 := (show wr.cell? ⟨b, off + q * 2 + 1, none⟩ = some (.int .i64 hi) from (HL3.out.low.cell (p := ⟨b, off + q * 2 + 1, none⟩) hbl).trans (hcells q hql 1 _ (by rw [← hd]; rfl)))
      clear hcells hd hdo hst hair hro hql
      have HRz := Lib.hid (HR.out.alloc 23 [.int .i64 0, .int .i64 0] rfl)
      clear HR
      go_upto_region 9 with ((with_reducible refine at_store 23 (.tmp 10) (.tmp 23) ?_); go_must (refine wpList_store_mid rfl 23 (.tmp 10) (.tmp 23) rfl wr.heap.size 0 #[.int .i64 lo, .int .i64 hi] rfl rfl ((Blk.new wr 23 #[.int .i64 0, .int .i64 0]).there (o := 0) (n := 2) (Nat.le_of_ble_eq_true rfl)) size_bounds (by simp [Value.oneCell']) ?_))
      clear c0 c1
      have HR1 := Lib.hid (show Rowed w ((wr.alloc (.cells #[.int .i64 0, .int .i64 0] 23)).setCells wr.heap.size 0 [.int .i64 lo, .int .i64 hi]) ([(gs, 23, [.int .i64 slo, .int .i64 shi]), (gd, 23, [.int .i64 clo, .int .i64 chi]), (wr.heap.size, 23, [.int .i64 lo, .int .i64 hi])] : List (Nat × TypeId × List Value)) 23 2 (.slice sa sn sc) (q) (flat bdCells dl) from HRz.out.setLoc 2 rfl 0 [.int .i64 lo, .int .i64 hi])
      clear HRz
      have HL4 := Lib.hid (show Locs w ((wr.alloc (.cells #[.int .i64 0, .int .i64 0] 23)).setCells wr.heap.size 0 [.int .i64 lo, .int .i64 hi]) [(gs, 23, [.int .i64 slo, .int .i64 shi]), (gd, 23, [.int .i64 clo, .int .i64 chi]), (wr.heap.size, 23, [.int .i64 lo, .int .i64 hi])] [] from (HL3.out.alloc 23 [.int .i64 0, .int .i64 0] rfl).setLoc 2 [] [.int .i64 0, .int .i64 0] [] [.int .i64 lo, .int .i64 hi] rfl rfl)
      clear HL3
      generalize ((wr.alloc (.cells #[.int .i64 0, .int .i64 0] 23)).setCells wr.heap.size 0 [.int .i64 lo, .int .i64 hi]) = v2 at HL4 HR1 ⊢
      generalize wr.heap.size = gr at HL4 HR1 ⊢
      try simp only [Act.put]
      have q0 := cell_regrown (show v2.cell? ⟨gd, 0, none⟩ = some (.int .i64 clo) from HL4.out.at 1 0 (v := .int .i64 clo) rfl rfl)
      have q1 := cell_regrown (show v2.cell? ⟨gd, 1, none⟩ = some (.int .i64 chi) from HL4.out.at 1 1 (v := .int .i64 chi) rfl rfl)
      have q2 := cell_regrown (show v2.cell? ⟨gr, 0, none⟩ = some (.int .i64 lo) from HL4.out.at 2 0 (v := .int .i64 lo) rfl rfl)
      have q3 := cell_regrown (show v2.cell? ⟨gr, 1, none⟩ = some (.int .i64 hi) from HL4.out.at 2 1 (v := .int .i64 hi) rfl rfl)
      have k1 : ∀ d os, Calls Try.prog 23 #[.int .i64 clo, .int .i64 hi] (Go.Sort.grow (redrawn v2 d) os) fun e w'' => e = .returned (.int .i64 (dryAfter clo hi)) ∧ ∃ p : Regrown, w'' = Go.Sort.grow (redrawn v2 p.d) p.os := regrown_calls HD1.out
      have k2 : ∀ d os, Calls Try.prog 23 #[.int .i64 chi, .int .i64 lo] (Go.Sort.grow (redrawn v2 d) os) fun e w'' => e = .returned (.int .i64 (dryAfter chi lo)) ∧ ∃ p : Regrown, w'' = Go.Sort.grow (redrawn v2 p.d) p.os := regrown_calls HD2.out
      refine region_split_below 11 (by kernel_rfl) (by kernel_rfl) (by kernel_rfl) ?_
      simp only [List.take_succ_cons, List.take_zero, List.drop_succ_cons, List.drop_zero]
      repeat (go_big_quiet_step (first | (with_reducible exact k1 _ _) | (with_reducible exact k2 _ _)))
      refine wpQuiet_nil ?_
      intro wq hw'
      have hb8 : Below v2.heap.size v2 wq := by obtain ⟨⟨dq, osq⟩, hw''⟩ := hw'; rw [hw'']; exact below_regrown _ dq osq
      clear hw' q0 q1 q2 q3 k1 k2
      have HL5 := Lib.hid (HL4.out.below hb8)
      have HR2 := Lib.hid (HR1.out.below hb8)
      clear hb8 HL4 HR1
      generalize wq = v3 at HL5 HR2 ⊢
      go_upto_region 10 with ((with_reducible refine at_store 23 (.tmp 8) (.tmp 34) ?_); go_must (refine wpList_store_mid rfl 23 (.tmp 8) (.tmp 34) rfl gd 0 #[.int .i64 (dryAfter clo hi), .int .i64 (dryAfter chi lo)] rfl rfl (HL5.out.there 1 (o := 0) (n := 2) rfl (Nat.le_of_ble_eq_true rfl)) size_bounds (by simp [Value.oneCell']) ?_))
      have HR3 := Lib.hid (show Rowed w (v3.setCells gd 0 [.int .i64 (dryAfter clo hi), .int .i64 (dryAfter chi lo)]) ([(gs, 23, [.int .i64 slo, .int .i64 shi]), (gd, 23, [.int .i64 (dryAfter clo hi), .int .i64 (dryAfter chi lo)]), (gr, 23, [.int .i64 lo, .int .i64 hi])] : List (Nat × TypeId × List Value)) 23 2 (.slice sa sn sc) (q) (flat bdCells dl) from HR2.out.setLoc 1 rfl 0 [.int .i64 (dryAfter clo hi), .int .i64 (dryAfter chi lo)])
      clear HR2
      have HL6 := Lib.hid (show Locs w (v3.setCells gd 0 [.int .i64 (dryAfter clo hi), .int .i64 (dryAfter chi lo)]) [(gs, 23, [.int .i64 slo, .int .i64 shi]), (gd, 23, [.int .i64 (dryAfter clo hi), .int .i64 (dryAfter chi lo)]), (gr, 23, [.int .i64 lo, .int .i64 hi])] [] from HL5.out.setLoc 1 [] [.int .i64 clo, .int .i64 chi] [] [.int .i64 (dryAfter clo hi), .int .i64 (dryAfter chi lo)] rfl rfl)
      clear HL5
      generalize (v3.setCells gd 0 [.int .i64 (dryAfter clo hi), .int .i64 (dryAfter chi lo)]) = v4 at HL6 HR3 ⊢
      try simp only [Act.put]
      have s0 := (show v4.cell? ⟨gd, 0, none⟩ = some (.int .i64 (dryAfter clo hi)) from HL6.out.at 1 0 (v := .int .i64 (dryAfter clo hi)) rfl rfl)
      have s1 := (show v4.cell? ⟨gd, 1, none⟩ = some (.int .i64 (dryAfter chi lo)) from HL6.out.at 1 1 (v := .int .i64 (dryAfter chi lo)) rfl rfl)
      obtain ⟨i1_, hi1, hi1a, hi1b, hi1c⟩ := info_parts info_bds
      have HI1 := Lib.hid hi1; have HI1a := Lib.hid hi1a; have HI1b := Lib.hid hi1b; have HI1c := Lib.hid hi1c
      have HA1 := Lib.hid (show q + 1 ≤ maxLen ∧ (q + 1) * 16 ≤ 140737488355328 by unfold maxLen; omega)
      clear hi1 hi1a hi1b hi1c
      have HRa := Lib.hid (show Rowed w (v4.alloc (.cells #[.int .i64 (dryAfter clo hi), .int .i64 (dryAfter chi lo)] 23)) ([(gs, 23, [.int .i64 slo, .int .i64 shi]), (gd, 23, [.int .i64 (dryAfter clo hi), .int .i64 (dryAfter chi lo)]), (gr, 23, [.int .i64 lo, .int .i64 hi]), (v4.heap.size, 23, [.int .i64 (dryAfter clo hi), .int .i64 (dryAfter chi lo)])] : List (Nat × TypeId × List Value)) 23 2 (.slice sa sn sc) (q) (flat bdCells dl) from HR3.out.alloc 23 [.int .i64 (dryAfter clo hi), .int .i64 (dryAfter chi lo)] rfl)
      have HLa := Lib.hid (show Locs w (v4.alloc (.cells #[.int .i64 (dryAfter clo hi), .int .i64 (dryAfter chi lo)] 23)) [(gs, 23, [.int .i64 slo, .int .i64 shi]), (gd, 23, [.int .i64 (dryAfter clo hi), .int .i64 (dryAfter chi lo)]), (gr, 23, [.int .i64 lo, .int .i64 hi]), (v4.heap.size, 23, [.int .i64 (dryAfter clo hi), .int .i64 (dryAfter chi lo)])] [] from HL6.out.alloc 23 [.int .i64 (dryAfter clo hi), .int .i64 (dryAfter chi lo)] rfl)
      clear HR3
      go_wp2_with (at_builtin; refine wpList_append_lies _ rfl (.tmp 35) (.tmp 37) 24 rfl w.heap.size 23 i1_ (.agg #[.int .i64 0, .int .i64 0]) 2 16 Try.underlying24 HI1.out HI1a.out HI1b.out HI1c.out rfl (by decide) (.slice sa sn sc) q (flat bdCells dl) rfl HRa.out.own ⟨v4.heap.size, 0, none⟩ 1 1 [.int .i64 (dryAfter clo hi), .int .i64 (dryAfter chi lo)] rfl rfl (World.news_of_block (heap_alloc_new v4 _)) (by simp [Value.oneCell']) (by decide) HA1.out.1 HA1.out.2 HLa.out.low.size (v4.heap.size + 1) (World.size_alloc _ _) ?_; intro g cap w7 hown7 hg7 hat7 hlt7; have HL7 := Lib.hid (HLa.out.appended HRa.out hg7); have HR7 := Lib.hid (Rowed.appended HLa.out HRa.out hown7 (by rw [World.size_alloc]; exact hat7)); clear hown7 hg7 hat7 hlt7)
      go_roundw
      case rel =>
        refine ⟨q + 1, dryAfter clo hi, dryAfter chi lo, dl ++ [⟨dryAfter clo hi, dryAfter chi lo⟩], by omega, by go_num, HA2, Lib.hid (by rw [List.length_append, HDL.out]; rfl), HST, Lib.hid ?_, Lib.hid (HL7.out.fewer (List.sublist_append_left ([(gs, 23, [.int .i64 slo, .int .i64 shi]), (gd, 23, [.int .i64 (dryAfter clo hi), .int .i64 (dryAfter chi lo)])] : List (Nat × TypeId × List Value)) ([(gr, 23, [.int .i64 lo, .int .i64 hi]), (v4.heap.size, 23, [.int .i64 (dryAfter clo hi), .int .i64 (dryAfter chi lo)])] : List (Nat × TypeId × List Value))) (List.Sublist.refl _))⟩
        rw [flat_append, show flat bdCells [(⟨dryAfter clo hi, dryAfter chi lo⟩ : Bd)] = [.int .i64 (dryAfter clo hi), .int .i64 (dryAfter chi lo)] from rfl]
        exact HR7.out.fewer (List.sublist_append_left ([(gs, 23, [.int .i64 slo, .int .i64 shi]), (gd, 23, [.int .i64 (dryAfter clo hi), .int .i64 (dryAfter chi lo)])] : List (Nat × TypeId × List Value)) ([(gr, 23, [.int .i64 lo, .int .i64 hi]), (v4.heap.size, 23, [.int .i64 (dryAfter clo hi), .int .i64 (dryAfter chi lo)])] : List (Nat × TypeId × List Value)))
      case measure => simp [intOf]; omega
    · skip
      have hqn : n = q := by omega
      have hdd : drys ⟨slo, shi⟩ l = dl := by rw [HDR.out, List.drop_of_length_le (by rw [← HN.out]; omega), drys, List.append_nil]
      have hlen := HDL.out
      subst hqn
      go_wp2
      go_ret2
      refine ⟨_, rfl, HL3.out.low, ?_⟩
      rw [hdd, hlen]
      exact HR.out.own
end Go.Proofs.Ytbgojeppfhldjaa
