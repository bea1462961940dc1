/- A yard in which each number is a single one, by choices. -/
import Derived.Test.YtmcmhgpmefelfaaYLocs
import Derived.Test.YtmcmhgpmefelfaaYOpen
namespace Go.Proofs.Ytmcmhgpmefelfaa
open Go Go.RowKit Go.Shelf Yd

theorem take_more {ds : List (Deed Code)} {k : Nat} (h : k < ds.length) : ds.take (k + 1) = ds.take k ++ [ds[k]!] := by
  rw [getElem!_pos ds k h, ← List.take_append_getElem h]
/-- What exact leaves. -/
def ExactDone (w : World) (bef aft : Int) (ds : List (Deed Code)) (e : Ending) (w' : World) : Prop :=
  ∃ (v : Value) (es : List (Deed Code)), e = .returned (.agg #[.int .i64 bef, .int .i64 aft, v]) ∧ Below w.heap.size w w' ∧ All2 Slim es ds ∧ (∀ d ∈ es, d.a.lo = d.a.hi ∧ d.b.lo = d.b.hi) ∧ Held w'.heap.size w' 8 deedCells v es
theorem held_of_row {w : World} {base n : Nat} {v : Value} {es : List (Deed Code)} (h : w.ownsRow base 55 8 v n (flat deedCells es)) (hl : es.length = n) (h12 : n ≤ 12) : Held w.heap.size w 8 deedCells v es := by
  rcases Nat.eq_zero_or_pos n with h0 | h0
  · obtain ⟨a, m, c, rfl⟩ := row_slice h
    have := row_len h
    subst this h0
    exact .inl ⟨⟨a, c, rfl⟩, List.length_eq_zero_iff.1 hl⟩
  · obtain ⟨g, cap, cur, rfl, hb, hc, hm, _, ht⟩ := row_blockD h (by obtain ⟨a, m, c, rfl⟩ := row_slice h; have := row_len h; intro e; injection e with _ e2 _; omega)
    refine held_of_blk (spare := cur.toList.drop (n * 8)) ?_ hl hc hm (by omega)
    rw [← ht, List.take_append_drop]
    simpa using hb

set_option maxRecDepth 100000 in
set_option maxHeartbeats 4000000 in
theorem exact_calls (bef aft : Int) (v pv : Value) (ds : List (Deed Code)) (xs : List Int) (w : World) (h : Held w.heap.size w 8 deedCells v ds) (hsz : ∀ d ∈ ds, d.stack.size ≤ maxLen ∧ d.other.size ≤ maxLen) (hpv : Held w.heap.size w 1 pickCells pv xs) (hxs : ∀ x ∈ xs, 0 ≤ x ∧ x ≤ 65535) (hok : errYard bef aft ds = 0) (h12 : ds.length ≤ 12) :
    Calls Try.prog 19 #[.agg #[.int .i64 bef, .int .i64 aft, v], pv] w (ExactDone w bef aft ds) := by
  obtain ⟨pa, pc, rfl, hpm, hpcs⟩ := hpv.slice
  have HPC := Lib.hid hpcs
  obtain ⟨m, hm⟩ : ∃ m, m = xs.length := ⟨_, rfl⟩
  have HM := Lib.hid hm
  rw [← hm] at hpm ⊢
  clear hpcs hm
  obtain ⟨a, c, rfl, _, hcs⟩ := h.slice
  have HCS := Lib.hid hcs
  obtain ⟨n, hn⟩ : ∃ n, n = ds.length := ⟨_, rfl⟩
  have HN := Lib.hid hn
  rw [← hn] at h12 ⊢
  have HY0 := Lib.hid (((Blk.new w 24 #[.int .i64 bef, .int .i64 aft, .slice a n c]).alloc (.cells #[.int .i64 0, .int .i64 0, .slice none 0 0] 24)).alloc (.cells #[.int .i64 bef, .int .i64 aft, .slice none 0 0] 24))
  have hz0 : (w.alloc (.cells #[.int .i64 bef, .int .i64 aft, .slice a n c] 24)).heap.size = w.heap.size + 1 := World.size_alloc _ _
  have hz1 : ((w.alloc (.cells #[.int .i64 bef, .int .i64 aft, .slice a n c] 24)).alloc (.cells #[.int .i64 0, .int .i64 0, .slice none 0 0] 24)).heap.size = w.heap.size + 2 := by rw [World.size_alloc, hz0]
  have HR0 := Lib.hid ((Blk.new (w.alloc (.cells #[.int .i64 bef, .int .i64 aft, .slice a n c] 24)) 24 #[.int .i64 0, .int .i64 0, .slice none 0 0]).alloc (.cells #[.int .i64 bef, .int .i64 aft, .slice none 0 0] 24))
  have HO0 := Lib.hid (Blk.new ((w.alloc (.cells #[.int .i64 bef, .int .i64 aft, .slice a n c] 24)).alloc (.cells #[.int .i64 0, .int .i64 0, .slice none 0 0] 24)) 24 #[.int .i64 bef, .int .i64 aft, .slice none 0 0])
  have HB0 := Lib.hid ((((Below.refl w.heap.size w).alloc (Nat.le_refl _) (.cells #[.int .i64 bef, .int .i64 aft, .slice a n c] 24)).alloc (by rw [hz0]; omega) (.cells #[.int .i64 0, .int .i64 0, .slice none 0 0] 24)).alloc (by rw [hz1]; omega) (.cells #[.int .i64 bef, .int .i64 aft, .slice none 0 0] 24))
  rw [hz0] at HR0
  rw [hz1] at HO0
  clear h hcs hn hz0 hz1
  go_enter Try.func19, Try.ntmps19
  go_wp2
  obtain ⟨g2, hg2⟩ : ∃ g, g = w.heap.size := ⟨_, rfl⟩
  have HSZ := Lib.hid hsz; have HXS := Lib.hid hxs; have HOK := Lib.hid hok
  clear hsz hxs hok
  rw [← hg2]
  rw [← hg2] at HY0 HR0 HO0
  have HG2 := Lib.hid hg2
  clear hg2
  go_loopw [6] (fun iv wr => ∃ (k : Nat) (es : List (Deed Code)) (sv : Value), k ≤ n ∧ iv = .int .i64 k ∧ Hid (es.length = k) ∧ Hid (All2 Slim es (ds.take k)) ∧ Hid (∀ d ∈ es, d.a.lo = d.a.hi ∧ d.b.lo = d.b.hi) ∧ Hid (wr.ownsRow w.heap.size 55 8 sv k (flat deedCells es)) ∧
      Hid (Blk wr g2 24 #[.int .i64 bef, .int .i64 aft, .slice a n c]) ∧ Hid (Blk wr (g2 + 1) 24 #[.int .i64 0, .int .i64 0, .slice none 0 0]) ∧ Hid (Blk wr (g2 + 1 + 1) 24 #[.int .i64 bef, .int .i64 aft, sv]) ∧ Hid (Below w.heap.size w wr)) (fun iv _ => n - (intOf iv).toNat)
  case atStart => exact ⟨0, [], .slice none 0 0, Nat.zero_le _, rfl, Lib.hid rfl, Lib.hid .nil, Lib.hid (fun d hd => by cases hd), Lib.hid (World.ownsRow_nil _ _ _ _), HY0, HR0, HO0, HB0⟩
  case round =>
    obtain ⟨k, es, sv, hk, rfl, HL, HA, HE1, HRW, HY, HR, HO, HB⟩ := hrel
    obtain ⟨sa, sn, sc, rfl⟩ := row_slice HRW.out
    have y2 := HY.out.at 2 _ rfl
    by_cases hlt : k < n
    · obtain ⟨b, off, rfl, hbl, ⟨hnc, hcm⟩, hcells⟩ := HCS.out (by rw [← HN.out]; omega)
      have HCS2 := Lib.hid hcells
      have HBL := Lib.hid hbl
      have hlt' : k < ds.length := by rw [← HN.out]; exact hlt
      obtain ⟨⟨kind, dy, code, other, ⟨al, ah⟩, ⟨bl, bh⟩⟩, hd⟩ : ∃ d, d = ds[k]! := ⟨_, rfl⟩
      have hd := hd.symm
      have c0 := (show wr.cell? ⟨b, off + k * 8, none⟩ = some (.int .i64 kind) from (HB.out.cell (p := ⟨b, off + k * 8 + 0, none⟩) HBL.out).trans (HCS2.out k hlt' 0 _ (by rw [hd]; rfl)))
      have c1 := (show wr.cell? ⟨b, off + k * 8 + 1, none⟩ = some (.int .i64 dy) from (HB.out.cell (p := ⟨b, off + k * 8 + 1, none⟩) HBL.out).trans (HCS2.out k hlt' 1 _ (by rw [hd]; rfl)))
      have c2 := (show wr.cell? ⟨b, off + k * 8 + 2, none⟩ = some (.string code) from (HB.out.cell (p := ⟨b, off + k * 8 + 2, none⟩) HBL.out).trans (HCS2.out k hlt' 2 _ (by rw [hd]; rfl)))
      have c3 := (show wr.cell? ⟨b, off + k * 8 + 3, none⟩ = some (.string other) from (HB.out.cell (p := ⟨b, off + k * 8 + 3, none⟩) HBL.out).trans (HCS2.out k hlt' 3 _ (by rw [hd]; rfl)))
      have c4 := (show wr.cell? ⟨b, off + k * 8 + 4, none⟩ = some (.int .i64 al) from (HB.out.cell (p := ⟨b, off + k * 8 + 4, none⟩) HBL.out).trans (HCS2.out k hlt' 4 _ (by rw [hd]; rfl)))
      have c5 := (show wr.cell? ⟨b, off + k * 8 + 5, none⟩ = some (.int .i64 ah) from (HB.out.cell (p := ⟨b, off + k * 8 + 5, none⟩) HBL.out).trans (HCS2.out k hlt' 5 _ (by rw [hd]; rfl)))
      have c6 := (show wr.cell? ⟨b, off + k * 8 + 6, none⟩ = some (.int .i64 bl) from (HB.out.cell (p := ⟨b, off + k * 8 + 6, none⟩) HBL.out).trans (HCS2.out k hlt' 6 _ (by rw [hd]; rfl)))
      have c7 := (show wr.cell? ⟨b, off + k * 8 + 7, none⟩ = some (.int .i64 bh) from (HB.out.cell (p := ⟨b, off + k * 8 + 7, none⟩) HBL.out).trans (HCS2.out k hlt' 7 _ (by rw [hd]; rfl)))
      have HD := Lib.hid hd
      have hkI : (k : Int) < (n : Int) := by omega
      have HDB := Lib.hid (Blk.new wr 55 #[.int .i64 kind, .int .i64 dy, .string code, .string other, .int .i64 al, .int .i64 ah, .int .i64 bl, .int .i64 bh])
      have HW1 := Lib.hid (HB.out.alloc HB.out.size (.cells #[.int .i64 kind, .int .i64 dy, .string code, .string other, .int .i64 al, .int .i64 ah, .int .i64 bl, .int .i64 bh] 55))
      clear hd hcells hbl
      go_upto_region 8 with (fail)
      have HFD := Lib.hid (errDeeds_all (errYard_ok HOK.out).2.2.2 _ (get_in hlt'))
      have hFa : 0 ≤ al ∧ al ≤ ah ∧ ah ≤ 100000000 := by have := HFD.out; rw [HD.out] at this; exact ⟨this.fine.a.1, this.fine.a.2, this.a8⟩
      have hFb : 0 ≤ bl ∧ bl ≤ bh ∧ bh ≤ 100000000 := by have := HFD.out; rw [HD.out] at this; exact ⟨this.fine.b.1, this.fine.b.2, this.b8⟩
      by_cases hpk : 2 * k + 1 < m
      · have hpkI : 2 * (k : Int) + 1 < (m : Int) := by omega
        obtain ⟨b', off', rfl, hb', _, hpc⟩ := HPC.out (by rw [← HM.out]; omega)
        obtain ⟨p1, hpe1⟩ : ∃ p, p = xs[2 * k]! := ⟨_, rfl⟩
        obtain ⟨p2, hpe2⟩ : ∃ p, p = xs[2 * k + 1]! := ⟨_, rfl⟩
        have hp1 : 0 ≤ p1 ∧ p1 ≤ 65535 := by rw [hpe1]; exact HXS.out _ (get_in (by rw [← HM.out]; omega))
        have hp2 : 0 ≤ p2 ∧ p2 ≤ 65535 := by rw [hpe2]; exact HXS.out _ (get_in (by rw [← HM.out]; omega))
        have q0 := cell_regrown (show (wr.alloc (.cells #[.int .i64 kind, .int .i64 dy, .string code, .string other, .int .i64 al, .int .i64 ah, .int .i64 bl, .int .i64 bh] 55)).cell? ⟨b', off' + 2 * k, none⟩ = some (.int .u16 p1) from (HW1.out.cell (p := ⟨b', off' + 2 * k, none⟩) hb').trans (by have := hpc (2 * k) (by rw [← HM.out]; omega) 0 (.int .u16 p1) (by rw [← hpe1]; rfl); simpa using this))
        have q1 := cell_regrown (show (wr.alloc (.cells #[.int .i64 kind, .int .i64 dy, .string code, .string other, .int .i64 al, .int .i64 ah, .int .i64 bl, .int .i64 bh] 55)).cell? ⟨b', off' + (2 * k + 1), none⟩ = some (.int .u16 p2) from (HW1.out.cell (p := ⟨b', off' + (2 * k + 1), none⟩) hb').trans (by have := hpc (2 * k + 1) (by rw [← HM.out]; omega) 0 (.int .u16 p2) (by rw [← hpe2]; rfl); simpa using this))
        have hi0 : (0 : Int) ≤ 2 * (k : Int) := by omega
        have hi1 : (0 : Int) ≤ 2 * (k : Int) + 1 := by omega
        have hi2 : 2 * (k : Int) < (m : Int) := by omega
        have en1 : (2 * (k : Int)).toNat = 2 * k := by omega
        have en2 : (2 * (k : Int) + 1).toNat = 2 * k + 1 := by omega
        clear hpc hpe1 hpe2
        go_upto_region 9 with (fail)
        refine wp_region_quiet_below (by kernel_rfl) (by kernel_rfl) ?_
        repeat (go_big_quiet_step (fail))
        refine wpQuiet_nil ?_
        intro w3 hw'
        have hb3 : Below (wr.alloc (.cells #[.int .i64 kind, .int .i64 dy, .string code, .string other, .int .i64 al, .int .i64 ah, .int .i64 bl, .int .i64 bh] 55)).heap.size (wr.alloc (.cells #[.int .i64 kind, .int .i64 dy, .string code, .string other, .int .i64 al, .int .i64 ah, .int .i64 bl, .int .i64 bh] 55)) w3 := by obtain ⟨⟨dq, osq⟩, hw''⟩ := hw'; rw [hw'']; exact below_regrown _ dq osq
        clear hw' q0 q1 hi0 hi1 hi2 en1 en2
        have HYw := Lib.hid ((HY.out.alloc (.cells #[.int .i64 kind, .int .i64 dy, .string code, .string other, .int .i64 al, .int .i64 ah, .int .i64 bl, .int .i64 bh] 55)).below hb3)
        have HRw := Lib.hid ((HR.out.alloc (.cells #[.int .i64 kind, .int .i64 dy, .string code, .string other, .int .i64 al, .int .i64 ah, .int .i64 bl, .int .i64 bh] 55)).below hb3)
        have HOw := Lib.hid ((HO.out.alloc (.cells #[.int .i64 kind, .int .i64 dy, .string code, .string other, .int .i64 al, .int .i64 ah, .int .i64 bl, .int .i64 bh] 55)).below hb3)
        have HSw := Lib.hid (row_same (HRW.out.alloc (.cells #[.int .i64 kind, .int .i64 dy, .string code, .string other, .int .i64 al, .int .i64 ah, .int .i64 bl, .int .i64 bh] 55)) (fun g hg => hb3.block g (row_lt (HRW.out.alloc (.cells #[.int .i64 kind, .int .i64 dy, .string code, .string other, .int .i64 al, .int .i64 ah, .int .i64 bl, .int .i64 bh] 55)) hg)))
        have HDB := Lib.hid (HDB.out.below hb3)
        have HW1 := Lib.hid (HW1.out.trans (hb3.mono HW1.out.size))
        clear hb3
        go_upto_region 10 with (fail)
        have q4 := cell_regrown (HDB.out.at 4 (.int .i64 al) rfl)
        have q5 := cell_regrown (HDB.out.at 5 (.int .i64 ah) rfl)
        have q6 := cell_regrown (HDB.out.at 6 (.int .i64 bl) rfl)
        have q7 := cell_regrown (HDB.out.at 7 (.int .i64 bh) rfl)
        have k1 := regrown_calls (W := w3) (fun W => pick_calls al ah p1 W hFa hp1)
        have k2 := regrown_calls (W := w3) (fun W => pick_calls bl bh p2 W hFb hp2)
        have hQ1 := pick_in (b := p1) hFa.2.1
        have hQ2 := pick_in (b := p2) hFb.2.1
        generalize pickOf al ah p1 = q1 at k1 hQ1
        generalize pickOf bl bh p2 = q2 at k2 hQ2
        refine wp_region_quiet_below (by kernel_rfl) (by kernel_rfl) ?_
        repeat (go_big_quiet_step (first | (with_reducible exact k1 _ _) | (with_reducible exact k2 _ _)))
        refine wpQuiet_nil ?_
        intro w4 hw'
        have hb8 : Below (w3).heap.size (w3) w4 := by obtain ⟨⟨dq, osq⟩, hw''⟩ := hw'; rw [hw'']; exact below_regrown _ dq osq
        clear hw' q4 q5 q6 q7 k1 k2
        have HYa := Lib.hid (HYw.out.below hb8)
        have HRa := Lib.hid (HRw.out.below hb8)
        have HOa := Lib.hid (HOw.out.below hb8)
        have HDa := Lib.hid (HDB.out.below hb8)
        have HSa := Lib.hid (show w4.ownsRow w.heap.size 55 8 (.slice sa sn sc) k (flat deedCells es) from row_same HSw.out (fun g hg => hb8.block g (row_lt HSw.out hg)))
        have HBa := Lib.hid (HW1.out.trans (hb8.mono HW1.out.size))
        have HGD := Lib.hid (show w.heap.size ≤ wr.heap.size from HB.out.size)
        have HNG := Lib.hid (show g2 ≠ wr.heap.size ∧ g2 + 1 ≠ wr.heap.size ∧ g2 + 1 + 1 ≠ wr.heap.size from ⟨Nat.ne_of_lt HY.out.lt, Nat.ne_of_lt HR.out.lt, Nat.ne_of_lt HO.out.lt⟩)
        have HNS := Lib.hid (show ∀ g, (Value.slice sa sn sc).ownBlock = some g → g ≠ wr.heap.size from fun g hg => Nat.ne_of_lt (row_lt HRW.out hg))
        clear hb8
        obtain ⟨gd, hgd⟩ : ∃ g, g = wr.heap.size := ⟨_, rfl⟩
        rw [← hgd] at HDa HGD HNG HNS ⊢
        clear hgd HY HR HO HRW HB HDB HW1 HYw HRw HOw HSw
        go_upto_region 12 with (first
          | (go_at_call 25; refine (bounds_calls _ _ _).mono ?_; rintro e w5 ⟨rfl, hb5⟩; have HYa := Lib.hid (HYa.out.below hb5); have HRa := Lib.hid (HRa.out.below hb5); have HOa := Lib.hid (HOa.out.below hb5); have HDa := Lib.hid (HDa.out.below hb5); have HSa := Lib.hid (row_same HSa.out (fun g hg => hb5.block g (row_lt HSa.out hg))); have HBa := Lib.hid (HBa.out.trans (hb5.mono HBa.out.size)); clear hb5)
          | ((with_reducible refine at_store 32 (.tmp 63) (.tmp 59) ?_); go_must (refine wpList_store_mid rfl 32 (.tmp 63) (.tmp 59) rfl gd 4 #[.int .i64 q1, .int .i64 q1] rfl rfl (HDa.out.there (o := 4) (n := 2) (Nat.le_of_ble_eq_true rfl)) size_bounds (show (#[.int .i64 q1, .int .i64 q1] : Array Value).all (·.oneCell') = true from by simp [Value.oneCell']) ?_); have HDe := Lib.hid (show Blk (w5.setCells gd 4 [.int .i64 q1, .int .i64 q1]) gd 55 #[.int .i64 kind, .int .i64 dy, .string code, .string other, .int .i64 q1, .int .i64 q1, .int .i64 bl, .int .i64 bh] from HDa.out.storedMid [.int .i64 kind, .int .i64 dy, .string code, .string other] [.int .i64 al, .int .i64 ah] [.int .i64 bl, .int .i64 bh] [.int .i64 q1, .int .i64 q1] rfl))
          | ((with_reducible refine at_store 32 (.tmp 64) (.tmp 62) ?_); go_must (refine wpList_store_mid rfl 32 (.tmp 64) (.tmp 62) rfl gd 6 #[.int .i64 q2, .int .i64 q2] rfl rfl (HDe.out.there (o := 6) (n := 2) (Nat.le_of_ble_eq_true rfl)) size_bounds (show (#[.int .i64 q2, .int .i64 q2] : Array Value).all (·.oneCell') = true from by simp [Value.oneCell']) ?_)))
        have HDf := Lib.hid (show Blk ((w5.setCells gd 4 [.int .i64 q1, .int .i64 q1]).setCells gd 6 [.int .i64 q2, .int .i64 q2]) gd 55 #[.int .i64 kind, .int .i64 dy, .string code, .string other, .int .i64 q1, .int .i64 q1, .int .i64 q2, .int .i64 q2] from HDe.out.storedMid [.int .i64 kind, .int .i64 dy, .string code, .string other, .int .i64 q1, .int .i64 q1] [.int .i64 bl, .int .i64 bh] [] [.int .i64 q2, .int .i64 q2] rfl)
        have HYf := Lib.hid ((HYa.out.apart HNG.out.1 4 [.int .i64 q1, .int .i64 q1]).apart HNG.out.1 6 [.int .i64 q2, .int .i64 q2])
        have HRf := Lib.hid ((HRa.out.apart HNG.out.2.1 4 [.int .i64 q1, .int .i64 q1]).apart HNG.out.2.1 6 [.int .i64 q2, .int .i64 q2])
        have HOf := Lib.hid ((HOa.out.apart HNG.out.2.2 4 [.int .i64 q1, .int .i64 q1]).apart HNG.out.2.2 6 [.int .i64 q2, .int .i64 q2])
        have HBf := Lib.hid (below_setCells (below_setCells HBa.out HGD.out [.int .i64 q1, .int .i64 q1] 4) HGD.out [.int .i64 q2, .int .i64 q2] 6)
        have HSf := Lib.hid (show ((w5.setCells gd 4 [.int .i64 q1, .int .i64 q1]).setCells gd 6 [.int .i64 q2, .int .i64 q2]).ownsRow w.heap.size 55 8 (.slice sa sn sc) k (flat deedCells es) from row_same HSa.out (fun g hg => (heap_setCells _ gd (HNS.out g hg) _ _).trans (heap_setCells _ gd (HNS.out g hg) _ _)))
        generalize (w5.setCells gd 4 [.int .i64 q1, .int .i64 q1]).setCells gd 6 [.int .i64 q2, .int .i64 q2] = w6 at HDf HYf HRf HOf HBf HSf ⊢
        clear HDa HDe HYa HRa HOa HBa HSa
        have o2 := HOf.out.at 2 (.slice sa sn sc) rfl
        have f0 := HDf.out.at 0 (.int .i64 kind) rfl
        have f1 := HDf.out.at 1 (.int .i64 dy) rfl
        have f2 := HDf.out.at 2 (.string code) rfl
        have f3 := HDf.out.at 3 (.string other) rfl
        have f4 := HDf.out.at 4 (.int .i64 q1) rfl
        have f5 := HDf.out.at 5 (.int .i64 q1) rfl
        have f6 := HDf.out.at 6 (.int .i64 q2) rfl
        have f7 := HDf.out.at 7 (.int .i64 q2) rfl
        obtain ⟨i1, hi1, hi1a, hi1b, hi1c⟩ := info_parts info_deedz
        have HI1 := Lib.hid hi1; have HI1a := Lib.hid hi1a; have HI1b := Lib.hid hi1b; have HI1c := Lib.hid hi1c
        have HA1 := Lib.hid (show k + 1 ≤ maxLen ∧ (k + 1) * 80 ≤ 140737488355328 by unfold maxLen; omega)
        have HSg := Lib.hid (HSf.out.alloc (.cells #[.int .i64 kind, .int .i64 dy, .string code, .string other, .int .i64 q1, .int .i64 q1, .int .i64 q2, .int .i64 q2] 55))
        clear hi1 hi1a hi1b hi1c
        go_wp2_with (at_builtin; refine wpList_append_lies _ rfl (.tmp 66) (.tmp 68) 22 rfl w.heap.size 55 i1 (.agg #[.int .i64 0, .int .i64 0, .string ⟨#[]⟩, .string ⟨#[]⟩, .int .i64 0, .int .i64 0, .int .i64 0, .int .i64 0]) 8 80 Try.underlying22 HI1.out HI1a.out HI1b.out HI1c.out rfl (by decide) (.slice sa sn sc) k (flat deedCells es) rfl HSg.out ⟨w6.heap.size, 0, none⟩ 1 1 [.int .i64 kind, .int .i64 dy, .string code, .string other, .int .i64 q1, .int .i64 q1, .int .i64 q2, .int .i64 q2] rfl rfl (World.news_of_block (heap_alloc_new w6 _)) (by simp [Value.oneCell']) (by decide) HA1.out.1 HA1.out.2 (by have := HBf.out.size; first | exact this | (rw [World.size_alloc]; omega) | omega) (w6.heap.size + 1) (World.size_alloc _ _) ?_; intro g cap w7 hown7 hg7 hat7 hlt7; have HOW := Lib.hid hown7; have HY7 := Lib.hid ((HYf.out.alloc (.cells #[.int .i64 kind, .int .i64 dy, .string code, .string other, .int .i64 q1, .int .i64 q1, .int .i64 q2, .int .i64 q2] 55)).grown hg7 ((HYf.out.alloc (.cells #[.int .i64 kind, .int .i64 dy, .string code, .string other, .int .i64 q1, .int .i64 q1, .int .i64 q2, .int .i64 q2] 55)).notRow HSg.out (by decide))); have HR7 := Lib.hid ((HRf.out.alloc (.cells #[.int .i64 kind, .int .i64 dy, .string code, .string other, .int .i64 q1, .int .i64 q1, .int .i64 q2, .int .i64 q2] 55)).grown hg7 ((HRf.out.alloc (.cells #[.int .i64 kind, .int .i64 dy, .string code, .string other, .int .i64 q1, .int .i64 q1, .int .i64 q2, .int .i64 q2] 55)).notRow HSg.out (by decide))); have HO7 := Lib.hid ((HOf.out.alloc (.cells #[.int .i64 kind, .int .i64 dy, .string code, .string other, .int .i64 q1, .int .i64 q1, .int .i64 q2, .int .i64 q2] 55)).grown hg7 ((HOf.out.alloc (.cells #[.int .i64 kind, .int .i64 dy, .string code, .string other, .int .i64 q1, .int .i64 q1, .int .i64 q2, .int .i64 q2] 55)).notRow HSg.out (by decide))); have HB7 := Lib.hid ((HBf.out.alloc HBf.out.size (.cells #[.int .i64 kind, .int .i64 dy, .string code, .string other, .int .i64 q1, .int .i64 q1, .int .i64 q2, .int .i64 q2] 55)).grown hg7 (by rw [World.size_alloc]; have := HBf.out.size; omega) (fun r hr => (HSg.out.lt r hr).1)); clear hown7 hg7 hat7 hlt7 o2 f0 f1 f2 f3 f4 f5 f6 f7; have o2 := HO7.out.at 2 (.slice sa sn sc) rfl; have of2 := HO7.out.frozen 2)
        go_roundw
        case rel =>
          refine ⟨k + 1, es ++ [⟨kind, dy, code, other, ⟨q1, q1⟩, ⟨q2, q2⟩⟩], .slice (some ⟨g, 0, none⟩) (k + 1) cap, by omega, by go_num, Lib.hid (by simp [HL.out]), Lib.hid ?_, Lib.hid ?_, Lib.hid ?_, Lib.hid (show Blk (w7.setCell ⟨g2 + 1 + 1, 2, none⟩ (.slice (some ⟨g, 0, none⟩) (k + 1) cap)) g2 24 #[.int .i64 bef, .int .i64 aft, .slice (some ⟨b, off, none⟩) n c] from HY7.out.apart (show g2 ≠ g2 + 1 + 1 from by omega) 2 [.slice (some ⟨g, 0, none⟩) (k + 1) cap]), Lib.hid (show Blk (w7.setCell ⟨g2 + 1 + 1, 2, none⟩ (.slice (some ⟨g, 0, none⟩) (k + 1) cap)) (g2 + 1) 24 #[.int .i64 0, .int .i64 0, .slice none 0 0] from HR7.out.apart (show g2 + 1 ≠ g2 + 1 + 1 from by omega) 2 [.slice (some ⟨g, 0, none⟩) (k + 1) cap]), Lib.hid (show Blk (w7.setCell ⟨g2 + 1 + 1, 2, none⟩ (.slice (some ⟨g, 0, none⟩) (k + 1) cap)) (g2 + 1 + 1) 24 #[.int .i64 bef, .int .i64 aft, .slice (some ⟨g, 0, none⟩) (k + 1) cap] from HO7.out.set_ 2 (.slice (some ⟨g, 0, none⟩) (k + 1) cap)), Lib.hid (HB7.out.setCell (p := ⟨g2 + 1 + 1, 2, none⟩) (by have := HG2.out; simp only; omega) (.slice (some ⟨g, 0, none⟩) (k + 1) cap))⟩
          · rw [take_more hlt', HD.out]
            exact HA.out.append (.one ⟨rfl, rfl, rfl, rfl, ⟨hQ1.1, Int.le_refl _, hQ1.2⟩, ⟨hQ2.1, Int.le_refl _, hQ2.2⟩⟩)
          · intro d hd
            rcases List.mem_append.1 hd with h1 | h1
            · exact HE1.out d h1
            · rw [List.mem_singleton.1 h1]; exact ⟨rfl, rfl⟩
          · rw [flat_append, flat_cons, flat_nil, List.append_nil]
            exact row_setCell HOW.out HO7.out (by decide) 2 (.slice (some ⟨g, 0, none⟩) (k + 1) cap)
        case measure => simp [intOf]; omega
      · have hpkI : (m : Int) ≤ 2 * (k : Int) + 1 := by omega
        have hp1 : 0 ≤ (k : Int) * 31 ∧ (k : Int) * 31 ≤ 65535 := by omega
        have hp2 : 0 ≤ (k : Int) * 17 ∧ (k : Int) * 17 ≤ 65535 := by omega
        go_upto_region 10 with (fail)
        have HYw := Lib.hid (HY.out.alloc (.cells #[.int .i64 kind, .int .i64 dy, .string code, .string other, .int .i64 al, .int .i64 ah, .int .i64 bl, .int .i64 bh] 55))
        have HRw := Lib.hid (HR.out.alloc (.cells #[.int .i64 kind, .int .i64 dy, .string code, .string other, .int .i64 al, .int .i64 ah, .int .i64 bl, .int .i64 bh] 55))
        have HOw := Lib.hid (HO.out.alloc (.cells #[.int .i64 kind, .int .i64 dy, .string code, .string other, .int .i64 al, .int .i64 ah, .int .i64 bl, .int .i64 bh] 55))
        have HSw := Lib.hid (HRW.out.alloc (.cells #[.int .i64 kind, .int .i64 dy, .string code, .string other, .int .i64 al, .int .i64 ah, .int .i64 bl, .int .i64 bh] 55))
        have q4 := cell_regrown (HDB.out.at 4 (.int .i64 al) rfl)
        have q5 := cell_regrown (HDB.out.at 5 (.int .i64 ah) rfl)
        have q6 := cell_regrown (HDB.out.at 6 (.int .i64 bl) rfl)
        have q7 := cell_regrown (HDB.out.at 7 (.int .i64 bh) rfl)
        have k1 := regrown_calls (W := wr.alloc (.cells #[.int .i64 kind, .int .i64 dy, .string code, .string other, .int .i64 al, .int .i64 ah, .int .i64 bl, .int .i64 bh] 55)) (fun W => pick_calls al ah ((k : Int) * 31) W hFa hp1)
        have k2 := regrown_calls (W := wr.alloc (.cells #[.int .i64 kind, .int .i64 dy, .string code, .string other, .int .i64 al, .int .i64 ah, .int .i64 bl, .int .i64 bh] 55)) (fun W => pick_calls bl bh ((k : Int) * 17) W hFb hp2)
        have hQ1 := pick_in (b := ((k : Int) * 31)) hFa.2.1
        have hQ2 := pick_in (b := ((k : Int) * 17)) hFb.2.1
        generalize pickOf al ah ((k : Int) * 31) = q1 at k1 hQ1
        generalize pickOf bl bh ((k : Int) * 17) = q2 at k2 hQ2
        refine wp_region_quiet_below (by kernel_rfl) (by kernel_rfl) ?_
        repeat (go_big_quiet_step (first | (with_reducible exact k1 _ _) | (with_reducible exact k2 _ _)))
        refine wpQuiet_nil ?_
        intro w4 hw'
        have hb8 : Below (wr.alloc (.cells #[.int .i64 kind, .int .i64 dy, .string code, .string other, .int .i64 al, .int .i64 ah, .int .i64 bl, .int .i64 bh] 55)).heap.size (wr.alloc (.cells #[.int .i64 kind, .int .i64 dy, .string code, .string other, .int .i64 al, .int .i64 ah, .int .i64 bl, .int .i64 bh] 55)) w4 := by obtain ⟨⟨dq, osq⟩, hw''⟩ := hw'; rw [hw'']; exact below_regrown _ dq osq
        clear hw' q4 q5 q6 q7 k1 k2
        have HYa := Lib.hid (HYw.out.below hb8)
        have HRa := Lib.hid (HRw.out.below hb8)
        have HOa := Lib.hid (HOw.out.below hb8)
        have HDa := Lib.hid (HDB.out.below hb8)
        have HSa := Lib.hid (show w4.ownsRow w.heap.size 55 8 (.slice sa sn sc) k (flat deedCells es) from row_same HSw.out (fun g hg => hb8.block g (row_lt HSw.out hg)))
        have HBa := Lib.hid (HW1.out.trans (hb8.mono HW1.out.size))
        have HGD := Lib.hid (show w.heap.size ≤ wr.heap.size from HB.out.size)
        have HNG := Lib.hid (show g2 ≠ wr.heap.size ∧ g2 + 1 ≠ wr.heap.size ∧ g2 + 1 + 1 ≠ wr.heap.size from ⟨Nat.ne_of_lt HY.out.lt, Nat.ne_of_lt HR.out.lt, Nat.ne_of_lt HO.out.lt⟩)
        have HNS := Lib.hid (show ∀ g, (Value.slice sa sn sc).ownBlock = some g → g ≠ wr.heap.size from fun g hg => Nat.ne_of_lt (row_lt HRW.out hg))
        clear hb8
        obtain ⟨gd, hgd⟩ : ∃ g, g = wr.heap.size := ⟨_, rfl⟩
        rw [← hgd] at HDa HGD HNG HNS ⊢
        clear hgd HY HR HO HRW HB HDB HW1 HYw HRw HOw HSw
        go_upto_region 12 with (first
          | (go_at_call 25; refine (bounds_calls _ _ _).mono ?_; rintro e w5 ⟨rfl, hb5⟩; have HYa := Lib.hid (HYa.out.below hb5); have HRa := Lib.hid (HRa.out.below hb5); have HOa := Lib.hid (HOa.out.below hb5); have HDa := Lib.hid (HDa.out.below hb5); have HSa := Lib.hid (row_same HSa.out (fun g hg => hb5.block g (row_lt HSa.out hg))); have HBa := Lib.hid (HBa.out.trans (hb5.mono HBa.out.size)); clear hb5)
          | ((with_reducible refine at_store 32 (.tmp 63) (.tmp 59) ?_); go_must (refine wpList_store_mid rfl 32 (.tmp 63) (.tmp 59) rfl gd 4 #[.int .i64 q1, .int .i64 q1] rfl rfl (HDa.out.there (o := 4) (n := 2) (Nat.le_of_ble_eq_true rfl)) size_bounds (show (#[.int .i64 q1, .int .i64 q1] : Array Value).all (·.oneCell') = true from by simp [Value.oneCell']) ?_); have HDe := Lib.hid (show Blk (w5.setCells gd 4 [.int .i64 q1, .int .i64 q1]) gd 55 #[.int .i64 kind, .int .i64 dy, .string code, .string other, .int .i64 q1, .int .i64 q1, .int .i64 bl, .int .i64 bh] from HDa.out.storedMid [.int .i64 kind, .int .i64 dy, .string code, .string other] [.int .i64 al, .int .i64 ah] [.int .i64 bl, .int .i64 bh] [.int .i64 q1, .int .i64 q1] rfl))
          | ((with_reducible refine at_store 32 (.tmp 64) (.tmp 62) ?_); go_must (refine wpList_store_mid rfl 32 (.tmp 64) (.tmp 62) rfl gd 6 #[.int .i64 q2, .int .i64 q2] rfl rfl (HDe.out.there (o := 6) (n := 2) (Nat.le_of_ble_eq_true rfl)) size_bounds (show (#[.int .i64 q2, .int .i64 q2] : Array Value).all (·.oneCell') = true from by simp [Value.oneCell']) ?_)))
        have HDf := Lib.hid (show Blk ((w5.setCells gd 4 [.int .i64 q1, .int .i64 q1]).setCells gd 6 [.int .i64 q2, .int .i64 q2]) gd 55 #[.int .i64 kind, .int .i64 dy, .string code, .string other, .int .i64 q1, .int .i64 q1, .int .i64 q2, .int .i64 q2] from HDe.out.storedMid [.int .i64 kind, .int .i64 dy, .string code, .string other, .int .i64 q1, .int .i64 q1] [.int .i64 bl, .int .i64 bh] [] [.int .i64 q2, .int .i64 q2] rfl)
        have HYf := Lib.hid ((HYa.out.apart HNG.out.1 4 [.int .i64 q1, .int .i64 q1]).apart HNG.out.1 6 [.int .i64 q2, .int .i64 q2])
        have HRf := Lib.hid ((HRa.out.apart HNG.out.2.1 4 [.int .i64 q1, .int .i64 q1]).apart HNG.out.2.1 6 [.int .i64 q2, .int .i64 q2])
        have HOf := Lib.hid ((HOa.out.apart HNG.out.2.2 4 [.int .i64 q1, .int .i64 q1]).apart HNG.out.2.2 6 [.int .i64 q2, .int .i64 q2])
        have HBf := Lib.hid (below_setCells (below_setCells HBa.out HGD.out [.int .i64 q1, .int .i64 q1] 4) HGD.out [.int .i64 q2, .int .i64 q2] 6)
        have HSf := Lib.hid (show ((w5.setCells gd 4 [.int .i64 q1, .int .i64 q1]).setCells gd 6 [.int .i64 q2, .int .i64 q2]).ownsRow w.heap.size 55 8 (.slice sa sn sc) k (flat deedCells es) from row_same HSa.out (fun g hg => (heap_setCells _ gd (HNS.out g hg) _ _).trans (heap_setCells _ gd (HNS.out g hg) _ _)))
        generalize (w5.setCells gd 4 [.int .i64 q1, .int .i64 q1]).setCells gd 6 [.int .i64 q2, .int .i64 q2] = w6 at HDf HYf HRf HOf HBf HSf ⊢
        clear HDa HDe HYa HRa HOa HBa HSa
        have o2 := HOf.out.at 2 (.slice sa sn sc) rfl
        have f0 := HDf.out.at 0 (.int .i64 kind) rfl
        have f1 := HDf.out.at 1 (.int .i64 dy) rfl
        have f2 := HDf.out.at 2 (.string code) rfl
        have f3 := HDf.out.at 3 (.string other) rfl
        have f4 := HDf.out.at 4 (.int .i64 q1) rfl
        have f5 := HDf.out.at 5 (.int .i64 q1) rfl
        have f6 := HDf.out.at 6 (.int .i64 q2) rfl
        have f7 := HDf.out.at 7 (.int .i64 q2) rfl
        obtain ⟨i1, hi1, hi1a, hi1b, hi1c⟩ := info_parts info_deedz
        have HI1 := Lib.hid hi1; have HI1a := Lib.hid hi1a; have HI1b := Lib.hid hi1b; have HI1c := Lib.hid hi1c
        have HA1 := Lib.hid (show k + 1 ≤ maxLen ∧ (k + 1) * 80 ≤ 140737488355328 by unfold maxLen; omega)
        have HSg := Lib.hid (HSf.out.alloc (.cells #[.int .i64 kind, .int .i64 dy, .string code, .string other, .int .i64 q1, .int .i64 q1, .int .i64 q2, .int .i64 q2] 55))
        clear hi1 hi1a hi1b hi1c
        go_wp2_with (at_builtin; refine wpList_append_lies _ rfl (.tmp 66) (.tmp 68) 22 rfl w.heap.size 55 i1 (.agg #[.int .i64 0, .int .i64 0, .string ⟨#[]⟩, .string ⟨#[]⟩, .int .i64 0, .int .i64 0, .int .i64 0, .int .i64 0]) 8 80 Try.underlying22 HI1.out HI1a.out HI1b.out HI1c.out rfl (by decide) (.slice sa sn sc) k (flat deedCells es) rfl HSg.out ⟨w6.heap.size, 0, none⟩ 1 1 [.int .i64 kind, .int .i64 dy, .string code, .string other, .int .i64 q1, .int .i64 q1, .int .i64 q2, .int .i64 q2] rfl rfl (World.news_of_block (heap_alloc_new w6 _)) (by simp [Value.oneCell']) (by decide) HA1.out.1 HA1.out.2 (by have := HBf.out.size; first | exact this | (rw [World.size_alloc]; omega) | omega) (w6.heap.size + 1) (World.size_alloc _ _) ?_; intro g cap w7 hown7 hg7 hat7 hlt7; have HOW := Lib.hid hown7; have HY7 := Lib.hid ((HYf.out.alloc (.cells #[.int .i64 kind, .int .i64 dy, .string code, .string other, .int .i64 q1, .int .i64 q1, .int .i64 q2, .int .i64 q2] 55)).grown hg7 ((HYf.out.alloc (.cells #[.int .i64 kind, .int .i64 dy, .string code, .string other, .int .i64 q1, .int .i64 q1, .int .i64 q2, .int .i64 q2] 55)).notRow HSg.out (by decide))); have HR7 := Lib.hid ((HRf.out.alloc (.cells #[.int .i64 kind, .int .i64 dy, .string code, .string other, .int .i64 q1, .int .i64 q1, .int .i64 q2, .int .i64 q2] 55)).grown hg7 ((HRf.out.alloc (.cells #[.int .i64 kind, .int .i64 dy, .string code, .string other, .int .i64 q1, .int .i64 q1, .int .i64 q2, .int .i64 q2] 55)).notRow HSg.out (by decide))); have HO7 := Lib.hid ((HOf.out.alloc (.cells #[.int .i64 kind, .int .i64 dy, .string code, .string other, .int .i64 q1, .int .i64 q1, .int .i64 q2, .int .i64 q2] 55)).grown hg7 ((HOf.out.alloc (.cells #[.int .i64 kind, .int .i64 dy, .string code, .string other, .int .i64 q1, .int .i64 q1, .int .i64 q2, .int .i64 q2] 55)).notRow HSg.out (by decide))); have HB7 := Lib.hid ((HBf.out.alloc HBf.out.size (.cells #[.int .i64 kind, .int .i64 dy, .string code, .string other, .int .i64 q1, .int .i64 q1, .int .i64 q2, .int .i64 q2] 55)).grown hg7 (by rw [World.size_alloc]; have := HBf.out.size; omega) (fun r hr => (HSg.out.lt r hr).1)); clear hown7 hg7 hat7 hlt7 o2 f0 f1 f2 f3 f4 f5 f6 f7; have o2 := HO7.out.at 2 (.slice sa sn sc) rfl; have of2 := HO7.out.frozen 2)
        go_roundw
        case rel =>
          refine ⟨k + 1, es ++ [⟨kind, dy, code, other, ⟨q1, q1⟩, ⟨q2, q2⟩⟩], .slice (some ⟨g, 0, none⟩) (k + 1) cap, by omega, by go_num, Lib.hid (by simp [HL.out]), Lib.hid ?_, Lib.hid ?_, Lib.hid ?_, Lib.hid (show Blk (w7.setCell ⟨g2 + 1 + 1, 2, none⟩ (.slice (some ⟨g, 0, none⟩) (k + 1) cap)) g2 24 #[.int .i64 bef, .int .i64 aft, .slice (some ⟨b, off, none⟩) n c] from HY7.out.apart (show g2 ≠ g2 + 1 + 1 from by omega) 2 [.slice (some ⟨g, 0, none⟩) (k + 1) cap]), Lib.hid (show Blk (w7.setCell ⟨g2 + 1 + 1, 2, none⟩ (.slice (some ⟨g, 0, none⟩) (k + 1) cap)) (g2 + 1) 24 #[.int .i64 0, .int .i64 0, .slice none 0 0] from HR7.out.apart (show g2 + 1 ≠ g2 + 1 + 1 from by omega) 2 [.slice (some ⟨g, 0, none⟩) (k + 1) cap]), Lib.hid (show Blk (w7.setCell ⟨g2 + 1 + 1, 2, none⟩ (.slice (some ⟨g, 0, none⟩) (k + 1) cap)) (g2 + 1 + 1) 24 #[.int .i64 bef, .int .i64 aft, .slice (some ⟨g, 0, none⟩) (k + 1) cap] from HO7.out.set_ 2 (.slice (some ⟨g, 0, none⟩) (k + 1) cap)), Lib.hid (HB7.out.setCell (p := ⟨g2 + 1 + 1, 2, none⟩) (by have := HG2.out; simp only; omega) (.slice (some ⟨g, 0, none⟩) (k + 1) cap))⟩
          · rw [take_more hlt', HD.out]
            exact HA.out.append (.one ⟨rfl, rfl, rfl, rfl, ⟨hQ1.1, Int.le_refl _, hQ1.2⟩, ⟨hQ2.1, Int.le_refl _, hQ2.2⟩⟩)
          · intro d hd
            rcases List.mem_append.1 hd with h1 | h1
            · exact HE1.out d h1
            · rw [List.mem_singleton.1 h1]; exact ⟨rfl, rfl⟩
          · rw [flat_append, flat_cons, flat_nil, List.append_nil]
            exact row_setCell HOW.out HO7.out (by decide) 2 (.slice (some ⟨g, 0, none⟩) (k + 1) cap)
        case measure => simp [intOf]; omega
    · have hkn : k = n := by omega
      subst hkn
      have o0 := HO.out.at 0 (.int .i64 bef) rfl
      have o1 := HO.out.at 1 (.int .i64 aft) rfl
      have o2 := HO.out.at 2 (.slice sa sn sc) rfl
      go_wp2_with ((with_reducible refine at_store 24 (.tmp 4) (.tmp 71) ?_); go_must (refine wpList_store_mid rfl 24 (.tmp 4) (.tmp 71) rfl (g2 + 1) 0 #[.int .i64 bef, .int .i64 aft, .slice sa sn sc] rfl rfl (HR.out.there (o := 0) (n := 3) (Nat.le_of_ble_eq_true rfl)) size_yard (show (#[.int .i64 bef, .int .i64 aft, .slice sa sn sc] : Array Value).all (·.oneCell') = true from by simp [Value.oneCell']) ?_))
      have hk2 := HR.out.stored (old := [.int .i64 0, .int .i64 0, .slice none 0 0]) [.int .i64 bef, .int .i64 aft, .slice sa sn sc] rfl
      refine bodyPost_ret (results_cell_row rfl _ _ (g2 + 1) 24 _ (0, 0) _ rfl hk2 Try.underlying24 rfl size_yard) rfl ⟨.slice sa sn sc, es, rfl, below_setCells HB.out (by have := HG2.out; omega) _ 0, by have := HA.out; rwa [List.take_of_length_le (by rw [← HN.out]; exact Nat.le_refl _)] at this, HE1.out, ?_⟩
      refine held_of_row (base := w.heap.size) (row_same HRW.out (fun g hg => heap_setCells wr (g2 + 1) (fun e => ?_) _ _)) HL.out h12
      exact HR.out.notRow HRW.out (by decide) (by rw [hg, e])
end Go.Proofs.Ytmcmhgpmefelfaa
