/- YardNarrow: the law's walk. -/
import Derived.Test.YtmcmhgpmefelfaaYRowed
import Derived.Test.YtmcmhgpmefelfaaYOpen
namespace Go.Proofs.Ytmcmhgpmefelfaa
open Go Go.RowKit Go.Shelf Yd
theorem size_account : (Try.prog.info? 34).map (·.size) = some 12 := by kernel_rfl

set_option maxRecDepth 100000 in
set_option maxHeartbeats 8000000 in
/-- A yard that the statements pass over, or that has an error. -/
theorem narrow_stands (bef aft : Int) (v : Value) (ds : List (Deed Code)) (pa : Option Addr) (pn pc : Nat) (w : World) (h : Held w.heap.size w 8 deedCells v ds) (hno : greatB ds = true ∨ errYard bef aft ds ≠ 0) :
    Calls Try.prog 7 #[.agg #[.int .i64 bef, .int .i64 aft, v], .slice pa pn pc] w (LawDone w) := by
  obtain ⟨a, c, hv, _, _⟩ := h.slice
  have HGR := Lib.hid (fun (W : World) (hW : Below w.heap.size w W) => great_calls bef aft v ds W ((h.below hW).mono hW.size))
  have HCK := Lib.hid (fun (W : World) (hW : Below w.heap.size w W) => refYard_calls bef aft v ds W ((h.below hW).mono hW.size))
  subst hv
  obtain ⟨n, hnn⟩ : ∃ n, n = ds.length := ⟨_, rfl⟩
  rw [← hnn] at HGR HCK ⊢
  have HW0 := Lib.hid ((Below.refl w.heap.size w).alloc (Nat.le_refl _) (.cells #[.int .i64 bef, .int .i64 aft, .slice a n c] 24))
  have HY0 := Lib.hid (Blk.new w 24 #[.int .i64 bef, .int .i64 aft, .slice a n c])
  clear h hnn
  cases hg : greatB ds with
  | true =>
    have HG := Lib.hid hg
    clear hg hno
    go_enter Try.func7, Try.ntmps7
    go_wp2_with (first
      | (go_at_call 13; refine (HGR.out _ HW0.out).mono ?_; rintro e w1 ⟨rfl, hb1⟩; rw [HG.out]; have HW1 := Lib.hid (HW0.out.trans (hb1.mono HW0.out.size)); have HY1 := Lib.hid (HY0.out.below hb1); clear hb1)
      | (go_at_call 15; refine (stands_calls _).mono ?_; rintro e w2 ⟨rfl, hb2⟩; have HW2 := Lib.hid (HW1.out.trans (hb2.mono HW1.out.size)); clear hb2))
    go_ret
    exact lawDone HW2.out
  | false =>
    have HG := Lib.hid hg
    have hno : errYard bef aft ds ≠ 0 := hno.resolve_left (by rw [hg]; simp)
    have d1 : (errYard bef aft ds == 0) = false := by simpa using hno
    have d2 : (errYard bef aft ds != 0) = true := by simpa using hno
    clear hg hno
    generalize errYard bef aft ds = ey at HCK d1 d2
    go_enter Try.func7, Try.ntmps7
    go_wp2_with (first
      | (go_at_call 13; refine (HGR.out _ HW0.out).mono ?_; rintro e w1 ⟨rfl, hb1⟩; rw [HG.out]; have HW1 := Lib.hid (HW0.out.trans (hb1.mono HW0.out.size)); have HY1 := Lib.hid (HY0.out.below hb1); have y0 := HY1.out.at 0 _ rfl; have y1 := HY1.out.at 1 _ rfl; have y2 := HY1.out.at 2 _ rfl; clear hb1)
      | (go_at_call 14; refine (HCK.out _ HW1.out).mono ?_; rintro e w2 ⟨rfl, hb2⟩; have HW2 := Lib.hid (HW1.out.trans (hb2.mono HW1.out.size)); clear hb2)
      | (go_at_call 15; refine (stands_calls _).mono ?_; rintro e w3 ⟨rfl, hb3⟩; have HW3 := Lib.hid (HW2.out.trans (hb3.mono HW2.out.size)); clear hb3))
    go_ret
    exact lawDone HW3.out

set_option maxRecDepth 100000 in
set_option maxHeartbeats 16000000 in
theorem narrow_real (bef aft : Int) (v : Value) (ds : List (Deed Code)) (pv : Value) (xs : List Int) (w : World) (h : Held w.heap.size w 8 deedCells v ds) (hsz : ∀ d ∈ ds, d.stack.size ≤ maxLen ∧ d.other.size ≤ maxLen) (hg : greatB ds = false) (hok : errYard bef aft ds = 0)
    (hpv : Held w.heap.size w 1 pickCells pv xs) (hxs : ∀ x ∈ xs, 0 ≤ x ∧ x ≤ 65535) :
    Calls Try.prog 7 #[.agg #[.int .i64 bef, .int .i64 aft, v], pv] w (LawDone w) := by
  have h12 := great_few hg hok
  obtain ⟨a, c, hv, _, hcs⟩ := h.slice
  have HCS := Lib.hid hcs
  have HGR := Lib.hid (fun (W : World) (hW : Below w.heap.size w W) => great_calls bef aft v ds W ((h.below hW).mono hW.size))
  have HCK := Lib.hid (fun (W : World) (hW : Below w.heap.size w W) => refYard_calls bef aft v ds W ((h.below hW).mono hW.size))
  have HFO := Lib.hid (fun (k0 : Nat) (hk : k0 ≤ ds.length) (W : World) (hW : Below w.heap.size w W) => follow_calls bef aft v ds k0 W ((h.below hW).mono hW.size) hok hsz hk (Nat.le_trans hk h12))
  obtain ⟨pa, pc, hpv2, hpm, hpcs⟩ := hpv.slice
  have HPC := Lib.hid hpcs
  subst hv hpv2
  obtain ⟨m, hpn⟩ : ∃ m, m = xs.length := ⟨_, rfl⟩
  have HM := Lib.hid hpn
  rw [← hpn] at hpm ⊢
  obtain ⟨n, hnn⟩ : ∃ n, n = ds.length := ⟨_, rfl⟩
  have HN := Lib.hid hnn
  rw [← hnn] at HGR HCK HFO h12 ⊢
  have HG := Lib.hid hg; have HOK := Lib.hid hok; have HSZ := Lib.hid hsz; have HXS := Lib.hid hxs
  have HFITS := Lib.hid (show ∀ d ∈ ds, Fits d from errDeeds_all (errYard_ok hok).2.2.2)
  clear h hsz hnn hg hok hcs hpv hpcs hxs hpn
  have HL0 := Lib.hid (show Locs w (w.alloc (.cells #[.int .i64 bef, .int .i64 aft, .slice a n c] 24)) [(w.heap.size, 24, [.int .i64 bef, .int .i64 aft, .slice a n c])] [] from (Locs.start w).alloc 24 [.int .i64 bef, .int .i64 aft, .slice a n c] rfl)
  go_enter Try.func7, Try.ntmps7
  go_upto_region 3 with (first
    | (go_at_call 13; refine (HGR.out _ HL0.out.low).mono ?_; rintro e w1 ⟨rfl, hb1⟩; rw [HG.out]; have HL1 := Lib.hid (HL0.out.below hb1); have y0 := HL1.out.at 0 0 (v := .int .i64 bef) rfl rfl; have y1 := HL1.out.at 0 1 (v := .int .i64 aft) rfl rfl; have y2 := HL1.out.at 0 2 (v := .slice a n c) rfl rfl; clear hb1)
    | (go_at_call 14; refine (HCK.out _ HL1.out.low).mono ?_; rintro e w2 ⟨rfl, hb2⟩; rw [HOK.out]; have HL2 := Lib.hid (HL1.out.below hb2); clear hb2 y0 y1 y2))
  clear HL0 HL1 HGR HCK
  generalize w.heap.size = gy at HL2 ⊢
  have y0 := (show w2.cell? ⟨gy, 0, none⟩ = some (.int .i64 bef) from HL2.out.at 0 0 (v := .int .i64 bef) rfl rfl)
  have y1 := (show w2.cell? ⟨gy, 1, none⟩ = some (.int .i64 aft) from HL2.out.at 0 1 (v := .int .i64 aft) rfl rfl)
  have y2 := (show w2.cell? ⟨gy, 2, none⟩ = some (.slice a n c) from HL2.out.at 0 2 (v := .slice a n c) rfl rfl)
  go_upto_region 4 with (((with_reducible refine at_store 24 (.tmp 5) (.tmp 34) ?_); go_must (refine wpList_store_mid rfl 24 (.tmp 5) (.tmp 34) rfl w2.heap.size 0 #[.int .i64 bef, .int .i64 aft, .slice a n c] rfl rfl ((Blk.new w2 24 #[.int .i64 0, .int .i64 0, .slice none 0 0]).there (o := 0) (n := 3) (Nat.le_of_ble_eq_true rfl)) size_yard (yard_ones _ _ _ _ _) ?_)))
  clear y0 y1 y2
  have HL3 := Lib.hid (show Locs w ((w2.alloc (.cells #[.int .i64 0, .int .i64 0, .slice none 0 0] 24)).setCells w2.heap.size 0 [.int .i64 bef, .int .i64 aft, .slice a n c]) [(gy, 24, [.int .i64 bef, .int .i64 aft, .slice a n c]), (w2.heap.size, 24, [.int .i64 bef, .int .i64 aft, .slice a n c])] [] from (HL2.out.alloc 24 [.int .i64 0, .int .i64 0, .slice none 0 0] rfl).setLoc 1 [] [.int .i64 0, .int .i64 0, .slice none 0 0] [] [.int .i64 bef, .int .i64 aft, .slice a n c] rfl rfl)
  clear HL2
  generalize ((w2.alloc (.cells #[.int .i64 0, .int .i64 0, .slice none 0 0] 24)).setCells w2.heap.size 0 [.int .i64 bef, .int .i64 aft, .slice a n c]) = v1 at HL3 ⊢
  generalize w2.heap.size = go at HL3 ⊢
  try simp only [Act.put]
  have hc9 : v1.cell? ⟨go, 2, none⟩ = some (.slice a n c) := HL3.out.at 1 2 (v := .slice a n c) rfl rfl
  have hf9 := HL3.out.frozen 1 rfl 2
  go_upto_region 5 with fail
  clear hc9 hf9
  have HL4 := Lib.hid (show Locs w (v1.setCell ⟨go, 2, none⟩ (.slice none 0 0)) [(gy, 24, [.int .i64 bef, .int .i64 aft, .slice a n c]), (go, 24, [.int .i64 bef, .int .i64 aft, .slice none 0 0])] [] from HL3.out.setLoc1 1 [.int .i64 bef, .int .i64 aft] [] (.slice a n c) (.slice none 0 0) 2 rfl rfl)
  clear HL3
  generalize (v1.setCell ⟨go, 2, none⟩ (.slice none 0 0)) = v2 at HL4 ⊢
  have y0 := (show v2.cell? ⟨gy, 2, none⟩ = some (.slice a n c) from HL4.out.at 0 2 (v := .slice a n c) rfl rfl)
  go_wp2
  clear y0
  have HR0 := Lib.hid (Rowed.nil w v2 ([(gy, 24, [.int .i64 bef, .int .i64 aft, .slice a n c]), (go, 24, [.int .i64 bef, .int .i64 aft, .slice none 0 0])] : List (Nat × TypeId × List Value)) 55 8)
  go_loopw [6] (fun iv wr => ∃ (k : Nat) (es : List (Deed Code)) (sv : Value), k ≤ n ∧ iv = .int .i64 k ∧ Hid (es.length = k) ∧ Hid (Yd.All2 Slim es (ds.take k)) ∧ Hid (Rowed w wr ([(gy, 24, [.int .i64 bef, .int .i64 aft, .slice a n c]), (go, 24, [.int .i64 bef, .int .i64 aft, sv])] : List (Nat × TypeId × List Value)) 55 8 (sv) (k) (flat deedCells es)) ∧ Hid (Locs w wr [(gy, 24, [.int .i64 bef, .int .i64 aft, .slice a n c]), (go, 24, [.int .i64 bef, .int .i64 aft, sv])] [])) (fun iv _ => n - (intOf iv).toNat)
  case atStart => exact ⟨0, [], .slice none 0 0, Nat.zero_le _, rfl, Lib.hid rfl, Lib.hid .nil, HR0, HL4⟩
  case round =>
    clear HL4 HR0
    obtain ⟨k, es, sv, hk, rfl, HEL, HSL, HR, HL5⟩ := hrel
    obtain ⟨sa, sn, sc, rfl⟩ := row_slice HR.out.own
    have o0 := (show wr.cell? ⟨gy, 2, none⟩ = some (.slice a n c) from HL5.out.at 0 2 (v := .slice a n c) rfl rfl)
    by_cases hlt : k < n
    · have hlt' : k < ds.length := by rw [← HN.out]; exact hlt
      obtain ⟨b, off, rfl, hbl, ⟨hnc, hcm⟩, hcells⟩ := HCS.out (by omega)
      have HBL := Lib.hid hbl
      have hltI : (k : Int) < (n : Int) := by omega
      obtain ⟨⟨kind, dy, code, other, ⟨al, ah⟩, ⟨bl, bh⟩⟩, hd⟩ : ∃ d, d = ds[k]! := ⟨_, rfl⟩
      have hd := hd.symm
      have hft := HFITS.out _ (get_in hlt')
      rw [hd] at hft
      have HFT := Lib.hid hft
      have hFa : 0 ≤ al ∧ al ≤ ah ∧ ah ≤ 100000000 := ⟨hft.fine.a.1, hft.fine.a.2, hft.a8⟩
      have hFb : 0 ≤ bl ∧ bl ≤ bh ∧ bh ≤ 100000000 := ⟨hft.fine.b.1, hft.fine.b.2, hft.b8⟩
      have c0 := (show wr.cell? ⟨b, off + k * 8, none⟩ = some (.int .i64 kind) from (HL5.out.low.cell (p := ⟨b, off + k * 8 + 0, none⟩) hbl).trans (hcells k hlt' 0 _ (by rw [hd]; rfl)))
      have c1 := (show wr.cell? ⟨b, off + k * 8 + 1, none⟩ = some (.int .i64 dy) from (HL5.out.low.cell (p := ⟨b, off + k * 8 + 1, none⟩) hbl).trans (hcells k hlt' 1 _ (by rw [hd]; rfl)))
      have c2 := (show wr.cell? ⟨b, off + k * 8 + 2, none⟩ = some (.string code) from (HL5.out.low.cell (p := ⟨b, off + k * 8 + 2, none⟩) hbl).trans (hcells k hlt' 2 _ (by rw [hd]; rfl)))
      have c3 := (show wr.cell? ⟨b, off + k * 8 + 3, none⟩ = some (.string other) from (HL5.out.low.cell (p := ⟨b, off + k * 8 + 3, none⟩) hbl).trans (hcells k hlt' 3 _ (by rw [hd]; rfl)))
      have c4 := (show wr.cell? ⟨b, off + k * 8 + 4, none⟩ = some (.int .i64 al) from (HL5.out.low.cell (p := ⟨b, off + k * 8 + 4, none⟩) hbl).trans (hcells k hlt' 4 _ (by rw [hd]; rfl)))
      have c5 := (show wr.cell? ⟨b, off + k * 8 + 5, none⟩ = some (.int .i64 ah) from (HL5.out.low.cell (p := ⟨b, off + k * 8 + 5, none⟩) hbl).trans (hcells k hlt' 5 _ (by rw [hd]; rfl)))
      have c6 := (show wr.cell? ⟨b, off + k * 8 + 6, none⟩ = some (.int .i64 bl) from (HL5.out.low.cell (p := ⟨b, off + k * 8 + 6, none⟩) hbl).trans (hcells k hlt' 6 _ (by rw [hd]; rfl)))
      have c7 := (show wr.cell? ⟨b, off + k * 8 + 7, none⟩ = some (.int .i64 bh) from (HL5.out.low.cell (p := ⟨b, off + k * 8 + 7, none⟩) hbl).trans (hcells k hlt' 7 _ (by rw [hd]; rfl)))
      have HD := Lib.hid hd
      have HOd := Lib.hid (show (#[.int .i64 kind, .int .i64 dy, .string code, .string other, .int .i64 al, .int .i64 ah, .int .i64 bl, .int .i64 bh] : Array Value).all (·.oneCell') = true from by simp [Value.oneCell'])
      clear hd hcells hft
      go_upto_region 9 with (((with_reducible refine at_store 55 (.tmp 7) (.tmp 47) ?_); go_must (refine wpList_store_mid rfl 55 (.tmp 7) (.tmp 47) rfl wr.heap.size 0 #[.int .i64 kind, .int .i64 dy, .string code, .string other, .int .i64 al, .int .i64 ah, .int .i64 bl, .int .i64 bh] rfl rfl ((Blk.new wr 55 #[.int .i64 0, .int .i64 0, .string ⟨#[]⟩, .string ⟨#[]⟩, .int .i64 0, .int .i64 0, .int .i64 0, .int .i64 0]).there (o := 0) (n := 8) (Nat.le_of_ble_eq_true rfl)) size_deed8 (HOd.out) ?_)))
      clear o0 c0 c1 c2 c3 c4 c5 c6 c7
      have HR1 := Lib.hid (show Rowed w ((wr.alloc (.cells #[.int .i64 0, .int .i64 0, .string ⟨#[]⟩, .string ⟨#[]⟩, .int .i64 0, .int .i64 0, .int .i64 0, .int .i64 0] 55)).setCells wr.heap.size 0 [.int .i64 kind, .int .i64 dy, .string code, .string other, .int .i64 al, .int .i64 ah, .int .i64 bl, .int .i64 bh]) ([(gy, 24, [.int .i64 bef, .int .i64 aft, .slice (some ⟨b, off, none⟩) n c]), (go, 24, [.int .i64 bef, .int .i64 aft, .slice sa sn sc]), (wr.heap.size, 55, [.int .i64 kind, .int .i64 dy, .string code, .string other, .int .i64 al, .int .i64 ah, .int .i64 bl, .int .i64 bh])] : List (Nat × TypeId × List Value)) 55 8 (.slice sa sn sc) (k) (flat deedCells es) from (HR.out.alloc 55 [.int .i64 0, .int .i64 0, .string ⟨#[]⟩, .string ⟨#[]⟩, .int .i64 0, .int .i64 0, .int .i64 0, .int .i64 0] rfl).setLoc 2 rfl 0 [.int .i64 kind, .int .i64 dy, .string code, .string other, .int .i64 al, .int .i64 ah, .int .i64 bl, .int .i64 bh])
      clear HR
      have HL6 := Lib.hid (show Locs w ((wr.alloc (.cells #[.int .i64 0, .int .i64 0, .string ⟨#[]⟩, .string ⟨#[]⟩, .int .i64 0, .int .i64 0, .int .i64 0, .int .i64 0] 55)).setCells wr.heap.size 0 [.int .i64 kind, .int .i64 dy, .string code, .string other, .int .i64 al, .int .i64 ah, .int .i64 bl, .int .i64 bh]) [(gy, 24, [.int .i64 bef, .int .i64 aft, .slice (some ⟨b, off, none⟩) n c]), (go, 24, [.int .i64 bef, .int .i64 aft, .slice sa sn sc]), (wr.heap.size, 55, [.int .i64 kind, .int .i64 dy, .string code, .string other, .int .i64 al, .int .i64 ah, .int .i64 bl, .int .i64 bh])] [] from (HL5.out.alloc 55 [.int .i64 0, .int .i64 0, .string ⟨#[]⟩, .string ⟨#[]⟩, .int .i64 0, .int .i64 0, .int .i64 0, .int .i64 0] rfl).setLoc 2 [] [.int .i64 0, .int .i64 0, .string ⟨#[]⟩, .string ⟨#[]⟩, .int .i64 0, .int .i64 0, .int .i64 0, .int .i64 0] [] [.int .i64 kind, .int .i64 dy, .string code, .string other, .int .i64 al, .int .i64 ah, .int .i64 bl, .int .i64 bh] rfl rfl)
      clear HL5
      generalize ((wr.alloc (.cells #[.int .i64 0, .int .i64 0, .string ⟨#[]⟩, .string ⟨#[]⟩, .int .i64 0, .int .i64 0, .int .i64 0, .int .i64 0] 55)).setCells wr.heap.size 0 [.int .i64 kind, .int .i64 dy, .string code, .string other, .int .i64 al, .int .i64 ah, .int .i64 bl, .int .i64 bh]) = v3 at HL6 HR1 ⊢
      generalize wr.heap.size = gd at HL6 HR1 ⊢
      try simp only [Act.put]
      by_cases hpk : 4 * k + 3 < m
      · have hpkI : 4 * (k : Int) + 3 < (m : Int) := by omega
        obtain ⟨b', off', rfl, hb', _, hpc⟩ := HPC.out (by rw [← HM.out]; omega)
        obtain ⟨p0, hpe0⟩ : ∃ p, p = xs[4 * k]! := ⟨_, rfl⟩
        have hp0 : 0 ≤ p0 ∧ p0 ≤ 65535 := by rw [hpe0]; exact HXS.out _ (get_in (by rw [← HM.out]; omega))
        have q0 := cell_regrown (show v3.cell? ⟨b', off' + 4 * k, none⟩ = some (.int .u16 p0) from (HL6.out.low.cell (p := ⟨b', off' + 4 * k, none⟩) hb').trans (by have := hpc (4 * k) (by rw [← HM.out]; omega) 0 (.int .u16 p0) (by rw [← hpe0]; rfl); simpa using this))
        obtain ⟨p1, hpe1⟩ : ∃ p, p = xs[4 * k + 1]! := ⟨_, rfl⟩
        have hp1 : 0 ≤ p1 ∧ p1 ≤ 65535 := by rw [hpe1]; exact HXS.out _ (get_in (by rw [← HM.out]; omega))
        have q1 := cell_regrown (show v3.cell? ⟨b', off' + (4 * k + 1), none⟩ = some (.int .u16 p1) from (HL6.out.low.cell (p := ⟨b', off' + (4 * k + 1), none⟩) hb').trans (by have := hpc (4 * k + 1) (by rw [← HM.out]; omega) 0 (.int .u16 p1) (by rw [← hpe1]; rfl); simpa using this))
        obtain ⟨p2, hpe2⟩ : ∃ p, p = xs[4 * k + 2]! := ⟨_, rfl⟩
        have hp2 : 0 ≤ p2 ∧ p2 ≤ 65535 := by rw [hpe2]; exact HXS.out _ (get_in (by rw [← HM.out]; omega))
        have q2 := cell_regrown (show v3.cell? ⟨b', off' + (4 * k + 2), none⟩ = some (.int .u16 p2) from (HL6.out.low.cell (p := ⟨b', off' + (4 * k + 2), none⟩) hb').trans (by have := hpc (4 * k + 2) (by rw [← HM.out]; omega) 0 (.int .u16 p2) (by rw [← hpe2]; rfl); simpa using this))
        obtain ⟨p3, hpe3⟩ : ∃ p, p = xs[4 * k + 3]! := ⟨_, rfl⟩
        have hp3 : 0 ≤ p3 ∧ p3 ≤ 65535 := by rw [hpe3]; exact HXS.out _ (get_in (by rw [← HM.out]; omega))
        have q3 := cell_regrown (show v3.cell? ⟨b', off' + (4 * k + 3), none⟩ = some (.int .u16 p3) from (HL6.out.low.cell (p := ⟨b', off' + (4 * k + 3), none⟩) hb').trans (by have := hpc (4 * k + 3) (by rw [← HM.out]; omega) 0 (.int .u16 p3) (by rw [← hpe3]; rfl); simpa using this))
        have hi0 : (0 : Int) ≤ 4 * (k : Int) := by omega
        have hi1 : (0 : Int) ≤ 4 * (k : Int) + 1 := by omega
        have hi2 : (0 : Int) ≤ 4 * (k : Int) + 2 := by omega
        have hi3 : (0 : Int) ≤ 4 * (k : Int) + 3 := by omega
        have hj0 : 4 * (k : Int) < (m : Int) := by omega
        have hj1 : 4 * (k : Int) + 1 < (m : Int) := by omega
        have hj2 : 4 * (k : Int) + 2 < (m : Int) := by omega
        have en0 : (4 * (k : Int)).toNat = 4 * k := by omega
        have en1 : (4 * (k : Int) + 1).toNat = 4 * k + 1 := by omega
        have en2 : (4 * (k : Int) + 2).toNat = 4 * k + 2 := by omega
        have en3 : (4 * (k : Int) + 3).toNat = 4 * k + 3 := by omega
        clear hpc hpe0 hpe1 hpe2 hpe3
        obtain ⟨i0, i1, hI⟩ : ∃ i0 i1, innerOf al ah p0 p1 = ⟨i0, i1⟩ := ⟨_, _, rfl⟩
        obtain ⟨i2, i3, hJ⟩ : ∃ i2 i3, innerOf bl bh p2 p3 = ⟨i2, i3⟩ := ⟨_, _, rfl⟩
        have hQ1 := inner_in (b := p0) (c := p1) hFa.2.1
        have hQ2 := inner_in (b := p2) (c := p3) hFb.2.1
        rw [hI] at hQ1
        rw [hJ] at hQ2
        simp only at hQ1 hQ2
        have k1 := regrown_calls (W := v3) (fun W => by have := inner_calls al ah p0 p1 W hFa hp0 hp1; rw [hI] at this; exact this)
        have k2 := regrown_calls (W := v3) (fun W => by have := inner_calls bl bh p2 p3 W hFb hp2 hp3; rw [hJ] at this; exact this)
        clear hI hJ
        have t0 := cell_regrown (show v3.cell? ⟨gd, 4, none⟩ = some (.int .i64 al) from HL6.out.at 2 4 (v := .int .i64 al) rfl rfl)
        have t1 := cell_regrown (show v3.cell? ⟨gd, 5, none⟩ = some (.int .i64 ah) from HL6.out.at 2 5 (v := .int .i64 ah) rfl rfl)
        have t2 := cell_regrown (show v3.cell? ⟨gd, 6, none⟩ = some (.int .i64 bl) from HL6.out.at 2 6 (v := .int .i64 bl) rfl rfl)
        have t3 := cell_regrown (show v3.cell? ⟨gd, 7, none⟩ = some (.int .i64 bh) from HL6.out.at 2 7 (v := .int .i64 bh) rfl rfl)
        go_upto_region 10 with (fail)
        refine region_split_below 30 (by kernel_rfl) (by kernel_rfl) (by kernel_rfl) ?_
        simp only [List.take_succ_cons, List.take_zero, List.drop_succ_cons, List.drop_zero]
        repeat (go_big_quiet_step (first | (with_reducible exact k1 _ _) | (with_reducible exact k2 _ _)))
        refine wpQuiet_nil ?_
        intro wq hw'
        have hb8 : Below v3.heap.size v3 wq := by obtain ⟨⟨dq, osq⟩, hw''⟩ := hw'; rw [hw'']; exact below_regrown _ dq osq
        clear hw' q0 q1 q2 q3 t0 t1 t2 t3 k1 k2 hi0 hi1 hi2 hi3 hj0 hj1 hj2 en0 en1 en2 en3
        have HL7 := Lib.hid (HL6.out.below hb8)
        have HR2 := Lib.hid (HR1.out.below hb8)
        clear hb8 HL6 HR1
        generalize wq = v4 at HL7 HR2 ⊢
        have HR1 := HR2; clear HR2
        go_upto_region 11 with (first
          | ((with_reducible refine at_store 32 (.tmp 83) (.tmp 67) ?_); go_must (refine wpList_store_mid rfl 32 (.tmp 83) (.tmp 67) rfl gd 4 #[.int .i64 i0, .int .i64 i1] rfl rfl (HL7.out.there 2 (o := 4) (n := 2) rfl (Nat.le_of_ble_eq_true rfl)) size_bounds (by simp [Value.oneCell']) ?_); have HR2 := Lib.hid (show Rowed w (v4.setCells gd 4 [.int .i64 i0, .int .i64 i1]) ([(gy, 24, [.int .i64 bef, .int .i64 aft, .slice (some ⟨b, off, none⟩) n c]), (go, 24, [.int .i64 bef, .int .i64 aft, .slice sa sn sc]), (gd, 55, [.int .i64 kind, .int .i64 dy, .string code, .string other, .int .i64 i0, .int .i64 i1, .int .i64 bl, .int .i64 bh])] : List (Nat × TypeId × List Value)) 55 8 (.slice sa sn sc) (k) (flat deedCells es) from HR1.out.setLoc 2 rfl 4 [.int .i64 i0, .int .i64 i1]); have HL8 := Lib.hid (show Locs w (v4.setCells gd 4 [.int .i64 i0, .int .i64 i1]) [(gy, 24, [.int .i64 bef, .int .i64 aft, .slice (some ⟨b, off, none⟩) n c]), (go, 24, [.int .i64 bef, .int .i64 aft, .slice sa sn sc]), (gd, 55, [.int .i64 kind, .int .i64 dy, .string code, .string other, .int .i64 i0, .int .i64 i1, .int .i64 bl, .int .i64 bh])] [] from HL7.out.setLoc 2 [.int .i64 kind, .int .i64 dy, .string code, .string other] [.int .i64 al, .int .i64 ah] [.int .i64 bl, .int .i64 bh] [.int .i64 i0, .int .i64 i1] rfl rfl); clear HR1; have HR1 := HR2; clear HR2)
          | ((with_reducible refine at_store 32 (.tmp 84) (.tmp 82) ?_); go_must (refine wpList_store_mid rfl 32 (.tmp 84) (.tmp 82) rfl gd 6 #[.int .i64 i2, .int .i64 i3] rfl rfl (HL8.out.there 2 (o := 6) (n := 2) rfl (Nat.le_of_ble_eq_true rfl)) size_bounds (by simp [Value.oneCell']) ?_); have HR2 := Lib.hid (show Rowed w ((v4.setCells gd 4 [.int .i64 i0, .int .i64 i1]).setCells gd 6 [.int .i64 i2, .int .i64 i3]) ([(gy, 24, [.int .i64 bef, .int .i64 aft, .slice (some ⟨b, off, none⟩) n c]), (go, 24, [.int .i64 bef, .int .i64 aft, .slice sa sn sc]), (gd, 55, [.int .i64 kind, .int .i64 dy, .string code, .string other, .int .i64 i0, .int .i64 i1, .int .i64 i2, .int .i64 i3])] : List (Nat × TypeId × List Value)) 55 8 (.slice sa sn sc) (k) (flat deedCells es) from HR1.out.setLoc 2 rfl 6 [.int .i64 i2, .int .i64 i3]); have HL9 := Lib.hid (show Locs w ((v4.setCells gd 4 [.int .i64 i0, .int .i64 i1]).setCells gd 6 [.int .i64 i2, .int .i64 i3]) [(gy, 24, [.int .i64 bef, .int .i64 aft, .slice (some ⟨b, off, none⟩) n c]), (go, 24, [.int .i64 bef, .int .i64 aft, .slice sa sn sc]), (gd, 55, [.int .i64 kind, .int .i64 dy, .string code, .string other, .int .i64 i0, .int .i64 i1, .int .i64 i2, .int .i64 i3])] [] from HL8.out.setLoc 2 [.int .i64 kind, .int .i64 dy, .string code, .string other, .int .i64 i0, .int .i64 i1] [.int .i64 bl, .int .i64 bh] [] [.int .i64 i2, .int .i64 i3] rfl rfl); clear HR1; have HR1 := HR2; clear HR2))
        generalize ((v4.setCells gd 4 [.int .i64 i0, .int .i64 i1]).setCells gd 6 [.int .i64 i2, .int .i64 i3]) = v5 at HL9 HR1 ⊢
        try simp only [Act.put]
        obtain ⟨i1_, hi1, hi1a, hi1b, hi1c⟩ := info_parts info_deedz
        have HI1 := Lib.hid hi1; have HI1a := Lib.hid hi1a; have HI1b := Lib.hid hi1b; have HI1c := Lib.hid hi1c
        have HA1 := Lib.hid (show k + 1 ≤ maxLen ∧ (k + 1) * 80 ≤ 140737488355328 by unfold maxLen; omega)
        clear hi1 hi1a hi1b hi1c
        have f0 := (show v5.cell? ⟨gd, 0, none⟩ = some (.int .i64 kind) from HL9.out.at 2 0 (v := .int .i64 kind) rfl rfl)
        have f1 := (show v5.cell? ⟨gd, 1, none⟩ = some (.int .i64 dy) from HL9.out.at 2 1 (v := .int .i64 dy) rfl rfl)
        have f2 := (show v5.cell? ⟨gd, 2, none⟩ = some (.string code) from HL9.out.at 2 2 (v := .string code) rfl rfl)
        have f3 := (show v5.cell? ⟨gd, 3, none⟩ = some (.string other) from HL9.out.at 2 3 (v := .string other) rfl rfl)
        have f4 := (show v5.cell? ⟨gd, 4, none⟩ = some (.int .i64 i0) from HL9.out.at 2 4 (v := .int .i64 i0) rfl rfl)
        have f5 := (show v5.cell? ⟨gd, 5, none⟩ = some (.int .i64 i1) from HL9.out.at 2 5 (v := .int .i64 i1) rfl rfl)
        have f6 := (show v5.cell? ⟨gd, 6, none⟩ = some (.int .i64 i2) from HL9.out.at 2 6 (v := .int .i64 i2) rfl rfl)
        have f7 := (show v5.cell? ⟨gd, 7, none⟩ = some (.int .i64 i3) from HL9.out.at 2 7 (v := .int .i64 i3) rfl rfl)
        have f8 := (show v5.cell? ⟨go, 2, none⟩ = some (.slice sa sn sc) from HL9.out.at 1 2 (v := .slice sa sn sc) rfl rfl)
        have HRa := Lib.hid (show Rowed w (v5.alloc (.cells #[.int .i64 kind, .int .i64 dy, .string code, .string other, .int .i64 i0, .int .i64 i1, .int .i64 i2, .int .i64 i3] 55)) ([(gy, 24, [.int .i64 bef, .int .i64 aft, .slice (some ⟨b, off, none⟩) n c]), (go, 24, [.int .i64 bef, .int .i64 aft, .slice sa sn sc]), (gd, 55, [.int .i64 kind, .int .i64 dy, .string code, .string other, .int .i64 i0, .int .i64 i1, .int .i64 i2, .int .i64 i3]), (v5.heap.size, 55, [.int .i64 kind, .int .i64 dy, .string code, .string other, .int .i64 i0, .int .i64 i1, .int .i64 i2, .int .i64 i3])] : List (Nat × TypeId × List Value)) 55 8 (.slice sa sn sc) (k) (flat deedCells es) from HR1.out.alloc 55 [.int .i64 kind, .int .i64 dy, .string code, .string other, .int .i64 i0, .int .i64 i1, .int .i64 i2, .int .i64 i3] rfl)
        have HLa := Lib.hid (show Locs w (v5.alloc (.cells #[.int .i64 kind, .int .i64 dy, .string code, .string other, .int .i64 i0, .int .i64 i1, .int .i64 i2, .int .i64 i3] 55)) [(gy, 24, [.int .i64 bef, .int .i64 aft, .slice (some ⟨b, off, none⟩) n c]), (go, 24, [.int .i64 bef, .int .i64 aft, .slice sa sn sc]), (gd, 55, [.int .i64 kind, .int .i64 dy, .string code, .string other, .int .i64 i0, .int .i64 i1, .int .i64 i2, .int .i64 i3]), (v5.heap.size, 55, [.int .i64 kind, .int .i64 dy, .string code, .string other, .int .i64 i0, .int .i64 i1, .int .i64 i2, .int .i64 i3])] [] from HL9.out.alloc 55 [.int .i64 kind, .int .i64 dy, .string code, .string other, .int .i64 i0, .int .i64 i1, .int .i64 i2, .int .i64 i3] rfl)
        clear HR1 HL9
        go_wp2_with (at_builtin; refine wpList_append_lies _ rfl (.tmp 86) (.tmp 88) 22 rfl w.heap.size 55 i1_ (.agg #[.int .i64 0, .int .i64 0, .string ⟨#[]⟩, .string ⟨#[]⟩, .int .i64 0, .int .i64 0, .int .i64 0, .int .i64 0]) 8 80 Try.underlying22 HI1.out HI1a.out HI1b.out HI1c.out rfl (by decide) (.slice sa sn sc) k (flat deedCells es) rfl HRa.out.own ⟨v5.heap.size, 0, none⟩ 1 1 [.int .i64 kind, .int .i64 dy, .string code, .string other, .int .i64 i0, .int .i64 i1, .int .i64 i2, .int .i64 i3] rfl rfl (World.news_of_block (heap_alloc_new v5 _)) (by simp [Value.oneCell']) (by decide) HA1.out.1 HA1.out.2 HLa.out.low.size (v5.heap.size + 1) (World.size_alloc _ _) ?_; intro g cap w7 hown7 hg7 hat7 hlt7; have HL7 := Lib.hid (HLa.out.appended HRa.out hg7); have HR7 := Lib.hid (Rowed.appended HLa.out HRa.out hown7 (by rw [World.size_alloc]; exact hat7)); clear hown7 hg7 hat7 hlt7 f0 f1 f2 f3 f4 f5 f6 f7 f8; have o2 := HL7.out.at 1 2 (v := .slice sa sn sc) rfl rfl; have of2 := HL7.out.frozen 1 rfl 2)
        go_roundw
        case rel =>
          have HL8 := Lib.hid (show Locs w (w7.setCell ⟨go, 2, none⟩ (.slice (some ⟨g, 0, none⟩) (k + 1) cap)) [(gy, 24, [.int .i64 bef, .int .i64 aft, .slice (some ⟨b, off, none⟩) n c]), (go, 24, [.int .i64 bef, .int .i64 aft, .slice (some ⟨g, 0, none⟩) (k + 1) cap]), (gd, 55, [.int .i64 kind, .int .i64 dy, .string code, .string other, .int .i64 i0, .int .i64 i1, .int .i64 i2, .int .i64 i3]), (v5.heap.size, 55, [.int .i64 kind, .int .i64 dy, .string code, .string other, .int .i64 i0, .int .i64 i1, .int .i64 i2, .int .i64 i3])] [] from HL7.out.setLoc1 1 [.int .i64 bef, .int .i64 aft] [] (.slice sa sn sc) (.slice (some ⟨g, 0, none⟩) (k + 1) cap) 2 rfl rfl)
          have HR8 := Lib.hid (show Rowed w (w7.setCell ⟨go, 2, none⟩ (.slice (some ⟨g, 0, none⟩) (k + 1) cap)) ([(gy, 24, [.int .i64 bef, .int .i64 aft, .slice (some ⟨b, off, none⟩) n c]), (go, 24, [.int .i64 bef, .int .i64 aft, .slice (some ⟨g, 0, none⟩) (k + 1) cap]), (gd, 55, [.int .i64 kind, .int .i64 dy, .string code, .string other, .int .i64 i0, .int .i64 i1, .int .i64 i2, .int .i64 i3]), (v5.heap.size, 55, [.int .i64 kind, .int .i64 dy, .string code, .string other, .int .i64 i0, .int .i64 i1, .int .i64 i2, .int .i64 i3])] : List (Nat × TypeId × List Value)) 55 8 (.slice (some ⟨g, 0, none⟩) (k + 1) cap) (k + 1) (flat deedCells es ++ [.int .i64 kind, .int .i64 dy, .string code, .string other, .int .i64 i0, .int .i64 i1, .int .i64 i2, .int .i64 i3]) from HR7.out.setLoc1 1 rfl 2 (.slice (some ⟨g, 0, none⟩) (k + 1) cap))
          refine ⟨k + 1, es ++ [⟨kind, dy, code, other, ⟨i0, i1⟩, ⟨i2, i3⟩⟩], .slice (some ⟨g, 0, none⟩) (k + 1) cap, by omega, by go_num, Lib.hid (by simp [HEL.out]), Lib.hid ?_, Lib.hid ?_, Lib.hid ?_⟩
          · rw [take_more hlt', HD.out]
            exact HSL.out.append (.one ⟨rfl, rfl, rfl, rfl, hQ1, hQ2⟩)
          · rw [flat_append, flat_cons, flat_nil, List.append_nil]
            exact HR8.out.fewer (List.sublist_append_left ([(gy, 24, [.int .i64 bef, .int .i64 aft, .slice (some ⟨b, off, none⟩) n c]), (go, 24, [.int .i64 bef, .int .i64 aft, .slice (some ⟨g, 0, none⟩) (k + 1) cap])] : List (Nat × TypeId × List Value)) ([(gd, 55, [.int .i64 kind, .int .i64 dy, .string code, .string other, .int .i64 i0, .int .i64 i1, .int .i64 i2, .int .i64 i3]), (v5.heap.size, 55, [.int .i64 kind, .int .i64 dy, .string code, .string other, .int .i64 i0, .int .i64 i1, .int .i64 i2, .int .i64 i3])] : List (Nat × TypeId × List Value)))
          · exact HL8.out.fewer (List.sublist_append_left ([(gy, 24, [.int .i64 bef, .int .i64 aft, .slice (some ⟨b, off, none⟩) n c]), (go, 24, [.int .i64 bef, .int .i64 aft, .slice (some ⟨g, 0, none⟩) (k + 1) cap])] : List (Nat × TypeId × List Value)) ([(gd, 55, [.int .i64 kind, .int .i64 dy, .string code, .string other, .int .i64 i0, .int .i64 i1, .int .i64 i2, .int .i64 i3]), (v5.heap.size, 55, [.int .i64 kind, .int .i64 dy, .string code, .string other, .int .i64 i0, .int .i64 i1, .int .i64 i2, .int .i64 i3])] : List (Nat × TypeId × List Value))) (List.Sublist.refl _)
        case measure => simp [intOf]; omega
      · have hpkI : (m : Int) ≤ 4 * (k : Int) + 3 := by omega
        obtain ⟨i1_, hi1, hi1a, hi1b, hi1c⟩ := info_parts info_deedz
        have HI1 := Lib.hid hi1; have HI1a := Lib.hid hi1a; have HI1b := Lib.hid hi1b; have HI1c := Lib.hid hi1c
        have HA1 := Lib.hid (show k + 1 ≤ maxLen ∧ (k + 1) * 80 ≤ 140737488355328 by unfold maxLen; omega)
        clear hi1 hi1a hi1b hi1c
        have f0 := (show v3.cell? ⟨gd, 0, none⟩ = some (.int .i64 kind) from HL6.out.at 2 0 (v := .int .i64 kind) rfl rfl)
        have f1 := (show v3.cell? ⟨gd, 1, none⟩ = some (.int .i64 dy) from HL6.out.at 2 1 (v := .int .i64 dy) rfl rfl)
        have f2 := (show v3.cell? ⟨gd, 2, none⟩ = some (.string code) from HL6.out.at 2 2 (v := .string code) rfl rfl)
        have f3 := (show v3.cell? ⟨gd, 3, none⟩ = some (.string other) from HL6.out.at 2 3 (v := .string other) rfl rfl)
        have f4 := (show v3.cell? ⟨gd, 4, none⟩ = some (.int .i64 al) from HL6.out.at 2 4 (v := .int .i64 al) rfl rfl)
        have f5 := (show v3.cell? ⟨gd, 5, none⟩ = some (.int .i64 ah) from HL6.out.at 2 5 (v := .int .i64 ah) rfl rfl)
        have f6 := (show v3.cell? ⟨gd, 6, none⟩ = some (.int .i64 bl) from HL6.out.at 2 6 (v := .int .i64 bl) rfl rfl)
        have f7 := (show v3.cell? ⟨gd, 7, none⟩ = some (.int .i64 bh) from HL6.out.at 2 7 (v := .int .i64 bh) rfl rfl)
        have f8 := (show v3.cell? ⟨go, 2, none⟩ = some (.slice sa sn sc) from HL6.out.at 1 2 (v := .slice sa sn sc) rfl rfl)
        have HRa := Lib.hid (show Rowed w (v3.alloc (.cells #[.int .i64 kind, .int .i64 dy, .string code, .string other, .int .i64 al, .int .i64 ah, .int .i64 bl, .int .i64 bh] 55)) ([(gy, 24, [.int .i64 bef, .int .i64 aft, .slice (some ⟨b, off, none⟩) n c]), (go, 24, [.int .i64 bef, .int .i64 aft, .slice sa sn sc]), (gd, 55, [.int .i64 kind, .int .i64 dy, .string code, .string other, .int .i64 al, .int .i64 ah, .int .i64 bl, .int .i64 bh]), (v3.heap.size, 55, [.int .i64 kind, .int .i64 dy, .string code, .string other, .int .i64 al, .int .i64 ah, .int .i64 bl, .int .i64 bh])] : List (Nat × TypeId × List Value)) 55 8 (.slice sa sn sc) (k) (flat deedCells es) from HR1.out.alloc 55 [.int .i64 kind, .int .i64 dy, .string code, .string other, .int .i64 al, .int .i64 ah, .int .i64 bl, .int .i64 bh] rfl)
        have HLa := Lib.hid (show Locs w (v3.alloc (.cells #[.int .i64 kind, .int .i64 dy, .string code, .string other, .int .i64 al, .int .i64 ah, .int .i64 bl, .int .i64 bh] 55)) [(gy, 24, [.int .i64 bef, .int .i64 aft, .slice (some ⟨b, off, none⟩) n c]), (go, 24, [.int .i64 bef, .int .i64 aft, .slice sa sn sc]), (gd, 55, [.int .i64 kind, .int .i64 dy, .string code, .string other, .int .i64 al, .int .i64 ah, .int .i64 bl, .int .i64 bh]), (v3.heap.size, 55, [.int .i64 kind, .int .i64 dy, .string code, .string other, .int .i64 al, .int .i64 ah, .int .i64 bl, .int .i64 bh])] [] from HL6.out.alloc 55 [.int .i64 kind, .int .i64 dy, .string code, .string other, .int .i64 al, .int .i64 ah, .int .i64 bl, .int .i64 bh] rfl)
        clear HR1 HL6
        go_wp2_with (at_builtin; refine wpList_append_lies _ rfl (.tmp 86) (.tmp 88) 22 rfl w.heap.size 55 i1_ (.agg #[.int .i64 0, .int .i64 0, .string ⟨#[]⟩, .string ⟨#[]⟩, .int .i64 0, .int .i64 0, .int .i64 0, .int .i64 0]) 8 80 Try.underlying22 HI1.out HI1a.out HI1b.out HI1c.out rfl (by decide) (.slice sa sn sc) k (flat deedCells es) rfl HRa.out.own ⟨v3.heap.size, 0, none⟩ 1 1 [.int .i64 kind, .int .i64 dy, .string code, .string other, .int .i64 al, .int .i64 ah, .int .i64 bl, .int .i64 bh] rfl rfl (World.news_of_block (heap_alloc_new v3 _)) (by simp [Value.oneCell']) (by decide) HA1.out.1 HA1.out.2 HLa.out.low.size (v3.heap.size + 1) (World.size_alloc _ _) ?_; intro g cap w7 hown7 hg7 hat7 hlt7; have HL7 := Lib.hid (HLa.out.appended HRa.out hg7); have HR7 := Lib.hid (Rowed.appended HLa.out HRa.out hown7 (by rw [World.size_alloc]; exact hat7)); clear hown7 hg7 hat7 hlt7 f0 f1 f2 f3 f4 f5 f6 f7 f8; have o2 := HL7.out.at 1 2 (v := .slice sa sn sc) rfl rfl; have of2 := HL7.out.frozen 1 rfl 2)
        go_roundw
        case rel =>
          have HL8 := Lib.hid (show Locs w (w7.setCell ⟨go, 2, none⟩ (.slice (some ⟨g, 0, none⟩) (k + 1) cap)) [(gy, 24, [.int .i64 bef, .int .i64 aft, .slice (some ⟨b, off, none⟩) n c]), (go, 24, [.int .i64 bef, .int .i64 aft, .slice (some ⟨g, 0, none⟩) (k + 1) cap]), (gd, 55, [.int .i64 kind, .int .i64 dy, .string code, .string other, .int .i64 al, .int .i64 ah, .int .i64 bl, .int .i64 bh]), (v3.heap.size, 55, [.int .i64 kind, .int .i64 dy, .string code, .string other, .int .i64 al, .int .i64 ah, .int .i64 bl, .int .i64 bh])] [] from HL7.out.setLoc1 1 [.int .i64 bef, .int .i64 aft] [] (.slice sa sn sc) (.slice (some ⟨g, 0, none⟩) (k + 1) cap) 2 rfl rfl)
          have HR8 := Lib.hid (show Rowed w (w7.setCell ⟨go, 2, none⟩ (.slice (some ⟨g, 0, none⟩) (k + 1) cap)) ([(gy, 24, [.int .i64 bef, .int .i64 aft, .slice (some ⟨b, off, none⟩) n c]), (go, 24, [.int .i64 bef, .int .i64 aft, .slice (some ⟨g, 0, none⟩) (k + 1) cap]), (gd, 55, [.int .i64 kind, .int .i64 dy, .string code, .string other, .int .i64 al, .int .i64 ah, .int .i64 bl, .int .i64 bh]), (v3.heap.size, 55, [.int .i64 kind, .int .i64 dy, .string code, .string other, .int .i64 al, .int .i64 ah, .int .i64 bl, .int .i64 bh])] : List (Nat × TypeId × List Value)) 55 8 (.slice (some ⟨g, 0, none⟩) (k + 1) cap) (k + 1) (flat deedCells es ++ [.int .i64 kind, .int .i64 dy, .string code, .string other, .int .i64 al, .int .i64 ah, .int .i64 bl, .int .i64 bh]) from HR7.out.setLoc1 1 rfl 2 (.slice (some ⟨g, 0, none⟩) (k + 1) cap))
          refine ⟨k + 1, es ++ [⟨kind, dy, code, other, ⟨al, ah⟩, ⟨bl, bh⟩⟩], .slice (some ⟨g, 0, none⟩) (k + 1) cap, by omega, by go_num, Lib.hid (by simp [HEL.out]), Lib.hid ?_, Lib.hid ?_, Lib.hid ?_⟩
          · rw [take_more hlt', HD.out]
            exact HSL.out.append (.one (slim_refl HFT.out))
          · rw [flat_append, flat_cons, flat_nil, List.append_nil]
            exact HR8.out.fewer (List.sublist_append_left ([(gy, 24, [.int .i64 bef, .int .i64 aft, .slice (some ⟨b, off, none⟩) n c]), (go, 24, [.int .i64 bef, .int .i64 aft, .slice (some ⟨g, 0, none⟩) (k + 1) cap])] : List (Nat × TypeId × List Value)) ([(gd, 55, [.int .i64 kind, .int .i64 dy, .string code, .string other, .int .i64 al, .int .i64 ah, .int .i64 bl, .int .i64 bh]), (v3.heap.size, 55, [.int .i64 kind, .int .i64 dy, .string code, .string other, .int .i64 al, .int .i64 ah, .int .i64 bl, .int .i64 bh])] : List (Nat × TypeId × List Value)))
          · exact HL8.out.fewer (List.sublist_append_left ([(gy, 24, [.int .i64 bef, .int .i64 aft, .slice (some ⟨b, off, none⟩) n c]), (go, 24, [.int .i64 bef, .int .i64 aft, .slice (some ⟨g, 0, none⟩) (k + 1) cap])] : List (Nat × TypeId × List Value)) ([(gd, 55, [.int .i64 kind, .int .i64 dy, .string code, .string other, .int .i64 al, .int .i64 ah, .int .i64 bl, .int .i64 bh]), (v3.heap.size, 55, [.int .i64 kind, .int .i64 dy, .string code, .string other, .int .i64 al, .int .i64 ah, .int .i64 bl, .int .i64 bh])] : List (Nat × TypeId × List Value))) (List.Sublist.refl _)
        case measure => simp [intOf]; omega
    · have hkn : n = k := by omega
      subst hkn
      clear o0
      have HSL2 := Lib.hid (show Yd.All2 Slim es ds from by have := HSL.out; rwa [List.take_of_length_le (by rw [← HN.out]; exact Nat.le_refl _)] at this)
      have HES := Lib.hid (held_of_rowed HR.out HEL.out h12)
      have HEOK := Lib.hid (errYard_slim HSL2.out HOK.out)
      have HNAR := Lib.hid (narrowers_of HSL2.out (errYard_ok HOK.out).2.2.2)
      have HFE := Lib.hid (fun (k0 : Nat) (hk : k0 ≤ n) (W : World) (hW : Below wr.heap.size wr W) => follow_calls bef aft (.slice sa sn sc) es k0 W ((HES.out.below hW).mono hW.size) HEOK.out (slim_sizes HSL2.out HSZ.out) (by rw [HEL.out]; exact hk) (Nat.le_trans hk h12))
      have HBW := Lib.hid (Below.refl wr.heap.size wr)
      clear HR HSL
      have y0 := (show wr.cell? ⟨gy, 0, none⟩ = some (.int .i64 bef) from HL5.out.at 0 0 (v := .int .i64 bef) rfl rfl)
      have y1 := (show wr.cell? ⟨gy, 1, none⟩ = some (.int .i64 aft) from HL5.out.at 0 1 (v := .int .i64 aft) rfl rfl)
      have y2 := (show wr.cell? ⟨gy, 2, none⟩ = some (.slice a n c) from HL5.out.at 0 2 (v := .slice a n c) rfl rfl)
      go_upto_region 13 with (first
        | (go_at_call 16; refine (HFO.out n (Nat.le_refl n) _ HL5.out.low).mono ?_; rintro e v6 ⟨rows1, tv1, acc1, k1, f1, hfo, hsm, hkk, rfl, hb, hst⟩; obtain ⟨⟨vapour10, vapour11⟩, ⟨broth10, broth11⟩, ⟨dust10, dust11⟩, ⟨soldDry10, soldDry11⟩, ⟨soldWater10, soldWater11⟩, ⟨soaked10, soaked11⟩⟩ := acc1; obtain ⟨t1a, t1n, t1c, rfl⟩ := row_slice hst.things; have HFO1 := Lib.hid hfo; have HSM1 := Lib.hid hsm; have HKK1 := Lib.hid hkk; have HL6 := Lib.hid (HL5.out.stand hb hst rfl); have HO1 := Lib.hid (show (#[.slice t1a t1n t1c, .int .i64 vapour10, .int .i64 vapour11, .int .i64 broth10, .int .i64 broth11, .int .i64 dust10, .int .i64 dust11, .int .i64 soldDry10, .int .i64 soldDry11, .int .i64 soldWater10, .int .i64 soldWater11, .int .i64 soaked10, .int .i64 soaked11] : Array Value).all (·.oneCell') = true from by simp [Value.oneCell']); have HBW := Lib.hid (HBW.out.trans (hb.mono HBW.out.size)); clear hfo hsm hkk hst hb )
        | ((with_reducible refine at_store 36 (.tmp 8) (.tmp 97) ?_); go_must (refine wpList_store_mid rfl 36 (.tmp 8) (.tmp 97) rfl v6.heap.size 0 #[.slice t1a t1n t1c, .int .i64 vapour10, .int .i64 vapour11, .int .i64 broth10, .int .i64 broth11, .int .i64 dust10, .int .i64 dust11, .int .i64 soldDry10, .int .i64 soldDry11, .int .i64 soldWater10, .int .i64 soldWater11, .int .i64 soaked10, .int .i64 soaked11] rfl rfl ((Blk.new v6 36 #[.slice none 0 0, .int .i64 0, .int .i64 0, .int .i64 0, .int .i64 0, .int .i64 0, .int .i64 0, .int .i64 0, .int .i64 0, .int .i64 0, .int .i64 0, .int .i64 0, .int .i64 0]).there (o := 0) (n := 13) (Nat.le_of_ble_eq_true rfl)) size_standing (HO1.out) ?_)))
      clear y0 y1 y2
      have HBX := Lib.hid (below_setCells (HBW.out.alloc HBW.out.size (.cells #[.slice none 0 0, .int .i64 0, .int .i64 0, .int .i64 0, .int .i64 0, .int .i64 0, .int .i64 0, .int .i64 0, .int .i64 0, .int .i64 0, .int .i64 0, .int .i64 0, .int .i64 0] 36)) HBW.out.size [.slice t1a t1n t1c, .int .i64 vapour10, .int .i64 vapour11, .int .i64 broth10, .int .i64 broth11, .int .i64 dust10, .int .i64 dust11, .int .i64 soldDry10, .int .i64 soldDry11, .int .i64 soldWater10, .int .i64 soldWater11, .int .i64 soaked10, .int .i64 soaked11] 0)
      have HL7 := Lib.hid (show Locs w ((v6.alloc (.cells #[.slice none 0 0, .int .i64 0, .int .i64 0, .int .i64 0, .int .i64 0, .int .i64 0, .int .i64 0, .int .i64 0, .int .i64 0, .int .i64 0, .int .i64 0, .int .i64 0, .int .i64 0] 36)).setCells v6.heap.size 0 [.slice t1a t1n t1c, .int .i64 vapour10, .int .i64 vapour11, .int .i64 broth10, .int .i64 broth11, .int .i64 dust10, .int .i64 dust11, .int .i64 soldDry10, .int .i64 soldDry11, .int .i64 soldWater10, .int .i64 soldWater11, .int .i64 soaked10, .int .i64 soaked11]) [(gy, 24, [.int .i64 bef, .int .i64 aft, .slice a n c]), (go, 24, [.int .i64 bef, .int .i64 aft, .slice sa sn sc]), (v6.heap.size, 36, [.slice t1a t1n t1c, .int .i64 vapour10, .int .i64 vapour11, .int .i64 broth10, .int .i64 broth11, .int .i64 dust10, .int .i64 dust11, .int .i64 soldDry10, .int .i64 soldDry11, .int .i64 soldWater10, .int .i64 soldWater11, .int .i64 soaked10, .int .i64 soaked11])] [(rows1, .slice t1a t1n t1c)] from (HL6.out.alloc 36 [.slice none 0 0, .int .i64 0, .int .i64 0, .int .i64 0, .int .i64 0, .int .i64 0, .int .i64 0, .int .i64 0, .int .i64 0, .int .i64 0, .int .i64 0, .int .i64 0, .int .i64 0] rfl).setLoc 2 [] [.slice none 0 0, .int .i64 0, .int .i64 0, .int .i64 0, .int .i64 0, .int .i64 0, .int .i64 0, .int .i64 0, .int .i64 0, .int .i64 0, .int .i64 0, .int .i64 0, .int .i64 0] [] [.slice t1a t1n t1c, .int .i64 vapour10, .int .i64 vapour11, .int .i64 broth10, .int .i64 broth11, .int .i64 dust10, .int .i64 dust11, .int .i64 soldDry10, .int .i64 soldDry11, .int .i64 soldWater10, .int .i64 soldWater11, .int .i64 soaked10, .int .i64 soaked11] rfl rfl)
      clear HL6 HBW
      generalize ((v6.alloc (.cells #[.slice none 0 0, .int .i64 0, .int .i64 0, .int .i64 0, .int .i64 0, .int .i64 0, .int .i64 0, .int .i64 0, .int .i64 0, .int .i64 0, .int .i64 0, .int .i64 0, .int .i64 0] 36)).setCells v6.heap.size 0 [.slice t1a t1n t1c, .int .i64 vapour10, .int .i64 vapour11, .int .i64 broth10, .int .i64 broth11, .int .i64 dust10, .int .i64 dust11, .int .i64 soldDry10, .int .i64 soldDry11, .int .i64 soldWater10, .int .i64 soldWater11, .int .i64 soaked10, .int .i64 soaked11]) = v7 at HL7 HBX ⊢
      have HBW := HBX; clear HBX
      generalize v6.heap.size = g1 at HL7 ⊢
      try simp only [Act.put]
      have y0 := (show v7.cell? ⟨go, 0, none⟩ = some (.int .i64 bef) from HL7.out.at 1 0 (v := .int .i64 bef) rfl rfl)
      have y1 := (show v7.cell? ⟨go, 1, none⟩ = some (.int .i64 aft) from HL7.out.at 1 1 (v := .int .i64 aft) rfl rfl)
      have y2 := (show v7.cell? ⟨go, 2, none⟩ = some (.slice sa sn sc) from HL7.out.at 1 2 (v := .slice sa sn sc) rfl rfl)
      have y3 := (show v7.cell? ⟨gy, 2, none⟩ = some (.slice a n c) from HL7.out.at 0 2 (v := .slice a n c) rfl rfl)
      go_upto_region 14 with (first
        | (go_at_call 16; refine (HFE.out n (Nat.le_refl n) _ HBW.out).mono ?_; rintro e v8 ⟨rows2, tv2, acc2, k2, f2, hfo, hsm, hkk, rfl, hb, hst⟩; obtain ⟨⟨vapour20, vapour21⟩, ⟨broth20, broth21⟩, ⟨dust20, dust21⟩, ⟨soldDry20, soldDry21⟩, ⟨soldWater20, soldWater21⟩, ⟨soaked20, soaked21⟩⟩ := acc2; obtain ⟨t2a, t2n, t2c, rfl⟩ := row_slice hst.things; have HFO2 := Lib.hid hfo; have HSM2 := Lib.hid hsm; have HKK2 := Lib.hid hkk; have HL8 := Lib.hid (HL7.out.stand hb hst rfl); have HO2 := Lib.hid (show (#[.slice t2a t2n t2c, .int .i64 vapour20, .int .i64 vapour21, .int .i64 broth20, .int .i64 broth21, .int .i64 dust20, .int .i64 dust21, .int .i64 soldDry20, .int .i64 soldDry21, .int .i64 soldWater20, .int .i64 soldWater21, .int .i64 soaked20, .int .i64 soaked21] : Array Value).all (·.oneCell') = true from by simp [Value.oneCell']); have HBW := Lib.hid (HBW.out.trans (hb.mono HBW.out.size)); clear hfo hsm hkk hst hb )
        | ((with_reducible refine at_store 36 (.tmp 12) (.tmp 107) ?_); go_must (refine wpList_store_mid rfl 36 (.tmp 12) (.tmp 107) rfl v8.heap.size 0 #[.slice t2a t2n t2c, .int .i64 vapour20, .int .i64 vapour21, .int .i64 broth20, .int .i64 broth21, .int .i64 dust20, .int .i64 dust21, .int .i64 soldDry20, .int .i64 soldDry21, .int .i64 soldWater20, .int .i64 soldWater21, .int .i64 soaked20, .int .i64 soaked21] rfl rfl ((Blk.new v8 36 #[.slice none 0 0, .int .i64 0, .int .i64 0, .int .i64 0, .int .i64 0, .int .i64 0, .int .i64 0, .int .i64 0, .int .i64 0, .int .i64 0, .int .i64 0, .int .i64 0, .int .i64 0]).there (o := 0) (n := 13) (Nat.le_of_ble_eq_true rfl)) size_standing (HO2.out) ?_)))
      clear y0 y1 y2 y3
      have HBX := Lib.hid (below_setCells (HBW.out.alloc HBW.out.size (.cells #[.slice none 0 0, .int .i64 0, .int .i64 0, .int .i64 0, .int .i64 0, .int .i64 0, .int .i64 0, .int .i64 0, .int .i64 0, .int .i64 0, .int .i64 0, .int .i64 0, .int .i64 0] 36)) HBW.out.size [.slice t2a t2n t2c, .int .i64 vapour20, .int .i64 vapour21, .int .i64 broth20, .int .i64 broth21, .int .i64 dust20, .int .i64 dust21, .int .i64 soldDry20, .int .i64 soldDry21, .int .i64 soldWater20, .int .i64 soldWater21, .int .i64 soaked20, .int .i64 soaked21] 0)
      have HL9 := Lib.hid (show Locs w ((v8.alloc (.cells #[.slice none 0 0, .int .i64 0, .int .i64 0, .int .i64 0, .int .i64 0, .int .i64 0, .int .i64 0, .int .i64 0, .int .i64 0, .int .i64 0, .int .i64 0, .int .i64 0, .int .i64 0] 36)).setCells v8.heap.size 0 [.slice t2a t2n t2c, .int .i64 vapour20, .int .i64 vapour21, .int .i64 broth20, .int .i64 broth21, .int .i64 dust20, .int .i64 dust21, .int .i64 soldDry20, .int .i64 soldDry21, .int .i64 soldWater20, .int .i64 soldWater21, .int .i64 soaked20, .int .i64 soaked21]) [(gy, 24, [.int .i64 bef, .int .i64 aft, .slice a n c]), (go, 24, [.int .i64 bef, .int .i64 aft, .slice sa sn sc]), (g1, 36, [.slice t1a t1n t1c, .int .i64 vapour10, .int .i64 vapour11, .int .i64 broth10, .int .i64 broth11, .int .i64 dust10, .int .i64 dust11, .int .i64 soldDry10, .int .i64 soldDry11, .int .i64 soldWater10, .int .i64 soldWater11, .int .i64 soaked10, .int .i64 soaked11]), (v8.heap.size, 36, [.slice t2a t2n t2c, .int .i64 vapour20, .int .i64 vapour21, .int .i64 broth20, .int .i64 broth21, .int .i64 dust20, .int .i64 dust21, .int .i64 soldDry20, .int .i64 soldDry21, .int .i64 soldWater20, .int .i64 soldWater21, .int .i64 soaked20, .int .i64 soaked21])] [(rows1, .slice t1a t1n t1c), (rows2, .slice t2a t2n t2c)] from (HL8.out.alloc 36 [.slice none 0 0, .int .i64 0, .int .i64 0, .int .i64 0, .int .i64 0, .int .i64 0, .int .i64 0, .int .i64 0, .int .i64 0, .int .i64 0, .int .i64 0, .int .i64 0, .int .i64 0] rfl).setLoc 3 [] [.slice none 0 0, .int .i64 0, .int .i64 0, .int .i64 0, .int .i64 0, .int .i64 0, .int .i64 0, .int .i64 0, .int .i64 0, .int .i64 0, .int .i64 0, .int .i64 0, .int .i64 0] [] [.slice t2a t2n t2c, .int .i64 vapour20, .int .i64 vapour21, .int .i64 broth20, .int .i64 broth21, .int .i64 dust20, .int .i64 dust21, .int .i64 soldDry20, .int .i64 soldDry21, .int .i64 soldWater20, .int .i64 soldWater21, .int .i64 soaked20, .int .i64 soaked21] rfl rfl)
      clear HL8 HBW
      generalize ((v8.alloc (.cells #[.slice none 0 0, .int .i64 0, .int .i64 0, .int .i64 0, .int .i64 0, .int .i64 0, .int .i64 0, .int .i64 0, .int .i64 0, .int .i64 0, .int .i64 0, .int .i64 0, .int .i64 0] 36)).setCells v8.heap.size 0 [.slice t2a t2n t2c, .int .i64 vapour20, .int .i64 vapour21, .int .i64 broth20, .int .i64 broth21, .int .i64 dust20, .int .i64 dust21, .int .i64 soldDry20, .int .i64 soldDry21, .int .i64 soldWater20, .int .i64 soldWater21, .int .i64 soaked20, .int .i64 soaked21]) = v9 at HL9 HBX ⊢
      have HBW := HBX; clear HBX
      generalize v8.heap.size = g2 at HL9 ⊢
      try simp only [Act.put]
      have hk1n : k1 ≤ n := HKK1.out
      have hk2n : k2 ≤ n := HKK2.out
      have d1 : decide ((k1 : Int) < 0) = false := by simp
      have d2 : decide ((n : Int) < (k1 : Int)) = false := by simp; omega
      have d3 : decide ((k2 : Int) < 0) = false := by simp
      have d4 : decide ((n : Int) < (k2 : Int)) = false := by simp; omega
      have d5 : decide (n < k1) = false := by simp; omega
      have d6 : decide (n < k2) = false := by simp; omega
      have y0 := (show v9.cell? ⟨gy, 2, none⟩ = some (.slice a n c) from HL9.out.at 0 2 (v := .slice a n c) rfl rfl)
      go_upto_region 17 with (fail)
      clear d1 d2 d3 d4 d5 d6 y0
      obtain ⟨kk, hkk0⟩ : ∃ kk, kk = min k1 k2 := ⟨_, rfl⟩
      have hmin : (if k2 < k1 then (k2 : Int) else (k1 : Int)) = (kk : Int) := by split <;> omega
      have hkk1 : kk ≤ k1 := by omega
      have hkk2 : kk ≤ k2 := by omega
      have hkkn : kk ≤ n := by omega
      rw [hmin]
      clear hmin hkk0
      have HU1 := Lib.hid (follow_upto HFO1.out (by rw [← HN.out]; exact Nat.le_refl _) hkk1)
      have HU2 := Lib.hid (follow_upto HFO2.out (by rw [HEL.out]; exact Nat.le_refl _) hkk2)
      have y0 := (show v9.cell? ⟨gy, 0, none⟩ = some (.int .i64 bef) from HL9.out.at 0 0 (v := .int .i64 bef) rfl rfl)
      have y1 := (show v9.cell? ⟨gy, 1, none⟩ = some (.int .i64 aft) from HL9.out.at 0 1 (v := .int .i64 aft) rfl rfl)
      have y2 := (show v9.cell? ⟨gy, 2, none⟩ = some (.slice a n c) from HL9.out.at 0 2 (v := .slice a n c) rfl rfl)
      go_upto_region 18 with (first
        | (go_at_call 16; refine (HFO.out kk hkkn _ HL9.out.low).mono ?_; rintro e v10 ⟨rows3, tv3, acc3, k3, f3, hfo, hsm, hkk, rfl, hb, hst⟩; obtain ⟨⟨vapour30, vapour31⟩, ⟨broth30, broth31⟩, ⟨dust30, dust31⟩, ⟨soldDry30, soldDry31⟩, ⟨soldWater30, soldWater31⟩, ⟨soaked30, soaked31⟩⟩ := acc3; obtain ⟨t3a, t3n, t3c, rfl⟩ := row_slice hst.things; have HFO3 := Lib.hid hfo; have HSM3 := Lib.hid hsm; have HKK3 := Lib.hid hkk; have HL10 := Lib.hid (HL9.out.stand hb hst rfl); have HO3 := Lib.hid (show (#[.slice t3a t3n t3c, .int .i64 vapour30, .int .i64 vapour31, .int .i64 broth30, .int .i64 broth31, .int .i64 dust30, .int .i64 dust31, .int .i64 soldDry30, .int .i64 soldDry31, .int .i64 soldWater30, .int .i64 soldWater31, .int .i64 soaked30, .int .i64 soaked31] : Array Value).all (·.oneCell') = true from by simp [Value.oneCell']); have HBW := Lib.hid (HBW.out.trans (hb.mono HBW.out.size)); clear hfo hsm hkk hst hb )
        | ((with_reducible refine at_store 36 (.tmp 17) (.tmp 146) ?_); go_must (refine wpList_store_mid rfl 36 (.tmp 17) (.tmp 146) rfl v10.heap.size 0 #[.slice t3a t3n t3c, .int .i64 vapour30, .int .i64 vapour31, .int .i64 broth30, .int .i64 broth31, .int .i64 dust30, .int .i64 dust31, .int .i64 soldDry30, .int .i64 soldDry31, .int .i64 soldWater30, .int .i64 soldWater31, .int .i64 soaked30, .int .i64 soaked31] rfl rfl ((Blk.new v10 36 #[.slice none 0 0, .int .i64 0, .int .i64 0, .int .i64 0, .int .i64 0, .int .i64 0, .int .i64 0, .int .i64 0, .int .i64 0, .int .i64 0, .int .i64 0, .int .i64 0, .int .i64 0]).there (o := 0) (n := 13) (Nat.le_of_ble_eq_true rfl)) size_standing (HO3.out) ?_)))
      clear y0 y1 y2
      have HBX := Lib.hid (below_setCells (HBW.out.alloc HBW.out.size (.cells #[.slice none 0 0, .int .i64 0, .int .i64 0, .int .i64 0, .int .i64 0, .int .i64 0, .int .i64 0, .int .i64 0, .int .i64 0, .int .i64 0, .int .i64 0, .int .i64 0, .int .i64 0] 36)) HBW.out.size [.slice t3a t3n t3c, .int .i64 vapour30, .int .i64 vapour31, .int .i64 broth30, .int .i64 broth31, .int .i64 dust30, .int .i64 dust31, .int .i64 soldDry30, .int .i64 soldDry31, .int .i64 soldWater30, .int .i64 soldWater31, .int .i64 soaked30, .int .i64 soaked31] 0)
      have HL11 := Lib.hid (show Locs w ((v10.alloc (.cells #[.slice none 0 0, .int .i64 0, .int .i64 0, .int .i64 0, .int .i64 0, .int .i64 0, .int .i64 0, .int .i64 0, .int .i64 0, .int .i64 0, .int .i64 0, .int .i64 0, .int .i64 0] 36)).setCells v10.heap.size 0 [.slice t3a t3n t3c, .int .i64 vapour30, .int .i64 vapour31, .int .i64 broth30, .int .i64 broth31, .int .i64 dust30, .int .i64 dust31, .int .i64 soldDry30, .int .i64 soldDry31, .int .i64 soldWater30, .int .i64 soldWater31, .int .i64 soaked30, .int .i64 soaked31]) [(gy, 24, [.int .i64 bef, .int .i64 aft, .slice a n c]), (go, 24, [.int .i64 bef, .int .i64 aft, .slice sa sn sc]), (g1, 36, [.slice t1a t1n t1c, .int .i64 vapour10, .int .i64 vapour11, .int .i64 broth10, .int .i64 broth11, .int .i64 dust10, .int .i64 dust11, .int .i64 soldDry10, .int .i64 soldDry11, .int .i64 soldWater10, .int .i64 soldWater11, .int .i64 soaked10, .int .i64 soaked11]), (g2, 36, [.slice t2a t2n t2c, .int .i64 vapour20, .int .i64 vapour21, .int .i64 broth20, .int .i64 broth21, .int .i64 dust20, .int .i64 dust21, .int .i64 soldDry20, .int .i64 soldDry21, .int .i64 soldWater20, .int .i64 soldWater21, .int .i64 soaked20, .int .i64 soaked21]), (v10.heap.size, 36, [.slice t3a t3n t3c, .int .i64 vapour30, .int .i64 vapour31, .int .i64 broth30, .int .i64 broth31, .int .i64 dust30, .int .i64 dust31, .int .i64 soldDry30, .int .i64 soldDry31, .int .i64 soldWater30, .int .i64 soldWater31, .int .i64 soaked30, .int .i64 soaked31])] [(rows1, .slice t1a t1n t1c), (rows2, .slice t2a t2n t2c), (rows3, .slice t3a t3n t3c)] from (HL10.out.alloc 36 [.slice none 0 0, .int .i64 0, .int .i64 0, .int .i64 0, .int .i64 0, .int .i64 0, .int .i64 0, .int .i64 0, .int .i64 0, .int .i64 0, .int .i64 0, .int .i64 0, .int .i64 0] rfl).setLoc 4 [] [.slice none 0 0, .int .i64 0, .int .i64 0, .int .i64 0, .int .i64 0, .int .i64 0, .int .i64 0, .int .i64 0, .int .i64 0, .int .i64 0, .int .i64 0, .int .i64 0, .int .i64 0] [] [.slice t3a t3n t3c, .int .i64 vapour30, .int .i64 vapour31, .int .i64 broth30, .int .i64 broth31, .int .i64 dust30, .int .i64 dust31, .int .i64 soldDry30, .int .i64 soldDry31, .int .i64 soldWater30, .int .i64 soldWater31, .int .i64 soaked30, .int .i64 soaked31] rfl rfl)
      clear HL10 HBW
      generalize ((v10.alloc (.cells #[.slice none 0 0, .int .i64 0, .int .i64 0, .int .i64 0, .int .i64 0, .int .i64 0, .int .i64 0, .int .i64 0, .int .i64 0, .int .i64 0, .int .i64 0, .int .i64 0, .int .i64 0] 36)).setCells v10.heap.size 0 [.slice t3a t3n t3c, .int .i64 vapour30, .int .i64 vapour31, .int .i64 broth30, .int .i64 broth31, .int .i64 dust30, .int .i64 dust31, .int .i64 soldDry30, .int .i64 soldDry31, .int .i64 soldWater30, .int .i64 soldWater31, .int .i64 soaked30, .int .i64 soaked31]) = v11 at HL11 HBX ⊢
      have HBW := HBX; clear HBX
      generalize v10.heap.size = g3 at HL11 ⊢
      try simp only [Act.put]
      have y0 := (show v11.cell? ⟨go, 0, none⟩ = some (.int .i64 bef) from HL11.out.at 1 0 (v := .int .i64 bef) rfl rfl)
      have y1 := (show v11.cell? ⟨go, 1, none⟩ = some (.int .i64 aft) from HL11.out.at 1 1 (v := .int .i64 aft) rfl rfl)
      have y2 := (show v11.cell? ⟨go, 2, none⟩ = some (.slice sa sn sc) from HL11.out.at 1 2 (v := .slice sa sn sc) rfl rfl)
      go_upto_region 19 with (first
        | (go_at_call 16; refine (HFE.out kk hkkn _ HBW.out).mono ?_; rintro e v12 ⟨rows4, tv4, acc4, k4, f4, hfo, hsm, hkk, rfl, hb, hst⟩; obtain ⟨⟨vapour40, vapour41⟩, ⟨broth40, broth41⟩, ⟨dust40, dust41⟩, ⟨soldDry40, soldDry41⟩, ⟨soldWater40, soldWater41⟩, ⟨soaked40, soaked41⟩⟩ := acc4; obtain ⟨t4a, t4n, t4c, rfl⟩ := row_slice hst.things; have HFO4 := Lib.hid hfo; have HSM4 := Lib.hid hsm; have HKK4 := Lib.hid hkk; have HL12 := Lib.hid (HL11.out.stand hb hst rfl); have HO4 := Lib.hid (show (#[.slice t4a t4n t4c, .int .i64 vapour40, .int .i64 vapour41, .int .i64 broth40, .int .i64 broth41, .int .i64 dust40, .int .i64 dust41, .int .i64 soldDry40, .int .i64 soldDry41, .int .i64 soldWater40, .int .i64 soldWater41, .int .i64 soaked40, .int .i64 soaked41] : Array Value).all (·.oneCell') = true from by simp [Value.oneCell']); have HBW := Lib.hid (HBW.out.trans (hb.mono HBW.out.size)); clear hfo hsm hkk hst hb )
        | ((with_reducible refine at_store 36 (.tmp 20) (.tmp 154) ?_); go_must (refine wpList_store_mid rfl 36 (.tmp 20) (.tmp 154) rfl v12.heap.size 0 #[.slice t4a t4n t4c, .int .i64 vapour40, .int .i64 vapour41, .int .i64 broth40, .int .i64 broth41, .int .i64 dust40, .int .i64 dust41, .int .i64 soldDry40, .int .i64 soldDry41, .int .i64 soldWater40, .int .i64 soldWater41, .int .i64 soaked40, .int .i64 soaked41] rfl rfl ((Blk.new v12 36 #[.slice none 0 0, .int .i64 0, .int .i64 0, .int .i64 0, .int .i64 0, .int .i64 0, .int .i64 0, .int .i64 0, .int .i64 0, .int .i64 0, .int .i64 0, .int .i64 0, .int .i64 0]).there (o := 0) (n := 13) (Nat.le_of_ble_eq_true rfl)) size_standing (HO4.out) ?_)))
      clear y0 y1 y2
      have HBX := Lib.hid (below_setCells (HBW.out.alloc HBW.out.size (.cells #[.slice none 0 0, .int .i64 0, .int .i64 0, .int .i64 0, .int .i64 0, .int .i64 0, .int .i64 0, .int .i64 0, .int .i64 0, .int .i64 0, .int .i64 0, .int .i64 0, .int .i64 0] 36)) HBW.out.size [.slice t4a t4n t4c, .int .i64 vapour40, .int .i64 vapour41, .int .i64 broth40, .int .i64 broth41, .int .i64 dust40, .int .i64 dust41, .int .i64 soldDry40, .int .i64 soldDry41, .int .i64 soldWater40, .int .i64 soldWater41, .int .i64 soaked40, .int .i64 soaked41] 0)
      have HL13 := Lib.hid (show Locs w ((v12.alloc (.cells #[.slice none 0 0, .int .i64 0, .int .i64 0, .int .i64 0, .int .i64 0, .int .i64 0, .int .i64 0, .int .i64 0, .int .i64 0, .int .i64 0, .int .i64 0, .int .i64 0, .int .i64 0] 36)).setCells v12.heap.size 0 [.slice t4a t4n t4c, .int .i64 vapour40, .int .i64 vapour41, .int .i64 broth40, .int .i64 broth41, .int .i64 dust40, .int .i64 dust41, .int .i64 soldDry40, .int .i64 soldDry41, .int .i64 soldWater40, .int .i64 soldWater41, .int .i64 soaked40, .int .i64 soaked41]) [(gy, 24, [.int .i64 bef, .int .i64 aft, .slice a n c]), (go, 24, [.int .i64 bef, .int .i64 aft, .slice sa sn sc]), (g1, 36, [.slice t1a t1n t1c, .int .i64 vapour10, .int .i64 vapour11, .int .i64 broth10, .int .i64 broth11, .int .i64 dust10, .int .i64 dust11, .int .i64 soldDry10, .int .i64 soldDry11, .int .i64 soldWater10, .int .i64 soldWater11, .int .i64 soaked10, .int .i64 soaked11]), (g2, 36, [.slice t2a t2n t2c, .int .i64 vapour20, .int .i64 vapour21, .int .i64 broth20, .int .i64 broth21, .int .i64 dust20, .int .i64 dust21, .int .i64 soldDry20, .int .i64 soldDry21, .int .i64 soldWater20, .int .i64 soldWater21, .int .i64 soaked20, .int .i64 soaked21]), (g3, 36, [.slice t3a t3n t3c, .int .i64 vapour30, .int .i64 vapour31, .int .i64 broth30, .int .i64 broth31, .int .i64 dust30, .int .i64 dust31, .int .i64 soldDry30, .int .i64 soldDry31, .int .i64 soldWater30, .int .i64 soldWater31, .int .i64 soaked30, .int .i64 soaked31]), (v12.heap.size, 36, [.slice t4a t4n t4c, .int .i64 vapour40, .int .i64 vapour41, .int .i64 broth40, .int .i64 broth41, .int .i64 dust40, .int .i64 dust41, .int .i64 soldDry40, .int .i64 soldDry41, .int .i64 soldWater40, .int .i64 soldWater41, .int .i64 soaked40, .int .i64 soaked41])] [(rows1, .slice t1a t1n t1c), (rows2, .slice t2a t2n t2c), (rows3, .slice t3a t3n t3c), (rows4, .slice t4a t4n t4c)] from (HL12.out.alloc 36 [.slice none 0 0, .int .i64 0, .int .i64 0, .int .i64 0, .int .i64 0, .int .i64 0, .int .i64 0, .int .i64 0, .int .i64 0, .int .i64 0, .int .i64 0, .int .i64 0, .int .i64 0] rfl).setLoc 5 [] [.slice none 0 0, .int .i64 0, .int .i64 0, .int .i64 0, .int .i64 0, .int .i64 0, .int .i64 0, .int .i64 0, .int .i64 0, .int .i64 0, .int .i64 0, .int .i64 0, .int .i64 0] [] [.slice t4a t4n t4c, .int .i64 vapour40, .int .i64 vapour41, .int .i64 broth40, .int .i64 broth41, .int .i64 dust40, .int .i64 dust41, .int .i64 soldDry40, .int .i64 soldDry41, .int .i64 soldWater40, .int .i64 soldWater41, .int .i64 soaked40, .int .i64 soaked41] rfl rfl)
      clear HL12 HBW
      generalize ((v12.alloc (.cells #[.slice none 0 0, .int .i64 0, .int .i64 0, .int .i64 0, .int .i64 0, .int .i64 0, .int .i64 0, .int .i64 0, .int .i64 0, .int .i64 0, .int .i64 0, .int .i64 0, .int .i64 0] 36)).setCells v12.heap.size 0 [.slice t4a t4n t4c, .int .i64 vapour40, .int .i64 vapour41, .int .i64 broth40, .int .i64 broth41, .int .i64 dust40, .int .i64 dust41, .int .i64 soldDry40, .int .i64 soldDry41, .int .i64 soldWater40, .int .i64 soldWater41, .int .i64 soaked40, .int .i64 soaked41]) = v13 at HL13 HBX ⊢
      have HBW := HBX; clear HBX
      generalize v12.heap.size = g4 at HL13 ⊢
      try simp only [Act.put]
      have HIN := Lib.hid (narrow_follow HFO3.out HFO4.out HNAR.out HU1.out HU2.out)
      have HT3 := Lib.hid (show t3n = rows3.length from row_len (HL13.out.stood 2 rfl).things)
      have HT4 := Lib.hid (show t4n = rows4.length from row_len (HL13.out.stood 3 rfl).things)
      have ht34 : t4n = t3n := by rw [HT3.out, HT4.out]; have := HIN.out.stacks.length_eq; simpa [stOf] using this
      subst ht34
      have hm8 : t4n ≤ 8 := by rw [HT4.out]; exact (HL13.out.stood 3 rfl).few
      have s0 := (show v13.cell? ⟨g3, 0, none⟩ = some (.slice t3a t4n t3c) from HL13.out.at 4 0 (v := .slice t3a t4n t3c) rfl rfl)
      have s1 := (show v13.cell? ⟨g4, 0, none⟩ = some (.slice t4a t4n t4c) from HL13.out.at 5 0 (v := .slice t4a t4n t4c) rfl rfl)
      go_wp2
      clear s0 s1
      go_loopw [23] (fun iv wr => ∃ q : Nat, q ≤ t4n ∧ iv = .int .i64 q ∧ Hid (Locs w wr [(gy, 24, [.int .i64 bef, .int .i64 aft, .slice a n c]), (go, 24, [.int .i64 bef, .int .i64 aft, .slice sa sn sc]), (g1, 36, [.slice t1a t1n t1c, .int .i64 vapour10, .int .i64 vapour11, .int .i64 broth10, .int .i64 broth11, .int .i64 dust10, .int .i64 dust11, .int .i64 soldDry10, .int .i64 soldDry11, .int .i64 soldWater10, .int .i64 soldWater11, .int .i64 soaked10, .int .i64 soaked11]), (g2, 36, [.slice t2a t2n t2c, .int .i64 vapour20, .int .i64 vapour21, .int .i64 broth20, .int .i64 broth21, .int .i64 dust20, .int .i64 dust21, .int .i64 soldDry20, .int .i64 soldDry21, .int .i64 soldWater20, .int .i64 soldWater21, .int .i64 soaked20, .int .i64 soaked21]), (g3, 36, [.slice t3a t4n t3c, .int .i64 vapour30, .int .i64 vapour31, .int .i64 broth30, .int .i64 broth31, .int .i64 dust30, .int .i64 dust31, .int .i64 soldDry30, .int .i64 soldDry31, .int .i64 soldWater30, .int .i64 soldWater31, .int .i64 soaked30, .int .i64 soaked31]), (g4, 36, [.slice t4a t4n t4c, .int .i64 vapour40, .int .i64 vapour41, .int .i64 broth40, .int .i64 broth41, .int .i64 dust40, .int .i64 dust41, .int .i64 soldDry40, .int .i64 soldDry41, .int .i64 soldWater40, .int .i64 soldWater41, .int .i64 soaked40, .int .i64 soaked41])] [(rows1, .slice t1a t1n t1c), (rows2, .slice t2a t2n t2c), (rows3, .slice t3a t4n t3c), (rows4, .slice t4a t4n t4c)])) (fun iv _ => t4n - (intOf iv).toNat)
      case atStart => exact ⟨0, Nat.zero_le _, rfl, HL13⟩
      case round =>
        clear HL13 HBW HFE HFO
        obtain ⟨q, hq, rfl, HL14⟩ := hrel
        by_cases hqt : q < t4n
        · have hqI : (q : Int) < (t4n : Int) := by omega
          have hq3 : q < rows3.length := by rw [← HT3.out]; exact hqt
          have hq4 : q < rows4.length := by rw [← HT4.out]; exact hqt
          obtain ⟨p3, hp3⟩ : ∃ p, rows3[q]? = some p := ⟨_, List.getElem?_eq_getElem hq3⟩
          obtain ⟨p4, hp4⟩ : ∃ p, rows4[q]? = some p := ⟨_, List.getElem?_eq_getElem hq4⟩
          have hin := HIN.out.stacks.get (show (stOf rows4 (⟨⟨vapour40, vapour41⟩, ⟨broth40, broth41⟩, ⟨dust40, dust41⟩, ⟨soldDry40, soldDry41⟩, ⟨soldWater40, soldWater41⟩, ⟨soaked40, soaked41⟩⟩ : Yd.Acc)).stacks[q]? = some p4.1 by simp [stOf, hp4]) (show (stOf rows3 (⟨⟨vapour30, vapour31⟩, ⟨broth30, broth31⟩, ⟨dust30, dust31⟩, ⟨soldDry30, soldDry31⟩, ⟨soldWater30, soldWater31⟩, ⟨soaked30, soaked31⟩⟩ : Yd.Acc)).stacks[q]? = some p3.1 by simp [stOf, hp3])
          obtain ⟨gp3, cp3, hvp3, hgp3, hcp3⟩ := (HL14.out.stood 2 rfl).row hp3
          obtain ⟨gp4, cp4, hvp4, hgp4, hcp4⟩ := (HL14.out.stood 3 rfl).row hp4
          obtain ⟨⟨code3, ⟨dl3, dh3⟩, ⟨wl3, wh3⟩, pil3, boi3, src3⟩, pv3⟩ := p3
          obtain ⟨⟨code4, ⟨dl4, dh4⟩, ⟨wl4, wh4⟩, pil4, boi4, src4⟩, pv4⟩ := p4
          have hcd := hin.code
          have hi1 := hin.dry; have hi2 := hin.water
          unfold Bd.In at hi1 hi2
          simp only at hcd hi1 hi2
          subst hcd
          injection hvp3 with e1 e2 e3
          subst e1 e3
          injection hvp4 with e4 e5 e6
          subst e4 e6
          clear e2 e5 hp3 hp4 hin
          have c30 := cell_regrown (show wr.cell? ⟨gp3, q * 8, none⟩ = some (.string code4) from hcp3 0 (by decide))
          have c31 := cell_regrown (show wr.cell? ⟨gp3, q * 8 + 1, none⟩ = some (.int .i64 dl3) from hcp3 1 (by decide))
          have c32 := cell_regrown (show wr.cell? ⟨gp3, q * 8 + 2, none⟩ = some (.int .i64 dh3) from hcp3 2 (by decide))
          have c33 := cell_regrown (show wr.cell? ⟨gp3, q * 8 + 3, none⟩ = some (.int .i64 wl3) from hcp3 3 (by decide))
          have c34 := cell_regrown (show wr.cell? ⟨gp3, q * 8 + 4, none⟩ = some (.int .i64 wh3) from hcp3 4 (by decide))
          have c40 := cell_regrown (show wr.cell? ⟨gp4, q * 8, none⟩ = some (.string code4) from hcp4 0 (by decide))
          have c41 := cell_regrown (show wr.cell? ⟨gp4, q * 8 + 1, none⟩ = some (.int .i64 dl4) from hcp4 1 (by decide))
          have c42 := cell_regrown (show wr.cell? ⟨gp4, q * 8 + 2, none⟩ = some (.int .i64 dh4) from hcp4 2 (by decide))
          have c43 := cell_regrown (show wr.cell? ⟨gp4, q * 8 + 3, none⟩ = some (.int .i64 wl4) from hcp4 3 (by decide))
          have c44 := cell_regrown (show wr.cell? ⟨gp4, q * 8 + 4, none⟩ = some (.int .i64 wh4) from hcp4 4 (by decide))
          have a1 := regrown_calls (W := wr) (fun W => inside_yes dl4 dh4 dl3 dh3 W hi1)
          have a2 := regrown_calls (W := wr) (fun W => inside_yes wl4 wh4 wl3 wh3 W hi2)
          clear hcp3 hcp4
          have u0 := (show wr.cell? ⟨g3, 0, none⟩ = some (.slice (some ⟨gp3, 0, none⟩) t4n t3c) from HL14.out.at 4 0 (v := .slice (some ⟨gp3, 0, none⟩) t4n t3c) rfl rfl)
          have u1 := (show wr.cell? ⟨g4, 0, none⟩ = some (.slice (some ⟨gp4, 0, none⟩) t4n t4c) from HL14.out.at 5 0 (v := .slice (some ⟨gp4, 0, none⟩) t4n t4c) rfl rfl)
          go_upto_region 24 with (fail)
          clear u0 u1
          have q0 := cell_regrown (show wr.cell? ⟨g3, 0, none⟩ = some (.slice (some ⟨gp3, 0, none⟩) t4n t3c) from HL14.out.at 4 0 (v := .slice (some ⟨gp3, 0, none⟩) t4n t3c) rfl rfl)
          have q1 := cell_regrown (show wr.cell? ⟨g4, 0, none⟩ = some (.slice (some ⟨gp4, 0, none⟩) t4n t4c) from HL14.out.at 5 0 (v := .slice (some ⟨gp4, 0, none⟩) t4n t4c) rfl rfl)
          refine wp_region_quiet_below (by kernel_rfl) (by kernel_rfl) ?_
          repeat (go_big_quiet_step (first | (with_reducible exact a1 _ _) | (with_reducible exact a2 _ _)))
          refine wpQuiet_nil ?_
          intro wq hw'
          have hb8 : Below wr.heap.size wr wq := by obtain ⟨⟨dq, osq⟩, hw''⟩ := hw'; rw [hw'']; exact below_regrown _ dq osq
          clear hw' q0 q1 c30 c31 c32 c33 c34 c40 c41 c42 c43 c44 a1 a2
          have HL15 := Lib.hid (HL14.out.below hb8)
          clear hb8 HL14
          generalize wq = v14 at HL15 ⊢
          go_wp2
          go_roundw
          case rel => exact ⟨q + 1, by omega, by go_num, HL15⟩
          case measure => simp [intOf]; omega
        · have hqe : t4n = q := by omega
          subst hqe
          skip
          have u0 := (show wr.cell? ⟨g3, 0, none⟩ = some (.slice t3a t4n t3c) from HL14.out.at 4 0 (v := .slice t3a t4n t3c) rfl rfl)
          have u1 := (show wr.cell? ⟨g4, 0, none⟩ = some (.slice t4a t4n t4c) from HL14.out.at 5 0 (v := .slice t4a t4n t4c) rfl rfl)
          go_upto_region 26 with (fail)
          clear u0 u1
          go_cut [24, 25] from 225 to 229 (fun sa_ sb_ wx => ∃ ga gb : Nat, sa_ = .pointer (some ⟨ga, 0, none⟩) ∧ sb_ = .pointer (some ⟨gb, 0, none⟩) ∧ Hid (Locs w wx [(gy, 24, [.int .i64 bef, .int .i64 aft, .slice a n c]), (go, 24, [.int .i64 bef, .int .i64 aft, .slice sa sn sc]), (g1, 36, [.slice t1a t1n t1c, .int .i64 vapour10, .int .i64 vapour11, .int .i64 broth10, .int .i64 broth11, .int .i64 dust10, .int .i64 dust11, .int .i64 soldDry10, .int .i64 soldDry11, .int .i64 soldWater10, .int .i64 soldWater11, .int .i64 soaked10, .int .i64 soaked11]), (g2, 36, [.slice t2a t2n t2c, .int .i64 vapour20, .int .i64 vapour21, .int .i64 broth20, .int .i64 broth21, .int .i64 dust20, .int .i64 dust21, .int .i64 soldDry20, .int .i64 soldDry21, .int .i64 soldWater20, .int .i64 soldWater21, .int .i64 soaked20, .int .i64 soaked21]), (g3, 36, [.slice t3a t4n t3c, .int .i64 vapour30, .int .i64 vapour31, .int .i64 broth30, .int .i64 broth31, .int .i64 dust30, .int .i64 dust31, .int .i64 soldDry30, .int .i64 soldDry31, .int .i64 soldWater30, .int .i64 soldWater31, .int .i64 soaked30, .int .i64 soaked31]), (g4, 36, [.slice t4a t4n t4c, .int .i64 vapour40, .int .i64 vapour41, .int .i64 broth40, .int .i64 broth41, .int .i64 dust40, .int .i64 dust41, .int .i64 soldDry40, .int .i64 soldDry41, .int .i64 soldWater40, .int .i64 soldWater41, .int .i64 soaked40, .int .i64 soaked41]), (ga, 34, [.int .i64 vapour40, .int .i64 vapour41, .int .i64 broth40, .int .i64 broth41, .int .i64 dust40, .int .i64 dust41, .int .i64 soldDry40, .int .i64 soldDry41, .int .i64 soldWater40, .int .i64 soldWater41, .int .i64 soaked40, .int .i64 soaked41]), (gb, 34, [.int .i64 vapour30, .int .i64 vapour31, .int .i64 broth30, .int .i64 broth31, .int .i64 dust30, .int .i64 dust31, .int .i64 soldDry30, .int .i64 soldDry31, .int .i64 soldWater30, .int .i64 soldWater31, .int .i64 soaked30, .int .i64 soaked31])] [(rows1, .slice t1a t1n t1c), (rows2, .slice t2a t2n t2c), (rows3, .slice t3a t4n t3c), (rows4, .slice t4a t4n t4c)]))
          case first =>
            have hmix : Try.prog.follows .mixedOrders = true := by kernel_rfl
            refine region_till [] (fun w' => Below wr.heap.size wr w') 8 [false, false, false, false, false, false, false, false] hmix rfl rfl ?_
            clear hmix
            have HT := Lib.hid ((Below.refl wr.heap.size wr).drew)
            have HL15 := Lib.hid (HL14.out.drew)
            generalize wr.drew = v15 at HT HL15 ⊢
            refine till_pure (i := 0) (v := .pointer (some ⟨g4, 1, none⟩)) rfl rfl (by kernel_rfl) (fun _ _ _ h => h) (yields_of rfl (fun w' _ => by simp [go_sem])) (fun _ => HT.out) ?_
            try simp only [List.setIfInBounds_toArray, List.set_cons_succ, List.set_cons_zero]
            refine till_load (i := 1) (v := .agg #[.int .i64 vapour40, .int .i64 vapour41, .int .i64 broth40, .int .i64 broth41, .int .i64 dust40, .int .i64 dust41, .int .i64 soldDry40, .int .i64 soldDry41, .int .i64 soldWater40, .int .i64 soldWater41, .int .i64 soaked40, .int .i64 soaked41]) rfl rfl (by kernel_rfl) (fun _ _ _ h => h) (yields_mid rfl 34 (.tmp 225) rfl (g4) 1 rfl [.int .i64 vapour40, .int .i64 vapour41, .int .i64 broth40, .int .i64 broth41, .int .i64 dust40, .int .i64 dust41, .int .i64 soldDry40, .int .i64 soldDry41, .int .i64 soldWater40, .int .i64 soldWater41, .int .i64 soaked40, .int .i64 soaked41] _ (fun w' hw' => HL14.out.rangeB hw' 5 1 _ rfl rfl) Try.underlying34 rfl (by kernel_rfl)) (fun _ => HT.out) ?_
            try simp only [List.setIfInBounds_toArray, List.set_cons_succ, List.set_cons_zero]
            refine till_pure (i := 2) (v := .pointer (some ⟨g3, 1, none⟩)) rfl rfl (by kernel_rfl) (fun _ _ _ h => h) (yields_of rfl (fun w' _ => by simp [go_sem])) (fun _ => HT.out) ?_
            try simp only [List.setIfInBounds_toArray, List.set_cons_succ, List.set_cons_zero]
            refine till_load (i := 3) (v := .agg #[.int .i64 vapour30, .int .i64 vapour31, .int .i64 broth30, .int .i64 broth31, .int .i64 dust30, .int .i64 dust31, .int .i64 soldDry30, .int .i64 soldDry31, .int .i64 soldWater30, .int .i64 soldWater31, .int .i64 soaked30, .int .i64 soaked31]) rfl rfl (by kernel_rfl) (fun _ _ _ h => h) (yields_mid rfl 34 (.tmp 227) rfl (g3) 1 rfl [.int .i64 vapour30, .int .i64 vapour31, .int .i64 broth30, .int .i64 broth31, .int .i64 dust30, .int .i64 dust31, .int .i64 soldDry30, .int .i64 soldDry31, .int .i64 soldWater30, .int .i64 soldWater31, .int .i64 soaked30, .int .i64 soaked31] _ (fun w' hw' => HL14.out.rangeB hw' 4 1 _ rfl rfl) Try.underlying34 rfl (by kernel_rfl)) (fun _ => HT.out) ?_
            try simp only [List.setIfInBounds_toArray, List.set_cons_succ, List.set_cons_zero]
            refine till_two (i := 4) (j := 5) (by kernel_rfl) rfl rfl ?_ ?_
            · go_wp2_with fail
              have HGE_ga := Lib.hid (show wr.heap.size ≤ v15.heap.size from HT.out.size)
              have HT2 := Lib.hid (HT.out.alloc HT.out.size (.cells #[.int .i64 0, .int .i64 0, .int .i64 0, .int .i64 0, .int .i64 0, .int .i64 0, .int .i64 0, .int .i64 0, .int .i64 0, .int .i64 0, .int .i64 0, .int .i64 0] 34))
              have HL16 := Lib.hid (show Locs w (v15.alloc (.cells #[.int .i64 0, .int .i64 0, .int .i64 0, .int .i64 0, .int .i64 0, .int .i64 0, .int .i64 0, .int .i64 0, .int .i64 0, .int .i64 0, .int .i64 0, .int .i64 0] 34)) [(gy, 24, [.int .i64 bef, .int .i64 aft, .slice a n c]), (go, 24, [.int .i64 bef, .int .i64 aft, .slice sa sn sc]), (g1, 36, [.slice t1a t1n t1c, .int .i64 vapour10, .int .i64 vapour11, .int .i64 broth10, .int .i64 broth11, .int .i64 dust10, .int .i64 dust11, .int .i64 soldDry10, .int .i64 soldDry11, .int .i64 soldWater10, .int .i64 soldWater11, .int .i64 soaked10, .int .i64 soaked11]), (g2, 36, [.slice t2a t2n t2c, .int .i64 vapour20, .int .i64 vapour21, .int .i64 broth20, .int .i64 broth21, .int .i64 dust20, .int .i64 dust21, .int .i64 soldDry20, .int .i64 soldDry21, .int .i64 soldWater20, .int .i64 soldWater21, .int .i64 soaked20, .int .i64 soaked21]), (g3, 36, [.slice t3a t4n t3c, .int .i64 vapour30, .int .i64 vapour31, .int .i64 broth30, .int .i64 broth31, .int .i64 dust30, .int .i64 dust31, .int .i64 soldDry30, .int .i64 soldDry31, .int .i64 soldWater30, .int .i64 soldWater31, .int .i64 soaked30, .int .i64 soaked31]), (g4, 36, [.slice t4a t4n t4c, .int .i64 vapour40, .int .i64 vapour41, .int .i64 broth40, .int .i64 broth41, .int .i64 dust40, .int .i64 dust41, .int .i64 soldDry40, .int .i64 soldDry41, .int .i64 soldWater40, .int .i64 soldWater41, .int .i64 soaked40, .int .i64 soaked41]), (v15.heap.size, 34, [.int .i64 0, .int .i64 0, .int .i64 0, .int .i64 0, .int .i64 0, .int .i64 0, .int .i64 0, .int .i64 0, .int .i64 0, .int .i64 0, .int .i64 0, .int .i64 0])] [(rows1, .slice t1a t1n t1c), (rows2, .slice t2a t2n t2c), (rows3, .slice t3a t4n t3c), (rows4, .slice t4a t4n t4c)] from HL15.out.alloc 34 [.int .i64 0, .int .i64 0, .int .i64 0, .int .i64 0, .int .i64 0, .int .i64 0, .int .i64 0, .int .i64 0, .int .i64 0, .int .i64 0, .int .i64 0, .int .i64 0] rfl)
              clear HL15 HT
              generalize (v15.alloc (.cells #[.int .i64 0, .int .i64 0, .int .i64 0, .int .i64 0, .int .i64 0, .int .i64 0, .int .i64 0, .int .i64 0, .int .i64 0, .int .i64 0, .int .i64 0, .int .i64 0] 34)) = v16 at HL16 HT2 ⊢
              have HT := HT2; clear HT2
              generalize v15.heap.size = ga at HL16 HGE_ga ⊢
              refine ⟨(fun _ => HT.out), ?_⟩
              try simp only [List.setIfInBounds_toArray, List.set_cons_succ, List.set_cons_zero]
              refine till_only (j := 5) (by kernel_rfl) rfl ?_
              go_wp2_with fail
              have HGE_gb := Lib.hid (show wr.heap.size ≤ v16.heap.size from HT.out.size)
              have HT2 := Lib.hid (HT.out.alloc HT.out.size (.cells #[.int .i64 0, .int .i64 0, .int .i64 0, .int .i64 0, .int .i64 0, .int .i64 0, .int .i64 0, .int .i64 0, .int .i64 0, .int .i64 0, .int .i64 0, .int .i64 0] 34))
              have HL17 := Lib.hid (show Locs w (v16.alloc (.cells #[.int .i64 0, .int .i64 0, .int .i64 0, .int .i64 0, .int .i64 0, .int .i64 0, .int .i64 0, .int .i64 0, .int .i64 0, .int .i64 0, .int .i64 0, .int .i64 0] 34)) [(gy, 24, [.int .i64 bef, .int .i64 aft, .slice a n c]), (go, 24, [.int .i64 bef, .int .i64 aft, .slice sa sn sc]), (g1, 36, [.slice t1a t1n t1c, .int .i64 vapour10, .int .i64 vapour11, .int .i64 broth10, .int .i64 broth11, .int .i64 dust10, .int .i64 dust11, .int .i64 soldDry10, .int .i64 soldDry11, .int .i64 soldWater10, .int .i64 soldWater11, .int .i64 soaked10, .int .i64 soaked11]), (g2, 36, [.slice t2a t2n t2c, .int .i64 vapour20, .int .i64 vapour21, .int .i64 broth20, .int .i64 broth21, .int .i64 dust20, .int .i64 dust21, .int .i64 soldDry20, .int .i64 soldDry21, .int .i64 soldWater20, .int .i64 soldWater21, .int .i64 soaked20, .int .i64 soaked21]), (g3, 36, [.slice t3a t4n t3c, .int .i64 vapour30, .int .i64 vapour31, .int .i64 broth30, .int .i64 broth31, .int .i64 dust30, .int .i64 dust31, .int .i64 soldDry30, .int .i64 soldDry31, .int .i64 soldWater30, .int .i64 soldWater31, .int .i64 soaked30, .int .i64 soaked31]), (g4, 36, [.slice t4a t4n t4c, .int .i64 vapour40, .int .i64 vapour41, .int .i64 broth40, .int .i64 broth41, .int .i64 dust40, .int .i64 dust41, .int .i64 soldDry40, .int .i64 soldDry41, .int .i64 soldWater40, .int .i64 soldWater41, .int .i64 soaked40, .int .i64 soaked41]), (ga, 34, [.int .i64 0, .int .i64 0, .int .i64 0, .int .i64 0, .int .i64 0, .int .i64 0, .int .i64 0, .int .i64 0, .int .i64 0, .int .i64 0, .int .i64 0, .int .i64 0]), (v16.heap.size, 34, [.int .i64 0, .int .i64 0, .int .i64 0, .int .i64 0, .int .i64 0, .int .i64 0, .int .i64 0, .int .i64 0, .int .i64 0, .int .i64 0, .int .i64 0, .int .i64 0])] [(rows1, .slice t1a t1n t1c), (rows2, .slice t2a t2n t2c), (rows3, .slice t3a t4n t3c), (rows4, .slice t4a t4n t4c)] from HL16.out.alloc 34 [.int .i64 0, .int .i64 0, .int .i64 0, .int .i64 0, .int .i64 0, .int .i64 0, .int .i64 0, .int .i64 0, .int .i64 0, .int .i64 0, .int .i64 0, .int .i64 0] rfl)
              clear HL16 HT
              generalize (v16.alloc (.cells #[.int .i64 0, .int .i64 0, .int .i64 0, .int .i64 0, .int .i64 0, .int .i64 0, .int .i64 0, .int .i64 0, .int .i64 0, .int .i64 0, .int .i64 0, .int .i64 0] 34)) = v17 at HL17 HT2 ⊢
              have HT := HT2; clear HT2
              generalize v16.heap.size = gb at HL17 HGE_gb ⊢
              refine ⟨(fun _ => HT.out), ?_⟩
              try simp only [List.setIfInBounds_toArray, List.set_cons_succ, List.set_cons_zero]
              refine till_only (j := 6) (by kernel_rfl) rfl ?_
              refine wpList_store_mid rfl 34 (.tmp 24) (.tmp 226) rfl (ga) 0 #[.int .i64 vapour40, .int .i64 vapour41, .int .i64 broth40, .int .i64 broth41, .int .i64 dust40, .int .i64 dust41, .int .i64 soldDry40, .int .i64 soldDry41, .int .i64 soldWater40, .int .i64 soldWater41, .int .i64 soaked40, .int .i64 soaked41] rfl rfl (HL17.out.there 6 (o := 0) (n := 12) rfl (Nat.le_of_ble_eq_true rfl)) size_account (by simp [Value.oneCell']) ?_
              change wpList _ _ _ _ _ (v17.setCells ga 0 [.int .i64 vapour40, .int .i64 vapour41, .int .i64 broth40, .int .i64 broth41, .int .i64 dust40, .int .i64 dust41, .int .i64 soldDry40, .int .i64 soldDry41, .int .i64 soldWater40, .int .i64 soldWater41, .int .i64 soaked40, .int .i64 soaked41])
              have HT2 := Lib.hid (below_setCells HT.out (HGE_ga.out) [.int .i64 vapour40, .int .i64 vapour41, .int .i64 broth40, .int .i64 broth41, .int .i64 dust40, .int .i64 dust41, .int .i64 soldDry40, .int .i64 soldDry41, .int .i64 soldWater40, .int .i64 soldWater41, .int .i64 soaked40, .int .i64 soaked41] 0)
              have HL18 := Lib.hid (show Locs w (v17.setCells ga 0 [.int .i64 vapour40, .int .i64 vapour41, .int .i64 broth40, .int .i64 broth41, .int .i64 dust40, .int .i64 dust41, .int .i64 soldDry40, .int .i64 soldDry41, .int .i64 soldWater40, .int .i64 soldWater41, .int .i64 soaked40, .int .i64 soaked41]) [(gy, 24, [.int .i64 bef, .int .i64 aft, .slice a n c]), (go, 24, [.int .i64 bef, .int .i64 aft, .slice sa sn sc]), (g1, 36, [.slice t1a t1n t1c, .int .i64 vapour10, .int .i64 vapour11, .int .i64 broth10, .int .i64 broth11, .int .i64 dust10, .int .i64 dust11, .int .i64 soldDry10, .int .i64 soldDry11, .int .i64 soldWater10, .int .i64 soldWater11, .int .i64 soaked10, .int .i64 soaked11]), (g2, 36, [.slice t2a t2n t2c, .int .i64 vapour20, .int .i64 vapour21, .int .i64 broth20, .int .i64 broth21, .int .i64 dust20, .int .i64 dust21, .int .i64 soldDry20, .int .i64 soldDry21, .int .i64 soldWater20, .int .i64 soldWater21, .int .i64 soaked20, .int .i64 soaked21]), (g3, 36, [.slice t3a t4n t3c, .int .i64 vapour30, .int .i64 vapour31, .int .i64 broth30, .int .i64 broth31, .int .i64 dust30, .int .i64 dust31, .int .i64 soldDry30, .int .i64 soldDry31, .int .i64 soldWater30, .int .i64 soldWater31, .int .i64 soaked30, .int .i64 soaked31]), (g4, 36, [.slice t4a t4n t4c, .int .i64 vapour40, .int .i64 vapour41, .int .i64 broth40, .int .i64 broth41, .int .i64 dust40, .int .i64 dust41, .int .i64 soldDry40, .int .i64 soldDry41, .int .i64 soldWater40, .int .i64 soldWater41, .int .i64 soaked40, .int .i64 soaked41]), (ga, 34, [.int .i64 vapour40, .int .i64 vapour41, .int .i64 broth40, .int .i64 broth41, .int .i64 dust40, .int .i64 dust41, .int .i64 soldDry40, .int .i64 soldDry41, .int .i64 soldWater40, .int .i64 soldWater41, .int .i64 soaked40, .int .i64 soaked41]), (gb, 34, [.int .i64 0, .int .i64 0, .int .i64 0, .int .i64 0, .int .i64 0, .int .i64 0, .int .i64 0, .int .i64 0, .int .i64 0, .int .i64 0, .int .i64 0, .int .i64 0])] [(rows1, .slice t1a t1n t1c), (rows2, .slice t2a t2n t2c), (rows3, .slice t3a t4n t3c), (rows4, .slice t4a t4n t4c)] from HL17.out.setLoc 6 [] [.int .i64 0, .int .i64 0, .int .i64 0, .int .i64 0, .int .i64 0, .int .i64 0, .int .i64 0, .int .i64 0, .int .i64 0, .int .i64 0, .int .i64 0, .int .i64 0] [] [.int .i64 vapour40, .int .i64 vapour41, .int .i64 broth40, .int .i64 broth41, .int .i64 dust40, .int .i64 dust41, .int .i64 soldDry40, .int .i64 soldDry41, .int .i64 soldWater40, .int .i64 soldWater41, .int .i64 soaked40, .int .i64 soaked41] rfl rfl)
              clear HL17 HT
              generalize (v17.setCells ga 0 [.int .i64 vapour40, .int .i64 vapour41, .int .i64 broth40, .int .i64 broth41, .int .i64 dust40, .int .i64 dust41, .int .i64 soldDry40, .int .i64 soldDry41, .int .i64 soldWater40, .int .i64 soldWater41, .int .i64 soaked40, .int .i64 soaked41]) = v18 at HL18 HT2 ⊢
              have HT := HT2; clear HT2
              change Till _ _ _ _ ∧ wpAnyT _ _ _ _ _ _ _ _ _ _
              refine ⟨(fun _ => HT.out), ?_⟩
              try simp only [List.setIfInBounds_toArray, List.set_cons_succ, List.set_cons_zero]
              refine till_only (j := 7) (by kernel_rfl) rfl ?_
              refine wpList_store_mid rfl 34 (.tmp 25) (.tmp 228) rfl (gb) 0 #[.int .i64 vapour30, .int .i64 vapour31, .int .i64 broth30, .int .i64 broth31, .int .i64 dust30, .int .i64 dust31, .int .i64 soldDry30, .int .i64 soldDry31, .int .i64 soldWater30, .int .i64 soldWater31, .int .i64 soaked30, .int .i64 soaked31] rfl rfl (HL18.out.there 7 (o := 0) (n := 12) rfl (Nat.le_of_ble_eq_true rfl)) size_account (by simp [Value.oneCell']) ?_
              change wpList _ _ _ _ _ (v18.setCells gb 0 [.int .i64 vapour30, .int .i64 vapour31, .int .i64 broth30, .int .i64 broth31, .int .i64 dust30, .int .i64 dust31, .int .i64 soldDry30, .int .i64 soldDry31, .int .i64 soldWater30, .int .i64 soldWater31, .int .i64 soaked30, .int .i64 soaked31])
              have HT2 := Lib.hid (below_setCells HT.out (HGE_gb.out) [.int .i64 vapour30, .int .i64 vapour31, .int .i64 broth30, .int .i64 broth31, .int .i64 dust30, .int .i64 dust31, .int .i64 soldDry30, .int .i64 soldDry31, .int .i64 soldWater30, .int .i64 soldWater31, .int .i64 soaked30, .int .i64 soaked31] 0)
              have HL19 := Lib.hid (show Locs w (v18.setCells gb 0 [.int .i64 vapour30, .int .i64 vapour31, .int .i64 broth30, .int .i64 broth31, .int .i64 dust30, .int .i64 dust31, .int .i64 soldDry30, .int .i64 soldDry31, .int .i64 soldWater30, .int .i64 soldWater31, .int .i64 soaked30, .int .i64 soaked31]) [(gy, 24, [.int .i64 bef, .int .i64 aft, .slice a n c]), (go, 24, [.int .i64 bef, .int .i64 aft, .slice sa sn sc]), (g1, 36, [.slice t1a t1n t1c, .int .i64 vapour10, .int .i64 vapour11, .int .i64 broth10, .int .i64 broth11, .int .i64 dust10, .int .i64 dust11, .int .i64 soldDry10, .int .i64 soldDry11, .int .i64 soldWater10, .int .i64 soldWater11, .int .i64 soaked10, .int .i64 soaked11]), (g2, 36, [.slice t2a t2n t2c, .int .i64 vapour20, .int .i64 vapour21, .int .i64 broth20, .int .i64 broth21, .int .i64 dust20, .int .i64 dust21, .int .i64 soldDry20, .int .i64 soldDry21, .int .i64 soldWater20, .int .i64 soldWater21, .int .i64 soaked20, .int .i64 soaked21]), (g3, 36, [.slice t3a t4n t3c, .int .i64 vapour30, .int .i64 vapour31, .int .i64 broth30, .int .i64 broth31, .int .i64 dust30, .int .i64 dust31, .int .i64 soldDry30, .int .i64 soldDry31, .int .i64 soldWater30, .int .i64 soldWater31, .int .i64 soaked30, .int .i64 soaked31]), (g4, 36, [.slice t4a t4n t4c, .int .i64 vapour40, .int .i64 vapour41, .int .i64 broth40, .int .i64 broth41, .int .i64 dust40, .int .i64 dust41, .int .i64 soldDry40, .int .i64 soldDry41, .int .i64 soldWater40, .int .i64 soldWater41, .int .i64 soaked40, .int .i64 soaked41]), (ga, 34, [.int .i64 vapour40, .int .i64 vapour41, .int .i64 broth40, .int .i64 broth41, .int .i64 dust40, .int .i64 dust41, .int .i64 soldDry40, .int .i64 soldDry41, .int .i64 soldWater40, .int .i64 soldWater41, .int .i64 soaked40, .int .i64 soaked41]), (gb, 34, [.int .i64 vapour30, .int .i64 vapour31, .int .i64 broth30, .int .i64 broth31, .int .i64 dust30, .int .i64 dust31, .int .i64 soldDry30, .int .i64 soldDry31, .int .i64 soldWater30, .int .i64 soldWater31, .int .i64 soaked30, .int .i64 soaked31])] [(rows1, .slice t1a t1n t1c), (rows2, .slice t2a t2n t2c), (rows3, .slice t3a t4n t3c), (rows4, .slice t4a t4n t4c)] from HL18.out.setLoc 7 [] [.int .i64 0, .int .i64 0, .int .i64 0, .int .i64 0, .int .i64 0, .int .i64 0, .int .i64 0, .int .i64 0, .int .i64 0, .int .i64 0, .int .i64 0, .int .i64 0] [] [.int .i64 vapour30, .int .i64 vapour31, .int .i64 broth30, .int .i64 broth31, .int .i64 dust30, .int .i64 dust31, .int .i64 soldDry30, .int .i64 soldDry31, .int .i64 soldWater30, .int .i64 soldWater31, .int .i64 soaked30, .int .i64 soaked31] rfl rfl)
              clear HL18 HT
              generalize (v18.setCells gb 0 [.int .i64 vapour30, .int .i64 vapour31, .int .i64 broth30, .int .i64 broth31, .int .i64 dust30, .int .i64 dust31, .int .i64 soldDry30, .int .i64 soldDry31, .int .i64 soldWater30, .int .i64 soldWater31, .int .i64 soaked30, .int .i64 soaked31]) = v19 at HL19 HT2 ⊢
              have HT := HT2; clear HT2
              change Till _ _ _ _ ∧ wpAnyT _ _ _ _ _ _ _ _ _ _
              refine ⟨(fun _ => HT.out), ?_⟩
              try simp only [List.setIfInBounds_toArray, List.set_cons_succ, List.set_cons_zero]
              refine till_done (by kernel_rfl) ?_
              go_wp2_with fail
              go_meet
              case rel => exact ⟨_, _, rfl, rfl, HL19⟩
            · go_wp2_with fail
              have HGE_gb := Lib.hid (show wr.heap.size ≤ v15.heap.size from HT.out.size)
              have HT2 := Lib.hid (HT.out.alloc HT.out.size (.cells #[.int .i64 0, .int .i64 0, .int .i64 0, .int .i64 0, .int .i64 0, .int .i64 0, .int .i64 0, .int .i64 0, .int .i64 0, .int .i64 0, .int .i64 0, .int .i64 0] 34))
              have HL16 := Lib.hid (show Locs w (v15.alloc (.cells #[.int .i64 0, .int .i64 0, .int .i64 0, .int .i64 0, .int .i64 0, .int .i64 0, .int .i64 0, .int .i64 0, .int .i64 0, .int .i64 0, .int .i64 0, .int .i64 0] 34)) [(gy, 24, [.int .i64 bef, .int .i64 aft, .slice a n c]), (go, 24, [.int .i64 bef, .int .i64 aft, .slice sa sn sc]), (g1, 36, [.slice t1a t1n t1c, .int .i64 vapour10, .int .i64 vapour11, .int .i64 broth10, .int .i64 broth11, .int .i64 dust10, .int .i64 dust11, .int .i64 soldDry10, .int .i64 soldDry11, .int .i64 soldWater10, .int .i64 soldWater11, .int .i64 soaked10, .int .i64 soaked11]), (g2, 36, [.slice t2a t2n t2c, .int .i64 vapour20, .int .i64 vapour21, .int .i64 broth20, .int .i64 broth21, .int .i64 dust20, .int .i64 dust21, .int .i64 soldDry20, .int .i64 soldDry21, .int .i64 soldWater20, .int .i64 soldWater21, .int .i64 soaked20, .int .i64 soaked21]), (g3, 36, [.slice t3a t4n t3c, .int .i64 vapour30, .int .i64 vapour31, .int .i64 broth30, .int .i64 broth31, .int .i64 dust30, .int .i64 dust31, .int .i64 soldDry30, .int .i64 soldDry31, .int .i64 soldWater30, .int .i64 soldWater31, .int .i64 soaked30, .int .i64 soaked31]), (g4, 36, [.slice t4a t4n t4c, .int .i64 vapour40, .int .i64 vapour41, .int .i64 broth40, .int .i64 broth41, .int .i64 dust40, .int .i64 dust41, .int .i64 soldDry40, .int .i64 soldDry41, .int .i64 soldWater40, .int .i64 soldWater41, .int .i64 soaked40, .int .i64 soaked41]), (v15.heap.size, 34, [.int .i64 0, .int .i64 0, .int .i64 0, .int .i64 0, .int .i64 0, .int .i64 0, .int .i64 0, .int .i64 0, .int .i64 0, .int .i64 0, .int .i64 0, .int .i64 0])] [(rows1, .slice t1a t1n t1c), (rows2, .slice t2a t2n t2c), (rows3, .slice t3a t4n t3c), (rows4, .slice t4a t4n t4c)] from HL15.out.alloc 34 [.int .i64 0, .int .i64 0, .int .i64 0, .int .i64 0, .int .i64 0, .int .i64 0, .int .i64 0, .int .i64 0, .int .i64 0, .int .i64 0, .int .i64 0, .int .i64 0] rfl)
              clear HL15 HT
              generalize (v15.alloc (.cells #[.int .i64 0, .int .i64 0, .int .i64 0, .int .i64 0, .int .i64 0, .int .i64 0, .int .i64 0, .int .i64 0, .int .i64 0, .int .i64 0, .int .i64 0, .int .i64 0] 34)) = v20 at HL16 HT2 ⊢
              have HT := HT2; clear HT2
              generalize v15.heap.size = gb at HL16 HGE_gb ⊢
              refine ⟨(fun _ => HT.out), ?_⟩
              try simp only [List.setIfInBounds_toArray, List.set_cons_succ, List.set_cons_zero]
              refine till_only (j := 4) (by kernel_rfl) rfl ?_
              go_wp2_with fail
              have HGE_ga := Lib.hid (show wr.heap.size ≤ v20.heap.size from HT.out.size)
              have HT2 := Lib.hid (HT.out.alloc HT.out.size (.cells #[.int .i64 0, .int .i64 0, .int .i64 0, .int .i64 0, .int .i64 0, .int .i64 0, .int .i64 0, .int .i64 0, .int .i64 0, .int .i64 0, .int .i64 0, .int .i64 0] 34))
              have HL17 := Lib.hid (show Locs w (v20.alloc (.cells #[.int .i64 0, .int .i64 0, .int .i64 0, .int .i64 0, .int .i64 0, .int .i64 0, .int .i64 0, .int .i64 0, .int .i64 0, .int .i64 0, .int .i64 0, .int .i64 0] 34)) [(gy, 24, [.int .i64 bef, .int .i64 aft, .slice a n c]), (go, 24, [.int .i64 bef, .int .i64 aft, .slice sa sn sc]), (g1, 36, [.slice t1a t1n t1c, .int .i64 vapour10, .int .i64 vapour11, .int .i64 broth10, .int .i64 broth11, .int .i64 dust10, .int .i64 dust11, .int .i64 soldDry10, .int .i64 soldDry11, .int .i64 soldWater10, .int .i64 soldWater11, .int .i64 soaked10, .int .i64 soaked11]), (g2, 36, [.slice t2a t2n t2c, .int .i64 vapour20, .int .i64 vapour21, .int .i64 broth20, .int .i64 broth21, .int .i64 dust20, .int .i64 dust21, .int .i64 soldDry20, .int .i64 soldDry21, .int .i64 soldWater20, .int .i64 soldWater21, .int .i64 soaked20, .int .i64 soaked21]), (g3, 36, [.slice t3a t4n t3c, .int .i64 vapour30, .int .i64 vapour31, .int .i64 broth30, .int .i64 broth31, .int .i64 dust30, .int .i64 dust31, .int .i64 soldDry30, .int .i64 soldDry31, .int .i64 soldWater30, .int .i64 soldWater31, .int .i64 soaked30, .int .i64 soaked31]), (g4, 36, [.slice t4a t4n t4c, .int .i64 vapour40, .int .i64 vapour41, .int .i64 broth40, .int .i64 broth41, .int .i64 dust40, .int .i64 dust41, .int .i64 soldDry40, .int .i64 soldDry41, .int .i64 soldWater40, .int .i64 soldWater41, .int .i64 soaked40, .int .i64 soaked41]), (gb, 34, [.int .i64 0, .int .i64 0, .int .i64 0, .int .i64 0, .int .i64 0, .int .i64 0, .int .i64 0, .int .i64 0, .int .i64 0, .int .i64 0, .int .i64 0, .int .i64 0]), (v20.heap.size, 34, [.int .i64 0, .int .i64 0, .int .i64 0, .int .i64 0, .int .i64 0, .int .i64 0, .int .i64 0, .int .i64 0, .int .i64 0, .int .i64 0, .int .i64 0, .int .i64 0])] [(rows1, .slice t1a t1n t1c), (rows2, .slice t2a t2n t2c), (rows3, .slice t3a t4n t3c), (rows4, .slice t4a t4n t4c)] from HL16.out.alloc 34 [.int .i64 0, .int .i64 0, .int .i64 0, .int .i64 0, .int .i64 0, .int .i64 0, .int .i64 0, .int .i64 0, .int .i64 0, .int .i64 0, .int .i64 0, .int .i64 0] rfl)
              clear HL16 HT
              generalize (v20.alloc (.cells #[.int .i64 0, .int .i64 0, .int .i64 0, .int .i64 0, .int .i64 0, .int .i64 0, .int .i64 0, .int .i64 0, .int .i64 0, .int .i64 0, .int .i64 0, .int .i64 0] 34)) = v21 at HL17 HT2 ⊢
              have HT := HT2; clear HT2
              generalize v20.heap.size = ga at HL17 HGE_ga ⊢
              refine ⟨(fun _ => HT.out), ?_⟩
              try simp only [List.setIfInBounds_toArray, List.set_cons_succ, List.set_cons_zero]
              refine till_only (j := 6) (by kernel_rfl) rfl ?_
              refine wpList_store_mid rfl 34 (.tmp 24) (.tmp 226) rfl (ga) 0 #[.int .i64 vapour40, .int .i64 vapour41, .int .i64 broth40, .int .i64 broth41, .int .i64 dust40, .int .i64 dust41, .int .i64 soldDry40, .int .i64 soldDry41, .int .i64 soldWater40, .int .i64 soldWater41, .int .i64 soaked40, .int .i64 soaked41] rfl rfl (HL17.out.there 7 (o := 0) (n := 12) rfl (Nat.le_of_ble_eq_true rfl)) size_account (by simp [Value.oneCell']) ?_
              change wpList _ _ _ _ _ (v21.setCells ga 0 [.int .i64 vapour40, .int .i64 vapour41, .int .i64 broth40, .int .i64 broth41, .int .i64 dust40, .int .i64 dust41, .int .i64 soldDry40, .int .i64 soldDry41, .int .i64 soldWater40, .int .i64 soldWater41, .int .i64 soaked40, .int .i64 soaked41])
              have HT2 := Lib.hid (below_setCells HT.out (HGE_ga.out) [.int .i64 vapour40, .int .i64 vapour41, .int .i64 broth40, .int .i64 broth41, .int .i64 dust40, .int .i64 dust41, .int .i64 soldDry40, .int .i64 soldDry41, .int .i64 soldWater40, .int .i64 soldWater41, .int .i64 soaked40, .int .i64 soaked41] 0)
              have HL18 := Lib.hid (show Locs w (v21.setCells ga 0 [.int .i64 vapour40, .int .i64 vapour41, .int .i64 broth40, .int .i64 broth41, .int .i64 dust40, .int .i64 dust41, .int .i64 soldDry40, .int .i64 soldDry41, .int .i64 soldWater40, .int .i64 soldWater41, .int .i64 soaked40, .int .i64 soaked41]) [(gy, 24, [.int .i64 bef, .int .i64 aft, .slice a n c]), (go, 24, [.int .i64 bef, .int .i64 aft, .slice sa sn sc]), (g1, 36, [.slice t1a t1n t1c, .int .i64 vapour10, .int .i64 vapour11, .int .i64 broth10, .int .i64 broth11, .int .i64 dust10, .int .i64 dust11, .int .i64 soldDry10, .int .i64 soldDry11, .int .i64 soldWater10, .int .i64 soldWater11, .int .i64 soaked10, .int .i64 soaked11]), (g2, 36, [.slice t2a t2n t2c, .int .i64 vapour20, .int .i64 vapour21, .int .i64 broth20, .int .i64 broth21, .int .i64 dust20, .int .i64 dust21, .int .i64 soldDry20, .int .i64 soldDry21, .int .i64 soldWater20, .int .i64 soldWater21, .int .i64 soaked20, .int .i64 soaked21]), (g3, 36, [.slice t3a t4n t3c, .int .i64 vapour30, .int .i64 vapour31, .int .i64 broth30, .int .i64 broth31, .int .i64 dust30, .int .i64 dust31, .int .i64 soldDry30, .int .i64 soldDry31, .int .i64 soldWater30, .int .i64 soldWater31, .int .i64 soaked30, .int .i64 soaked31]), (g4, 36, [.slice t4a t4n t4c, .int .i64 vapour40, .int .i64 vapour41, .int .i64 broth40, .int .i64 broth41, .int .i64 dust40, .int .i64 dust41, .int .i64 soldDry40, .int .i64 soldDry41, .int .i64 soldWater40, .int .i64 soldWater41, .int .i64 soaked40, .int .i64 soaked41]), (gb, 34, [.int .i64 0, .int .i64 0, .int .i64 0, .int .i64 0, .int .i64 0, .int .i64 0, .int .i64 0, .int .i64 0, .int .i64 0, .int .i64 0, .int .i64 0, .int .i64 0]), (ga, 34, [.int .i64 vapour40, .int .i64 vapour41, .int .i64 broth40, .int .i64 broth41, .int .i64 dust40, .int .i64 dust41, .int .i64 soldDry40, .int .i64 soldDry41, .int .i64 soldWater40, .int .i64 soldWater41, .int .i64 soaked40, .int .i64 soaked41])] [(rows1, .slice t1a t1n t1c), (rows2, .slice t2a t2n t2c), (rows3, .slice t3a t4n t3c), (rows4, .slice t4a t4n t4c)] from HL17.out.setLoc 7 [] [.int .i64 0, .int .i64 0, .int .i64 0, .int .i64 0, .int .i64 0, .int .i64 0, .int .i64 0, .int .i64 0, .int .i64 0, .int .i64 0, .int .i64 0, .int .i64 0] [] [.int .i64 vapour40, .int .i64 vapour41, .int .i64 broth40, .int .i64 broth41, .int .i64 dust40, .int .i64 dust41, .int .i64 soldDry40, .int .i64 soldDry41, .int .i64 soldWater40, .int .i64 soldWater41, .int .i64 soaked40, .int .i64 soaked41] rfl rfl)
              clear HL17 HT
              generalize (v21.setCells ga 0 [.int .i64 vapour40, .int .i64 vapour41, .int .i64 broth40, .int .i64 broth41, .int .i64 dust40, .int .i64 dust41, .int .i64 soldDry40, .int .i64 soldDry41, .int .i64 soldWater40, .int .i64 soldWater41, .int .i64 soaked40, .int .i64 soaked41]) = v22 at HL18 HT2 ⊢
              have HT := HT2; clear HT2
              change Till _ _ _ _ ∧ wpAnyT _ _ _ _ _ _ _ _ _ _
              refine ⟨(fun _ => HT.out), ?_⟩
              try simp only [List.setIfInBounds_toArray, List.set_cons_succ, List.set_cons_zero]
              refine till_only (j := 7) (by kernel_rfl) rfl ?_
              refine wpList_store_mid rfl 34 (.tmp 25) (.tmp 228) rfl (gb) 0 #[.int .i64 vapour30, .int .i64 vapour31, .int .i64 broth30, .int .i64 broth31, .int .i64 dust30, .int .i64 dust31, .int .i64 soldDry30, .int .i64 soldDry31, .int .i64 soldWater30, .int .i64 soldWater31, .int .i64 soaked30, .int .i64 soaked31] rfl rfl (HL18.out.there 6 (o := 0) (n := 12) rfl (Nat.le_of_ble_eq_true rfl)) size_account (by simp [Value.oneCell']) ?_
              change wpList _ _ _ _ _ (v22.setCells gb 0 [.int .i64 vapour30, .int .i64 vapour31, .int .i64 broth30, .int .i64 broth31, .int .i64 dust30, .int .i64 dust31, .int .i64 soldDry30, .int .i64 soldDry31, .int .i64 soldWater30, .int .i64 soldWater31, .int .i64 soaked30, .int .i64 soaked31])
              have HT2 := Lib.hid (below_setCells HT.out (HGE_gb.out) [.int .i64 vapour30, .int .i64 vapour31, .int .i64 broth30, .int .i64 broth31, .int .i64 dust30, .int .i64 dust31, .int .i64 soldDry30, .int .i64 soldDry31, .int .i64 soldWater30, .int .i64 soldWater31, .int .i64 soaked30, .int .i64 soaked31] 0)
              have HL19 := Lib.hid (show Locs w (v22.setCells gb 0 [.int .i64 vapour30, .int .i64 vapour31, .int .i64 broth30, .int .i64 broth31, .int .i64 dust30, .int .i64 dust31, .int .i64 soldDry30, .int .i64 soldDry31, .int .i64 soldWater30, .int .i64 soldWater31, .int .i64 soaked30, .int .i64 soaked31]) [(gy, 24, [.int .i64 bef, .int .i64 aft, .slice a n c]), (go, 24, [.int .i64 bef, .int .i64 aft, .slice sa sn sc]), (g1, 36, [.slice t1a t1n t1c, .int .i64 vapour10, .int .i64 vapour11, .int .i64 broth10, .int .i64 broth11, .int .i64 dust10, .int .i64 dust11, .int .i64 soldDry10, .int .i64 soldDry11, .int .i64 soldWater10, .int .i64 soldWater11, .int .i64 soaked10, .int .i64 soaked11]), (g2, 36, [.slice t2a t2n t2c, .int .i64 vapour20, .int .i64 vapour21, .int .i64 broth20, .int .i64 broth21, .int .i64 dust20, .int .i64 dust21, .int .i64 soldDry20, .int .i64 soldDry21, .int .i64 soldWater20, .int .i64 soldWater21, .int .i64 soaked20, .int .i64 soaked21]), (g3, 36, [.slice t3a t4n t3c, .int .i64 vapour30, .int .i64 vapour31, .int .i64 broth30, .int .i64 broth31, .int .i64 dust30, .int .i64 dust31, .int .i64 soldDry30, .int .i64 soldDry31, .int .i64 soldWater30, .int .i64 soldWater31, .int .i64 soaked30, .int .i64 soaked31]), (g4, 36, [.slice t4a t4n t4c, .int .i64 vapour40, .int .i64 vapour41, .int .i64 broth40, .int .i64 broth41, .int .i64 dust40, .int .i64 dust41, .int .i64 soldDry40, .int .i64 soldDry41, .int .i64 soldWater40, .int .i64 soldWater41, .int .i64 soaked40, .int .i64 soaked41]), (gb, 34, [.int .i64 vapour30, .int .i64 vapour31, .int .i64 broth30, .int .i64 broth31, .int .i64 dust30, .int .i64 dust31, .int .i64 soldDry30, .int .i64 soldDry31, .int .i64 soldWater30, .int .i64 soldWater31, .int .i64 soaked30, .int .i64 soaked31]), (ga, 34, [.int .i64 vapour40, .int .i64 vapour41, .int .i64 broth40, .int .i64 broth41, .int .i64 dust40, .int .i64 dust41, .int .i64 soldDry40, .int .i64 soldDry41, .int .i64 soldWater40, .int .i64 soldWater41, .int .i64 soaked40, .int .i64 soaked41])] [(rows1, .slice t1a t1n t1c), (rows2, .slice t2a t2n t2c), (rows3, .slice t3a t4n t3c), (rows4, .slice t4a t4n t4c)] from HL18.out.setLoc 6 [] [.int .i64 0, .int .i64 0, .int .i64 0, .int .i64 0, .int .i64 0, .int .i64 0, .int .i64 0, .int .i64 0, .int .i64 0, .int .i64 0, .int .i64 0, .int .i64 0] [] [.int .i64 vapour30, .int .i64 vapour31, .int .i64 broth30, .int .i64 broth31, .int .i64 dust30, .int .i64 dust31, .int .i64 soldDry30, .int .i64 soldDry31, .int .i64 soldWater30, .int .i64 soldWater31, .int .i64 soaked30, .int .i64 soaked31] rfl rfl)
              clear HL18 HT
              generalize (v22.setCells gb 0 [.int .i64 vapour30, .int .i64 vapour31, .int .i64 broth30, .int .i64 broth31, .int .i64 dust30, .int .i64 dust31, .int .i64 soldDry30, .int .i64 soldDry31, .int .i64 soldWater30, .int .i64 soldWater31, .int .i64 soaked30, .int .i64 soaked31]) = v23 at HL19 HT2 ⊢
              have HT := HT2; clear HT2
              change Till _ _ _ _ ∧ wpAnyT _ _ _ _ _ _ _ _ _ _
              refine ⟨(fun _ => HT.out), ?_⟩
              try simp only [List.setIfInBounds_toArray, List.set_cons_succ, List.set_cons_zero]
              refine till_done (by kernel_rfl) ?_
              go_wp2_with fail
              go_meet
              case rel => exact ⟨_, _, rfl, rfl, Lib.hid (HL19.out.perm (List.Perm.append_left ([(gy, 24, [.int .i64 bef, .int .i64 aft, .slice a n c]), (go, 24, [.int .i64 bef, .int .i64 aft, .slice sa sn sc]), (g1, 36, [.slice t1a t1n t1c, .int .i64 vapour10, .int .i64 vapour11, .int .i64 broth10, .int .i64 broth11, .int .i64 dust10, .int .i64 dust11, .int .i64 soldDry10, .int .i64 soldDry11, .int .i64 soldWater10, .int .i64 soldWater11, .int .i64 soaked10, .int .i64 soaked11]), (g2, 36, [.slice t2a t2n t2c, .int .i64 vapour20, .int .i64 vapour21, .int .i64 broth20, .int .i64 broth21, .int .i64 dust20, .int .i64 dust21, .int .i64 soldDry20, .int .i64 soldDry21, .int .i64 soldWater20, .int .i64 soldWater21, .int .i64 soaked20, .int .i64 soaked21]), (g3, 36, [.slice t3a t4n t3c, .int .i64 vapour30, .int .i64 vapour31, .int .i64 broth30, .int .i64 broth31, .int .i64 dust30, .int .i64 dust31, .int .i64 soldDry30, .int .i64 soldDry31, .int .i64 soldWater30, .int .i64 soldWater31, .int .i64 soaked30, .int .i64 soaked31]), (g4, 36, [.slice t4a t4n t4c, .int .i64 vapour40, .int .i64 vapour41, .int .i64 broth40, .int .i64 broth41, .int .i64 dust40, .int .i64 dust41, .int .i64 soldDry40, .int .i64 soldDry41, .int .i64 soldWater40, .int .i64 soldWater41, .int .i64 soaked40, .int .i64 soaked41])] : List (Nat × TypeId × List Value)) (List.Perm.swap ((gb, 34, [.int .i64 vapour30, .int .i64 vapour31, .int .i64 broth30, .int .i64 broth31, .int .i64 dust30, .int .i64 dust31, .int .i64 soldDry30, .int .i64 soldDry31, .int .i64 soldWater30, .int .i64 soldWater31, .int .i64 soaked30, .int .i64 soaked31]) : Nat × TypeId × List Value) ((ga, 34, [.int .i64 vapour40, .int .i64 vapour41, .int .i64 broth40, .int .i64 broth41, .int .i64 dust40, .int .i64 dust41, .int .i64 soldDry40, .int .i64 soldDry41, .int .i64 soldWater40, .int .i64 soldWater41, .int .i64 soaked40, .int .i64 soaked41]) : Nat × TypeId × List Value) [])))⟩
          case rest =>
            obtain ⟨ga, gb, rfl, rfl, HL15⟩ := hcut
            obtain ⟨h1, h2, h3, h4, h5, h6⟩ := HIN.out.acc
            unfold Bd.In at h1 h2 h3 h4 h5 h6
            simp only [stOf] at h1 h2 h3 h4 h5 h6
            have HLZ := HL15
            have za0 := HLZ.out.at 6 0 (v := .int .i64 vapour40) rfl rfl
            have zb0 := HLZ.out.at 7 0 (v := .int .i64 vapour30) rfl rfl
            have za1 := HLZ.out.at 6 1 (v := .int .i64 vapour41) rfl rfl
            have zb1 := HLZ.out.at 7 1 (v := .int .i64 vapour31) rfl rfl
            have za2 := HLZ.out.at 6 2 (v := .int .i64 broth40) rfl rfl
            have zb2 := HLZ.out.at 7 2 (v := .int .i64 broth30) rfl rfl
            have za3 := HLZ.out.at 6 3 (v := .int .i64 broth41) rfl rfl
            have zb3 := HLZ.out.at 7 3 (v := .int .i64 broth31) rfl rfl
            have za4 := HLZ.out.at 6 4 (v := .int .i64 dust40) rfl rfl
            have zb4 := HLZ.out.at 7 4 (v := .int .i64 dust30) rfl rfl
            have za5 := HLZ.out.at 6 5 (v := .int .i64 dust41) rfl rfl
            have zb5 := HLZ.out.at 7 5 (v := .int .i64 dust31) rfl rfl
            have za6 := HLZ.out.at 6 6 (v := .int .i64 soldDry40) rfl rfl
            have zb6 := HLZ.out.at 7 6 (v := .int .i64 soldDry30) rfl rfl
            have za7 := HLZ.out.at 6 7 (v := .int .i64 soldDry41) rfl rfl
            have zb7 := HLZ.out.at 7 7 (v := .int .i64 soldDry31) rfl rfl
            have za8 := HLZ.out.at 6 8 (v := .int .i64 soldWater40) rfl rfl
            have zb8 := HLZ.out.at 7 8 (v := .int .i64 soldWater30) rfl rfl
            have za9 := HLZ.out.at 6 9 (v := .int .i64 soldWater41) rfl rfl
            have zb9 := HLZ.out.at 7 9 (v := .int .i64 soldWater31) rfl rfl
            have za10 := HLZ.out.at 6 10 (v := .int .i64 soaked40) rfl rfl
            have zb10 := HLZ.out.at 7 10 (v := .int .i64 soaked30) rfl rfl
            have za11 := HLZ.out.at 6 11 (v := .int .i64 soaked41) rfl rfl
            have zb11 := HLZ.out.at 7 11 (v := .int .i64 soaked31) rfl rfl
            go_wp2_with (first
              | (go_at_call 23; refine (inside_yes _ _ _ _ _ (by first | exact h1 | exact h2 | exact h3 | exact h4 | exact h5 | exact h6)).mono ?_; rintro e w8 ⟨rfl, hb8⟩; clear za0 zb0 za1 zb1 za2 zb2 za3 zb3 za4 zb4 za5 zb5 za6 zb6 za7 zb7 za8 zb8 za9 zb9 za10 zb10 za11 zb11; have HLY := Lib.hid (HLZ.out.below hb8); clear HLZ hb8; have HLZ := HLY; clear HLY; have za0 := HLZ.out.at 6 0 (v := .int .i64 vapour40) rfl rfl; have zb0 := HLZ.out.at 7 0 (v := .int .i64 vapour30) rfl rfl; have za1 := HLZ.out.at 6 1 (v := .int .i64 vapour41) rfl rfl; have zb1 := HLZ.out.at 7 1 (v := .int .i64 vapour31) rfl rfl; have za2 := HLZ.out.at 6 2 (v := .int .i64 broth40) rfl rfl; have zb2 := HLZ.out.at 7 2 (v := .int .i64 broth30) rfl rfl; have za3 := HLZ.out.at 6 3 (v := .int .i64 broth41) rfl rfl; have zb3 := HLZ.out.at 7 3 (v := .int .i64 broth31) rfl rfl; have za4 := HLZ.out.at 6 4 (v := .int .i64 dust40) rfl rfl; have zb4 := HLZ.out.at 7 4 (v := .int .i64 dust30) rfl rfl; have za5 := HLZ.out.at 6 5 (v := .int .i64 dust41) rfl rfl; have zb5 := HLZ.out.at 7 5 (v := .int .i64 dust31) rfl rfl; have za6 := HLZ.out.at 6 6 (v := .int .i64 soldDry40) rfl rfl; have zb6 := HLZ.out.at 7 6 (v := .int .i64 soldDry30) rfl rfl; have za7 := HLZ.out.at 6 7 (v := .int .i64 soldDry41) rfl rfl; have zb7 := HLZ.out.at 7 7 (v := .int .i64 soldDry31) rfl rfl; have za8 := HLZ.out.at 6 8 (v := .int .i64 soldWater40) rfl rfl; have zb8 := HLZ.out.at 7 8 (v := .int .i64 soldWater30) rfl rfl; have za9 := HLZ.out.at 6 9 (v := .int .i64 soldWater41) rfl rfl; have zb9 := HLZ.out.at 7 9 (v := .int .i64 soldWater31) rfl rfl; have za10 := HLZ.out.at 6 10 (v := .int .i64 soaked40) rfl rfl; have zb10 := HLZ.out.at 7 10 (v := .int .i64 soaked30) rfl rfl; have za11 := HLZ.out.at 6 11 (v := .int .i64 soaked41) rfl rfl; have zb11 := HLZ.out.at 7 11 (v := .int .i64 soaked31) rfl rfl)
              | (go_at_call 15; refine (stands_calls _).mono ?_; rintro e w9 ⟨rfl, hb9⟩; have HL99 := Lib.hid (HLZ.out.below hb9); clear hb9))
            go_ret
            exact lawDone HL99.out.low

/-- YardNarrow, whatever comes in. -/
theorem narrow_law (bef aft : Int) (v : Value) (ds : List (Deed Code)) (pv : Value) (xs : List Int) (w : World) (h : Held w.heap.size w 8 deedCells v ds) (hsz : ∀ d ∈ ds, d.stack.size ≤ maxLen ∧ d.other.size ≤ maxLen) (hpv : Held w.heap.size w 1 pickCells pv xs) (hxs : ∀ x ∈ xs, 0 ≤ x ∧ x ≤ 65535) :
    Calls Try.prog 7 #[.agg #[.int .i64 bef, .int .i64 aft, v], pv] w (LawDone w) := by
  obtain ⟨pa, pc, hv, _, _⟩ := hpv.slice
  cases hg : greatB ds with
  | true => rw [hv]; exact narrow_stands bef aft v ds pa _ pc w h (.inl hg)
  | false =>
    by_cases hok : errYard bef aft ds = 0
    · exact narrow_real bef aft v ds pv xs w h hsz hg hok hpv hxs
    · rw [hv]; exact narrow_stands bef aft v ds pa _ pc w h (.inr hok)
end Go.Proofs.Ytmcmhgpmefelfaa
