/- YardRests: the law's walk. -/
import Derived.Test.YtmcmhgpmefelfaaYRestFacts
namespace Go.Proofs.Ytmcmhgpmefelfaa
open Go Go.RowKit Go.Shelf Yd

set_option maxRecDepth 100000 in
set_option maxHeartbeats 8000000 in
/-- A yard that the statements pass over, or that has an error. -/
theorem rests_stands (bef aft : Int) (v : Value) (ds : List (Deed Code)) (x1 x2 : Int) (w : World) (h : Held w.heap.size w 8 deedCells v ds) (hno : greatB ds = true ∨ errYard bef aft ds ≠ 0) :
    Calls Try.prog 8 #[.agg #[.int .i64 bef, .int .i64 aft, v], .int .u16 x1, .int .u16 x2] w (LawDone w) := by
  obtain ⟨a, c, hv, _, _⟩ := h.slice
  have HGR := Lib.hid (fun (W : World) (hW : Below w.heap.size w W) => great_calls bef aft v ds W ((h.below hW).mono hW.size))
  have HCK := Lib.hid (fun (W : World) (hW : Below w.heap.size w W) => refYard_calls bef aft v ds W ((h.below hW).mono hW.size))
  subst hv
  obtain ⟨n, hnn⟩ : ∃ n, n = ds.length := ⟨_, rfl⟩
  rw [← hnn] at HGR HCK ⊢
  have HW0 := Lib.hid ((Below.refl w.heap.size w).alloc (Nat.le_refl _) (.cells #[.int .i64 bef, .int .i64 aft, .slice a n c] 24))
  have HY0 := Lib.hid (Blk.new w 24 #[.int .i64 bef, .int .i64 aft, .slice a n c])
  clear h hnn
  cases hg : greatB ds with
  | true =>
    have HG := Lib.hid hg
    clear hg hno
    go_enter Try.func8, Try.ntmps8
    go_wp2_with (first
      | (go_at_call 13; refine (HGR.out _ HW0.out).mono ?_; rintro e w1 ⟨rfl, hb1⟩; rw [HG.out]; have HW1 := Lib.hid (HW0.out.trans (hb1.mono HW0.out.size)); have HY1 := Lib.hid (HY0.out.below hb1); clear hb1)
      | (go_at_call 15; refine (stands_calls _).mono ?_; rintro e w2 ⟨rfl, hb2⟩; have HW2 := Lib.hid (HW1.out.trans (hb2.mono HW1.out.size)); clear hb2))
    go_ret
    exact lawDone HW2.out
  | false =>
    have HG := Lib.hid hg
    have hno : errYard bef aft ds ≠ 0 := hno.resolve_left (by rw [hg]; simp)
    have d1 : (errYard bef aft ds == 0) = false := by simpa using hno
    have d2 : (errYard bef aft ds != 0) = true := by simpa using hno
    clear hg hno
    generalize errYard bef aft ds = ey at HCK d1 d2
    go_enter Try.func8, Try.ntmps8
    go_wp2_with (first
      | (go_at_call 13; refine (HGR.out _ HW0.out).mono ?_; rintro e w1 ⟨rfl, hb1⟩; rw [HG.out]; have HW1 := Lib.hid (HW0.out.trans (hb1.mono HW0.out.size)); have HY1 := Lib.hid (HY0.out.below hb1); have y0 := HY1.out.at 0 _ rfl; have y1 := HY1.out.at 1 _ rfl; have y2 := HY1.out.at 2 _ rfl; clear hb1)
      | (go_at_call 14; refine (HCK.out _ HW1.out).mono ?_; rintro e w2 ⟨rfl, hb2⟩; have HW2 := Lib.hid (HW1.out.trans (hb2.mono HW1.out.size)); clear hb2)
      | (go_at_call 15; refine (stands_calls _).mono ?_; rintro e w3 ⟨rfl, hb3⟩; have HW3 := Lib.hid (HW2.out.trans (hb3.mono HW2.out.size)); clear hb3))
    go_ret
    exact lawDone HW3.out

set_option maxRecDepth 100000 in
set_option maxHeartbeats 16000000 in
theorem rests_real (bef aft : Int) (v : Value) (ds : List (Deed Code)) (x1 x2 : Int) (w : World) (h : Held w.heap.size w 8 deedCells v ds) (hsz : ∀ d ∈ ds, d.stack.size ≤ maxLen ∧ d.other.size ≤ maxLen) (hg : greatB ds = false) (hok : errYard bef aft ds = 0)
    (hx1 : 0 ≤ x1 ∧ x1 ≤ 65535) (hx2 : 0 ≤ x2 ∧ x2 ≤ 65535) :
    Calls Try.prog 8 #[.agg #[.int .i64 bef, .int .i64 aft, v], .int .u16 x1, .int .u16 x2] w (LawDone w) := by
  have h12 := great_few hg hok
  obtain ⟨a, c, hv, _, hcs⟩ := h.slice
  have HCS := Lib.hid hcs
  have HGR := Lib.hid (fun (W : World) (hW : Below w.heap.size w W) => great_calls bef aft v ds W ((h.below hW).mono hW.size))
  have HCK := Lib.hid (fun (W : World) (hW : Below w.heap.size w W) => refYard_calls bef aft v ds W ((h.below hW).mono hW.size))
  have HFO := Lib.hid (fun (k0 : Nat) (hk : k0 ≤ ds.length) (W : World) (hW : Below w.heap.size w W) => follow_calls bef aft v ds k0 W ((h.below hW).mono hW.size) hok hsz hk (Nat.le_trans hk h12))
  have HFB := Lib.hid (fun (B A : Int) (hB : 0 ≤ B ∧ B ≤ bef) (hA : 0 ≤ A ∧ A ≤ aft) (k0 : Nat) (hk : k0 ≤ ds.length) (W : World) (hW : Below w.heap.size w W) => follow_calls B A v ds k0 W ((h.below hW).mono hW.size) (errYard_shorter hok hB hA) hsz hk (Nat.le_trans hk h12))
  subst hv
  obtain ⟨n, hnn⟩ : ∃ n, n = ds.length := ⟨_, rfl⟩
  have HN := Lib.hid hnn
  rw [← hnn] at HGR HCK HFO HFB h12 ⊢
  have HG := Lib.hid hg; have HOK := Lib.hid hok; have HSZ := Lib.hid hsz
  have HFITS := Lib.hid (show ∀ d ∈ ds, Fits d from errDeeds_all (errYard_ok hok).2.2.2)
  have hbef : 0 ≤ bef ∧ bef ≤ 400 := by have := (errYard_ok hok).1; simpa [inB] using this
  have haft : 0 ≤ aft ∧ aft ≤ 400 := by have := (errYard_ok hok).2.1; simpa [inB] using this
  obtain ⟨hx10, hx11⟩ := hx1
  obtain ⟨hx20, hx21⟩ := hx2
  clear h hsz hnn hg hok hcs
  have HL0 := Lib.hid (show Locs w (w.alloc (.cells #[.int .i64 bef, .int .i64 aft, .slice a n c] 24)) [(w.heap.size, 24, [.int .i64 bef, .int .i64 aft, .slice a n c])] [] from (Locs.start w).alloc 24 [.int .i64 bef, .int .i64 aft, .slice a n c] rfl)
  go_enter Try.func8, Try.ntmps8
  go_upto_region 3 with (first
    | (go_at_call 13; refine (HGR.out _ HL0.out.low).mono ?_; rintro e w1 ⟨rfl, hb1⟩; rw [HG.out]; have HL1 := Lib.hid (HL0.out.below hb1); have y0 := HL1.out.at 0 0 (v := .int .i64 bef) rfl rfl; have y1 := HL1.out.at 0 1 (v := .int .i64 aft) rfl rfl; have y2 := HL1.out.at 0 2 (v := .slice a n c) rfl rfl; clear hb1)
    | (go_at_call 14; refine (HCK.out _ HL1.out.low).mono ?_; rintro e w2 ⟨rfl, hb2⟩; rw [HOK.out]; have HL2 := Lib.hid (HL1.out.below hb2); clear hb2 y0 y1 y2))
  clear HL0 HL1 HGR HCK
  generalize w.heap.size = gy at HL2 ⊢
  have y0 := (show w2.cell? ⟨gy, 0, none⟩ = some (.int .i64 bef) from HL2.out.at 0 0 (v := .int .i64 bef) rfl rfl)
  have y1 := (show w2.cell? ⟨gy, 1, none⟩ = some (.int .i64 aft) from HL2.out.at 0 1 (v := .int .i64 aft) rfl rfl)
  have y2 := (show w2.cell? ⟨gy, 2, none⟩ = some (.slice a n c) from HL2.out.at 0 2 (v := .slice a n c) rfl rfl)
  go_upto_region 4 with (first
    | (go_at_call 16; refine (HFO.out n (Nat.le_refl n) _ HL2.out.low).mono ?_; rintro e v1 ⟨rows1, tv1, acc1, k1, f1, hfo, hsm, hkk, rfl, hb, hst⟩; obtain ⟨⟨vapour10, vapour11⟩, ⟨broth10, broth11⟩, ⟨dust10, dust11⟩, ⟨soldDry10, soldDry11⟩, ⟨soldWater10, soldWater11⟩, ⟨soaked10, soaked11⟩⟩ := acc1; obtain ⟨t1a, t1n, t1c, rfl⟩ := row_slice hst.things; have HFO1 := Lib.hid hfo; have HSM1 := Lib.hid hsm; have HKK1 := Lib.hid hkk; have HL3 := Lib.hid (HL2.out.stand hb hst rfl); have HO1 := Lib.hid (show (#[.slice t1a t1n t1c, .int .i64 vapour10, .int .i64 vapour11, .int .i64 broth10, .int .i64 broth11, .int .i64 dust10, .int .i64 dust11, .int .i64 soldDry10, .int .i64 soldDry11, .int .i64 soldWater10, .int .i64 soldWater11, .int .i64 soaked10, .int .i64 soaked11] : Array Value).all (·.oneCell') = true from by simp [Value.oneCell']); clear hfo hsm hkk hst hb )
    | ((with_reducible refine at_store 36 (.tmp 7) (.tmp 39) ?_); go_must (refine wpList_store_mid rfl 36 (.tmp 7) (.tmp 39) rfl v1.heap.size 0 #[.slice t1a t1n t1c, .int .i64 vapour10, .int .i64 vapour11, .int .i64 broth10, .int .i64 broth11, .int .i64 dust10, .int .i64 dust11, .int .i64 soldDry10, .int .i64 soldDry11, .int .i64 soldWater10, .int .i64 soldWater11, .int .i64 soaked10, .int .i64 soaked11] rfl rfl ((Blk.new v1 36 #[.slice none 0 0, .int .i64 0, .int .i64 0, .int .i64 0, .int .i64 0, .int .i64 0, .int .i64 0, .int .i64 0, .int .i64 0, .int .i64 0, .int .i64 0, .int .i64 0, .int .i64 0]).there (o := 0) (n := 13) (Nat.le_of_ble_eq_true rfl)) size_standing (HO1.out) ?_)))
  clear y0 y1 y2
  have HL4 := Lib.hid (show Locs w ((v1.alloc (.cells #[.slice none 0 0, .int .i64 0, .int .i64 0, .int .i64 0, .int .i64 0, .int .i64 0, .int .i64 0, .int .i64 0, .int .i64 0, .int .i64 0, .int .i64 0, .int .i64 0, .int .i64 0] 36)).setCells v1.heap.size 0 [.slice t1a t1n t1c, .int .i64 vapour10, .int .i64 vapour11, .int .i64 broth10, .int .i64 broth11, .int .i64 dust10, .int .i64 dust11, .int .i64 soldDry10, .int .i64 soldDry11, .int .i64 soldWater10, .int .i64 soldWater11, .int .i64 soaked10, .int .i64 soaked11]) [(gy, 24, [.int .i64 bef, .int .i64 aft, .slice a n c]), (v1.heap.size, 36, [.slice t1a t1n t1c, .int .i64 vapour10, .int .i64 vapour11, .int .i64 broth10, .int .i64 broth11, .int .i64 dust10, .int .i64 dust11, .int .i64 soldDry10, .int .i64 soldDry11, .int .i64 soldWater10, .int .i64 soldWater11, .int .i64 soaked10, .int .i64 soaked11])] [(rows1, .slice t1a t1n t1c)] from (HL3.out.alloc 36 [.slice none 0 0, .int .i64 0, .int .i64 0, .int .i64 0, .int .i64 0, .int .i64 0, .int .i64 0, .int .i64 0, .int .i64 0, .int .i64 0, .int .i64 0, .int .i64 0, .int .i64 0] rfl).setLoc 1 [] [.slice none 0 0, .int .i64 0, .int .i64 0, .int .i64 0, .int .i64 0, .int .i64 0, .int .i64 0, .int .i64 0, .int .i64 0, .int .i64 0, .int .i64 0, .int .i64 0, .int .i64 0] [] [.slice t1a t1n t1c, .int .i64 vapour10, .int .i64 vapour11, .int .i64 broth10, .int .i64 broth11, .int .i64 dust10, .int .i64 dust11, .int .i64 soldDry10, .int .i64 soldDry11, .int .i64 soldWater10, .int .i64 soldWater11, .int .i64 soaked10, .int .i64 soaked11] rfl rfl)
  clear HL3
  generalize ((v1.alloc (.cells #[.slice none 0 0, .int .i64 0, .int .i64 0, .int .i64 0, .int .i64 0, .int .i64 0, .int .i64 0, .int .i64 0, .int .i64 0, .int .i64 0, .int .i64 0, .int .i64 0, .int .i64 0] 36)).setCells v1.heap.size 0 [.slice t1a t1n t1c, .int .i64 vapour10, .int .i64 vapour11, .int .i64 broth10, .int .i64 broth11, .int .i64 dust10, .int .i64 dust11, .int .i64 soldDry10, .int .i64 soldDry11, .int .i64 soldWater10, .int .i64 soldWater11, .int .i64 soaked10, .int .i64 soaked11]) = v2 at HL4 ⊢
  generalize v1.heap.size = g1 at HL4 ⊢
  try simp only [Act.put]
  have hkn : k1 ≤ n := HKK1.out
  have d1 : decide ((k1 : Int) < 0) = false := by simp
  have d2 : decide ((n : Int) < (k1 : Int)) = false := by simp; omega
  have hk0 : ¬ (k1 : Int) < 0 := by omega
  have hk2 : ¬ (n : Int) < (k1 : Int) := by omega
  have o0 := (show v2.cell? ⟨gy, 2, none⟩ = some (.slice a n c) from HL4.out.at 0 2 (v := .slice a n c) rfl rfl)
  go_wp2
  clear d1 d2 hk0 hk2 o0
  go_loopw [11] (fun iv wr => ∃ i : Nat, i ≤ k1 ∧ iv = .int .i64 i ∧ Hid (Locs w wr [(gy, 24, [.int .i64 bef, .int .i64 aft, .slice a n c]), (g1, 36, [.slice t1a t1n t1c, .int .i64 vapour10, .int .i64 vapour11, .int .i64 broth10, .int .i64 broth11, .int .i64 dust10, .int .i64 dust11, .int .i64 soldDry10, .int .i64 soldDry11, .int .i64 soldWater10, .int .i64 soldWater11, .int .i64 soaked10, .int .i64 soaked11])] [(rows1, .slice t1a t1n t1c)])) (fun iv _ => k1 - (intOf iv).toNat)
  case atStart => exact ⟨0, Nat.zero_le _, rfl, HL4⟩
  case round =>
    clear HL4
    obtain ⟨i, hi, rfl, HL5⟩ := hrel
    have o0 := (show wr.cell? ⟨gy, 2, none⟩ = some (.slice a n c) from HL5.out.at 0 2 (v := .slice a n c) rfl rfl)
    by_cases hlt : i < k1
    · have hlt' : i < ds.length := by rw [← HN.out]; omega
      obtain ⟨b, off, rfl, hbl, ⟨hnc, hcm⟩, hcells⟩ := HCS.out (by omega)
      have HCL := Lib.hid hcells
      have hin : i < n := by omega
      have hltI : (i : Int) < (k1 : Int) := by omega
      have hinI : (i : Int) < (n : Int) := by omega
      obtain ⟨⟨kind, dy, dcode, other, ⟨al, ah⟩, ⟨bl, bh⟩⟩, hd⟩ : ∃ d, d = ds[i]! := ⟨_, rfl⟩
      have hd := hd.symm
      have c0 := (show wr.cell? ⟨b, off + i * 8, none⟩ = some (.int .i64 kind) from (HL5.out.low.cell (p := ⟨b, off + i * 8 + 0, none⟩) hbl).trans (hcells i hlt' 0 _ (by rw [hd]; rfl)))
      have c1 := (show wr.cell? ⟨b, off + i * 8 + 1, none⟩ = some (.int .i64 dy) from (HL5.out.low.cell (p := ⟨b, off + i * 8 + 1, none⟩) hbl).trans (hcells i hlt' 1 _ (by rw [hd]; rfl)))
      have c2 := (show wr.cell? ⟨b, off + i * 8 + 2, none⟩ = some (.string dcode) from (HL5.out.low.cell (p := ⟨b, off + i * 8 + 2, none⟩) hbl).trans (hcells i hlt' 2 _ (by rw [hd]; rfl)))
      have c3 := (show wr.cell? ⟨b, off + i * 8 + 3, none⟩ = some (.string other) from (HL5.out.low.cell (p := ⟨b, off + i * 8 + 3, none⟩) hbl).trans (hcells i hlt' 3 _ (by rw [hd]; rfl)))
      have c4 := (show wr.cell? ⟨b, off + i * 8 + 4, none⟩ = some (.int .i64 al) from (HL5.out.low.cell (p := ⟨b, off + i * 8 + 4, none⟩) hbl).trans (hcells i hlt' 4 _ (by rw [hd]; rfl)))
      have c5 := (show wr.cell? ⟨b, off + i * 8 + 5, none⟩ = some (.int .i64 ah) from (HL5.out.low.cell (p := ⟨b, off + i * 8 + 5, none⟩) hbl).trans (hcells i hlt' 5 _ (by rw [hd]; rfl)))
      have c6 := (show wr.cell? ⟨b, off + i * 8 + 6, none⟩ = some (.int .i64 bl) from (HL5.out.low.cell (p := ⟨b, off + i * 8 + 6, none⟩) hbl).trans (hcells i hlt' 6 _ (by rw [hd]; rfl)))
      have c7 := (show wr.cell? ⟨b, off + i * 8 + 7, none⟩ = some (.int .i64 bh) from (HL5.out.low.cell (p := ⟨b, off + i * 8 + 7, none⟩) hbl).trans (hcells i hlt' 7 _ (by rw [hd]; rfl)))
      obtain ⟨ti, hti, hft⟩ := follow_at HFO1.out (by rw [← HN.out]; exact Nat.le_refl _) hlt
      rw [hd] at hft
      have HTI := Lib.hid hti; have HFT := Lib.hid hft
      have hday : 0 ≤ dy ∧ dy ≤ 2000 := by have := HFITS.out _ (get_in hlt'); rw [hd] at this; exact this.day
      have HD := Lib.hid hd
      have HOd := Lib.hid (show (#[.int .i64 kind, .int .i64 dy, .string dcode, .string other, .int .i64 al, .int .i64 ah, .int .i64 bl, .int .i64 bh] : Array Value).all (·.oneCell') = true from by simp [Value.oneCell'])
      clear hti hft hcells
      go_upto_region 10 with (((with_reducible refine at_store 55 (.tmp 12) (.tmp 65) ?_); go_must (refine wpList_store_mid rfl 55 (.tmp 12) (.tmp 65) rfl wr.heap.size 0 #[.int .i64 kind, .int .i64 dy, .string dcode, .string other, .int .i64 al, .int .i64 ah, .int .i64 bl, .int .i64 bh] rfl rfl ((Blk.new wr 55 #[.int .i64 0, .int .i64 0, .string ⟨#[]⟩, .string ⟨#[]⟩, .int .i64 0, .int .i64 0, .int .i64 0, .int .i64 0]).there (o := 0) (n := 8) (Nat.le_of_ble_eq_true rfl)) size_deed8 (HOd.out) ?_)))
      clear o0 c0 c1 c2 c3 c4 c5 c6 c7
      have HL6 := Lib.hid (show Locs w ((wr.alloc (.cells #[.int .i64 0, .int .i64 0, .string ⟨#[]⟩, .string ⟨#[]⟩, .int .i64 0, .int .i64 0, .int .i64 0, .int .i64 0] 55)).setCells wr.heap.size 0 [.int .i64 kind, .int .i64 dy, .string dcode, .string other, .int .i64 al, .int .i64 ah, .int .i64 bl, .int .i64 bh]) [(gy, 24, [.int .i64 bef, .int .i64 aft, .slice (some ⟨b, off, none⟩) n c]), (g1, 36, [.slice t1a t1n t1c, .int .i64 vapour10, .int .i64 vapour11, .int .i64 broth10, .int .i64 broth11, .int .i64 dust10, .int .i64 dust11, .int .i64 soldDry10, .int .i64 soldDry11, .int .i64 soldWater10, .int .i64 soldWater11, .int .i64 soaked10, .int .i64 soaked11]), (wr.heap.size, 55, [.int .i64 kind, .int .i64 dy, .string dcode, .string other, .int .i64 al, .int .i64 ah, .int .i64 bl, .int .i64 bh])] [(rows1, .slice t1a t1n t1c)] from (HL5.out.alloc 55 [.int .i64 0, .int .i64 0, .string ⟨#[]⟩, .string ⟨#[]⟩, .int .i64 0, .int .i64 0, .int .i64 0, .int .i64 0] rfl).setLoc 2 [] [.int .i64 0, .int .i64 0, .string ⟨#[]⟩, .string ⟨#[]⟩, .int .i64 0, .int .i64 0, .int .i64 0, .int .i64 0] [] [.int .i64 kind, .int .i64 dy, .string dcode, .string other, .int .i64 al, .int .i64 ah, .int .i64 bl, .int .i64 bh] rfl rfl)
      clear HL5
      generalize ((wr.alloc (.cells #[.int .i64 0, .int .i64 0, .string ⟨#[]⟩, .string ⟨#[]⟩, .int .i64 0, .int .i64 0, .int .i64 0, .int .i64 0] 55)).setCells wr.heap.size 0 [.int .i64 kind, .int .i64 dy, .string dcode, .string other, .int .i64 al, .int .i64 ah, .int .i64 bl, .int .i64 bh]) = v3 at HL6 ⊢
      generalize wr.heap.size = gd at HL6 ⊢
      try simp only [Act.put]
      by_cases hkk : kind = 3 ∨ kind = 4 ∨ kind = 8
      · have HKK := Lib.hid hkk
        clear hkk
        go_cut [78] from 66 to 78 (fun sv wx => sv = .bool false ∧ Hid (Locs w wx [(gy, 24, [.int .i64 bef, .int .i64 aft, .slice (some ⟨b, off, none⟩) n c]), (g1, 36, [.slice t1a t1n t1c, .int .i64 vapour10, .int .i64 vapour11, .int .i64 broth10, .int .i64 broth11, .int .i64 dust10, .int .i64 dust11, .int .i64 soldDry10, .int .i64 soldDry11, .int .i64 soldWater10, .int .i64 soldWater11, .int .i64 soaked10, .int .i64 soaked11]), (gd, 55, [.int .i64 kind, .int .i64 dy, .string dcode, .string other, .int .i64 al, .int .i64 ah, .int .i64 bl, .int .i64 bh])] [(rows1, .slice t1a t1n t1c)]))
        case first =>
          have k0 := (show v3.cell? ⟨gd, 0, none⟩ = some (.int .i64 kind) from HL6.out.at 2 0 (v := .int .i64 kind) rfl rfl)
          rcases HKK.out with rfl | rfl | rfl
          all_goals (go_wp2_with fail; go_meet; exact ⟨rfl, HL6⟩)
        case rest =>
          obtain ⟨rfl, HL7⟩ := hcut
          clear HL6
          generalize wc = v4 at HL7 ⊢
          have y0 := (show v4.cell? ⟨gy, 0, none⟩ = some (.int .i64 bef) from HL7.out.at 0 0 (v := .int .i64 bef) rfl rfl)
          have y1 := (show v4.cell? ⟨gy, 1, none⟩ = some (.int .i64 aft) from HL7.out.at 0 1 (v := .int .i64 aft) rfl rfl)
          have y2 := (show v4.cell? ⟨gy, 2, none⟩ = some (.slice (some ⟨b, off, none⟩) n c) from HL7.out.at 0 2 (v := .slice (some ⟨b, off, none⟩) n c) rfl rfl)
          go_upto_region 12 with (first
            | (go_at_call 16; refine (HFO.out i (Nat.le_of_lt hin) _ HL7.out.low).mono ?_; rintro e v5 ⟨rows2, tv2, acc2, k2, f2, hfo, hsm, hkk, rfl, hb, hst⟩; obtain ⟨⟨vapour20, vapour21⟩, ⟨broth20, broth21⟩, ⟨dust20, dust21⟩, ⟨soldDry20, soldDry21⟩, ⟨soldWater20, soldWater21⟩, ⟨soaked20, soaked21⟩⟩ := acc2; obtain ⟨t2a, t2n, t2c, rfl⟩ := row_slice hst.things; have HFO2 := Lib.hid hfo; have HSM2 := Lib.hid hsm; have HKK2 := Lib.hid hkk; have HL8 := Lib.hid (HL7.out.stand hb hst rfl); have HO2 := Lib.hid (show (#[.slice t2a t2n t2c, .int .i64 vapour20, .int .i64 vapour21, .int .i64 broth20, .int .i64 broth21, .int .i64 dust20, .int .i64 dust21, .int .i64 soldDry20, .int .i64 soldDry21, .int .i64 soldWater20, .int .i64 soldWater21, .int .i64 soaked20, .int .i64 soaked21] : Array Value).all (·.oneCell') = true from by simp [Value.oneCell']); clear hfo hsm hkk hst hb )
            | ((with_reducible refine at_store 36 (.tmp 13) (.tmp 83) ?_); go_must (refine wpList_store_mid rfl 36 (.tmp 13) (.tmp 83) rfl v5.heap.size 0 #[.slice t2a t2n t2c, .int .i64 vapour20, .int .i64 vapour21, .int .i64 broth20, .int .i64 broth21, .int .i64 dust20, .int .i64 dust21, .int .i64 soldDry20, .int .i64 soldDry21, .int .i64 soldWater20, .int .i64 soldWater21, .int .i64 soaked20, .int .i64 soaked21] rfl rfl ((Blk.new v5 36 #[.slice none 0 0, .int .i64 0, .int .i64 0, .int .i64 0, .int .i64 0, .int .i64 0, .int .i64 0, .int .i64 0, .int .i64 0, .int .i64 0, .int .i64 0, .int .i64 0, .int .i64 0]).there (o := 0) (n := 13) (Nat.le_of_ble_eq_true rfl)) size_standing (HO2.out) ?_)))
          clear y0 y1 y2
          have HL9 := Lib.hid (show Locs w ((v5.alloc (.cells #[.slice none 0 0, .int .i64 0, .int .i64 0, .int .i64 0, .int .i64 0, .int .i64 0, .int .i64 0, .int .i64 0, .int .i64 0, .int .i64 0, .int .i64 0, .int .i64 0, .int .i64 0] 36)).setCells v5.heap.size 0 [.slice t2a t2n t2c, .int .i64 vapour20, .int .i64 vapour21, .int .i64 broth20, .int .i64 broth21, .int .i64 dust20, .int .i64 dust21, .int .i64 soldDry20, .int .i64 soldDry21, .int .i64 soldWater20, .int .i64 soldWater21, .int .i64 soaked20, .int .i64 soaked21]) [(gy, 24, [.int .i64 bef, .int .i64 aft, .slice (some ⟨b, off, none⟩) n c]), (g1, 36, [.slice t1a t1n t1c, .int .i64 vapour10, .int .i64 vapour11, .int .i64 broth10, .int .i64 broth11, .int .i64 dust10, .int .i64 dust11, .int .i64 soldDry10, .int .i64 soldDry11, .int .i64 soldWater10, .int .i64 soldWater11, .int .i64 soaked10, .int .i64 soaked11]), (gd, 55, [.int .i64 kind, .int .i64 dy, .string dcode, .string other, .int .i64 al, .int .i64 ah, .int .i64 bl, .int .i64 bh]), (v5.heap.size, 36, [.slice t2a t2n t2c, .int .i64 vapour20, .int .i64 vapour21, .int .i64 broth20, .int .i64 broth21, .int .i64 dust20, .int .i64 dust21, .int .i64 soldDry20, .int .i64 soldDry21, .int .i64 soldWater20, .int .i64 soldWater21, .int .i64 soaked20, .int .i64 soaked21])] [(rows1, .slice t1a t1n t1c), (rows2, .slice t2a t2n t2c)] from (HL8.out.alloc 36 [.slice none 0 0, .int .i64 0, .int .i64 0, .int .i64 0, .int .i64 0, .int .i64 0, .int .i64 0, .int .i64 0, .int .i64 0, .int .i64 0, .int .i64 0, .int .i64 0, .int .i64 0] rfl).setLoc 3 [] [.slice none 0 0, .int .i64 0, .int .i64 0, .int .i64 0, .int .i64 0, .int .i64 0, .int .i64 0, .int .i64 0, .int .i64 0, .int .i64 0, .int .i64 0, .int .i64 0, .int .i64 0] [] [.slice t2a t2n t2c, .int .i64 vapour20, .int .i64 vapour21, .int .i64 broth20, .int .i64 broth21, .int .i64 dust20, .int .i64 dust21, .int .i64 soldDry20, .int .i64 soldDry21, .int .i64 soldWater20, .int .i64 soldWater21, .int .i64 soaked20, .int .i64 soaked21] rfl rfl)
          clear HL8
          generalize ((v5.alloc (.cells #[.slice none 0 0, .int .i64 0, .int .i64 0, .int .i64 0, .int .i64 0, .int .i64 0, .int .i64 0, .int .i64 0, .int .i64 0, .int .i64 0, .int .i64 0, .int .i64 0, .int .i64 0] 36)).setCells v5.heap.size 0 [.slice t2a t2n t2c, .int .i64 vapour20, .int .i64 vapour21, .int .i64 broth20, .int .i64 broth21, .int .i64 dust20, .int .i64 dust21, .int .i64 soldDry20, .int .i64 soldDry21, .int .i64 soldWater20, .int .i64 soldWater21, .int .i64 soaked20, .int .i64 soaked21]) = v6 at HL9 ⊢
          generalize v5.heap.size = g2 at HL9 ⊢
          try simp only [Act.put]
          have hroot := rooted_at HTI.out (fun d h => (HFITS.out d h).fine)
          obtain ⟨rfl, rfl, rfl⟩ : ti = stOf rows2 (⟨⟨vapour20, vapour21⟩, ⟨broth20, broth21⟩, ⟨dust20, dust21⟩, ⟨soldDry20, soldDry21⟩, ⟨soldWater20, soldWater21⟩, ⟨soaked20, soaked21⟩⟩ : Yd.Acc) ∧ i = k2 ∧ 0 = f2 := by have h1 := HTI.out; rw [HFO2.out] at h1; simpa [eq_comm] using h1
          have HROOT := Lib.hid hroot
          clear hroot HTI
          go_wp2
          go_loopw [17] (fun qv wr => ∃ q : Nat, q ≤ t2n ∧ qv = .int .i64 q ∧ Hid (Locs w wr [(gy, 24, [.int .i64 bef, .int .i64 aft, .slice (some ⟨b, off, none⟩) n c]), (g1, 36, [.slice t1a t1n t1c, .int .i64 vapour10, .int .i64 vapour11, .int .i64 broth10, .int .i64 broth11, .int .i64 dust10, .int .i64 dust11, .int .i64 soldDry10, .int .i64 soldDry11, .int .i64 soldWater10, .int .i64 soldWater11, .int .i64 soaked10, .int .i64 soaked11]), (gd, 55, [.int .i64 kind, .int .i64 dy, .string dcode, .string other, .int .i64 al, .int .i64 ah, .int .i64 bl, .int .i64 bh]), (g2, 36, [.slice t2a t2n t2c, .int .i64 vapour20, .int .i64 vapour21, .int .i64 broth20, .int .i64 broth21, .int .i64 dust20, .int .i64 dust21, .int .i64 soldDry20, .int .i64 soldDry21, .int .i64 soldWater20, .int .i64 soldWater21, .int .i64 soaked20, .int .i64 soaked21])] [(rows1, .slice t1a t1n t1c), (rows2, .slice t2a t2n t2c)])) (fun qv _ => t2n - (intOf qv).toNat)
          case atStart => exact ⟨0, Nat.zero_le _, rfl, HL9⟩
          case round =>
            have HLEN := Lib.hid (show t2n = rows2.length from row_len (HL9.out.stood 1 rfl).things)
            have hm8 : t2n ≤ 8 := by rw [HLEN.out]; exact (HL9.out.stood 1 rfl).few
            clear HL9
            obtain ⟨q, hq, rfl, HL10⟩ := hrel
            have s0 := (show wr.cell? ⟨g2, 0, none⟩ = some (.slice t2a t2n t2c) from HL10.out.at 3 0 (v := .slice t2a t2n t2c) rfl rfl)
            by_cases hqt : q < t2n
            · have hqr : q < rows2.length := by rw [← HLEN.out]; exact hqt
              have hqI : (q : Int) < (t2n : Int) := by omega
              obtain ⟨p, hp⟩ : ∃ p, rows2[q]? = some p := ⟨_, List.getElem?_eq_getElem hqr⟩
              have hmem := List.mem_of_getElem? hp
              obtain ⟨gp, cp, hvp, hgp, hcp⟩ := (HL10.out.stood 1 rfl).row hp
              obtain ⟨fa, fc, hfv, _⟩ := ints_at ((HL10.out.stood 1 rfl).froms p hmem)
              have hsl : (stOf rows2 (⟨⟨vapour20, vapour21⟩, ⟨broth20, broth21⟩, ⟨dust20, dust21⟩, ⟨soldDry20, soldDry21⟩, ⟨soldWater20, soldWater21⟩, ⟨soaked20, soaked21⟩⟩ : Yd.Acc)).stacks[q]? = some p.1 := by simp [stOf, hp]
              have hat := at_row hsl (by have := (HL10.out.stood 1 rfl).codes; simpa [stOf, List.map_map, Function.comp_def] using this)
              have hrt := HROOT.out p.1 (List.mem_of_getElem? hsl)
              have hsm := HSM2.out.stacks p.1 (List.mem_of_getElem? hsl)
              have hfl := (HL10.out.stood 1 rfl).fromsLen p hmem
              obtain ⟨⟨code, ⟨dl, dh⟩, ⟨wl, wh⟩, pil, boi, src⟩, pv⟩ := p
              simp only at hfv hat hrt hsm hfl
              subst hfv
              have hpil := hsm.piled; have hboi := hsm.boiled
              simp only at hpil hboi
              have HAT := Lib.hid hat; have HRT := Lib.hid hrt; have HMEM := Lib.hid hmem
              injection hvp with ea2 en2 ec2
              subst ea2 ec2
              obtain ⟨fn, hfn⟩ : ∃ m, m = src.length := ⟨_, rfl⟩
              rw [← hfn] at hcp HMEM hfl
              have HFN := Lib.hid hfn
              have HOx := Lib.hid (show (#[.string code, .int .i64 dl, .int .i64 dh, .int .i64 wl, .int .i64 wh, .int .i64 pil, .int .i64 boi, .slice fa fn fc] : Array Value).all (·.oneCell') = true from by simp [Value.oneCell'])
              have c0 := (show wr.cell? ⟨gp, q * 8, none⟩ = some (.string code) from hcp 0 (by decide))
              have c1 := (show wr.cell? ⟨gp, q * 8 + 1, none⟩ = some (.int .i64 dl) from hcp 1 (by decide))
              have c2 := (show wr.cell? ⟨gp, q * 8 + 2, none⟩ = some (.int .i64 dh) from hcp 2 (by decide))
              have c3 := (show wr.cell? ⟨gp, q * 8 + 3, none⟩ = some (.int .i64 wl) from hcp 3 (by decide))
              have c4 := (show wr.cell? ⟨gp, q * 8 + 4, none⟩ = some (.int .i64 wh) from hcp 4 (by decide))
              have c5 := (show wr.cell? ⟨gp, q * 8 + 5, none⟩ = some (.int .i64 pil) from hcp 5 (by decide))
              have c6 := (show wr.cell? ⟨gp, q * 8 + 6, none⟩ = some (.int .i64 boi) from hcp 6 (by decide))
              have c7 := (show wr.cell? ⟨gp, q * 8 + 7, none⟩ = some (.slice fa fn fc) from hcp 7 (by decide))
              clear hsm hmem hsl hat hrt hp hcp en2 hfn
              go_upto_region 18 with (((with_reducible refine at_store 49 (.tmp 18) (.tmp 100) ?_); go_must (refine wpList_store_mid rfl 49 (.tmp 18) (.tmp 100) rfl wr.heap.size 0 #[.string code, .int .i64 dl, .int .i64 dh, .int .i64 wl, .int .i64 wh, .int .i64 pil, .int .i64 boi, .slice fa fn fc] rfl rfl ((Blk.new wr 49 #[.string ⟨#[]⟩, .int .i64 0, .int .i64 0, .int .i64 0, .int .i64 0, .int .i64 0, .int .i64 0, .slice none 0 0]).there (o := 0) (n := 8) (Nat.le_of_ble_eq_true rfl)) size_stack (HOx.out) ?_)))
              clear s0 c0 c1 c2 c3 c4 c5 c6 c7
              have HL11 := Lib.hid (show Locs w ((wr.alloc (.cells #[.string ⟨#[]⟩, .int .i64 0, .int .i64 0, .int .i64 0, .int .i64 0, .int .i64 0, .int .i64 0, .slice none 0 0] 49)).setCells wr.heap.size 0 [.string code, .int .i64 dl, .int .i64 dh, .int .i64 wl, .int .i64 wh, .int .i64 pil, .int .i64 boi, .slice fa fn fc]) [(gy, 24, [.int .i64 bef, .int .i64 aft, .slice (some ⟨b, off, none⟩) n c]), (g1, 36, [.slice t1a t1n t1c, .int .i64 vapour10, .int .i64 vapour11, .int .i64 broth10, .int .i64 broth11, .int .i64 dust10, .int .i64 dust11, .int .i64 soldDry10, .int .i64 soldDry11, .int .i64 soldWater10, .int .i64 soldWater11, .int .i64 soaked10, .int .i64 soaked11]), (gd, 55, [.int .i64 kind, .int .i64 dy, .string dcode, .string other, .int .i64 al, .int .i64 ah, .int .i64 bl, .int .i64 bh]), (g2, 36, [.slice (some ⟨gp, 0, none⟩) t2n t2c, .int .i64 vapour20, .int .i64 vapour21, .int .i64 broth20, .int .i64 broth21, .int .i64 dust20, .int .i64 dust21, .int .i64 soldDry20, .int .i64 soldDry21, .int .i64 soldWater20, .int .i64 soldWater21, .int .i64 soaked20, .int .i64 soaked21]), (wr.heap.size, 49, [.string code, .int .i64 dl, .int .i64 dh, .int .i64 wl, .int .i64 wh, .int .i64 pil, .int .i64 boi, .slice fa fn fc])] [(rows1, .slice t1a t1n t1c), (rows2, .slice (some ⟨gp, 0, none⟩) t2n t2c)] from (HL10.out.alloc 49 [.string ⟨#[]⟩, .int .i64 0, .int .i64 0, .int .i64 0, .int .i64 0, .int .i64 0, .int .i64 0, .slice none 0 0] rfl).setLoc 4 [] [.string ⟨#[]⟩, .int .i64 0, .int .i64 0, .int .i64 0, .int .i64 0, .int .i64 0, .int .i64 0, .slice none 0 0] [] [.string code, .int .i64 dl, .int .i64 dh, .int .i64 wl, .int .i64 wh, .int .i64 pil, .int .i64 boi, .slice fa fn fc] rfl rfl)
              clear HL10
              generalize ((wr.alloc (.cells #[.string ⟨#[]⟩, .int .i64 0, .int .i64 0, .int .i64 0, .int .i64 0, .int .i64 0, .int .i64 0, .slice none 0 0] 49)).setCells wr.heap.size 0 [.string code, .int .i64 dl, .int .i64 dh, .int .i64 wl, .int .i64 wh, .int .i64 pil, .int .i64 boi, .slice fa fn fc]) = v7 at HL11 ⊢
              generalize wr.heap.size = gx at HL11 ⊢
              try simp only [Act.put]
              have z0 := (show v7.cell? ⟨gx, 0, none⟩ = some (.string code) from HL11.out.at 4 0 (v := .string code) rfl rfl)
              have z1 := (show v7.cell? ⟨gd, 2, none⟩ = some (.string dcode) from HL11.out.at 2 2 (v := .string dcode) rfl rfl)
              by_cases hcode : code = dcode
              · subst hcode
                go_upto_region 19 with (fail)
                clear z0 z1
                go_cut [138] from 106 to 138 (fun sv wx => sv = .bool false ∧ Hid (Locs w wx [(gy, 24, [.int .i64 bef, .int .i64 aft, .slice (some ⟨b, off, none⟩) n c]), (g1, 36, [.slice t1a t1n t1c, .int .i64 vapour10, .int .i64 vapour11, .int .i64 broth10, .int .i64 broth11, .int .i64 dust10, .int .i64 dust11, .int .i64 soldDry10, .int .i64 soldDry11, .int .i64 soldWater10, .int .i64 soldWater11, .int .i64 soaked10, .int .i64 soaked11]), (gd, 55, [.int .i64 kind, .int .i64 dy, .string code, .string other, .int .i64 al, .int .i64 ah, .int .i64 bl, .int .i64 bh]), (g2, 36, [.slice (some ⟨gp, 0, none⟩) t2n t2c, .int .i64 vapour20, .int .i64 vapour21, .int .i64 broth20, .int .i64 broth21, .int .i64 dust20, .int .i64 dust21, .int .i64 soldDry20, .int .i64 soldDry21, .int .i64 soldWater20, .int .i64 soldWater21, .int .i64 soaked20, .int .i64 soaked21]), (gx, 49, [.string code, .int .i64 dl, .int .i64 dh, .int .i64 wl, .int .i64 wh, .int .i64 pil, .int .i64 boi, .slice fa fn fc])] [(rows1, .slice t1a t1n t1c), (rows2, .slice (some ⟨gp, 0, none⟩) t2n t2c)]))
                case first =>
                  have k0 := (show v7.cell? ⟨gd, 0, none⟩ = some (.int .i64 kind) from HL11.out.at 2 0 (v := .int .i64 kind) rfl rfl)
                  have k1 := (show v7.cell? ⟨gd, 1, none⟩ = some (.int .i64 dy) from HL11.out.at 2 1 (v := .int .i64 dy) rfl rfl)
                  have k2 := (show v7.cell? ⟨gx, 5, none⟩ = some (.int .i64 pil) from HL11.out.at 4 5 (v := .int .i64 pil) rfl rfl)
                  have k3 := (show v7.cell? ⟨gx, 6, none⟩ = some (.int .i64 boi) from HL11.out.at 4 6 (v := .int .i64 boi) rfl rfl)
                  have k4 := (show v7.cell? ⟨gy, 0, none⟩ = some (.int .i64 bef) from HL11.out.at 0 0 (v := .int .i64 bef) rfl rfl)
                  have k5 := (show v7.cell? ⟨gy, 1, none⟩ = some (.int .i64 aft) from HL11.out.at 0 1 (v := .int .i64 aft) rfl rfl)
                  have hns := not_soon HFT.out HAT.out
                  simp only at hns
                  rcases HKK.out with rfl | rfl | rfl
                  · have h1 := hns.1 rfl
                    have h2 : decide (dy - pil < bef) = false := by simp; omega
                    have h3 : ¬ dy - pil < bef := by omega
                    clear hns h1
                    go_wp2_with fail
                    go_meet
                    exact ⟨rfl, HL11⟩
                  · have h1 := hns.2 (.inl rfl)
                    have h2 : decide (dy - boi < aft) = false := by simp; omega
                    have h3 : ¬ dy - boi < aft := by omega
                    have h4 : decide (boi < 0) = false := by simp; omega
                    have h5 : ¬ boi < 0 := by omega
                    clear hns h1
                    go_wp2_with fail
                    go_meet
                    exact ⟨rfl, HL11⟩
                  · have h1 := hns.2 (.inr rfl)
                    have h2 : decide (dy - boi < aft) = false := by simp; omega
                    have h3 : ¬ dy - boi < aft := by omega
                    have h4 : decide (boi < 0) = false := by simp; omega
                    have h5 : ¬ boi < 0 := by omega
                    clear hns h1
                    go_wp2_with fail
                    go_meet
                    exact ⟨rfl, HL11⟩
                case rest =>
                  obtain ⟨rfl, HL12⟩ := hcut
                  clear HL11
                  generalize wc = v8 at HL12 ⊢
                  go_wp2
                  go_loopw [19] (fun mv wr => ∃ m : Nat, m ≤ fn ∧ mv = .int .i64 m ∧ Hid (Locs w wr [(gy, 24, [.int .i64 bef, .int .i64 aft, .slice (some ⟨b, off, none⟩) n c]), (g1, 36, [.slice t1a t1n t1c, .int .i64 vapour10, .int .i64 vapour11, .int .i64 broth10, .int .i64 broth11, .int .i64 dust10, .int .i64 dust11, .int .i64 soldDry10, .int .i64 soldDry11, .int .i64 soldWater10, .int .i64 soldWater11, .int .i64 soaked10, .int .i64 soaked11]), (gd, 55, [.int .i64 kind, .int .i64 dy, .string code, .string other, .int .i64 al, .int .i64 ah, .int .i64 bl, .int .i64 bh]), (g2, 36, [.slice (some ⟨gp, 0, none⟩) t2n t2c, .int .i64 vapour20, .int .i64 vapour21, .int .i64 broth20, .int .i64 broth21, .int .i64 dust20, .int .i64 dust21, .int .i64 soldDry20, .int .i64 soldDry21, .int .i64 soldWater20, .int .i64 soldWater21, .int .i64 soaked20, .int .i64 soaked21]), (gx, 49, [.string code, .int .i64 dl, .int .i64 dh, .int .i64 wl, .int .i64 wh, .int .i64 pil, .int .i64 boi, .slice fa fn fc])] [(rows1, .slice t1a t1n t1c), (rows2, .slice (some ⟨gp, 0, none⟩) t2n t2c)])) (fun mv _ => fn - (intOf mv).toNat)
                  case atStart => exact ⟨0, Nat.zero_le _, rfl, HL12⟩
                  case round =>
                    clear HL12
                    obtain ⟨m, hm, rfl, HL13⟩ := hrel
                    have z0 := (show wr.cell? ⟨gx, 7, none⟩ = some (.slice fa fn fc) from HL13.out.at 4 7 (v := .slice fa fn fc) rfl rfl)
                    by_cases hmt : m < fn
                    · have hmI : (m : Int) < (fn : Int) := by omega
                      have hms : m < src.length := by rw [← HFN.out]; exact hmt
                      obtain ⟨fa2, fc2, hv2, hcs2⟩ := ints_at ((HL13.out.stood 1 rfl).froms _ HMEM.out)
                      injection hv2 with e1 e2 e3
                      subst e1 e3
                      obtain ⟨gf, rfl, hgf, hcf⟩ := hcs2 (by omega)
                      have f0 := hcf m hms
                      obtain ⟨hj0, hj1, d', hd', hk1, hdy'⟩ := HRT.out.src src[m]! (get_in hms)
                      obtain ⟨jn, hjn⟩ : ∃ jn : Nat, src[m]! = (jn : Int) := ⟨src[m]!.toNat, by omega⟩
                      rw [hjn] at f0 hj0 hj1 hd'
                      rw [Int.toNat_natCast] at hj1 hd'
                      have hjl : jn < ds.length := (List.getElem?_eq_some_iff.1 hd').1
                      have hjg : ds[jn]! = d' := by rw [getElem!_pos ds jn hjl]; exact (List.getElem?_eq_some_iff.1 hd').2
                      obtain ⟨kind', dy', dcode', other', ⟨al', ah'⟩, ⟨bl', bh'⟩⟩ := d'
                      simp only at hdy'
                      have f1 := (show wr.cell? ⟨b, off + jn * 8 + 1, none⟩ = some (.int .i64 dy') from (HL13.out.low.cell (p := ⟨b, off + jn * 8 + 1, none⟩) hbl).trans (HCL.out jn hjl 1 _ (by rw [hjg]; rfl)))
                      have hjnI : (jn : Int) < (n : Int) := by omega
                      have t1 : decide ((jn : Int) < 0) = false := by simp
                      have t2 : decide ((i : Int) ≤ (jn : Int)) = false := by simp; omega
                      have t4 : decide (i ≤ jn) = false := by simp; omega
                      have t3 : decide (pil < dy') = false := by simp; omega
                      clear hcs2 hcf hjn hd' hjg
                      go_upto_region 25 with (fail)
                      have r1 := cell_regrown f1
                      clear z0 f0 f1
                      have q0 := cell_regrown (show wr.cell? ⟨gy, 2, none⟩ = some (.slice (some ⟨b, off, none⟩) n c) from HL13.out.at 0 2 (v := .slice (some ⟨b, off, none⟩) n c) rfl rfl)
                      have q1 := cell_regrown (show wr.cell? ⟨gx, 5, none⟩ = some (.int .i64 pil) from HL13.out.at 4 5 (v := .int .i64 pil) rfl rfl)
                      refine wp_region_quiet_below (by kernel_rfl) (by kernel_rfl) ?_
                      repeat (go_big_quiet_step (fail))
                      refine wpQuiet_nil ?_
                      intro wq hw'
                      have hb8 : Below wr.heap.size wr wq := by obtain ⟨⟨dq, osq⟩, hw''⟩ := hw'; rw [hw'']; exact below_regrown _ dq osq
                      clear hw' q0 q1 r1
                      have HL14 := Lib.hid (HL13.out.below hb8)
                      clear hb8 HL13
                      generalize wq = v9 at HL14 ⊢
                      go_wp2
                      go_roundw
                      case rel => exact ⟨m + 1, by omega, by go_num, HL14⟩
                      case measure => simp [intOf]; omega
                    · have hme : fn = m := by omega
                      subst hme
                      go_wp2
                      go_roundw
                      case rel => exact ⟨q + 1, by omega, by go_num, Lib.hid (HL13.out.fewer (List.sublist_append_left ([(gy, 24, [.int .i64 bef, .int .i64 aft, .slice (some ⟨b, off, none⟩) n c]), (g1, 36, [.slice t1a t1n t1c, .int .i64 vapour10, .int .i64 vapour11, .int .i64 broth10, .int .i64 broth11, .int .i64 dust10, .int .i64 dust11, .int .i64 soldDry10, .int .i64 soldDry11, .int .i64 soldWater10, .int .i64 soldWater11, .int .i64 soaked10, .int .i64 soaked11]), (gd, 55, [.int .i64 kind, .int .i64 dy, .string code, .string other, .int .i64 al, .int .i64 ah, .int .i64 bl, .int .i64 bh]), (g2, 36, [.slice (some ⟨gp, 0, none⟩) t2n t2c, .int .i64 vapour20, .int .i64 vapour21, .int .i64 broth20, .int .i64 broth21, .int .i64 dust20, .int .i64 dust21, .int .i64 soldDry20, .int .i64 soldDry21, .int .i64 soldWater20, .int .i64 soldWater21, .int .i64 soaked20, .int .i64 soaked21])] : List (Nat × TypeId × List Value)) ([(gx, 49, [.string code, .int .i64 dl, .int .i64 dh, .int .i64 wl, .int .i64 wh, .int .i64 pil, .int .i64 boi, .slice fa fn fc])] : List (Nat × TypeId × List Value))) (List.sublist_append_left ([(rows1, .slice t1a t1n t1c), (rows2, .slice (some ⟨gp, 0, none⟩) t2n t2c)] : List (List SRow × Value)) ([] : List (List SRow × Value))))⟩
                      case measure => simp [intOf]; omega
              · have hcc : (ByteArray.toList code == ByteArray.toList dcode) = false := by rw [codes_beq]; simpa using hcode
                go_wp2
                go_roundw
                case rel => exact ⟨q + 1, by omega, by go_num, Lib.hid (HL11.out.fewer (List.sublist_append_left ([(gy, 24, [.int .i64 bef, .int .i64 aft, .slice (some ⟨b, off, none⟩) n c]), (g1, 36, [.slice t1a t1n t1c, .int .i64 vapour10, .int .i64 vapour11, .int .i64 broth10, .int .i64 broth11, .int .i64 dust10, .int .i64 dust11, .int .i64 soldDry10, .int .i64 soldDry11, .int .i64 soldWater10, .int .i64 soldWater11, .int .i64 soaked10, .int .i64 soaked11]), (gd, 55, [.int .i64 kind, .int .i64 dy, .string dcode, .string other, .int .i64 al, .int .i64 ah, .int .i64 bl, .int .i64 bh]), (g2, 36, [.slice (some ⟨gp, 0, none⟩) t2n t2c, .int .i64 vapour20, .int .i64 vapour21, .int .i64 broth20, .int .i64 broth21, .int .i64 dust20, .int .i64 dust21, .int .i64 soldDry20, .int .i64 soldDry21, .int .i64 soldWater20, .int .i64 soldWater21, .int .i64 soaked20, .int .i64 soaked21])] : List (Nat × TypeId × List Value)) ([(gx, 49, [.string code, .int .i64 dl, .int .i64 dh, .int .i64 wl, .int .i64 wh, .int .i64 pil, .int .i64 boi, .slice fa fn fc])] : List (Nat × TypeId × List Value))) (List.sublist_append_left ([(rows1, .slice t1a t1n t1c), (rows2, .slice (some ⟨gp, 0, none⟩) t2n t2c)] : List (List SRow × Value)) ([] : List (List SRow × Value))))⟩
                case measure => simp [intOf]; omega
            · have hqe : t2n = q := by omega
              subst hqe
              go_wp2
              go_roundw
              case rel => exact ⟨i + 1, by omega, by go_num, Lib.hid (HL10.out.fewer (List.sublist_append_left ([(gy, 24, [.int .i64 bef, .int .i64 aft, .slice (some ⟨b, off, none⟩) n c]), (g1, 36, [.slice t1a t1n t1c, .int .i64 vapour10, .int .i64 vapour11, .int .i64 broth10, .int .i64 broth11, .int .i64 dust10, .int .i64 dust11, .int .i64 soldDry10, .int .i64 soldDry11, .int .i64 soldWater10, .int .i64 soldWater11, .int .i64 soaked10, .int .i64 soaked11])] : List (Nat × TypeId × List Value)) ([(gd, 55, [.int .i64 kind, .int .i64 dy, .string dcode, .string other, .int .i64 al, .int .i64 ah, .int .i64 bl, .int .i64 bh]), (g2, 36, [.slice t2a t2n t2c, .int .i64 vapour20, .int .i64 vapour21, .int .i64 broth20, .int .i64 broth21, .int .i64 dust20, .int .i64 dust21, .int .i64 soldDry20, .int .i64 soldDry21, .int .i64 soldWater20, .int .i64 soldWater21, .int .i64 soaked20, .int .i64 soaked21])] : List (Nat × TypeId × List Value))) (List.sublist_append_left ([(rows1, .slice t1a t1n t1c)] : List (List SRow × Value)) ([(rows2, .slice t2a t2n t2c)] : List (List SRow × Value))))⟩
              case measure => simp [intOf]; omega
      · have n1 : (kind != 3) = true := by simp; omega
        have n2 : (kind != 4) = true := by simp; omega
        have n3 : (kind != 8) = true := by simp; omega
        have k0 := (show v3.cell? ⟨gd, 0, none⟩ = some (.int .i64 kind) from HL6.out.at 2 0 (v := .int .i64 kind) rfl rfl)
        go_wp2
        go_roundw
        case rel => exact ⟨i + 1, by omega, by go_num, Lib.hid (HL6.out.fewer (List.sublist_append_left ([(gy, 24, [.int .i64 bef, .int .i64 aft, .slice (some ⟨b, off, none⟩) n c]), (g1, 36, [.slice t1a t1n t1c, .int .i64 vapour10, .int .i64 vapour11, .int .i64 broth10, .int .i64 broth11, .int .i64 dust10, .int .i64 dust11, .int .i64 soldDry10, .int .i64 soldDry11, .int .i64 soldWater10, .int .i64 soldWater11, .int .i64 soaked10, .int .i64 soaked11])] : List (Nat × TypeId × List Value)) ([(gd, 55, [.int .i64 kind, .int .i64 dy, .string dcode, .string other, .int .i64 al, .int .i64 ah, .int .i64 bl, .int .i64 bh])] : List (Nat × TypeId × List Value))) (List.sublist_append_left ([(rows1, .slice t1a t1n t1c)] : List (List SRow × Value)) ([] : List (List SRow × Value))))⟩
        case measure => simp [intOf]; omega
    · have hik : i = k1 := by omega
      subst hik
      have hB := mod_int (x := x1) (b := bef) hx10 hbef.1
      have hA := mod_int (x := x2) (b := aft) hx20 haft.1
      have HB0 := Lib.hid hB; have HA0 := Lib.hid hA
      have hwx1 : IntKind.i64.wrap x1 = x1 := by rw [IntKind.wrap_i64]; omega
      have hwx2 : IntKind.i64.wrap x2 = x2 := by rw [IntKind.wrap_i64]; omega
      have hwb : IntKind.i64.wrap (bef + 1) = bef + 1 := by rw [IntKind.wrap_i64]; omega
      have hwa : IntKind.i64.wrap (aft + 1) = aft + 1 := by rw [IntKind.wrap_i64]; omega
      have hb0 : ¬ bef + 1 = 0 := by omega
      have ha0 : ¬ aft + 1 = 0 := by omega
      generalize hBe : x1.tmod (bef + 1) = B at hB HB0
      generalize hAe : x2.tmod (aft + 1) = A at hA HA0
      clear o0
      have y0 := (show wr.cell? ⟨gy, 0, none⟩ = some (.int .i64 bef) from HL5.out.at 0 0 (v := .int .i64 bef) rfl rfl)
      have y1 := (show wr.cell? ⟨gy, 1, none⟩ = some (.int .i64 aft) from HL5.out.at 0 1 (v := .int .i64 aft) rfl rfl)
      have y2 := (show wr.cell? ⟨gy, 2, none⟩ = some (.slice a n c) from HL5.out.at 0 2 (v := .slice a n c) rfl rfl)
      have HBE := Lib.hid hBe; have HAE := Lib.hid hAe; have HW4 := Lib.hid (And.intro hwx1 (And.intro hwx2 (And.intro hwb hwa))); have HZ2 := Lib.hid (And.intro hb0 ha0)
      clear hBe hAe hwx1 hwx2 hwb hwa hb0 ha0
      go_upto_region 28 with (((with_reducible refine at_store 24 (.tmp 21) (.tmp 169) ?_); go_must (refine wpList_store_mid rfl 24 (.tmp 21) (.tmp 169) rfl wr.heap.size 0 #[.int .i64 bef, .int .i64 aft, .slice a n c] rfl rfl ((Blk.new wr 24 #[.int .i64 0, .int .i64 0, .slice none 0 0]).there (o := 0) (n := 3) (Nat.le_of_ble_eq_true rfl)) size_yard (yard_ones _ _ _ _ _) ?_)))
      clear y0 y1 y2
      have HL6 := Lib.hid (show Locs w ((wr.alloc (.cells #[.int .i64 0, .int .i64 0, .slice none 0 0] 24)).setCells wr.heap.size 0 [.int .i64 bef, .int .i64 aft, .slice a n c]) [(gy, 24, [.int .i64 bef, .int .i64 aft, .slice a n c]), (g1, 36, [.slice t1a t1n t1c, .int .i64 vapour10, .int .i64 vapour11, .int .i64 broth10, .int .i64 broth11, .int .i64 dust10, .int .i64 dust11, .int .i64 soldDry10, .int .i64 soldDry11, .int .i64 soldWater10, .int .i64 soldWater11, .int .i64 soaked10, .int .i64 soaked11]), (wr.heap.size, 24, [.int .i64 bef, .int .i64 aft, .slice a n c])] [(rows1, .slice t1a t1n t1c)] from (HL5.out.alloc 24 [.int .i64 0, .int .i64 0, .slice none 0 0] rfl).setLoc 2 [] [.int .i64 0, .int .i64 0, .slice none 0 0] [] [.int .i64 bef, .int .i64 aft, .slice a n c] rfl rfl)
      clear HL5
      generalize ((wr.alloc (.cells #[.int .i64 0, .int .i64 0, .slice none 0 0] 24)).setCells wr.heap.size 0 [.int .i64 bef, .int .i64 aft, .slice a n c]) = v10 at HL6 ⊢
      generalize wr.heap.size = go at HL6 ⊢
      try simp only [Act.put]
      obtain ⟨hwx1, hwx2, hwb, hwa⟩ := HW4.out
      obtain ⟨hb0, ha0⟩ := HZ2.out
      have hBe := HBE.out
      have hAe := HAE.out
      have hmix : Try.prog.follows .mixedOrders = true := by kernel_rfl
      refine region_till [] (fun w' => Blk w' gy 24 #[.int .i64 bef, .int .i64 aft, .slice a n c]) 16 [false, false, false, false, false, false, false, false, false, false, false, false, false, false, false, false] hmix rfl rfl ?_
      clear hmix
      have HL7 := Lib.hid (HL6.out.drew)
      generalize v10.drew = v11 at HL7 ⊢
      have HT := Lib.hid (show (fun w' => Blk w' gy 24 #[.int .i64 bef, .int .i64 aft, .slice a n c]) v11 from HL7.out.blk 0 rfl)
      refine till_pure (i := 0) (v := .int .u16 x1) rfl rfl (by kernel_rfl) (fun _ _ _ h => h) (yields_of rfl (fun w' _ => by simp [go_sem])) (fun _ => HT.out) ?_
      try simp only [List.setIfInBounds_toArray, List.set_cons_succ, List.set_cons_zero]
      refine till_pure (i := 1) (v := .int .i64 x1) rfl rfl (by kernel_rfl) (fun _ _ _ h => h) (yields_of rfl (fun w' _ => by simp [go_sem, hwx1])) (fun _ => HT.out) ?_
      try simp only [List.setIfInBounds_toArray, List.set_cons_succ, List.set_cons_zero]
      refine till_pure (i := 2) (v := .pointer (some ⟨gy, 0, none⟩)) rfl rfl (by kernel_rfl) (fun _ _ _ h => h) (yields_of rfl (fun w' _ => by simp [go_sem])) (fun _ => HT.out) ?_
      try simp only [List.setIfInBounds_toArray, List.set_cons_succ, List.set_cons_zero]
      refine till_load (i := 3) (v := .int .i64 bef) rfl rfl (by kernel_rfl) (fun _ _ _ h => h) (yields_of rfl (fun w' hw' => by have hcx : w'.cell? ⟨gy, 0, none⟩ = some (.int .i64 bef) := Blk.at hw' 0 _ rfl; simp [go_sem, hcx])) (fun _ => HT.out) ?_
      try simp only [List.setIfInBounds_toArray, List.set_cons_succ, List.set_cons_zero]
      refine till_pure (i := 4) (v := .int .i64 (bef + 1)) rfl rfl (by kernel_rfl) (fun _ _ _ h => h) (yields_of rfl (fun w' _ => by simp [go_sem, hwb])) (fun _ => HT.out) ?_
      try simp only [List.setIfInBounds_toArray, List.set_cons_succ, List.set_cons_zero]
      refine till_pure (i := 5) (v := .int .i64 B) rfl rfl (by kernel_rfl) (fun _ _ _ h => h) (yields_of rfl (fun w' _ => by simp [go_sem, hb0, hBe])) (fun _ => HT.out) ?_
      try simp only [List.setIfInBounds_toArray, List.set_cons_succ, List.set_cons_zero]
      refine till_pure (i := 6) (v := .int .u16 x2) rfl rfl (by kernel_rfl) (fun _ _ _ h => h) (yields_of rfl (fun w' _ => by simp [go_sem])) (fun _ => HT.out) ?_
      try simp only [List.setIfInBounds_toArray, List.set_cons_succ, List.set_cons_zero]
      refine till_pure (i := 7) (v := .int .i64 x2) rfl rfl (by kernel_rfl) (fun _ _ _ h => h) (yields_of rfl (fun w' _ => by simp [go_sem, hwx2])) (fun _ => HT.out) ?_
      try simp only [List.setIfInBounds_toArray, List.set_cons_succ, List.set_cons_zero]
      refine till_pure (i := 8) (v := .pointer (some ⟨gy, 1, none⟩)) rfl rfl (by kernel_rfl) (fun _ _ _ h => h) (yields_of rfl (fun w' _ => by simp [go_sem])) (fun _ => HT.out) ?_
      try simp only [List.setIfInBounds_toArray, List.set_cons_succ, List.set_cons_zero]
      refine till_load (i := 9) (v := .int .i64 aft) rfl rfl (by kernel_rfl) (fun _ _ _ h => h) (yields_of rfl (fun w' hw' => by have hcx : w'.cell? ⟨gy, 1, none⟩ = some (.int .i64 aft) := Blk.at hw' 1 _ rfl; simp [go_sem, hcx])) (fun _ => HT.out) ?_
      try simp only [List.setIfInBounds_toArray, List.set_cons_succ, List.set_cons_zero]
      refine till_pure (i := 10) (v := .int .i64 (aft + 1)) rfl rfl (by kernel_rfl) (fun _ _ _ h => h) (yields_of rfl (fun w' _ => by simp [go_sem, hwa])) (fun _ => HT.out) ?_
      try simp only [List.setIfInBounds_toArray, List.set_cons_succ, List.set_cons_zero]
      refine till_pure (i := 11) (v := .int .i64 A) rfl rfl (by kernel_rfl) (fun _ _ _ h => h) (yields_of rfl (fun w' _ => by simp [go_sem, ha0, hAe])) (fun _ => HT.out) ?_
      try simp only [List.setIfInBounds_toArray, List.set_cons_succ, List.set_cons_zero]
      refine till_pure (i := 12) (v := .pointer (some ⟨go, 0, none⟩)) rfl rfl (by kernel_rfl) (fun _ _ _ h => h) (yields_of rfl (fun w' _ => by simp [go_sem])) (fun _ => HT.out) ?_
      try simp only [List.setIfInBounds_toArray, List.set_cons_succ, List.set_cons_zero]
      refine till_only (j := 13) (by kernel_rfl) rfl ?_
      have hc9 : v11.cell? ⟨go, 0, none⟩ = some (.int .i64 bef) := HL7.out.at 2 0 (v := .int .i64 bef) rfl rfl
      have hf9 := HL7.out.frozen 2 rfl 0
      go_wp2_with fail
      clear hc9 hf9
      have HL8 := Lib.hid (show Locs w (v11.setCell ⟨go, 0, none⟩ (.int .i64 B)) [(gy, 24, [.int .i64 bef, .int .i64 aft, .slice a n c]), (g1, 36, [.slice t1a t1n t1c, .int .i64 vapour10, .int .i64 vapour11, .int .i64 broth10, .int .i64 broth11, .int .i64 dust10, .int .i64 dust11, .int .i64 soldDry10, .int .i64 soldDry11, .int .i64 soldWater10, .int .i64 soldWater11, .int .i64 soaked10, .int .i64 soaked11]), (go, 24, [.int .i64 B, .int .i64 aft, .slice a n c])] [(rows1, .slice t1a t1n t1c)] from HL7.out.setLoc1 2 [] [.int .i64 aft, .slice a n c] (.int .i64 bef) (.int .i64 B) 0 rfl rfl)
      clear HL7
      generalize (v11.setCell ⟨go, 0, none⟩ (.int .i64 B)) = v12 at HL8 ⊢
      have HT := Lib.hid (show (fun w' => Blk w' gy 24 #[.int .i64 bef, .int .i64 aft, .slice a n c]) v12 from HL8.out.blk 0 rfl)
      refine ⟨(fun _ => HT.out), ?_⟩
      try simp only [List.setIfInBounds_toArray, List.set_cons_succ, List.set_cons_zero]
      refine till_pure (i := 14) (v := .pointer (some ⟨go, 1, none⟩)) rfl rfl (by kernel_rfl) (fun _ _ _ h => h) (yields_of rfl (fun w' _ => by simp [go_sem])) (fun _ => HT.out) ?_
      try simp only [List.setIfInBounds_toArray, List.set_cons_succ, List.set_cons_zero]
      refine till_only (j := 15) (by kernel_rfl) rfl ?_
      have hc9 : v12.cell? ⟨go, 1, none⟩ = some (.int .i64 aft) := HL8.out.at 2 1 (v := .int .i64 aft) rfl rfl
      have hf9 := HL8.out.frozen 2 rfl 1
      go_wp2_with fail
      clear hc9 hf9
      have HL9 := Lib.hid (show Locs w (v12.setCell ⟨go, 1, none⟩ (.int .i64 A)) [(gy, 24, [.int .i64 bef, .int .i64 aft, .slice a n c]), (g1, 36, [.slice t1a t1n t1c, .int .i64 vapour10, .int .i64 vapour11, .int .i64 broth10, .int .i64 broth11, .int .i64 dust10, .int .i64 dust11, .int .i64 soldDry10, .int .i64 soldDry11, .int .i64 soldWater10, .int .i64 soldWater11, .int .i64 soaked10, .int .i64 soaked11]), (go, 24, [.int .i64 B, .int .i64 A, .slice a n c])] [(rows1, .slice t1a t1n t1c)] from HL8.out.setLoc1 2 [.int .i64 B] [.slice a n c] (.int .i64 aft) (.int .i64 A) 1 rfl rfl)
      clear HL8
      generalize (v12.setCell ⟨go, 1, none⟩ (.int .i64 A)) = v13 at HL9 ⊢
      have HT := Lib.hid (show (fun w' => Blk w' gy 24 #[.int .i64 bef, .int .i64 aft, .slice a n c]) v13 from HL9.out.blk 0 rfl)
      refine ⟨(fun _ => HT.out), ?_⟩
      try simp only [List.setIfInBounds_toArray, List.set_cons_succ, List.set_cons_zero]
      refine till_done (by kernel_rfl) ?_
      clear hwx1 hwx2 hwb hwa hb0 ha0 hBe hAe HW4 HZ2 HBE HAE
      try clear HT
      have y0 := (show v13.cell? ⟨go, 0, none⟩ = some (.int .i64 B) from HL9.out.at 2 0 (v := .int .i64 B) rfl rfl)
      have y1 := (show v13.cell? ⟨go, 1, none⟩ = some (.int .i64 A) from HL9.out.at 2 1 (v := .int .i64 A) rfl rfl)
      have y2 := (show v13.cell? ⟨go, 2, none⟩ = some (.slice a n c) from HL9.out.at 2 2 (v := .slice a n c) rfl rfl)
      have x0 := (show v13.cell? ⟨gy, 2, none⟩ = some (.slice a n c) from HL9.out.at 0 2 (v := .slice a n c) rfl rfl)
      go_upto_region 30 with (first
        | (go_at_call 16; refine (HFB.out B A HB0.out HA0.out n (Nat.le_refl n) _ HL9.out.low).mono ?_; rintro e v14 ⟨rows3, tv3, acc3, k3, f3, hfo, hsm, hkk, rfl, hb, hst⟩; obtain ⟨⟨vapour30, vapour31⟩, ⟨broth30, broth31⟩, ⟨dust30, dust31⟩, ⟨soldDry30, soldDry31⟩, ⟨soldWater30, soldWater31⟩, ⟨soaked30, soaked31⟩⟩ := acc3; obtain ⟨t3a, t3n, t3c, rfl⟩ := row_slice hst.things; have HFO3 := Lib.hid hfo; have HSM3 := Lib.hid hsm; have HKK3 := Lib.hid hkk; have HL10 := Lib.hid (HL9.out.stand hb hst rfl); have HO3 := Lib.hid (show (#[.slice t3a t3n t3c, .int .i64 vapour30, .int .i64 vapour31, .int .i64 broth30, .int .i64 broth31, .int .i64 dust30, .int .i64 dust31, .int .i64 soldDry30, .int .i64 soldDry31, .int .i64 soldWater30, .int .i64 soldWater31, .int .i64 soaked30, .int .i64 soaked31] : Array Value).all (·.oneCell') = true from by simp [Value.oneCell']); clear hfo hsm hkk hst hb )
        | ((with_reducible refine at_store 36 (.tmp 22) (.tmp 190) ?_); go_must (refine wpList_store_mid rfl 36 (.tmp 22) (.tmp 190) rfl v14.heap.size 0 #[.slice t3a t3n t3c, .int .i64 vapour30, .int .i64 vapour31, .int .i64 broth30, .int .i64 broth31, .int .i64 dust30, .int .i64 dust31, .int .i64 soldDry30, .int .i64 soldDry31, .int .i64 soldWater30, .int .i64 soldWater31, .int .i64 soaked30, .int .i64 soaked31] rfl rfl ((Blk.new v14 36 #[.slice none 0 0, .int .i64 0, .int .i64 0, .int .i64 0, .int .i64 0, .int .i64 0, .int .i64 0, .int .i64 0, .int .i64 0, .int .i64 0, .int .i64 0, .int .i64 0, .int .i64 0]).there (o := 0) (n := 13) (Nat.le_of_ble_eq_true rfl)) size_standing (HO3.out) ?_)))
      clear y0 y1 y2 x0
      have HL11 := Lib.hid (show Locs w ((v14.alloc (.cells #[.slice none 0 0, .int .i64 0, .int .i64 0, .int .i64 0, .int .i64 0, .int .i64 0, .int .i64 0, .int .i64 0, .int .i64 0, .int .i64 0, .int .i64 0, .int .i64 0, .int .i64 0] 36)).setCells v14.heap.size 0 [.slice t3a t3n t3c, .int .i64 vapour30, .int .i64 vapour31, .int .i64 broth30, .int .i64 broth31, .int .i64 dust30, .int .i64 dust31, .int .i64 soldDry30, .int .i64 soldDry31, .int .i64 soldWater30, .int .i64 soldWater31, .int .i64 soaked30, .int .i64 soaked31]) [(gy, 24, [.int .i64 bef, .int .i64 aft, .slice a n c]), (g1, 36, [.slice t1a t1n t1c, .int .i64 vapour10, .int .i64 vapour11, .int .i64 broth10, .int .i64 broth11, .int .i64 dust10, .int .i64 dust11, .int .i64 soldDry10, .int .i64 soldDry11, .int .i64 soldWater10, .int .i64 soldWater11, .int .i64 soaked10, .int .i64 soaked11]), (go, 24, [.int .i64 B, .int .i64 A, .slice a n c]), (v14.heap.size, 36, [.slice t3a t3n t3c, .int .i64 vapour30, .int .i64 vapour31, .int .i64 broth30, .int .i64 broth31, .int .i64 dust30, .int .i64 dust31, .int .i64 soldDry30, .int .i64 soldDry31, .int .i64 soldWater30, .int .i64 soldWater31, .int .i64 soaked30, .int .i64 soaked31])] [(rows1, .slice t1a t1n t1c), (rows3, .slice t3a t3n t3c)] from (HL10.out.alloc 36 [.slice none 0 0, .int .i64 0, .int .i64 0, .int .i64 0, .int .i64 0, .int .i64 0, .int .i64 0, .int .i64 0, .int .i64 0, .int .i64 0, .int .i64 0, .int .i64 0, .int .i64 0] rfl).setLoc 3 [] [.slice none 0 0, .int .i64 0, .int .i64 0, .int .i64 0, .int .i64 0, .int .i64 0, .int .i64 0, .int .i64 0, .int .i64 0, .int .i64 0, .int .i64 0, .int .i64 0, .int .i64 0] [] [.slice t3a t3n t3c, .int .i64 vapour30, .int .i64 vapour31, .int .i64 broth30, .int .i64 broth31, .int .i64 dust30, .int .i64 dust31, .int .i64 soldDry30, .int .i64 soldDry31, .int .i64 soldWater30, .int .i64 soldWater31, .int .i64 soaked30, .int .i64 soaked31] rfl rfl)
      clear HL10
      generalize ((v14.alloc (.cells #[.slice none 0 0, .int .i64 0, .int .i64 0, .int .i64 0, .int .i64 0, .int .i64 0, .int .i64 0, .int .i64 0, .int .i64 0, .int .i64 0, .int .i64 0, .int .i64 0, .int .i64 0] 36)).setCells v14.heap.size 0 [.slice t3a t3n t3c, .int .i64 vapour30, .int .i64 vapour31, .int .i64 broth30, .int .i64 broth31, .int .i64 dust30, .int .i64 dust31, .int .i64 soldDry30, .int .i64 soldDry31, .int .i64 soldWater30, .int .i64 soldWater31, .int .i64 soaked30, .int .i64 soaked31]) = v15 at HL11 ⊢
      generalize v14.heap.size = g3 at HL11 ⊢
      try simp only [Act.put]
      obtain ⟨hkm, hor⟩ := follow_shorter HB0.out.2 HA0.out.2 HFO1.out HFO3.out
      have e1 : decide ((i : Int) ≤ (k3 : Int)) = true := by simp; omega
      by_cases hf3 : f1 = 3
      · subst hf3
        clear hor
        go_wp2_with (go_at_call 15; refine (stands_calls _).mono ?_; rintro e w9 ⟨rfl, hb9⟩; have HL99 := Lib.hid (HL11.out.below hb9); clear hb9)
        go_ret
        exact lawDone HL99.out.low
      · obtain ⟨e3, e4⟩ := hor.resolve_left hf3
        subst e3 e4
        have e2 : (f3 == 3) = false := by simpa using hf3
        go_wp2_with (go_at_call 15; refine (stands_calls _).mono ?_; rintro e w9 ⟨rfl, hb9⟩; have HL99 := Lib.hid (HL11.out.below hb9); clear hb9)
        go_ret
        exact lawDone HL99.out.low

/-- YardRests, whatever comes in. -/
theorem rests_law (bef aft : Int) (v : Value) (ds : List (Deed Code)) (x1 x2 : Int) (w : World) (h : Held w.heap.size w 8 deedCells v ds) (hsz : ∀ d ∈ ds, d.stack.size ≤ maxLen ∧ d.other.size ≤ maxLen) (hx1 : 0 ≤ x1 ∧ x1 ≤ 65535) (hx2 : 0 ≤ x2 ∧ x2 ≤ 65535) :
    Calls Try.prog 8 #[.agg #[.int .i64 bef, .int .i64 aft, v], .int .u16 x1, .int .u16 x2] w (LawDone w) := by
  cases hg : greatB ds with
  | true => exact rests_stands bef aft v ds x1 x2 w h (.inl hg)
  | false =>
    by_cases hok : errYard bef aft ds = 0
    · exact rests_real bef aft v ds x1 x2 w h hsz hg hok hx1 hx2
    · exact rests_stands bef aft v ds x1 x2 w h (.inr hok)
end Go.Proofs.Ytmcmhgpmefelfaa
