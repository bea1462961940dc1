/- YardKin: the law's walk. -/
import Derived.Test.YtmcmhgpmefelfaaYKinFacts
namespace Go.Proofs.Ytmcmhgpmefelfaa
open Go Go.RowKit Go.Shelf Yd
theorem codes_get {ds : List (Deed Code)} {src : List Int} {m : Nat} (h : m < src.length) : (codesOf ds src)[m]! = ds[(src[m]!).toNat]!.stack := by
  unfold codesOf
  rw [getElem!_pos _ m (by simpa using h), List.getElem_map, getElem!_pos src m h]

set_option maxRecDepth 100000 in
set_option maxHeartbeats 8000000 in
/-- A yard that the statements pass over, or that has an error. -/
theorem kin_stands (bef aft : Int) (v : Value) (ds : List (Deed Code)) (x1 x2 : Int) (w : World) (h : Held w.heap.size w 8 deedCells v ds) (hno : greatB ds = true ∨ errYard bef aft ds ≠ 0) :
    Calls Try.prog 9 #[.agg #[.int .i64 bef, .int .i64 aft, v], .int .u8 x1, .int .u8 x2] w (LawDone w) := by
  obtain ⟨a, c, hv, _, _⟩ := h.slice
  have HGR := Lib.hid (fun (W : World) (hW : Below w.heap.size w W) => great_calls bef aft v ds W ((h.below hW).mono hW.size))
  have HCK := Lib.hid (fun (W : World) (hW : Below w.heap.size w W) => refYard_calls bef aft v ds W ((h.below hW).mono hW.size))
  subst hv
  obtain ⟨n, hnn⟩ : ∃ n, n = ds.length := ⟨_, rfl⟩
  rw [← hnn] at HGR HCK ⊢
  have HW0 := Lib.hid ((Below.refl w.heap.size w).alloc (Nat.le_refl _) (.cells #[.int .i64 bef, .int .i64 aft, .slice a n c] 24))
  have HY0 := Lib.hid (Blk.new w 24 #[.int .i64 bef, .int .i64 aft, .slice a n c])
  clear h hnn
  cases hg : greatB ds with
  | true =>
    have HG := Lib.hid hg
    clear hg hno
    go_enter Try.func9, Try.ntmps9
    go_wp2_with (first
      | (go_at_call 13; refine (HGR.out _ HW0.out).mono ?_; rintro e w1 ⟨rfl, hb1⟩; rw [HG.out]; have HW1 := Lib.hid (HW0.out.trans (hb1.mono HW0.out.size)); have HY1 := Lib.hid (HY0.out.below hb1); clear hb1)
      | (go_at_call 15; refine (stands_calls _).mono ?_; rintro e w2 ⟨rfl, hb2⟩; have HW2 := Lib.hid (HW1.out.trans (hb2.mono HW1.out.size)); clear hb2))
    go_ret
    exact lawDone HW2.out
  | false =>
    have HG := Lib.hid hg
    have hno : errYard bef aft ds ≠ 0 := hno.resolve_left (by rw [hg]; simp)
    have d1 : (errYard bef aft ds == 0) = false := by simpa using hno
    have d2 : (errYard bef aft ds != 0) = true := by simpa using hno
    clear hg hno
    generalize errYard bef aft ds = ey at HCK d1 d2
    go_enter Try.func9, Try.ntmps9
    go_wp2_with (first
      | (go_at_call 13; refine (HGR.out _ HW0.out).mono ?_; rintro e w1 ⟨rfl, hb1⟩; rw [HG.out]; have HW1 := Lib.hid (HW0.out.trans (hb1.mono HW0.out.size)); have HY1 := Lib.hid (HY0.out.below hb1); have y0 := HY1.out.at 0 _ rfl; have y1 := HY1.out.at 1 _ rfl; have y2 := HY1.out.at 2 _ rfl; clear hb1)
      | (go_at_call 14; refine (HCK.out _ HW1.out).mono ?_; rintro e w2 ⟨rfl, hb2⟩; have HW2 := Lib.hid (HW1.out.trans (hb2.mono HW1.out.size)); clear hb2)
      | (go_at_call 15; refine (stands_calls _).mono ?_; rintro e w3 ⟨rfl, hb3⟩; have HW3 := Lib.hid (HW2.out.trans (hb3.mono HW2.out.size)); clear hb3))
    go_ret
    exact lawDone HW3.out

set_option maxRecDepth 100000 in
set_option maxHeartbeats 8000000 in
theorem kin_none (bef aft : Int) (v : Value) (ds : List (Deed Code)) (x1 x2 : Int) (w : World) (h : Held w.heap.size w 8 deedCells v ds) (hg : greatB ds = false) (hok : errYard bef aft ds = 0) (hl : ds.length = 0) : Calls Try.prog 9 #[.agg #[.int .i64 bef, .int .i64 aft, v], .int .u8 x1, .int .u8 x2] w (LawDone w) := by
  obtain ⟨a, c, hv, _, _⟩ := h.slice
  have HGR := Lib.hid (fun (W : World) (hW : Below w.heap.size w W) => great_calls bef aft v ds W ((h.below hW).mono hW.size))
  have HCK := Lib.hid (fun (W : World) (hW : Below w.heap.size w W) => refYard_calls bef aft v ds W ((h.below hW).mono hW.size))
  subst hv
  rw [hl] at HGR HCK ⊢
  have HG := Lib.hid hg; have HOK := Lib.hid hok
  have HW0 := Lib.hid ((Below.refl w.heap.size w).alloc (Nat.le_refl _) (.cells #[.int .i64 bef, .int .i64 aft, .slice a 0 c] 24))
  have HY0 := Lib.hid (Blk.new w 24 #[.int .i64 bef, .int .i64 aft, .slice a 0 c])
  clear h hg hok hl
  go_enter Try.func9, Try.ntmps9
  go_wp2_with (first
    | (go_at_call 13; refine (HGR.out _ HW0.out).mono ?_; rintro e w1 ⟨rfl, hb1⟩; rw [HG.out]; have HW1 := Lib.hid (HW0.out.trans (hb1.mono HW0.out.size)); have HY1 := Lib.hid (HY0.out.below hb1); have y0 := HY1.out.at 0 _ rfl; have y1 := HY1.out.at 1 _ rfl; have y2 := HY1.out.at 2 _ rfl; clear hb1)
    | (go_at_call 14; refine (HCK.out _ HW1.out).mono ?_; rintro e w2 ⟨rfl, hb2⟩; rw [HOK.out]; have HW2 := Lib.hid (HW1.out.trans (hb2.mono HW1.out.size)); have z2 := (HY1.out.below hb2).at 2 _ rfl; clear hb2)
    | (go_at_call 15; refine (stands_calls _).mono ?_; rintro e w3 ⟨rfl, hb3⟩; have HW3 := Lib.hid (HW2.out.trans (hb3.mono HW2.out.size)); clear hb3))
  go_ret
  exact lawDone HW3.out

set_option maxRecDepth 100000 in
set_option maxHeartbeats 16000000 in
theorem kin_real (bef aft : Int) (v : Value) (ds : List (Deed Code)) (x1 x2 : Int) (w : World) (h : Held w.heap.size w 8 deedCells v ds) (hsz : ∀ d ∈ ds, d.stack.size ≤ maxLen ∧ d.other.size ≤ maxLen) (hg : greatB ds = false) (hok : errYard bef aft ds = 0)
    (hx1 : 0 ≤ x1 ∧ x1 ≤ 255) (hx2 : 0 ≤ x2 ∧ x2 ≤ 255) (hl0 : 0 < ds.length) : Calls Try.prog 9 #[.agg #[.int .i64 bef, .int .i64 aft, v], .int .u8 x1, .int .u8 x2] w (LawDone w) := by
  have h12 := great_few hg hok
  obtain ⟨a, c, hv, _, hcs⟩ := h.slice
  have HHD := Lib.hid h
  have HGR := Lib.hid (fun (W : World) (hW : Below w.heap.size w W) => great_calls bef aft v ds W ((h.below hW).mono hW.size))
  have HCK := Lib.hid (fun (W : World) (hW : Below w.heap.size w W) => refYard_calls bef aft v ds W ((h.below hW).mono hW.size))
  have HFO := Lib.hid (fun (k0 : Nat) (hk : k0 ≤ ds.length) (W : World) (hW : Below w.heap.size w W) => follow_calls bef aft v ds k0 W ((h.below hW).mono hW.size) hok hsz hk (Nat.le_trans hk h12))
  have HHN := Lib.hid (fun (k0 p : Nat) (hk : k0 ≤ ds.length) (hp : p < ds.length) (hno : k0 ≤ p ∨ ds[p]!.kind ≠ 1 ∨ (Yd.follow bef aft ds k0).2.2 ≠ 0) (W : World) (hW : Below w.heap.size w W) => holders_no bef aft v ds k0 p W ((h.below hW).mono hW.size) hok hsz hk (Nat.le_trans hk h12) hp hno)
  have HHY := Lib.hid (fun (k0 p : Nat) (hk : k0 ≤ ds.length) (hp : p < ds.length) (h1 : p < k0) (h2 : ds[p]!.kind = 1) (h3 : (Yd.follow bef aft ds k0).2.2 = 0) (W : World) (hW : Below w.heap.size w W) => holders_yes bef aft v ds k0 p W ((h.below hW).mono hW.size) hok hsz hk (Nat.le_trans hk h12) hp h1 h2 h3)
  have HSO := Lib.hid (fun (k0 : Nat) (hk : k0 ≤ ds.length) (hf : (Yd.follow bef aft ds k0).2.2 = 0) (code : Code) (y : Stk Code) (hat : (Yd.follow bef aft ds k0).1.stacks[at_ (Yd.follow bef aft ds k0).1.stacks code]? = some y) (W : World) (hW : Below w.heap.size w W) => sources_calls bef aft v ds k0 W ((h.below hW).mono hW.size) hok hsz hk (Nat.le_trans hk h12) hf code y hat)
  subst hv
  obtain ⟨n, hnn⟩ : ∃ n, n = ds.length := ⟨_, rfl⟩
  have HN := Lib.hid hnn
  rw [← hnn] at HGR HCK HFO HHN HHY HSO HHD h12 hl0 ⊢
  have HG := Lib.hid hg; have HOK := Lib.hid hok; have HSZ := Lib.hid hsz
  have HFITS := Lib.hid (show ∀ d ∈ ds, Fits d from errDeeds_all (errYard_ok hok).2.2.2)
  obtain ⟨K, hK1, hK2⟩ := mod_nat (n := n) hx1.1
  obtain ⟨P, hP1, hP2⟩ := mod_pos (n := n) hx2.1 hl0
  obtain ⟨hx10, hx11⟩ := hx1
  obtain ⟨hx20, hx21⟩ := hx2
  obtain ⟨b, off, rfl, hbl, ⟨hnc, hcm⟩, hcells⟩ := hcs (by rw [← hnn]; exact hl0)
  have HCL := Lib.hid hcells; have HBL := Lib.hid hbl
  obtain ⟨kind, hkd⟩ : ∃ kind, kind = ds[P]!.kind := ⟨_, rfl⟩
  have HKD := Lib.hid hkd
  have HK := Lib.hid (show w.cell? ⟨b, off + P * 8, none⟩ = some (.int .i64 kind) from hcells P (by rw [← hnn]; exact hP1) 0 _ (by rw [hkd]; rfl))
  clear h hsz hnn hg hok hcs hcells hkd hbl
  have HL0 := Lib.hid (show Locs w (w.alloc (.cells #[.int .i64 bef, .int .i64 aft, .slice (some ⟨b, off, none⟩) n c] 24)) [(w.heap.size, 24, [.int .i64 bef, .int .i64 aft, .slice (some ⟨b, off, none⟩) n c])] [] from (Locs.start w).alloc 24 [.int .i64 bef, .int .i64 aft, .slice (some ⟨b, off, none⟩) n c] rfl)
  have hn0b : ((n : Int) == 0) = false := by simp; omega
  have hn0c : (n == 0) = false := by simp; omega
  go_enter Try.func9, Try.ntmps9
  go_upto_region 3 with (first
    | (go_at_call 13; refine (HGR.out _ HL0.out.low).mono ?_; rintro e w1 ⟨rfl, hb1⟩; rw [HG.out]; have HL1 := Lib.hid (HL0.out.below hb1); have y0 := HL1.out.at 0 0 (v := .int .i64 bef) rfl rfl; have y1 := HL1.out.at 0 1 (v := .int .i64 aft) rfl rfl; have y2 := HL1.out.at 0 2 (v := .slice (some ⟨b, off, none⟩) n c) rfl rfl; clear hb1)
    | (go_at_call 14; refine (HCK.out _ HL1.out.low).mono ?_; rintro e w2 ⟨rfl, hb2⟩; rw [HOK.out]; have HL2 := Lib.hid (HL1.out.below hb2); clear hb2 y0 y1 y2; have y0 := HL2.out.at 0 0 (v := .int .i64 bef) rfl rfl; have y1 := HL2.out.at 0 1 (v := .int .i64 aft) rfl rfl; have y2 := HL2.out.at 0 2 (v := .slice (some ⟨b, off, none⟩) n c) rfl rfl))
  clear HL0 HL1 HGR HCK hn0b hn0c
  generalize w.heap.size = gy at HL2 y0 y1 y2 ⊢
  have hwn : IntKind.i64.wrap ((n : Int) + 1) = (n : Int) + 1 := by rw [IntKind.wrap_i64]; omega
  have hn1 : ¬ (n : Int) + 1 = 0 := by omega
  have hn2 : ¬ (n : Int) = 0 := by omega
  go_upto_region 5 with (fail)
  have HMODS := Lib.hid (And.intro hK2 hP2)
  clear y0 y1 y2 hwn hn1 hn2 hK2 hP2
  have y0 := (show w2.cell? ⟨gy, 0, none⟩ = some (.int .i64 bef) from HL2.out.at 0 0 (v := .int .i64 bef) rfl rfl)
  have y1 := (show w2.cell? ⟨gy, 1, none⟩ = some (.int .i64 aft) from HL2.out.at 0 1 (v := .int .i64 aft) rfl rfl)
  have y2 := (show w2.cell? ⟨gy, 2, none⟩ = some (.slice (some ⟨b, off, none⟩) n c) from HL2.out.at 0 2 (v := .slice (some ⟨b, off, none⟩) n c) rfl rfl)
  go_upto_region 6 with (first
    | (go_at_call 16; refine (HFO.out K hK1 _ HL2.out.low).mono ?_; rintro e v1 ⟨rows1, tv1, acc1, k1, f1, hfo, hsm, hkk, rfl, hb, hst⟩; obtain ⟨⟨vapour10, vapour11⟩, ⟨broth10, broth11⟩, ⟨dust10, dust11⟩, ⟨soldDry10, soldDry11⟩, ⟨soldWater10, soldWater11⟩, ⟨soaked10, soaked11⟩⟩ := acc1; obtain ⟨t1a, t1n, t1c, rfl⟩ := row_slice hst.things; have HFO1 := Lib.hid hfo; have HSM1 := Lib.hid hsm; have HKK1 := Lib.hid hkk; have HL3 := Lib.hid (HL2.out.stand hb hst rfl); have HO1 := Lib.hid (show (#[.slice t1a t1n t1c, .int .i64 vapour10, .int .i64 vapour11, .int .i64 broth10, .int .i64 broth11, .int .i64 dust10, .int .i64 dust11, .int .i64 soldDry10, .int .i64 soldDry11, .int .i64 soldWater10, .int .i64 soldWater11, .int .i64 soaked10, .int .i64 soaked11] : Array Value).all (·.oneCell') = true from by simp [Value.oneCell']); clear hfo hsm hkk hst hb )
    | ((with_reducible refine at_store 36 (.tmp 9) (.tmp 58) ?_); go_must (refine wpList_store_mid rfl 36 (.tmp 9) (.tmp 58) rfl v1.heap.size 0 #[.slice t1a t1n t1c, .int .i64 vapour10, .int .i64 vapour11, .int .i64 broth10, .int .i64 broth11, .int .i64 dust10, .int .i64 dust11, .int .i64 soldDry10, .int .i64 soldDry11, .int .i64 soldWater10, .int .i64 soldWater11, .int .i64 soaked10, .int .i64 soaked11] rfl rfl ((Blk.new v1 36 #[.slice none 0 0, .int .i64 0, .int .i64 0, .int .i64 0, .int .i64 0, .int .i64 0, .int .i64 0, .int .i64 0, .int .i64 0, .int .i64 0, .int .i64 0, .int .i64 0, .int .i64 0]).there (o := 0) (n := 13) (Nat.le_of_ble_eq_true rfl)) size_standing (HO1.out) ?_)))
  clear y0 y1 y2
  have HL4 := Lib.hid (show Locs w ((v1.alloc (.cells #[.slice none 0 0, .int .i64 0, .int .i64 0, .int .i64 0, .int .i64 0, .int .i64 0, .int .i64 0, .int .i64 0, .int .i64 0, .int .i64 0, .int .i64 0, .int .i64 0, .int .i64 0] 36)).setCells v1.heap.size 0 [.slice t1a t1n t1c, .int .i64 vapour10, .int .i64 vapour11, .int .i64 broth10, .int .i64 broth11, .int .i64 dust10, .int .i64 dust11, .int .i64 soldDry10, .int .i64 soldDry11, .int .i64 soldWater10, .int .i64 soldWater11, .int .i64 soaked10, .int .i64 soaked11]) [(gy, 24, [.int .i64 bef, .int .i64 aft, .slice (some ⟨b, off, none⟩) n c]), (v1.heap.size, 36, [.slice t1a t1n t1c, .int .i64 vapour10, .int .i64 vapour11, .int .i64 broth10, .int .i64 broth11, .int .i64 dust10, .int .i64 dust11, .int .i64 soldDry10, .int .i64 soldDry11, .int .i64 soldWater10, .int .i64 soldWater11, .int .i64 soaked10, .int .i64 soaked11])] [(rows1, .slice t1a t1n t1c)] from (HL3.out.alloc 36 [.slice none 0 0, .int .i64 0, .int .i64 0, .int .i64 0, .int .i64 0, .int .i64 0, .int .i64 0, .int .i64 0, .int .i64 0, .int .i64 0, .int .i64 0, .int .i64 0, .int .i64 0] rfl).setLoc 1 [] [.slice none 0 0, .int .i64 0, .int .i64 0, .int .i64 0, .int .i64 0, .int .i64 0, .int .i64 0, .int .i64 0, .int .i64 0, .int .i64 0, .int .i64 0, .int .i64 0, .int .i64 0] [] [.slice t1a t1n t1c, .int .i64 vapour10, .int .i64 vapour11, .int .i64 broth10, .int .i64 broth11, .int .i64 dust10, .int .i64 dust11, .int .i64 soldDry10, .int .i64 soldDry11, .int .i64 soldWater10, .int .i64 soldWater11, .int .i64 soaked10, .int .i64 soaked11] rfl rfl)
  clear HL3
  generalize ((v1.alloc (.cells #[.slice none 0 0, .int .i64 0, .int .i64 0, .int .i64 0, .int .i64 0, .int .i64 0, .int .i64 0, .int .i64 0, .int .i64 0, .int .i64 0, .int .i64 0, .int .i64 0, .int .i64 0] 36)).setCells v1.heap.size 0 [.slice t1a t1n t1c, .int .i64 vapour10, .int .i64 vapour11, .int .i64 broth10, .int .i64 broth11, .int .i64 dust10, .int .i64 dust11, .int .i64 soldDry10, .int .i64 soldDry11, .int .i64 soldWater10, .int .i64 soldWater11, .int .i64 soaked10, .int .i64 soaked11]) = v2 at HL4 ⊢
  generalize v1.heap.size = g1 at HL4 ⊢
  try simp only [Act.put]
  have y0 := (show v2.cell? ⟨gy, 0, none⟩ = some (.int .i64 bef) from HL4.out.at 0 0 (v := .int .i64 bef) rfl rfl)
  have y1 := (show v2.cell? ⟨gy, 1, none⟩ = some (.int .i64 aft) from HL4.out.at 0 1 (v := .int .i64 aft) rfl rfl)
  have y2 := (show v2.cell? ⟨gy, 2, none⟩ = some (.slice (some ⟨b, off, none⟩) n c) from HL4.out.at 0 2 (v := .slice (some ⟨b, off, none⟩) n c) rfl rfl)
  by_cases hno : K ≤ P ∨ kind ≠ 1 ∨ f1 ≠ 0
  · have HNO := Lib.hid (show K ≤ P ∨ ds[P]!.kind ≠ 1 ∨ (Yd.follow bef aft ds K).2.2 ≠ 0 from by rw [← HKD.out, HFO1.out]; exact hno)
    have HHC := Lib.hid (HHN.out K P hK1 hP1 HNO.out _ HL4.out.low)
    by_cases hf1 : f1 = 0
    · subst hf1
      by_cases hkp : K ≤ P
      · have e1 : decide ((K : Int) ≤ (P : Int)) = true := by simp; omega
        have e2 : decide (K ≤ P) = true := by simp; omega
        go_wp2_with (first
          | (go_at_call 24; refine HHC.out.mono ?_; rintro e w5 ⟨⟨r, hr, rfl⟩, hb5⟩; have hr2 : (r != 0) = true := (by simpa using hr); have HL9 := Lib.hid (HL4.out.below hb5); clear hb5 hr)
          | (go_at_call 15; refine (stands_calls _).mono ?_; rintro e w9 ⟨rfl, hb9⟩; have HL99 := Lib.hid (HL9.out.below hb9); clear hb9))
        go_ret
        exact lawDone HL99.out.low
      · have hkn : kind ≠ 1 := (hno.resolve_left hkp).resolve_right (by simp)
        have e1 : decide ((K : Int) ≤ (P : Int)) = false := by simp; omega
        have e2 : decide (K ≤ P) = false := by simp; omega
        have e3 : (kind != 1) = true := by simpa using hkn
        have hPI : (P : Int) < (n : Int) := by omega
        go_wp2_with (first
          | (go_at_call 24; refine HHC.out.mono ?_; rintro e w5 ⟨⟨r, hr, rfl⟩, hb5⟩; have hr2 : (r != 0) = true := (by simpa using hr); have HL9 := Lib.hid (HL4.out.below hb5); clear hb5 hr; have z2 := HL9.out.at 0 2 (v := .slice (some ⟨b, off, none⟩) n c) rfl rfl; have zk := (HL9.out.low.cell (p := ⟨b, off + P * 8, none⟩) HBL.out).trans HK.out)
          | (go_at_call 15; refine (stands_calls _).mono ?_; rintro e w9 ⟨rfl, hb9⟩; have HL99 := Lib.hid (HL9.out.below hb9); clear hb9))
        go_ret
        exact lawDone HL99.out.low
    · have e1 : (f1 != 0) = true := by simpa using hf1
      go_wp2_with (first
        | (go_at_call 24; refine HHC.out.mono ?_; rintro e w5 ⟨⟨r, hr, rfl⟩, hb5⟩; have hr2 : (r != 0) = true := (by simpa using hr); have HL9 := Lib.hid (HL4.out.below hb5); clear hb5 hr)
        | (go_at_call 15; refine (stands_calls _).mono ?_; rintro e w9 ⟨rfl, hb9⟩; have HL99 := Lib.hid (HL9.out.below hb9); clear hb9))
      go_ret
      exact lawDone HL99.out.low
  · simp only [not_or, Classical.not_not] at hno
    obtain ⟨hno1, rfl, rfl⟩ := hno
    have hPK : P < K := by omega
    have HHC := Lib.hid (HHY.out K P hK1 hP1 hPK HKD.out.symm (by rw [HFO1.out]) _ HL4.out.low)
    have e1 : decide ((K : Int) ≤ (P : Int)) = false := by simp; omega
    have e2 : decide (K ≤ P) = false := by simp; omega
    have hPI : (P : Int) < (n : Int) := by omega
    go_upto_region 11 with (go_at_call 24; refine HHC.out.mono ?_; rintro e w5 ⟨hv, rows', acc', k', rfl, hb, hfo', hlen, hrow⟩; have hre : holdersOf (P : Int) rows' = holdersOf (P : Int) rows1 := holders_eq (by rw [HFO1.out] at hfo'; simp only [Prod.mk.injEq, stOf, St.mk.injEq] at hfo'; exact hfo'.1.1.symm); rw [hre] at hrow; obtain ⟨ha, hn_, hc, rfl⟩ := row_slice hrow; have HROW := Lib.hid hrow; have HL9 := Lib.hid (HL4.out.below hb); have z2 := HL9.out.at 0 2 (v := .slice (some ⟨b, off, none⟩) n c) rfl rfl; have zk := (HL9.out.low.cell (p := ⟨b, off + P * 8, none⟩) HBL.out).trans HK.out; clear hb hfo' hlen hre hrow)
    clear z2 zk e1 e2 y0 y1 y2 HHC
    have HB5 := Lib.hid HL9.out.low
    have HYO := Lib.hid (fun W (hb : Below w5.heap.size w5 W) => (HL9.out.blk 0 rfl).below hb)
    have H1O := Lib.hid (fun W (hb : Below w5.heap.size w5 W) => (HL9.out.blk 1 rfl).below hb)
    have HS1 := Lib.hid (fun W (hb : Below w5.heap.size w5 W) => (HL9.out.stood 0 rfl).below hb)
    have HHR := Lib.hid (fun W (hb : Below w5.heap.size w5 W) => row_same HROW.out (fun g hg => hb.block g (row_lt HROW.out hg)))
    have HL10 := Lib.hid (Locs.start w5)
    clear HL9 HL4 HROW
    have y0 := (HYO.out w5 HL10.out.low).at 0 (.int .i64 bef) rfl
    have y1 := (HYO.out w5 HL10.out.low).at 1 (.int .i64 aft) rfl
    have y2 := (HYO.out w5 HL10.out.low).at 2 (.slice (some ⟨b, off, none⟩) n c) rfl
    go_upto_region 12 with (((with_reducible refine at_store 24 (.tmp 15) (.tmp 97) ?_); go_must (refine wpList_store_mid rfl 24 (.tmp 15) (.tmp 97) rfl w5.heap.size 0 #[.int .i64 bef, .int .i64 aft, .slice (some ⟨b, off, none⟩) n c] rfl rfl ((Blk.new w5 24 #[.int .i64 0, .int .i64 0, .slice none 0 0]).there (o := 0) (n := 3) (Nat.le_of_ble_eq_true rfl)) size_yard (yard_ones _ _ _ _ _) ?_)))
    clear y0 y1 y2
    have HL11 := Lib.hid (show Locs w5 ((w5.alloc (.cells #[.int .i64 0, .int .i64 0, .slice none 0 0] 24)).setCells w5.heap.size 0 [.int .i64 bef, .int .i64 aft, .slice (some ⟨b, off, none⟩) n c]) [(w5.heap.size, 24, [.int .i64 bef, .int .i64 aft, .slice (some ⟨b, off, none⟩) n c])] [] from (HL10.out.alloc 24 [.int .i64 0, .int .i64 0, .slice none 0 0] rfl).setLoc 0 [] [.int .i64 0, .int .i64 0, .slice none 0 0] [] [.int .i64 bef, .int .i64 aft, .slice (some ⟨b, off, none⟩) n c] rfl rfl)
    clear HL10
    generalize ((w5.alloc (.cells #[.int .i64 0, .int .i64 0, .slice none 0 0] 24)).setCells w5.heap.size 0 [.int .i64 bef, .int .i64 aft, .slice (some ⟨b, off, none⟩) n c]) = v3 at HL11 ⊢
    generalize w5.heap.size = go at HL11 ⊢
    try simp only [Act.put]
    obtain ⟨i1_, hi1, hi1a, hi1b, hi1c⟩ := info_parts info_deedz
    have HI1 := Lib.hid hi1; have HI1a := Lib.hid hi1a; have HI1b := Lib.hid hi1b; have HI1c := Lib.hid hi1c
    have HFL := Lib.hid (show (flat deedCells ds).length = n * 8 from by rw [flat_length deed_eight, HN.out])
    have HFO' := Lib.hid (show ∀ u ∈ flat deedCells ds, u.oneCell' = true from flat_ones deed_ones ds)
    have HOWN1 := Lib.hid (show (v3.alloc (.cells #[] 55)).ownsRow v3.heap.size 55 8 (.slice (some ⟨v3.heap.size, 0, none⟩) 0 0) 0 [] from owns_emptyD v3)
    have HBV1 := Lib.hid (show Below w.heap.size w (v3.alloc (.cells #[] 55)) from by have h1 := HB5.out.trans (HL11.out.low.mono HB5.out.size); exact h1.alloc h1.size _)
    have HSZ1 := Lib.hid (show v3.heap.size ≤ (v3.alloc (.cells #[] 55)).heap.size from by rw [World.size_alloc]; omega)
    have HHD6 := Lib.hid (HHD.out.below HBV1.out)
    have HLa := Lib.hid (HL11.out.below ((Below.refl v3.heap.size v3).alloc (Nat.le_refl _) (.cells #[] 55)))
    have HLT := Lib.hid (HL11.out.far 0 rfl)
    have y2 := (HYO.out _ HLa.out.low).at 2 (.slice (some ⟨b, off, none⟩) n c) rfl
    clear hi1 hi1a hi1b hi1c
    go_upto_region 13 with (at_builtin; refine wpList_append_own _ rfl (.tmp 98) (.tmp 100) 22 rfl v3.heap.size 55 i1_ (.agg #[.int .i64 0, .int .i64 0, .string ⟨#[]⟩, .string ⟨#[]⟩, .int .i64 0, .int .i64 0, .int .i64 0, .int .i64 0]) 8 80 Try.underlying22 HI1.out HI1a.out HI1b.out HI1c.out rfl (by decide) _ _ _ rfl HOWN1.out ⟨b, off, none⟩ n c (flat deedCells ds) rfl HFL.out (fun j u hu => HHD6.out.flat deed_eight (by decide) j u hu) HFO'.out (by unfold maxLen; omega) (by omega) HSZ1.out ?_; intro v7 w7 hown7 hgrow7 hnil7; have hne7 : v7 ≠ .slice none 0 0 := (fun hh => (by have := (hnil7.1 hh).1; cases this)); simp only [Nat.zero_add, List.nil_append] at hown7; obtain ⟨g, cap, cur, hv7, hcur, hcap, hcapm, hgw, hgtake⟩ := row_blockD hown7 hne7; subst hv7; have hbel7 : Below v3.heap.size (v3.alloc (.cells #[] 55)) w7 := (Below.refl _ _).grown hgrow7 HSZ1.out (fun k e => (by cases e; exact Nat.le_refl _)); have HL7 := Lib.hid (HLa.out.belowAt hbel7 (by have := HL11.out.low.size; exact this) (fun x hx => by rw [List.mem_singleton.1 hx]; exact HLT.out.2)); have HCUR := Lib.hid hcur; have HCAP := Lib.hid (And.intro hcap (And.intro hcapm (And.intro hgw hgtake))); have l2 := HL7.out.at 0 2 (v := .slice (some ⟨b, off, none⟩) n c) rfl rfl; have lf := HL7.out.frozen 0 rfl 2; clear hown7 hgrow7 hnil7 hne7 hcur hcap hcapm hgw hgtake hbel7 y2)
    clear l2 lf
    have hnG : g ≠ go := by have h1 := HCAP.out.2.2.1; have h2 := HLT.out.2; omega
    have HL8 := Lib.hid (show Locs w5 (w7.setCell ⟨go, 2, none⟩ (.slice (some ⟨g, 0, none⟩) n cap)) [(go, 24, [.int .i64 bef, .int .i64 aft, .slice (some ⟨g, 0, none⟩) n cap])] [] from HL7.out.setLoc1 0 [.int .i64 bef, .int .i64 aft] [] (.slice (some ⟨b, off, none⟩) n c) (.slice (some ⟨g, 0, none⟩) n cap) 2 rfl rfl)
    have HC8 := Lib.hid (show Blk (w7.setCell ⟨go, 2, none⟩ (.slice (some ⟨g, 0, none⟩) n cap)) g 55 cur.toList.toArray from by rw [Array.toArray_toList]; exact HCUR.out.apart hnG 2 [.slice (some ⟨g, 0, none⟩) n cap])
    have HL9 := Lib.hid (HL8.out.adopt HC8.out (by have h1 := HCAP.out.2.2.1; have h2 := HL11.out.low.size; omega) (fun x hx => by rw [List.mem_singleton.1 hx]; exact hnG.symm))
    clear HL7 HL8 HC8 HCUR HLa HL11 hnG
    obtain ⟨PRE, POST, hcur2, hPL, spare, hXS⟩ := pile_split (ds := ds) (p := P) (cur := cur) (by rw [← HN.out]; exact hP1) (by rw [← HN.out]; exact HCAP.out.2.2.2)
    rw [hcur2] at HL9
    have hfp := HFITS.out _ (get_in (show P < ds.length by rw [← HN.out]; exact hP1))
    obtain ⟨al, hal⟩ : ∃ al, al = ds[P]!.a.lo := ⟨_, rfl⟩
    obtain ⟨ah, hah⟩ : ∃ ah, ah = ds[P]!.a.hi := ⟨_, rfl⟩
    have hA : 0 ≤ al ∧ al ≤ ah ∧ ah ≤ 100000000 := by rw [hal, hah]; exact ⟨hfp.fine.a.1, hfp.fine.a.2, hfp.a8⟩
    rw [← hal, ← hah] at HL9 hXS
    have HXS := Lib.hid hXS
    have HPL := Lib.hid hPL
    generalize (w7.setCell ⟨go, 2, none⟩ (.slice (some ⟨g, 0, none⟩) n cap)) = w8 at HL9 ⊢
    have t4 := cell_regrown (show w8.cell? ⟨b, off + P * 8 + 4, none⟩ = some (.int .i64 al) from ((HB5.out.trans (HL9.out.low.mono HB5.out.size)).cell (p := ⟨b, off + P * 8 + 4, none⟩) HBL.out).trans (HCL.out P (by rw [← HN.out]; exact hP1) 4 _ (by rw [hal]; rfl)))
    have t5 := cell_regrown (show w8.cell? ⟨b, off + P * 8 + 5, none⟩ = some (.int .i64 ah) from ((HB5.out.trans (HL9.out.low.mono HB5.out.size)).cell (p := ⟨b, off + P * 8 + 5, none⟩) HBL.out).trans (HCL.out P (by rw [← HN.out]; exact hP1) 5 _ (by rw [hah]; rfl)))
    have o2 := cell_regrown (HL9.out.at 0 2 (v := .slice (some ⟨g, 0, none⟩) n cap) rfl rfl)
    have y2 := cell_regrown ((HYO.out w8 HL9.out.low).at 2 (.slice (some ⟨b, off, none⟩) n c) rfl)
    have k1 := fun (a b : Int) => regrown_calls (W := w8) (fun W => bounds_calls a b W)
    clear hcur2 hPL hXS hfp hal hah
    refine region_split_below 22 (by kernel_rfl) (by kernel_rfl) (by kernel_rfl) ?_
    simp only [List.take_succ_cons, List.take_zero, List.drop_succ_cons, List.drop_zero]
    repeat (go_big_quiet_step (first | (with_reducible exact k1 _ _ _ _)))
    refine wpQuiet_nil ?_
    intro wq hw'
    have hb8 : Below w8.heap.size w8 wq := by obtain ⟨⟨dq, osq⟩, hw''⟩ := hw'; rw [hw'']; exact below_regrown _ dq osq
    clear hw' t4 t5 o2 y2 k1
    have hmin : (if 2 * ah < 100000000 then 2 * ah else 100000000) = min 100000000 (2 * ah) := by split <;> omega
    rw [hmin]
    obtain ⟨ah2, hah2⟩ : ∃ x, x = min 100000000 (2 * ah) := ⟨_, rfl⟩
    rw [← hah2] at HXS ⊢
    have HL10 := Lib.hid (HL9.out.below hb8)
    clear hmin hah2 hb8 HL9
    generalize wq = w10 at HL10 ⊢
    refine wpList_store_mid rfl 32 (.tmp 124) (.tmp 122) rfl g (P * 8 + 4) #[.int .i64 al, .int .i64 ah2] rfl rfl (HL10.out.there 1 (o := P * 8 + 4) (n := 2) rfl (by have h1 := HPL.out; simp only [List.length_append, List.length_cons, List.length_nil]; omega)) size_bounds (by simp [Value.oneCell']) ?_
    change wpList _ _ _ _ _ (w10.setCells g (P * 8 + 4) [.int .i64 al, .int .i64 ah2])
    have HL11 := Lib.hid (show Locs w5 (w10.setCells g (P * 8 + 4) [.int .i64 al, .int .i64 ah2]) [(go, 24, [.int .i64 bef, .int .i64 aft, .slice (some ⟨g, 0, none⟩) n cap]), (g, 55, PRE ++ [.int .i64 al, .int .i64 ah2] ++ POST)] [] from by have h1 := HL10.out.setLoc 1 PRE [.int .i64 al, .int .i64 ah] POST [.int .i64 al, .int .i64 ah2] rfl rfl; rw [HPL.out] at h1; exact h1)
    clear HL10
    generalize w10.setCells g (P * 8 + 4) [.int .i64 al, .int .i64 ah2] = w11 at HL11 ⊢
    have HES := Lib.hid (held_of_blk (w := w11) (g := g) (cap := cap) (n := n) (xs := ds.set P (doubled ds[P]!)) (spare := spare) (by have h1 := HL11.out.blk 1 rfl; rw [HXS.out] at h1; exact h1) (by rw [List.length_set]; exact HN.out.symm) HCAP.out.1 HCAP.out.2.1 (by omega))
    have HPL2 := Lib.hid (show P < ds.length from by rw [← HN.out]; exact hP1)
    have HFE := Lib.hid (follow_calls bef aft (.slice (some ⟨g, 0, none⟩) n cap) (ds.set P (doubled ds[P]!)) K w11 HES.out (errYard_doubled HPL2.out HKD.out.symm HOK.out) (sizes_doubled HPL2.out HSZ.out) (by rw [List.length_set, ← HN.out]; exact hK1) (Nat.le_trans hK1 h12))
    clear HXS HPL HES
    try simp only [Act.put]
    have y0 := (show w11.cell? ⟨go, 0, none⟩ = some (.int .i64 bef) from HL11.out.at 0 0 (v := .int .i64 bef) rfl rfl)
    have y1 := (show w11.cell? ⟨go, 1, none⟩ = some (.int .i64 aft) from HL11.out.at 0 1 (v := .int .i64 aft) rfl rfl)
    have y2 := (show w11.cell? ⟨go, 2, none⟩ = some (.slice (some ⟨g, 0, none⟩) n cap) from HL11.out.at 0 2 (v := .slice (some ⟨g, 0, none⟩) n cap) rfl rfl)
    go_upto_region 15 with (first
      | (go_at_call 16; refine (HFE.out).mono ?_; rintro e v4 ⟨rows2, tv2, acc2, k2, f2, hfo, hsm, hkk, rfl, hb, hst⟩; obtain ⟨⟨vapour20, vapour21⟩, ⟨broth20, broth21⟩, ⟨dust20, dust21⟩, ⟨soldDry20, soldDry21⟩, ⟨soldWater20, soldWater21⟩, ⟨soaked20, soaked21⟩⟩ := acc2; obtain ⟨t2a, t2n, t2c, rfl⟩ := row_slice hst.things; have HFO2 := Lib.hid hfo; have HSM2 := Lib.hid hsm; have HKK2 := Lib.hid hkk; have HL12 := Lib.hid (HL11.out.stand hb hst rfl); have HO2 := Lib.hid (show (#[.slice t2a t2n t2c, .int .i64 vapour20, .int .i64 vapour21, .int .i64 broth20, .int .i64 broth21, .int .i64 dust20, .int .i64 dust21, .int .i64 soldDry20, .int .i64 soldDry21, .int .i64 soldWater20, .int .i64 soldWater21, .int .i64 soaked20, .int .i64 soaked21] : Array Value).all (·.oneCell') = true from by simp [Value.oneCell']); clear hfo hsm hkk hst hb )
      | ((with_reducible refine at_store 36 (.tmp 16) (.tmp 129) ?_); go_must (refine wpList_store_mid rfl 36 (.tmp 16) (.tmp 129) rfl v4.heap.size 0 #[.slice t2a t2n t2c, .int .i64 vapour20, .int .i64 vapour21, .int .i64 broth20, .int .i64 broth21, .int .i64 dust20, .int .i64 dust21, .int .i64 soldDry20, .int .i64 soldDry21, .int .i64 soldWater20, .int .i64 soldWater21, .int .i64 soaked20, .int .i64 soaked21] rfl rfl ((Blk.new v4 36 #[.slice none 0 0, .int .i64 0, .int .i64 0, .int .i64 0, .int .i64 0, .int .i64 0, .int .i64 0, .int .i64 0, .int .i64 0, .int .i64 0, .int .i64 0, .int .i64 0, .int .i64 0]).there (o := 0) (n := 13) (Nat.le_of_ble_eq_true rfl)) size_standing (HO2.out) ?_)))
    clear y0 y1 y2
    have HL13 := Lib.hid (show Locs w5 ((v4.alloc (.cells #[.slice none 0 0, .int .i64 0, .int .i64 0, .int .i64 0, .int .i64 0, .int .i64 0, .int .i64 0, .int .i64 0, .int .i64 0, .int .i64 0, .int .i64 0, .int .i64 0, .int .i64 0] 36)).setCells v4.heap.size 0 [.slice t2a t2n t2c, .int .i64 vapour20, .int .i64 vapour21, .int .i64 broth20, .int .i64 broth21, .int .i64 dust20, .int .i64 dust21, .int .i64 soldDry20, .int .i64 soldDry21, .int .i64 soldWater20, .int .i64 soldWater21, .int .i64 soaked20, .int .i64 soaked21]) [(go, 24, [.int .i64 bef, .int .i64 aft, .slice (some ⟨g, 0, none⟩) n cap]), (g, 55, PRE ++ [.int .i64 al, .int .i64 ah2] ++ POST), (v4.heap.size, 36, [.slice t2a t2n t2c, .int .i64 vapour20, .int .i64 vapour21, .int .i64 broth20, .int .i64 broth21, .int .i64 dust20, .int .i64 dust21, .int .i64 soldDry20, .int .i64 soldDry21, .int .i64 soldWater20, .int .i64 soldWater21, .int .i64 soaked20, .int .i64 soaked21])] [(rows2, .slice t2a t2n t2c)] from (HL12.out.alloc 36 [.slice none 0 0, .int .i64 0, .int .i64 0, .int .i64 0, .int .i64 0, .int .i64 0, .int .i64 0, .int .i64 0, .int .i64 0, .int .i64 0, .int .i64 0, .int .i64 0, .int .i64 0] rfl).setLoc 2 [] [.slice none 0 0, .int .i64 0, .int .i64 0, .int .i64 0, .int .i64 0, .int .i64 0, .int .i64 0, .int .i64 0, .int .i64 0, .int .i64 0, .int .i64 0, .int .i64 0, .int .i64 0] [] [.slice t2a t2n t2c, .int .i64 vapour20, .int .i64 vapour21, .int .i64 broth20, .int .i64 broth21, .int .i64 dust20, .int .i64 dust21, .int .i64 soldDry20, .int .i64 soldDry21, .int .i64 soldWater20, .int .i64 soldWater21, .int .i64 soaked20, .int .i64 soaked21] rfl rfl)
    clear HL12
    generalize ((v4.alloc (.cells #[.slice none 0 0, .int .i64 0, .int .i64 0, .int .i64 0, .int .i64 0, .int .i64 0, .int .i64 0, .int .i64 0, .int .i64 0, .int .i64 0, .int .i64 0, .int .i64 0, .int .i64 0] 36)).setCells v4.heap.size 0 [.slice t2a t2n t2c, .int .i64 vapour20, .int .i64 vapour21, .int .i64 broth20, .int .i64 broth21, .int .i64 dust20, .int .i64 dust21, .int .i64 soldDry20, .int .i64 soldDry21, .int .i64 soldWater20, .int .i64 soldWater21, .int .i64 soaked20, .int .i64 soaked21]) = v5 at HL13 ⊢
    generalize v4.heap.size = g2 at HL13 ⊢
    try simp only [Act.put]
    have HK1 := Lib.hid (show k1 = K from by have h1 := (follow_count bef aft ds (n := K) (by rw [← HN.out]; exact hK1)).2.1 (by rw [HFO1.out]); rw [HFO1.out] at h1; exact h1)
    have HFK := Lib.hid (show Yd.follow bef aft ds K = (stOf rows1 (⟨⟨vapour10, vapour11⟩, ⟨broth10, broth11⟩, ⟨dust10, dust11⟩, ⟨soldDry10, soldDry11⟩, ⟨soldWater10, soldWater11⟩, ⟨soaked10, soaked11⟩⟩ : Yd.Acc), K, 0) from by rw [HFO1.out, HK1.out])
    have HKIN := Lib.hid (fun (hk : k2 = K) => kin_follow HPL2.out HKD.out.symm (by rw [← HN.out]; exact hK1) HFK.out HFO2.out hk)
    have HROOT := Lib.hid (rooted_at HFK.out (fun d h => (HFITS.out d h).fine))
    have HLEN := Lib.hid (show t1n = rows1.length from row_len (HS1.out w5 (Below.refl _ _)).things)
    have hm8 : t1n ≤ 8 := by rw [HLEN.out]; exact (HS1.out w5 (Below.refl _ _)).few
    have HT2 := Lib.hid (show t2n = rows2.length from row_len (HL13.out.stood 0 rfl).things)
    have ht28 : t2n ≤ 8 := by rw [HT2.out]; exact (HL13.out.stood 0 rfl).few
    have HHL := Lib.hid (show hn_ = (holdersOf (P : Int) rows1).length from row_len (HHR.out w5 (Below.refl _ _)))
    have hk2K : k2 ≤ K := HKK2.out
    go_wp2
    go_loopw [20, 21] (fun hv iv wr => ∃ i : Nat, i ≤ t1n ∧ hv = .int .i64 ((holdersOf (P : Int) (rows1.take i)).length : Nat) ∧ iv = .int .i64 i ∧ Hid (Locs w5 wr [(go, 24, [.int .i64 bef, .int .i64 aft, .slice (some ⟨g, 0, none⟩) n cap]), (g, 55, PRE ++ [.int .i64 al, .int .i64 ah2] ++ POST), (g2, 36, [.slice t2a t2n t2c, .int .i64 vapour20, .int .i64 vapour21, .int .i64 broth20, .int .i64 broth21, .int .i64 dust20, .int .i64 dust21, .int .i64 soldDry20, .int .i64 soldDry21, .int .i64 soldWater20, .int .i64 soldWater21, .int .i64 soaked20, .int .i64 soaked21])] [(rows2, .slice t2a t2n t2c)])) (fun _ iv _ => t1n - (intOf iv).toNat)
    case atStart => exact ⟨0, Nat.zero_le _, rfl, rfl, HL13⟩
    case round =>
      clear HL13
      obtain ⟨i, hi, rfl, rfl, HL14⟩ := hrel
      have s0 := (H1O.out wr HL14.out.low).at 0 (.slice t1a t1n t1c) rfl
      by_cases hit : i < t1n
      · have hir : i < rows1.length := by rw [← HLEN.out]; exact hit
        have hiI : (i : Int) < (t1n : Int) := by omega
        obtain ⟨r, hr⟩ : ∃ r, rows1[i]? = some r := ⟨_, List.getElem?_eq_getElem hir⟩
        have hmem := List.mem_of_getElem? hr
        have HS5 := Lib.hid (HS1.out w5 (Below.refl _ _))
        obtain ⟨gp, cp, hvp, hgp, hcp⟩ := HS5.out.row hr
        obtain ⟨fa, fc, hfv, hfcs⟩ := ints_at (HS5.out.froms r hmem)
        have hfl := HS5.out.fromsLen r hmem
        have hsl : (stOf rows1 (⟨⟨vapour10, vapour11⟩, ⟨broth10, broth11⟩, ⟨dust10, dust11⟩, ⟨soldDry10, soldDry11⟩, ⟨soldWater10, soldWater11⟩, ⟨soaked10, soaked11⟩⟩ : Yd.Acc)).stacks[i]? = some r.1 := by simp [stOf, hr]
        have hat := at_row hsl (by have := HS5.out.codes; simpa [stOf, List.map_map, Function.comp_def] using this)
        have hrt := HROOT.out r.1 (List.mem_of_getElem? hsl)
        have hso := HSO.out K hK1 (by rw [HFK.out]) r.1.code r.1 (by rw [HFK.out]; exact hat)
        have hhas := holders_has (p := (P : Int)) hmem HS5.out.codes
        have hstep := holders_step (p := (P : Int)) hr
        have hkin := fun (hk : k2 = K) => (HKIN.out hk)
        obtain ⟨⟨code, ⟨dl, dh⟩, ⟨wl, wh⟩, pil, boi, src⟩, pv⟩ := r
        simp only at hfv hfl hat hrt hso hhas hstep hfcs
        subst hfv
        obtain ⟨fn, hfn⟩ : ∃ m, m = src.length := ⟨_, rfl⟩
        have HFN := Lib.hid hfn
        rw [← hfn] at hcp hfl
        have HRT := Lib.hid hrt; have HSX := Lib.hid hso; have HHAS := Lib.hid hhas; have HSTEP := Lib.hid hstep; have HFC := Lib.hid hfcs; have HGP := Lib.hid hgp; have HSL := Lib.hid hsl
        injection hvp with e1 e2 e3
        subst e1 e3
        have HCP := Lib.hid hcp
        have c0 : wr.cell? ⟨gp, i * 8, none⟩ = some (.string code) := (HL14.out.low.cell (p := ⟨gp, i * 8, none⟩) hgp).trans (hcp 0 (by decide))
        have HGW := Lib.hid (show gp < wr.heap.size from Nat.lt_of_lt_of_le hgp HL14.out.low.size)
        clear hrt hso hhas hstep hfcs hcp hat hmem hsl hkin e2 hfn hr
        go_upto_region 21 with (fail)
        have hmix : Try.prog.follows .mixedOrders = true := by kernel_rfl
        refine region_till [] (fun w' => Below wr.heap.size wr w') 14 [false, false, false, false, false, false, false, false, false, false, false, false, false, false] hmix rfl rfl ?_
        clear hmix
        have HT := Lib.hid ((Below.refl wr.heap.size wr).drew)
        have HL15 := Lib.hid (HL14.out.drew)
        generalize wr.drew = v6 at HT HL15 ⊢
        refine till_load (i := 0) (v := .agg #[.int .i64 bef, .int .i64 aft, .slice (some ⟨b, off, none⟩) n c]) rfl rfl (by kernel_rfl) (fun _ _ _ h => h) (yields_mid rfl 24 (.tmp 3) rfl (gy) 0 rfl [.int .i64 bef, .int .i64 aft, .slice (some ⟨b, off, none⟩) n c] _ (fun w' hw' => (HYO.out w' ((HL14.out.low).trans (hw'.mono HL14.out.low.size))).range 0 _ rfl) Try.underlying24 rfl (by kernel_rfl)) (fun _ => HT.out) ?_
        try simp only [List.setIfInBounds_toArray, List.set_cons_succ, List.set_cons_zero]
        refine till_pure (i := 1) (v := .int .i64 K) rfl rfl (by kernel_rfl) (fun _ _ _ h => h) (yields_of rfl (fun w' _ => by simp [go_sem])) (fun _ => HT.out) ?_
        try simp only [List.setIfInBounds_toArray, List.set_cons_succ, List.set_cons_zero]
        refine till_pure (i := 2) (v := .pointer (some ⟨g1, 0, none⟩)) rfl rfl (by kernel_rfl) (fun _ _ _ h => h) (yields_of rfl (fun w' _ => by simp [go_sem])) (fun _ => HT.out) ?_
        try simp only [List.setIfInBounds_toArray, List.set_cons_succ, List.set_cons_zero]
        refine till_load (i := 3) (v := .slice (some ⟨gp, 0, none⟩) t1n t1c) rfl rfl (by kernel_rfl) (fun _ _ _ h => h) (yields_of rfl (fun w' hw' => by have hcx : w'.cell? ⟨g1, 0, none⟩ = some (.slice (some ⟨gp, 0, none⟩) t1n t1c) := (H1O.out w' ((HL14.out.low).trans (hw'.mono HL14.out.low.size))).at 0 _ rfl; simp [go_sem, hcx])) (fun _ => HT.out) ?_
        try simp only [List.setIfInBounds_toArray, List.set_cons_succ, List.set_cons_zero]
        refine till_pure (i := 4) (v := .int .i64 i) rfl rfl (by kernel_rfl) (fun _ _ _ h => h) (yields_of rfl (fun w' _ => by simp [go_sem])) (fun _ => HT.out) ?_
        try simp only [List.setIfInBounds_toArray, List.set_cons_succ, List.set_cons_zero]
        refine till_pure (i := 5) (v := .pointer (some ⟨gp, i * 8, none⟩)) rfl rfl (by kernel_rfl) (fun _ _ _ h => h) (yields_of rfl (fun w' _ => by simp [go_sem, hiI])) (fun _ => HT.out) ?_
        try simp only [List.setIfInBounds_toArray, List.set_cons_succ, List.set_cons_zero]
        refine till_pure (i := 6) (v := .pointer (some ⟨gp, i * 8, none⟩)) rfl rfl (by kernel_rfl) (fun _ _ _ h => h) (yields_of rfl (fun w' _ => by simp [go_sem])) (fun _ => HT.out) ?_
        try simp only [List.setIfInBounds_toArray, List.set_cons_succ, List.set_cons_zero]
        refine till_load (i := 7) (v := .string code) rfl rfl (by kernel_rfl) (fun _ _ _ h => h) (yields_of rfl (fun w' hw' => by have hcx : w'.cell? ⟨gp, i * 8, none⟩ = some (.string code) := (hw'.cell (p := ⟨gp, i * 8, none⟩) HGW.out).trans c0; simp [go_sem, hcx])) (fun _ => HT.out) ?_
        try simp only [List.setIfInBounds_toArray, List.set_cons_succ, List.set_cons_zero]
        refine till_only (j := 8) (by kernel_rfl) rfl ?_
        go_wp2_with (go_at_call 26; refine (HSX.out _ (HB5.out.trans (HL15.out.low.mono HB5.out.size))).mono ?_; rintro e v7 ⟨sv2, rfl, hb, hrow⟩; have h9 : (codesOf ds src).length = fn := (by rw [HFN.out]; simp [codesOf]); obtain ⟨va, vc, hvv, hvcs⟩ := strs_at hrow; rw [h9] at hvv; subst hvv; have HVC := Lib.hid hvcs; have HL16 := Lib.hid (HL15.out.below hb); have HT := Lib.hid (HT.out.trans (hb.mono HT.out.size)); clear hb hrow h9 hvcs)
        refine ⟨(fun _ => HT.out), ?_⟩
        try simp only [List.setIfInBounds_toArray, List.set_cons_succ, List.set_cons_zero]
        refine till_pure (i := 9) (v := .tuple #[.slice va fn vc, .int .i64 0]) rfl rfl (by kernel_rfl) (fun _ _ _ h => h) (yields_of rfl (fun w' _ => by simp [go_sem, accCells])) (fun _ => HT.out) ?_
        try simp only [List.setIfInBounds_toArray, List.set_cons_succ, List.set_cons_zero]
        refine till_pure (i := 10) (v := .slice va fn vc) rfl rfl (by kernel_rfl) (fun _ _ _ h => h) (yields_of rfl (fun w' _ => by simp [go_sem])) (fun _ => HT.out) ?_
        try simp only [List.setIfInBounds_toArray, List.set_cons_succ, List.set_cons_zero]
        refine till_pure (i := 11) (v := .int .i64 0) rfl rfl (by kernel_rfl) (fun _ _ _ h => h) (yields_of rfl (fun w' _ => by simp [go_sem])) (fun _ => HT.out) ?_
        try simp only [List.setIfInBounds_toArray, List.set_cons_succ, List.set_cons_zero]
        refine till_pure (i := 12) (v := .slice va fn vc) rfl rfl (by kernel_rfl) (fun _ _ _ h => h) (yields_of rfl (fun w' _ => by simp [go_sem])) (fun _ => HT.out) ?_
        try simp only [List.setIfInBounds_toArray, List.set_cons_succ, List.set_cons_zero]
        refine till_pure (i := 13) (v := .int .i64 0) rfl rfl (by kernel_rfl) (fun _ _ _ h => h) (yields_of rfl (fun w' _ => by simp [go_sem])) (fun _ => HT.out) ?_
        try simp only [List.setIfInBounds_toArray, List.set_cons_succ, List.set_cons_zero]
        refine till_done (by kernel_rfl) ?_
        clear HT s0 c0
        have HBW := Lib.hid (Below.refl v7.heap.size v7)
        have s0 := (H1O.out v7 HL16.out.low).at 0 (.slice (some ⟨gp, 0, none⟩) t1n t1c) rfl
        have c7 : v7.cell? ⟨gp, i * 8 + 7, none⟩ = some (.slice fa fn fc) := ((HL16.out.low).cell (p := ⟨gp, i * 8 + 7, none⟩) HGP.out).trans (HCP.out 7 (by decide))
        go_wp2
        clear s0 c7
        go_loopw [24, 25] (fun bv mv wr => ∃ (m : Nat) (bb : Bool), m ≤ fn ∧ bv = .bool bb ∧ mv = .int .i64 m ∧ Hid (bb = true ↔ (P : Int) ∈ src.take m) ∧ Hid (Below v7.heap.size v7 wr)) (fun _ mv _ => fn - (intOf mv).toNat)
        case atStart => exact ⟨0, false, Nat.zero_le _, rfl, rfl, Lib.hid (by simp), HBW⟩
        case round =>
          clear HBW
          obtain ⟨m, bb, hm, rfl, rfl, HIS, HBW⟩ := hrel
          have HLW := Lib.hid (HL16.out.low.trans (HBW.out.mono HL16.out.low.size))
          by_cases hmt : m < fn
          · have hmI : (m : Int) < (fn : Int) := by omega
            have hms : m < src.length := by rw [← HFN.out]; exact hmt
            obtain ⟨gf, rfl, hgf, hcf⟩ := HFC.out (by omega)
            obtain ⟨gv, rfl, hgv, hcv⟩ := HVC.out (by simp [codesOf]; omega)
            have f0 := (HLW.out.cell (p := ⟨gf, m, none⟩) hgf).trans (hcf m hms)
            have v0 := (HBW.out.cell (p := ⟨gv, m, none⟩) hgv).trans (hcv m (by simp [codesOf]; omega))
            obtain ⟨hj0, hj1, d', hd', hk1, _⟩ := HRT.out.src src[m]! (get_in hms)
            obtain ⟨jn, hjn⟩ : ∃ jn : Nat, src[m]! = (jn : Int) := ⟨src[m]!.toNat, by omega⟩
            have hcm2 := codes_get (ds := ds) hms
            have htk : src.take (m + 1) = src.take m ++ [src[m]!] := by rw [getElem!_pos src m hms, ← List.take_append_getElem hms]
            rw [hcm2] at v0
            rw [hjn] at f0 v0 hj0 hj1 hd' htk
            rw [Int.toNat_natCast] at v0 hj1 hd'
            have hjl : jn < ds.length := (List.getElem?_eq_some_iff.1 hd').1
            have hjg : ds[jn]! = d' := by rw [getElem!_pos ds jn hjl]; exact (List.getElem?_eq_some_iff.1 hd').2
            rw [hjg] at v0
            obtain ⟨kind', dy', nm, other', ⟨al', ah'⟩, ⟨bl', bh'⟩⟩ := d'
            simp only at hk1 v0
            subst hk1
            have q0 := cell_regrown (show wr.cell? ⟨b, off + jn * 8, none⟩ = some (.int .i64 1) from ((HB5.out.trans (HLW.out.mono HB5.out.size)).cell (p := ⟨b, off + jn * 8, none⟩) HBL.out).trans (HCL.out jn hjl 0 _ (by rw [hjg]; rfl)))
            have q2 := cell_regrown (show wr.cell? ⟨b, off + jn * 8 + 2, none⟩ = some (.string nm) from ((HB5.out.trans (HLW.out.mono HB5.out.size)).cell (p := ⟨b, off + jn * 8 + 2, none⟩) HBL.out).trans (HCL.out jn hjl 2 _ (by rw [hjg]; rfl)))
            have q3 := cell_regrown ((HYO.out wr HLW.out).at 2 (.slice (some ⟨b, off, none⟩) n c) rfl)
            have q4 := cell_regrown v0
            have s0 := (H1O.out wr HLW.out).at 0 (.slice (some ⟨gp, 0, none⟩) t1n t1c) rfl
            have c7 : wr.cell? ⟨gp, i * 8 + 7, none⟩ = some (.slice (some ⟨gf, 0, none⟩) fn fc) := (HLW.out.cell (p := ⟨gp, i * 8 + 7, none⟩) HGP.out).trans (HCP.out 7 (by decide))
            have HTK := Lib.hid htk
            have hjnI : (jn : Int) < (n : Int) := by rw [HN.out]; omega
            have t1 : decide ((jn : Int) < 0) = false := by simp
            have t2 : decide ((K : Int) ≤ (jn : Int)) = false := by simp; omega
            have t3 : decide (K ≤ jn) = false := by simp; omega
            clear hcf hcv hjn hcm2 htk hd' hjg v0
            go_upto_region 29 with (fail)
            clear s0 c7 f0
            refine wp_region_quiet_below (by kernel_rfl) (by kernel_rfl) ?_
            repeat (go_big_quiet_step (fail))
            refine wpQuiet_nil ?_
            intro wq hw'
            have hb8 : Below wr.heap.size wr wq := by obtain ⟨⟨dq, osq⟩, hw''⟩ := hw'; rw [hw'']; exact below_regrown _ dq osq
            clear hw' q0 q2 q3 q4
            have HBX := Lib.hid (HBW.out.trans (hb8.mono HBW.out.size))
            clear hb8 HBW HLW
            cases bb with
            | true =>
              go_wp2
              go_roundw
              case rel => exact ⟨m + 1, true, by omega, rfl, by go_num, Lib.hid (by rw [HTK.out]; simp [HIS.out.1 rfl]), HBX⟩
              case measure => simp [intOf]; omega
            | false =>
              by_cases hjp : jn = P
              · subst hjp
                go_wp2
                go_roundw
                case rel => exact ⟨m + 1, true, by omega, rfl, by go_num, Lib.hid (by rw [HTK.out]; simp), HBX⟩
                case measure => simp [intOf]; omega
              · have u1 : ((jn : Int) == (P : Int)) = false := by simp; omega
                have u2 : (jn == P) = false := by simp; omega
                go_wp2
                go_roundw
                case rel =>
                  refine ⟨m + 1, false, by omega, rfl, by go_num, Lib.hid ?_, HBX⟩
                  rw [HTK.out, List.mem_append, ← HIS.out]
                  simp
                  omega
                case measure => simp [intOf]; omega
          · have hme : fn = m := by omega
            subst hme
            have HIB := Lib.hid (show bb = true ↔ (P : Int) ∈ src from by have h1 := HIS.out; rwa [HFN.out, List.take_length] at h1)
            have HHC2 := Lib.hid (has_calls (l := holdersOf (P : Int) rows1) code wr (HHR.out wr HLW.out) (by have h1 := holders_len (p := (P : Int)) (rows := rows1); have h2 := HLEN.out; omega))
            have hLb : (holdersOf (P : Int) (rows1.take i)).length ≤ 8 := by have h1 := holders_len (p := (P : Int)) (rows := rows1.take i); rw [List.length_take] at h1; omega
            have s0 := (H1O.out wr HLW.out).at 0 (.slice (some ⟨gp, 0, none⟩) t1n t1c) rfl
            have c0 : wr.cell? ⟨gp, i * 8, none⟩ = some (.string code) := (HLW.out.cell (p := ⟨gp, i * 8, none⟩) HGP.out).trans (HCP.out 0 (by decide))
            clear HIS
            cases bb with
            | true =>
              go_upto_region 34 with (go_at_call 27; refine HHC2.out.mono ?_; rintro e w8b ⟨b2, hb2, rfl, hbx⟩; have hb3 := (Bool.eq_iff_iff.2 (hb2.trans (HHAS.out.trans HIB.out.symm))); subst hb3; have HBZ := Lib.hid hbx; clear hbx hb2)
              clear s0 c0
              have HLz := Lib.hid (HL16.out.below (HBW.out.trans (HBZ.out.mono HBW.out.size)))
              go_wp2
              go_roundw
              case rel => exact ⟨i + 1, by omega, congrArg (Value.int .i64) (by rw [HSTEP.out, if_pos (HIB.out.1 (by simp))]; simp), by go_num, HLz⟩
              case measure => simp [intOf]; omega
            | false =>
              go_upto_region 34 with (go_at_call 27; refine HHC2.out.mono ?_; rintro e w8b ⟨b2, hb2, rfl, hbx⟩; have hb3 := (Bool.eq_iff_iff.2 (hb2.trans (HHAS.out.trans HIB.out.symm))); subst hb3; have HBZ := Lib.hid hbx; clear hbx hb2)
              clear s0 c0
              have HLz := Lib.hid (HL16.out.below (HBW.out.trans (HBZ.out.mono HBW.out.size)))
              have HNI := Lib.hid (show ¬ (P : Int) ∈ src from fun h => by have := HIB.out.2 h; cases this)
              have HNL := Lib.hid (show (holdersOf (P : Int) (rows1.take (i + 1))).length = (holdersOf (P : Int) (rows1.take i)).length from by rw [HSTEP.out, if_neg HNI.out, List.append_nil])
              go_upto_region 36 with (fail)
              by_cases hk2e : k2 = K
              · have u1 : ((k2 : Int) == (K : Int)) = true := by simp [hk2e]
                have u2 : (k2 == K) = true := by simp [hk2e]
                have hall := HKIN.out hk2e
                have hteq : t2n = t1n := by have h1 := hall.length_eq; simp [stOf] at h1; rw [HT2.out, HLEN.out]; exact h1.symm
                have hi2 : i < rows2.length := by rw [← HT2.out, hteq]; exact hit
                obtain ⟨r2, hr2⟩ : ∃ r, rows2[i]? = some r := ⟨_, List.getElem?_eq_getElem hi2⟩
                have hk := hall.get HSL.out (show (stOf rows2 (⟨⟨vapour20, vapour21⟩, ⟨broth20, broth21⟩, ⟨dust20, dust21⟩, ⟨soldDry20, soldDry21⟩, ⟨soldWater20, soldWater21⟩, ⟨soaked20, soaked21⟩⟩ : Yd.Acc)).stacks[i]? = some r2.1 by simp [stOf, hr2])
                have hsame := hk.same HNI.out
                obtain ⟨gp2, cp2, hvp2, hgp2, hcp2⟩ := (HLz.out.stood 0 rfl).row hr2
                obtain ⟨⟨code2, ⟨dl2, dh2⟩, ⟨wl2, wh2⟩, pil2, boi2, src2⟩, pv2⟩ := r2
                simp only [Bd.mk.injEq] at hsame
                obtain ⟨⟨e1, e2⟩, ⟨e3, e4⟩⟩ := hsame
                subst e1 e2 e3 e4
                injection hvp2 with e5 e6 e7
                subst e5 e7
                have t1 : decide ((t2n : Int) ≤ (i : Int)) = false := by simp; omega
                have t2 : decide (t2n ≤ i) = false := by simp; omega
                have t3 : (i : Int) < (t2n : Int) := by omega
                have LZ := Lib.hid HLz.out.low
                have a0 := cell_regrown (HLz.out.at 2 0 (v := .slice (some ⟨gp2, 0, none⟩) t2n t2c) rfl rfl)
                have a1 := cell_regrown ((H1O.out _ LZ.out).at 0 (.slice (some ⟨gp, 0, none⟩) t1n t1c) rfl)
                have d1 := cell_regrown (show w8b.cell? ⟨gp2, i * 8 + 1, none⟩ = some (.int .i64 dl) from hcp2 1 (by decide))
                have b1 := cell_regrown (show w8b.cell? ⟨gp, i * 8 + 1, none⟩ = some (.int .i64 dl) from (LZ.out.cell (p := ⟨gp, i * 8 + 1, none⟩) HGP.out).trans (HCP.out 1 (by decide)))
                have d2 := cell_regrown (show w8b.cell? ⟨gp2, i * 8 + 2, none⟩ = some (.int .i64 dh) from hcp2 2 (by decide))
                have b2 := cell_regrown (show w8b.cell? ⟨gp, i * 8 + 2, none⟩ = some (.int .i64 dh) from (LZ.out.cell (p := ⟨gp, i * 8 + 2, none⟩) HGP.out).trans (HCP.out 2 (by decide)))
                have d3 := cell_regrown (show w8b.cell? ⟨gp2, i * 8 + 3, none⟩ = some (.int .i64 wl) from hcp2 3 (by decide))
                have b3 := cell_regrown (show w8b.cell? ⟨gp, i * 8 + 3, none⟩ = some (.int .i64 wl) from (LZ.out.cell (p := ⟨gp, i * 8 + 3, none⟩) HGP.out).trans (HCP.out 3 (by decide)))
                have d4 := cell_regrown (show w8b.cell? ⟨gp2, i * 8 + 4, none⟩ = some (.int .i64 wh) from hcp2 4 (by decide))
                have b4 := cell_regrown (show w8b.cell? ⟨gp, i * 8 + 4, none⟩ = some (.int .i64 wh) from (LZ.out.cell (p := ⟨gp, i * 8 + 4, none⟩) HGP.out).trans (HCP.out 4 (by decide)))
                clear hk hcp2 hr2 e6 hall hteq hk2e
                refine wp_region_quiet_below (by kernel_rfl) (by kernel_rfl) ?_
                repeat (go_big_quiet_step (fail))
                refine wpQuiet_nil ?_
                intro wq hw'
                have hb8 : Below w8b.heap.size w8b wq := by obtain ⟨⟨dq, osq⟩, hw''⟩ := hw'; rw [hw'']; exact below_regrown _ dq osq
                clear hw' a0 a1 d1 b1 d2 b2 d3 b3 d4 b4
                go_wp2
                go_roundw
                case rel => exact ⟨i + 1, by omega, congrArg (Value.int .i64) (by rw [HNL.out]), by go_num, Lib.hid (HLz.out.below hb8)⟩
                case measure => simp [intOf]; omega
              · have u1 : ((k2 : Int) == (K : Int)) = false := by simp; omega
                have u2 : (k2 == K) = false := by simp; omega
                refine wp_region_quiet_below (by kernel_rfl) (by kernel_rfl) ?_
                repeat (go_big_quiet_step (fail))
                refine wpQuiet_nil ?_
                intro wq hw'
                have hb8 : Below w8b.heap.size w8b wq := by obtain ⟨⟨dq, osq⟩, hw''⟩ := hw'; rw [hw'']; exact below_regrown _ dq osq
                clear hw'
                go_wp2
                go_roundw
                case rel => exact ⟨i + 1, by omega, congrArg (Value.int .i64) (by rw [HNL.out]), by go_num, Lib.hid (HLz.out.below hb8)⟩
                case measure => simp [intOf]; omega
      · have hie : t1n = i := by omega
        subst hie
        rw [show rows1.take t1n = rows1 from List.take_of_length_le (by rw [← HLEN.out]; exact Nat.le_refl _)]
        obtain ⟨hz, hhz⟩ : ∃ hz, hz = (holdersOf (P : Int) rows1).length := ⟨_, rfl⟩
        have hnz : hn_ = hz := by rw [HHL.out, hhz]
        rw [← hhz]
        clear hhz
        subst hnz
        go_wp2_with (go_at_call 15; refine (stands_calls _).mono ?_; rintro e w9 ⟨rfl, hb9⟩; have HL99 := Lib.hid (HL14.out.below hb9); clear hb9)
        go_ret
        exact lawDone (HB5.out.trans (HL99.out.low.mono HB5.out.size))

/-- YardKin, whatever comes in. -/
theorem kin_law (bef aft : Int) (v : Value) (ds : List (Deed Code)) (x1 x2 : Int) (w : World) (h : Held w.heap.size w 8 deedCells v ds) (hsz : ∀ d ∈ ds, d.stack.size ≤ maxLen ∧ d.other.size ≤ maxLen) (hx1 : 0 ≤ x1 ∧ x1 ≤ 255) (hx2 : 0 ≤ x2 ∧ x2 ≤ 255) : Calls Try.prog 9 #[.agg #[.int .i64 bef, .int .i64 aft, v], .int .u8 x1, .int .u8 x2] w (LawDone w) := by
  cases hg : greatB ds with
  | true => exact kin_stands bef aft v ds x1 x2 w h (.inl hg)
  | false =>
    by_cases hok : errYard bef aft ds = 0
    · rcases Nat.eq_zero_or_pos ds.length with h0 | h0
      · exact kin_none bef aft v ds x1 x2 w h hg hok h0
      · exact kin_real bef aft v ds x1 x2 w h hsz hg hok hx1 hx2 h0
    · exact kin_stands bef aft v ds x1 x2 w h (.inr hok)
end Go.Proofs.Ytmcmhgpmefelfaa
