/- The program's Holders at a valid yard. -/
import Derived.Test.YtmcmhgpmefelfaaYSources
namespace Go.Proofs.Ytmcmhgpmefelfaa
open Go Go.RowKit Go.Shelf Yd

/-- The codes of the stacks that have a pile among their sources. -/
def holdersOf (p : Int) (rows : List SRow) : List Code := (rows.filter fun r => decide (p ∈ r.1.src)).map fun r => r.1.code
theorem holders_step {p : Int} {rows : List SRow} {q : Nat} {r : SRow} (h : rows[q]? = some r) : holdersOf p (rows.take (q + 1)) = holdersOf p (rows.take q) ++ (if p ∈ r.1.src then [r.1.code] else []) := by
  obtain ⟨hl, hr⟩ := List.getElem?_eq_some_iff.1 h
  unfold holdersOf
  rw [show rows.take (q + 1) = rows.take q ++ [r] from by rw [← hr, ← List.take_append_getElem hl], List.filter_append, List.map_append]
  congr 1
  by_cases hm : p ∈ r.1.src <;> simp [hm]
theorem holders_len {p : Int} {rows : List SRow} : (holdersOf p rows).length ≤ rows.length := by unfold holdersOf; rw [List.length_map]; exact List.length_filter_le _ _

set_option maxRecDepth 100000 in
set_option maxHeartbeats 4000000 in
theorem stacksAfter_no (bef aft : Int) (v : Value) (ds : List (Deed Code)) (k0 : Nat) (w : World) (h : Held w.heap.size w 8 deedCells v ds) (hok : errYard bef aft ds = 0) (hsz : ∀ d ∈ ds, d.stack.size ≤ maxLen ∧ d.other.size ≤ maxLen) (hn : k0 ≤ ds.length) (h12 : k0 ≤ 12) (hf : (Yd.follow bef aft ds k0).2.2 ≠ 0) :
    Calls Try.prog 48 #[.agg #[.int .i64 bef, .int .i64 aft, v], .int .i64 k0] w fun e w' => (∃ r : Int, r ≠ 0 ∧ e = .returned (.tuple #[.slice none 0 0, .int .i64 r])) ∧ Below w.heap.size w w' := by
  obtain ⟨a, c, hv, _, _⟩ := h.slice
  have HFO := Lib.hid (fun (W : World) (hW : Below w.heap.size w W) => follow_calls bef aft v ds k0 W ((h.below hW).mono hW.size) hok hsz hn h12)
  have HF := Lib.hid hf
  subst hv
  obtain ⟨n, hnn⟩ : ∃ n, n = ds.length := ⟨_, rfl⟩
  rw [← hnn] at HFO ⊢
  clear h hok hsz hn h12 hf hnn
  have HL0 := Lib.hid (show Locs w (w.alloc (.cells #[.int .i64 bef, .int .i64 aft, .slice a n c] 24)) [(w.heap.size, 24, [.int .i64 bef, .int .i64 aft, .slice a n c])] [] from (Locs.start w).alloc 24 [.int .i64 bef, .int .i64 aft, .slice a n c] rfl)
  go_enter Try.func48, Try.ntmps48
  go_wp2_with (first
    | (go_at_call 16; refine (HFO.out _ HL0.out.low).mono ?_; rintro e v1 ⟨rows1, tv1, acc1, k1, f1, hfo, hsm, hkk, rfl, hb, hst⟩; obtain ⟨⟨vapour10, vapour11⟩, ⟨broth10, broth11⟩, ⟨dust10, dust11⟩, ⟨soldDry10, soldDry11⟩, ⟨soldWater10, soldWater11⟩, ⟨soaked10, soaked11⟩⟩ := acc1; obtain ⟨t1a, t1n, t1c, rfl⟩ := row_slice hst.things; have HFO1 := Lib.hid hfo; have HSM1 := Lib.hid hsm; have HKK1 := Lib.hid hkk; have HL1 := Lib.hid (HL0.out.stand hb hst rfl); have HO1 := Lib.hid (show (#[.slice t1a t1n t1c, .int .i64 vapour10, .int .i64 vapour11, .int .i64 broth10, .int .i64 broth11, .int .i64 dust10, .int .i64 dust11, .int .i64 soldDry10, .int .i64 soldDry11, .int .i64 soldWater10, .int .i64 soldWater11, .int .i64 soaked10, .int .i64 soaked11] : Array Value).all (·.oneCell') = true from by simp [Value.oneCell']); have hf1 : (f1 != 0) = true := (by have := HF.out; rw [hfo] at this; simpa using this); clear hfo hsm hkk hst hb )
    | ((with_reducible refine at_store 36 (.tmp 6) (.tmp 14) ?_); go_must (refine wpList_store_mid rfl 36 (.tmp 6) (.tmp 14) rfl v1.heap.size 0 #[.slice t1a t1n t1c, .int .i64 vapour10, .int .i64 vapour11, .int .i64 broth10, .int .i64 broth11, .int .i64 dust10, .int .i64 dust11, .int .i64 soldDry10, .int .i64 soldDry11, .int .i64 soldWater10, .int .i64 soldWater11, .int .i64 soaked10, .int .i64 soaked11] rfl rfl ((Blk.new v1 36 #[.slice none 0 0, .int .i64 0, .int .i64 0, .int .i64 0, .int .i64 0, .int .i64 0, .int .i64 0, .int .i64 0, .int .i64 0, .int .i64 0, .int .i64 0, .int .i64 0, .int .i64 0]).there (o := 0) (n := 13) (Nat.le_of_ble_eq_true rfl)) size_standing (HO1.out) ?_)))
  go_ret2
  exact ⟨⟨_, by decide, rfl⟩, below_setCells (HL1.out.low.alloc HL1.out.low.size _) HL1.out.low.size _ 0⟩

set_option maxRecDepth 100000 in
set_option maxHeartbeats 8000000 in
theorem holders_no (bef aft : Int) (v : Value) (ds : List (Deed Code)) (k0 : Nat) (p : Nat) (w : World) (h : Held w.heap.size w 8 deedCells v ds) (hok : errYard bef aft ds = 0) (hsz : ∀ d ∈ ds, d.stack.size ≤ maxLen ∧ d.other.size ≤ maxLen) (hn : k0 ≤ ds.length) (h12 : k0 ≤ 12) (hp : p < ds.length) (hno : k0 ≤ p ∨ ds[p]!.kind ≠ 1 ∨ (Yd.follow bef aft ds k0).2.2 ≠ 0) :
    Calls Try.prog 24 #[.agg #[.int .i64 bef, .int .i64 aft, v], .int .i64 k0, .int .i64 p] w fun e w' => (∃ r : Int, r ≠ 0 ∧ e = .returned (.tuple #[.slice none 0 0, .int .i64 r])) ∧ Below w.heap.size w w' := by
  obtain ⟨a, c, hv, _, hcs⟩ := h.slice
  have HCS := Lib.hid hcs
  have HCF := Lib.hid (fun (W : World) (hW : Below w.heap.size w W) => checkFirst_ok bef aft v ds k0 W ((h.below hW).mono hW.size) hok (fun d hd => ⟨Nat.le_trans (hsz d hd).1 (by decide), Nat.le_trans (hsz d hd).2 (by decide)⟩) ⟨by omega, by omega⟩)
  have HFO := Lib.hid (fun (hf : (Yd.follow bef aft ds k0).2.2 ≠ 0) (W : World) (hW : Below w.heap.size w W) => stacksAfter_no bef aft v ds k0 W ((h.below hW).mono hW.size) hok hsz hn h12 hf)
  subst hv
  obtain ⟨n, hnn⟩ : ∃ n, n = ds.length := ⟨_, rfl⟩
  have HN := Lib.hid hnn
  have hn40 : n ≤ 40 := by rw [hnn]; exact (errYard_ok hok).2.2.1
  rw [← hnn] at HCF HFO hn hp ⊢
  obtain ⟨b, off, rfl, hbl, _, hcells⟩ := HCS.out (by omega)
  obtain ⟨kind, hkd⟩ : ∃ kind, kind = ds[p]!.kind := ⟨_, rfl⟩
  have HL0 := Lib.hid (show Locs w (w.alloc (.cells #[.int .i64 bef, .int .i64 aft, .slice (some ⟨b, off, none⟩) n c] 24)) [(w.heap.size, 24, [.int .i64 bef, .int .i64 aft, .slice (some ⟨b, off, none⟩) n c])] [] from (Locs.start w).alloc 24 [.int .i64 bef, .int .i64 aft, .slice (some ⟨b, off, none⟩) n c] rfl)
  have HK := Lib.hid (show w.cell? ⟨b, off + p * 8, none⟩ = some (.int .i64 kind) from hcells p (by rw [← hnn]; exact hp) 0 _ (by rw [hkd]; rfl))
  have HBL := Lib.hid hbl
  have hpI : (p : Int) < (n : Int) := by omega
  rw [← hkd] at hno
  clear hbl hcells hkd h hok hsz hnn hcs
  by_cases hpk : k0 ≤ p
  · have hin : inB (p : Int) 0 ((k0 : Int) - 1) = false := by simp [inB]; omega
    clear hno
    go_enter Try.func24, Try.ntmps24
    go_wp2_with (first
      | (go_at_call 40; refine (HCF.out _ HL0.out.low).mono ?_; rintro e w1 ⟨rfl, hb⟩; have HL1 := Lib.hid (HL0.out.below hb); have y0 := HL1.out.at 0 0 (v := .int .i64 bef) rfl rfl; have y1 := HL1.out.at 0 1 (v := .int .i64 aft) rfl rfl; have y2 := HL1.out.at 0 2 (v := .slice (some ⟨b, off, none⟩) n c) rfl rfl; have yk := (HL1.out.low.cell (p := ⟨b, off + p * 8, none⟩) HBL.out).trans HK.out; clear hb)
      | (go_at_call 47; refine (within_calls _ _ _ _).mono ?_; rintro e w2 ⟨rfl, rfl⟩; rw [hin]))
    go_ret2
    exact ⟨⟨_, by decide, rfl⟩, HL1.out.low⟩
  · have hin : inB (p : Int) 0 ((k0 : Int) - 1) = true := by simp [inB]; omega
    by_cases hk : kind = 1
    · subst hk
      have HF := Lib.hid (hno.resolve_left hpk |>.resolve_left (by simp))
      clear hno
      go_enter Try.func24, Try.ntmps24
      go_wp2_with (first
        | (go_at_call 40; refine (HCF.out _ HL0.out.low).mono ?_; rintro e w1 ⟨rfl, hb⟩; have HL1 := Lib.hid (HL0.out.below hb); have y0 := HL1.out.at 0 0 (v := .int .i64 bef) rfl rfl; have y1 := HL1.out.at 0 1 (v := .int .i64 aft) rfl rfl; have y2 := HL1.out.at 0 2 (v := .slice (some ⟨b, off, none⟩) n c) rfl rfl; have yk := (HL1.out.low.cell (p := ⟨b, off + p * 8, none⟩) HBL.out).trans HK.out; clear hb)
        | (go_at_call 47; refine (within_calls _ _ _ _).mono ?_; rintro e w2 ⟨rfl, rfl⟩; rw [hin])
        | (go_at_call 48; refine (HFO.out HF.out _ HL1.out.low).mono ?_; rintro e w3 ⟨⟨r, hr, rfl⟩, hb3⟩; have hr2 : (r != 0) = true := (by simpa using hr); have HRR := Lib.hid hr; have HL3 := Lib.hid (HL1.out.below hb3); clear hb3 hr))
      go_ret2
      exact ⟨⟨r, HRR.out, rfl⟩, HL3.out.low⟩
    · have hk2 : (kind != 1) = true := by simpa using hk
      clear hno hk
      go_enter Try.func24, Try.ntmps24
      go_wp2_with (first
        | (go_at_call 40; refine (HCF.out _ HL0.out.low).mono ?_; rintro e w1 ⟨rfl, hb⟩; have HL1 := Lib.hid (HL0.out.below hb); have y0 := HL1.out.at 0 0 (v := .int .i64 bef) rfl rfl; have y1 := HL1.out.at 0 1 (v := .int .i64 aft) rfl rfl; have y2 := HL1.out.at 0 2 (v := .slice (some ⟨b, off, none⟩) n c) rfl rfl; have yk := (HL1.out.low.cell (p := ⟨b, off + p * 8, none⟩) HBL.out).trans HK.out; clear hb)
        | (go_at_call 47; refine (within_calls _ _ _ _).mono ?_; rintro e w2 ⟨rfl, rfl⟩; rw [hin]))
      go_ret2
      exact ⟨⟨_, by decide, rfl⟩, HL1.out.low⟩

/-- What Holders leaves. -/
def HoldersDone (w : World) (bef aft : Int) (ds : List (Deed Code)) (k0 : Nat) (p : Int) (e : Ending) (w' : World) : Prop :=
  ∃ (v : Value) (rows : List SRow) (acc : Yd.Acc) (k : Nat), e = .returned (.tuple #[v, .int .i64 0]) ∧ Below w.heap.size w w' ∧ Yd.follow bef aft ds k0 = (stOf rows acc, k, 0) ∧ rows.length ≤ 8 ∧ w'.ownsRow 0 9 1 v (holdersOf p rows).length (strCells (holdersOf p rows))

set_option maxRecDepth 100000 in
set_option maxHeartbeats 8000000 in
theorem holders_yes (bef aft : Int) (v : Value) (ds : List (Deed Code)) (k0 : Nat) (p : Nat) (w : World) (h : Held w.heap.size w 8 deedCells v ds) (hok : errYard bef aft ds = 0) (hsz : ∀ d ∈ ds, d.stack.size ≤ maxLen ∧ d.other.size ≤ maxLen) (hn : k0 ≤ ds.length) (h12 : k0 ≤ 12) (hp : p < ds.length) (hpk : p < k0) (hkind : ds[p]!.kind = 1) (hf : (Yd.follow bef aft ds k0).2.2 = 0) :
    Calls Try.prog 24 #[.agg #[.int .i64 bef, .int .i64 aft, v], .int .i64 k0, .int .i64 p] w (HoldersDone w bef aft ds k0 p) := by
  obtain ⟨a, c, hv, _, hcs⟩ := h.slice
  have HCS := Lib.hid hcs
  have HCF := Lib.hid (fun (W : World) (hW : Below w.heap.size w W) => checkFirst_ok bef aft v ds k0 W ((h.below hW).mono hW.size) hok (fun d hd => ⟨Nat.le_trans (hsz d hd).1 (by decide), Nat.le_trans (hsz d hd).2 (by decide)⟩) ⟨by omega, by omega⟩)
  have HFO := Lib.hid (fun (W : World) (hW : Below w.heap.size w W) => stacksAfter_calls bef aft v ds k0 W ((h.below hW).mono hW.size) hok hsz hn h12 hf)
  subst hv
  obtain ⟨n, hnn⟩ : ∃ n, n = ds.length := ⟨_, rfl⟩
  have HN := Lib.hid hnn
  have hn40 : n ≤ 40 := by rw [hnn]; exact (errYard_ok hok).2.2.1
  rw [← hnn] at HCF HFO hn hp ⊢
  obtain ⟨b, off, rfl, hbl, _, hcells⟩ := HCS.out (by omega)
  obtain ⟨kind, hkd⟩ : ∃ kind, kind = ds[p]!.kind := ⟨_, rfl⟩
  have HL0 := Lib.hid (show Locs w (w.alloc (.cells #[.int .i64 bef, .int .i64 aft, .slice (some ⟨b, off, none⟩) n c] 24)) [(w.heap.size, 24, [.int .i64 bef, .int .i64 aft, .slice (some ⟨b, off, none⟩) n c])] [] from (Locs.start w).alloc 24 [.int .i64 bef, .int .i64 aft, .slice (some ⟨b, off, none⟩) n c] rfl)
  have HK := Lib.hid (show w.cell? ⟨b, off + p * 8, none⟩ = some (.int .i64 kind) from hcells p (by rw [← hnn]; exact hp) 0 _ (by rw [hkd]; rfl))
  have HBL := Lib.hid hbl
  have hpI : (p : Int) < (n : Int) := by omega
  obtain rfl : kind = 1 := by rw [hkd]; exact hkind
  have hin : inB (p : Int) 0 ((k0 : Int) - 1) = true := by simp [inB]; omega
  clear hbl hcells hkd h hok hsz hnn hcs hkind hf
  go_enter Try.func24, Try.ntmps24
  go_wp2_with (first
    | (go_at_call 40; refine (HCF.out _ HL0.out.low).mono ?_; rintro e w1 ⟨rfl, hb⟩; have HL1 := Lib.hid (HL0.out.below hb); have y0 := HL1.out.at 0 0 (v := .int .i64 bef) rfl rfl; have y1 := HL1.out.at 0 1 (v := .int .i64 aft) rfl rfl; have y2 := HL1.out.at 0 2 (v := .slice (some ⟨b, off, none⟩) n c) rfl rfl; have yk := (HL1.out.low.cell (p := ⟨b, off + p * 8, none⟩) HBL.out).trans HK.out; clear hb)
    | (go_at_call 47; refine (within_calls _ _ _ _).mono ?_; rintro e w2 ⟨rfl, rfl⟩; rw [hin])
    | (go_at_call 48; refine (HFO.out _ HL1.out.low).mono ?_; rintro e w3 ⟨rows, tv, acc, k, hfo, _, _, rfl, hb3, hst⟩; obtain ⟨ta, tn, tc, rfl⟩ := row_slice hst.things; have HFOL := Lib.hid hfo; have HST := Lib.hid hst; have HB3 := Lib.hid (HL1.out.below hb3).low; clear hb3 hfo hst))
  clear y0 y1 y2 yk
  have HTN := Lib.hid (show tn = rows.length from row_len HST.out.things)
  have htn8 : tn ≤ 8 := by rw [HTN.out]; exact HST.out.few
  have HL4 := Lib.hid (Locs.start w3)
  have HR0 := Lib.hid (Rowed.nil w3 w3 ([] : List (Nat × TypeId × List Value)) 9 1)
  go_loopw [11, 45] (fun cv iv wr => ∃ (q : Nat), q ≤ tn ∧ iv = .int .i64 q ∧ Hid (Rowed w3 wr ([] : List (Nat × TypeId × List Value)) 9 1 (cv) ((holdersOf p (rows.take q)).length) (strCells (holdersOf p (rows.take q)))) ∧ Hid (Locs w3 wr [] [])) (fun _ iv _ => tn - (intOf iv).toNat)
  case atStart => exact ⟨0, Nat.zero_le _, rfl, HR0, HL4⟩
  case round =>
    clear HL4 HR0
    obtain ⟨q, hq, rfl, HR, HL5⟩ := hrel
    obtain ⟨sa, sn, sc, rfl⟩ := row_slice HR.out.own
    by_cases hqt : q < tn
    · have hqI : (q : Int) < (tn : Int) := by omega
      have hqr : q < rows.length := by rw [← HTN.out]; exact hqt
      obtain ⟨r, hr⟩ : ∃ r, rows[q]? = some r := ⟨_, List.getElem?_eq_getElem hqr⟩
      have hstep := holders_step (p := (p : Int)) hr
      have HSr := Lib.hid (HST.out.below HL5.out.low)
      obtain ⟨gp, cp, hvp, hgp, hcp⟩ := HSr.out.row hr
      have hfr := HSr.out.froms r (List.mem_of_getElem? hr)
      have hfl := HSr.out.fromsLen r (List.mem_of_getElem? hr)
      obtain ⟨fa, fn, fc, hfv⟩ := row_slice hfr
      have hle := (holders_len (p := (p : Int)) (rows := rows.take q))
      obtain ⟨⟨code1, ⟨dl, dh⟩, ⟨wl, wh⟩, pil, boi, src⟩, pv⟩ := r
      simp only at hfv hfr hfl hstep
      subst hfv
      have HFR2 := Lib.hid (show ∀ W, Below w3.heap.size w3 W → W.ownsRow 0 3 1 (.slice fa fn fc) src.length (intCells src) from fun W hW => (HST.out.below hW).froms (⟨code1, ⟨dl, dh⟩, ⟨wl, wh⟩, pil, boi, src⟩, .slice fa fn fc) (List.mem_of_getElem? hr)); have HFL := Lib.hid hfl; have HSTEP := Lib.hid hstep
      injection hvp with e1 e2 e3
      subst e1 e3
      have HOx := Lib.hid (show (#[.string code1, .int .i64 dl, .int .i64 dh, .int .i64 wl, .int .i64 wh, .int .i64 pil, .int .i64 boi, .slice fa fn fc] : Array Value).all (·.oneCell') = true from by simp [Value.oneCell'])
      have c0 := (show wr.cell? ⟨gp, q * 8, none⟩ = some (.string code1) from hcp 0 (by decide))
      have c1 := (show wr.cell? ⟨gp, q * 8 + 1, none⟩ = some (.int .i64 dl) from hcp 1 (by decide))
      have c2 := (show wr.cell? ⟨gp, q * 8 + 2, none⟩ = some (.int .i64 dh) from hcp 2 (by decide))
      have c3 := (show wr.cell? ⟨gp, q * 8 + 3, none⟩ = some (.int .i64 wl) from hcp 3 (by decide))
      have c4 := (show wr.cell? ⟨gp, q * 8 + 4, none⟩ = some (.int .i64 wh) from hcp 4 (by decide))
      have c5 := (show wr.cell? ⟨gp, q * 8 + 5, none⟩ = some (.int .i64 pil) from hcp 5 (by decide))
      have c6 := (show wr.cell? ⟨gp, q * 8 + 6, none⟩ = some (.int .i64 boi) from hcp 6 (by decide))
      have c7 := (show wr.cell? ⟨gp, q * 8 + 7, none⟩ = some (.slice fa fn fc) from hcp 7 (by decide))
      clear hcp hfr hfl hstep e2 hr
      have HRz := Lib.hid (HR.out.alloc 49 [.string ⟨#[]⟩, .int .i64 0, .int .i64 0, .int .i64 0, .int .i64 0, .int .i64 0, .int .i64 0, .slice none 0 0] rfl)
      clear HR
      go_upto_region 13 with (((with_reducible refine at_store 49 (.tmp 13) (.tmp 48) ?_); go_must (refine wpList_store_mid rfl 49 (.tmp 13) (.tmp 48) rfl wr.heap.size 0 #[.string code1, .int .i64 dl, .int .i64 dh, .int .i64 wl, .int .i64 wh, .int .i64 pil, .int .i64 boi, .slice fa fn fc] rfl rfl ((Blk.new wr 49 #[.string ⟨#[]⟩, .int .i64 0, .int .i64 0, .int .i64 0, .int .i64 0, .int .i64 0, .int .i64 0, .slice none 0 0]).there (o := 0) (n := 8) (Nat.le_of_ble_eq_true rfl)) size_stack (HOx.out) ?_)))
      clear c0 c1 c2 c3 c4 c5 c6 c7
      have HR1 := Lib.hid (show Rowed w3 ((wr.alloc (.cells #[.string ⟨#[]⟩, .int .i64 0, .int .i64 0, .int .i64 0, .int .i64 0, .int .i64 0, .int .i64 0, .slice none 0 0] 49)).setCells wr.heap.size 0 [.string code1, .int .i64 dl, .int .i64 dh, .int .i64 wl, .int .i64 wh, .int .i64 pil, .int .i64 boi, .slice fa fn fc]) ([(wr.heap.size, 49, [.string code1, .int .i64 dl, .int .i64 dh, .int .i64 wl, .int .i64 wh, .int .i64 pil, .int .i64 boi, .slice fa fn fc])] : List (Nat × TypeId × List Value)) 9 1 (.slice sa sn sc) ((holdersOf p (rows.take q)).length) (strCells (holdersOf p (rows.take q))) from HRz.out.setLoc 0 rfl 0 [.string code1, .int .i64 dl, .int .i64 dh, .int .i64 wl, .int .i64 wh, .int .i64 pil, .int .i64 boi, .slice fa fn fc])
      clear HRz
      have HL6 := Lib.hid (show Locs w3 ((wr.alloc (.cells #[.string ⟨#[]⟩, .int .i64 0, .int .i64 0, .int .i64 0, .int .i64 0, .int .i64 0, .int .i64 0, .slice none 0 0] 49)).setCells wr.heap.size 0 [.string code1, .int .i64 dl, .int .i64 dh, .int .i64 wl, .int .i64 wh, .int .i64 pil, .int .i64 boi, .slice fa fn fc]) [(wr.heap.size, 49, [.string code1, .int .i64 dl, .int .i64 dh, .int .i64 wl, .int .i64 wh, .int .i64 pil, .int .i64 boi, .slice fa fn fc])] [] from (HL5.out.alloc 49 [.string ⟨#[]⟩, .int .i64 0, .int .i64 0, .int .i64 0, .int .i64 0, .int .i64 0, .int .i64 0, .slice none 0 0] rfl).setLoc 0 [] [.string ⟨#[]⟩, .int .i64 0, .int .i64 0, .int .i64 0, .int .i64 0, .int .i64 0, .int .i64 0, .slice none 0 0] [] [.string code1, .int .i64 dl, .int .i64 dh, .int .i64 wl, .int .i64 wh, .int .i64 pil, .int .i64 boi, .slice fa fn fc] rfl rfl)
      clear HL5
      generalize ((wr.alloc (.cells #[.string ⟨#[]⟩, .int .i64 0, .int .i64 0, .int .i64 0, .int .i64 0, .int .i64 0, .int .i64 0, .slice none 0 0] 49)).setCells wr.heap.size 0 [.string code1, .int .i64 dl, .int .i64 dh, .int .i64 wl, .int .i64 wh, .int .i64 pil, .int .i64 boi, .slice fa fn fc]) = v1 at HL6 HR1 ⊢
      generalize wr.heap.size = gx at HL6 HR1 ⊢
      try simp only [Act.put]
      have z0 := (show v1.cell? ⟨gx, 0, none⟩ = some (.string code1) from HL6.out.at 0 0 (v := .string code1) rfl rfl)
      have z1 := (show v1.cell? ⟨gx, 7, none⟩ = some (.slice fa fn fc) from HL6.out.at 0 7 (v := .slice fa fn fc) rfl rfl)
      skip
      have HCO := Lib.hid (containsInt_calls (p : Int) v1 (HFR2.out v1 HL6.out.low) HFL.out)
      skip
      skip
      obtain ⟨i1_, hi1, hi1a, hi1b, hi1c⟩ := info_parts info_string
      have HI1 := Lib.hid hi1; have HI1a := Lib.hid hi1a; have HI1b := Lib.hid hi1b; have HI1c := Lib.hid hi1c
      obtain ⟨m, hm⟩ : ∃ m, m = (holdersOf p (rows.take q)).length := ⟨_, rfl⟩
      rw [← hm] at HR1 hle
      rw [List.length_take] at hle
      have hm8 : m ≤ 8 := by omega
      have HM := Lib.hid hm
      have HA1 := Lib.hid (show m + 1 ≤ maxLen ∧ (m + 1) * 16 ≤ 140737488355328 by unfold maxLen; omega)
      clear hi1 hi1a hi1b hi1c hm hle
      have HRa := Lib.hid (show Rowed w3 (v1.alloc (.cells #[.string code1] 9)) ([(gx, 49, [.string code1, .int .i64 dl, .int .i64 dh, .int .i64 wl, .int .i64 wh, .int .i64 pil, .int .i64 boi, .slice fa fn fc]), (v1.heap.size, 9, [.string code1])] : List (Nat × TypeId × List Value)) 9 1 (.slice sa sn sc) (m) (strCells (holdersOf p (rows.take q))) from HR1.out.alloc 9 [.string code1] rfl)
      have HLa := Lib.hid (show Locs w3 (v1.alloc (.cells #[.string code1] 9)) [(gx, 49, [.string code1, .int .i64 dl, .int .i64 dh, .int .i64 wl, .int .i64 wh, .int .i64 pil, .int .i64 boi, .slice fa fn fc]), (v1.heap.size, 9, [.string code1])] [] from HL6.out.alloc 9 [.string code1] rfl)
      go_wp2_with (first
        | (go_at_call 49; refine HCO.out.mono ?_; rintro e w4 ⟨⟨bb, hbb, rfl⟩, rfl⟩; have HBB := Lib.hid hbb; clear hbb; cases bb)
        | (at_builtin; refine wpList_append_lies _ rfl (.tmp 53) (.tmp 56) 65 rfl w3.heap.size 9 i1_ (.string ⟨#[]⟩) 1 16 Try.underlying65 HI1.out HI1a.out HI1b.out HI1c.out rfl (by decide) (.slice sa sn sc) m (strCells (holdersOf p (rows.take q))) rfl HRa.out.own ⟨v1.heap.size, 0, none⟩ 1 1 [.string code1] rfl rfl (World.news_of_block (heap_alloc_new v1 _)) (by simp [Value.oneCell']) (by decide) HA1.out.1 HA1.out.2 HLa.out.low.size (v1.heap.size + 1) (World.size_alloc _ _) ?_; intro g cap w7 hown7 hg7 hat7 hlt7; have HL7 := Lib.hid (HLa.out.appended HRa.out hg7); have HR7 := Lib.hid (Rowed.appended HLa.out HRa.out hown7 (by rw [World.size_alloc]; exact hat7)); clear hown7 hg7 hat7 hlt7))
      all_goals go_roundw
      · have e : holdersOf (p : Int) (rows.take (q + 1)) = holdersOf (p : Int) (rows.take q) := by rw [HSTEP.out, if_neg (fun h => by have := HBB.out.2 h; cases this), List.append_nil]
        refine ⟨q + 1, by omega, by go_num, Lib.hid ?_, Lib.hid (HL6.out.fewer (List.nil_sublist _) (List.Sublist.refl _))⟩
        rw [e, ← HM.out]
        exact HR1.out.fewer (List.nil_sublist _)
      · simp [intOf]; omega
      · have e : holdersOf (p : Int) (rows.take (q + 1)) = holdersOf (p : Int) (rows.take q) ++ [code1] := by rw [HSTEP.out, if_pos (HBB.out.1 (by simp))]
        refine ⟨q + 1, by omega, by go_num, Lib.hid ?_, Lib.hid (HL7.out.fewer (List.nil_sublist _) (List.Sublist.refl _))⟩
        rw [e, List.length_append, ← HM.out, show strCells (holdersOf (p : Int) (rows.take q) ++ [code1]) = strCells (holdersOf (p : Int) (rows.take q)) ++ [.string code1] from by simp [strCells]]
        exact HR7.out.fewer (List.nil_sublist _)
      · simp [intOf]; omega
    · have hqe : tn = q := by omega
      subst hqe
      go_wp2
      go_ret2
      refine ⟨_, rows, acc, k, rfl, HB3.out.trans (HL5.out.low.mono HB3.out.size), HFOL.out, by rw [← HTN.out]; exact htn8, ?_⟩
      have h1 := row_zero HR.out.own
      rw [HTN.out, List.take_length] at h1
      exact h1
end Go.Proofs.Ytmcmhgpmefelfaa
