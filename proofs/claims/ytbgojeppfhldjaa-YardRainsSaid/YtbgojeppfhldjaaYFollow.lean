/- The program's Follow at a valid yard. -/
import Derived.Test.YtbgojeppfhldjaaYOneAny
namespace Go.Proofs.Ytbgojeppfhldjaa
open Go Go.RowKit Go.Shelf Yd

/-- A standing in memory: the stacks' rows, and their numbers. -/
structure Stands (w : World) (rows : List SRow) (tv : Value) : Prop where
  things : w.ownsRow 0 48 8 tv rows.length (rowsCells rows)
  froms : ∀ p ∈ rows, w.ownsRow 0 3 1 p.2 p.1.src.length (intCells p.1.src)
  fromsLen : ∀ p ∈ rows, p.1.src.length ≤ 1000
  codes : (rows.map fun p => p.1.code).Nodup
  sizes : ∀ p ∈ rows, p.1.code.size ≤ maxLen
  few : rows.length ≤ 8
theorem Book.stands {w : World} {C : Nat → Prop} {B : Nat} {bef aft : Int} {l : List SRow} {c : Yd.Acc} {made : Int} {N : Nat} {kv tv : Value} {m : Nat} (h : Book w C B bef aft l c made N kv tv m) : Stands w l tv :=
  ⟨h.things, h.froms, h.fromsLen, h.codes, h.sizes, h.few⟩
theorem Stands.same {w w' : World} {rows : List SRow} {tv : Value} (h : Stands w rows tv) (hs : ∀ k, k < w.heap.size → w'.heap[k]? = w.heap[k]?) : Stands w' rows tv :=
  ⟨row_same h.things (fun g hg => hs g (row_lt h.things hg)), fun p hp => row_same (h.froms p hp) (fun g hg => hs g (row_lt (h.froms p hp) hg)), h.fromsLen, h.codes, h.sizes, h.few⟩
theorem Stands.below {w w' : World} {rows : List SRow} {tv : Value} (h : Stands w rows tv) (hb : Below w.heap.size w w') : Stands w' rows tv := h.same hb.block
theorem Stands.setCells {w : World} {rows : List SRow} {tv : Value} (h : Stands w rows tv) {g : Nat} {t : TypeId} {cs : Array Value} (hb : Blk w g t cs) (h1 : t ≠ 48) (h2 : t ≠ 3) (o : Nat) (vs : List Value) : Stands (w.setCells g o vs) rows tv :=
  ⟨row_same h.things (fun k hk => heap_setCells w g (fun e => hb.notRow h.things h1 (by rw [hk, e])) vs _), fun p hp => row_same (h.froms p hp) (fun k hk => heap_setCells w g (fun e => hb.notRow (h.froms p hp) h2 (by rw [hk, e])) vs _), h.fromsLen, h.codes, h.sizes, h.few⟩

/-- What Follow leaves: what the yard's plain words say of the first deeds. -/
def FollowDone (w : World) (bef aft : Int) (ds : List (Deed Code)) (n : Nat) (e : Ending) (w' : World) : Prop :=
  ∃ (rows : List SRow) (tv : Value) (acc : Yd.Acc) (k : Nat) (f : Int), Yd.follow bef aft ds n = (stOf rows acc, k, f) ∧ SmallSt k (stOf rows acc) ∧ k ≤ n ∧ e = .returned (.tuple #[.agg (tv :: accCells acc).toArray, .int .i64 k, .int .i64 f, .int .i64 0]) ∧ Below w.heap.size w w' ∧ Stands w' rows tv

/-- What Follow leaves, with a bound on all numbers. -/
def FollowDoneV (w : World) (bef aft : Int) (ds : List (Deed Code)) (n : Nat) (e : Ending) (w' : World) : Prop :=
  ∃ (rows : List SRow) (tv : Value) (acc : Yd.Acc) (k : Nat) (f : Int), Yd.follow bef aft ds n = (stOf rows acc, k, f) ∧ Yd.run bef aft .empty 0 (ds.take k) = (stOf rows acc, k, 0) ∧ k ≤ n ∧ e = .returned (.tuple #[.agg (tv :: accCells acc).toArray, .int .i64 k, .int .i64 f, .int .i64 0]) ∧ Below w.heap.size w w' ∧ Stands w' rows tv

set_option maxRecDepth 100000 in
set_option maxHeartbeats 4000000 in
theorem follow_gen (bef aft : Int) (v : Value) (ds : List (Deed Code)) (k0 : Nat) (w : World) (h : Held w.heap.size w 8 deedCells v ds) (hok : errYard bef aft ds = 0) (hsz : ∀ d ∈ ds, d.stack.size ≤ maxLen ∧ d.other.size ≤ maxLen) (hn : k0 ≤ ds.length) (h12 : k0 ≤ 40)
    (hsm : ∀ (k : Nat) (s : St Code), k ≤ k0 → Yd.run bef aft .empty 0 (ds.take k) = (s, k, 0) → SmallStV 2000000000000000 k s) :
    Calls Try.prog 9 #[.agg #[.int .i64 bef, .int .i64 aft, v], .int .i64 k0] w (FollowDoneV w bef aft ds k0) := by
  obtain ⟨a, c, rfl, hmax, hcs⟩ := h.slice
  have HSMV := Lib.hid hsm
  have HH := Lib.hid h; have HOK := Lib.hid hok; have HSZ := Lib.hid hsz; have HCS := Lib.hid hcs
  obtain ⟨_, _, hn40, hde⟩ := errYard_ok hok
  have HFIT := Lib.hid (errDeeds_all hde)
  have hkc : k0 ≤ c := by
    rcases Nat.eq_zero_or_pos ds.length with h0 | h0
    · omega
    · obtain ⟨b, off, _, _, hc, _⟩ := hcs h0
      omega
  obtain ⟨n, hnn⟩ : ∃ n, n = ds.length := ⟨_, rfl⟩
  have HN := Lib.hid hnn
  rw [← hnn] at HH hn hmax hn40 ⊢
  clear hnn hok hsz hcs h hde hsm
  have HK0 := Lib.hid (Blk.new w 43 #[.int .i64 bef, .int .i64 aft, .slice a n c])
  have HW0 := Lib.hid ((Below.refl w.heap.size w).alloc (Nat.le_refl _) (.cells #[.int .i64 bef, .int .i64 aft, .slice a n c] 43))
  have hz0 : (w.alloc (.cells #[.int .i64 bef, .int .i64 aft, .slice a n c] 43)).heap.size = w.heap.size + 1 := World.size_alloc _ _
  have HZ1 := Lib.hid (Blk.new (w.alloc (.cells #[.int .i64 bef, .int .i64 aft, .slice a n c] 43)) 37 #[.slice none 0 0, .int .i64 0, .int .i64 0, .int .i64 0, .int .i64 0, .int .i64 0, .int .i64 0, .int .i64 0, .int .i64 0, .int .i64 0, .int .i64 0, .int .i64 0, .int .i64 0])
  have HK1 := Lib.hid (HK0.out.alloc (.cells #[.slice none 0 0, .int .i64 0, .int .i64 0, .int .i64 0, .int .i64 0, .int .i64 0, .int .i64 0, .int .i64 0, .int .i64 0, .int .i64 0, .int .i64 0, .int .i64 0, .int .i64 0] 37))
  have HW1 := Lib.hid (HW0.out.alloc HW0.out.size (.cells #[.slice none 0 0, .int .i64 0, .int .i64 0, .int .i64 0, .int .i64 0, .int .i64 0, .int .i64 0, .int .i64 0, .int .i64 0, .int .i64 0, .int .i64 0, .int .i64 0, .int .i64 0] 37))
  rw [hz0] at HZ1
  have hck : ∀ W, Below w.heap.size w W → Calls Try.prog 24 #[.agg #[.int .i64 bef, .int .i64 aft, .slice a n c], .int .i64 k0] W fun e w' => e = .returned (.int .i64 0) ∧ Below W.heap.size W w' := fun W hW =>
    checkFirst_ok bef aft (.slice a n c) ds (k0 : Int) W ((HH.out.below hW).mono hW.size) HOK.out (fun d hd => HSZ.out d hd) ⟨by omega, by have := HN.out; omega⟩
  have HCK := Lib.hid hck
  clear hck hmax
  go_enter Try.func9, Try.ntmps9
  go_wp2_with (first
    | (go_at_call 24; refine (HCK.out _ HW1.out).mono ?_; rintro e w2 ⟨rfl, hb2⟩; have HK2 := Lib.hid (HK1.out.below hb2); have HZ2 := Lib.hid (HZ1.out.below hb2); have HW2 := Lib.hid (HW1.out.trans (hb2.mono HW1.out.size)); clear hb2; have y0 := HK2.out.at 0 _ rfl; have y1 := HK2.out.at 1 _ rfl; have y2 := HK2.out.at 2 _ rfl)
    | (go_at_call 25; refine (bookOf_calls bef aft a n c _).mono ?_; rintro e w3 ⟨B, m, rfl, hbk, hb3⟩; have HB3 := Lib.hid hbk; have HK3 := Lib.hid (HK2.out.below hb3); have HZ3 := Lib.hid (HZ2.out.below hb3); have HW3 := Lib.hid (HW2.out.trans (hb3.mono HW2.out.size)); have hz23 := hb3.size; clear hbk hb3 y0 y1 y2; have y2 := HK3.out.at 2 _ rfl))
  obtain ⟨H0, hH0⟩ : ∃ H, H = w2.heap.size := ⟨_, rfl⟩
  rw [← hH0] at HB3 hz23
  have HLT := Lib.hid (show w.heap.size + 1 < H0 from by rw [hH0]; exact HZ2.out.lt)
  clear y2 hH0
  obtain ⟨g2, hg2⟩ : ∃ g, g = w.heap.size + 1 := ⟨_, rfl⟩
  have HG2 := Lib.hid hg2
  rw [← hg2] at HZ3 HLT ⊢
  clear hg2 HZ1 HZ2 HK0 HK1 HK2 HW0 HW1 HW2 HCK HK3 hz0 hz23
  go_loopw [6, 26] (fun fv iv wr => ∃ (k : Nat) (rows : List SRow) (acc : Yd.Acc) (N : Nat) (kv tv : Value), k ≤ k0 ∧ iv = .int .i64 k ∧ fv = .int .i64 0 ∧ Hid (Book wr (fun j => H0 ≤ j ∧ j < wr.heap.size) B bef aft rows acc k N kv tv m) ∧ Hid (N ≤ 20 * k) ∧
      Hid (Yd.run bef aft .empty 0 (ds.take k) = (stOf rows acc, k, 0)) ∧ Hid (Yd.follow bef aft ds k0 = run bef aft (stOf rows acc) k ((ds.take k0).drop k)) ∧ Hid (Blk wr g2 37 #[.slice none 0 0, .int .i64 0, .int .i64 0, .int .i64 0, .int .i64 0, .int .i64 0, .int .i64 0, .int .i64 0, .int .i64 0, .int .i64 0, .int .i64 0, .int .i64 0, .int .i64 0]) ∧ Hid (Below w.heap.size w wr)) (fun _ iv _ => k0 - (intOf iv).toNat)
  case atStart => exact ⟨0, [], .zero, 0, _, _, Nat.zero_le _, rfl, rfl, Lib.hid (HB3.out.bounded.wide fun j hj => ⟨hj.1.1, hj.2⟩), Lib.hid (Nat.zero_le _), Lib.hid (by rw [List.take_zero]; rfl), Lib.hid (by rw [List.drop_zero]; rfl), HZ3, HW3⟩
  case round =>
    obtain ⟨k, rows, acc, N, kv, tv, hk, rfl, rfl, HBr, HNr, HSr, HFr, HZr, HWr⟩ := hrel
    by_cases hlt0 : k < k0
    · obtain ⟨b, off, rfl, hbl, ⟨hnc, hcm⟩, hcells⟩ := HCS.out (by rw [← HN.out]; omega)
      have hlt : k < ds.length := by rw [← HN.out]; omega
      have HCS2 := Lib.hid hcells
      have HBL := Lib.hid hbl
      have hdrop : (ds.take k0).drop k = ds[k]! :: (ds.take k0).drop (k + 1) := by
        have h1 : k < (ds.take k0).length := by rw [List.length_take]; omega
        rw [drop_get h1, getElem!_pos (ds.take k0) k h1, getElem!_pos ds k hlt, List.getElem_take]
      have hmem := get_in hlt
      obtain ⟨d, hd⟩ : ∃ d, d = ds[k]! := ⟨_, rfl⟩
      rw [← hd] at hdrop hmem
      have hfit := HFIT.out _ hmem
      have hszd := HSZ.out _ hmem
      have hrun := HFr.out
      rw [hdrop] at hrun
      have hN2 : N + 40 ≤ 1000000 := by have := HNr.out; omega
      have hk12 : k ≤ 40 := by omega
      have HSV := Lib.hid (HSMV.out k _ hk HSr.out)
      have hdk0 : ds[k]? = some ds[k]! := by rw [getElem!_pos ds k hlt]; exact List.getElem?_eq_getElem hlt
      rw [← hd] at hdk0
      obtain ⟨⟨kind, dy, code, other, ⟨al, ah⟩, ⟨bl, bh⟩⟩, hd2⟩ : ∃ d', d' = d := ⟨_, rfl⟩
      have hdk := hd2.trans hd
      have c0 := (show wr.cell? ⟨b, off + k * 8, none⟩ = some (.int .i64 kind) from (HWr.out.cell (p := ⟨b, off + k * 8 + 0, none⟩) HBL.out).trans (HCS2.out k hlt 0 _ (by rw [← hdk]; rfl)))
      have c1 := (show wr.cell? ⟨b, off + k * 8 + 1, none⟩ = some (.int .i64 dy) from (HWr.out.cell (p := ⟨b, off + k * 8 + 1, none⟩) HBL.out).trans (HCS2.out k hlt 1 _ (by rw [← hdk]; rfl)))
      have c2 := (show wr.cell? ⟨b, off + k * 8 + 2, none⟩ = some (.string code) from (HWr.out.cell (p := ⟨b, off + k * 8 + 2, none⟩) HBL.out).trans (HCS2.out k hlt 2 _ (by rw [← hdk]; rfl)))
      have c3 := (show wr.cell? ⟨b, off + k * 8 + 3, none⟩ = some (.string other) from (HWr.out.cell (p := ⟨b, off + k * 8 + 3, none⟩) HBL.out).trans (HCS2.out k hlt 3 _ (by rw [← hdk]; rfl)))
      have c4 := (show wr.cell? ⟨b, off + k * 8 + 4, none⟩ = some (.int .i64 al) from (HWr.out.cell (p := ⟨b, off + k * 8 + 4, none⟩) HBL.out).trans (HCS2.out k hlt 4 _ (by rw [← hdk]; rfl)))
      have c5 := (show wr.cell? ⟨b, off + k * 8 + 5, none⟩ = some (.int .i64 ah) from (HWr.out.cell (p := ⟨b, off + k * 8 + 5, none⟩) HBL.out).trans (HCS2.out k hlt 5 _ (by rw [← hdk]; rfl)))
      have c6 := (show wr.cell? ⟨b, off + k * 8 + 6, none⟩ = some (.int .i64 bl) from (HWr.out.cell (p := ⟨b, off + k * 8 + 6, none⟩) HBL.out).trans (HCS2.out k hlt 6 _ (by rw [← hdk]; rfl)))
      have c7 := (show wr.cell? ⟨b, off + k * 8 + 7, none⟩ = some (.int .i64 bh) from (HWr.out.cell (p := ⟨b, off + k * 8 + 7, none⟩) HBL.out).trans (HCS2.out k hlt 7 _ (by rw [← hdk]; rfl)))
      have HK := Lib.hid (Blk.new wr 57 #[.int .i64 kind, .int .i64 dy, .string code, .string other, .int .i64 al, .int .i64 ah, .int .i64 bl, .int .i64 bh])
      have HBa := Lib.hid (HBr.out.alloc (.cells #[.int .i64 kind, .int .i64 dy, .string code, .string other, .int .i64 al, .int .i64 ah, .int .i64 bl, .int .i64 bh] 57))
      have HWa := Lib.hid (HWr.out.alloc HWr.out.size (.cells #[.int .i64 kind, .int .i64 dy, .string code, .string other, .int .i64 al, .int .i64 ah, .int .i64 bl, .int .i64 bh] 57))
      have HZa := Lib.hid (HZr.out.alloc (.cells #[.int .i64 kind, .int .i64 dy, .string code, .string other, .int .i64 al, .int .i64 ah, .int .i64 bl, .int .i64 bh] 57))
      have hza : (wr.alloc (.cells #[.int .i64 kind, .int .i64 dy, .string code, .string other, .int .i64 al, .int .i64 ah, .int .i64 bl, .int .i64 bh] 57)).heap.size = wr.heap.size + 1 := World.size_alloc _ _
      have hCa : ∀ j, (H0 ≤ j ∧ j < wr.heap.size) → j < (wr.alloc (.cells #[.int .i64 kind, .int .i64 dy, .string code, .string other, .int .i64 al, .int .i64 ah, .int .i64 bl, .int .i64 bh] 57)).heap.size := fun j hj => by rw [hza]; omega
      have hkI : (k : Int) < (k0 : Int) := by omega
      by_cases hf : fault bef aft (stOf rows acc) d = 0
      · have HE := Lib.hid (enter_yes HBa.out hCa hk12 2000000000000000 (Int.le_refl _) HSV.out hN2 d hfit hszd hf)
        have hst := run_snoc HSr.out hdk0 hf
        rw [show run bef aft (stOf rows acc) k (d :: (ds.take k0).drop (k + 1)) = run bef aft (deed (stOf rows acc) d k) (k + 1) ((ds.take k0).drop (k + 1)) from by rw [run, if_pos hf]] at hrun
        have HST := Lib.hid hst; have HRUN := Lib.hid hrun
        subst hd2
        simp only [deedCells] at HE
        clear hcells hbl hdrop hd hlt hmem hfit hszd hrun hst hf hdk hdk0 hCa
        go_wp2_with (go_at_call 26; refine HE.out.mono ?_; rintro e w5 ⟨N5, hN5, rfl, hbes, rows5, kv5, tv5, hrows5, hbk5⟩; have HN5 := Lib.hid hN5; have HBES := Lib.hid hbes; have HR5 := Lib.hid hrows5; have HB5 := Lib.hid hbk5; clear hN5 hbes hrows5 hbk5)
        have hb5 : Below w.heap.size w w5 := HWa.out.trans (HBES.out.below (fun j hj => by have h7 := HG2.out; have h8 := HLT.out; have h9 := hj.1; omega) HWa.out.size)
        go_roundw
        case rel =>
          refine ⟨k + 1, rows5, (deed (stOf rows acc) ⟨kind, dy, code, other, ⟨al, ah⟩, ⟨bl, bh⟩⟩ k).acc, N5, kv5, tv5, by omega, by go_num, rfl, Lib.hid ?_, Lib.hid ?_, Lib.hid ?_, Lib.hid ?_, Lib.hid ?_, Lib.hid hb5⟩
          · show Book w5 _ B bef aft rows5 _ ((k : Int) + 1) N5 kv5 tv5 m
            refine HB5.out.bounded.wide fun j hj => ⟨?_, hj.2⟩
            rcases hj.1 with h1 | h1
            · exact h1.1
            · have h3 := HBr.out.inB; rw [hza] at h1; omega
          · have := HN5.out; have := HNr.out; omega
          · rw [stOf, HR5.out]; exact HST.out
          · rw [stOf, HR5.out]; exact HRUN.out
          · exact HBES.out.blk HZa.out (fun h1 => by have h8 := HLT.out; have h9 := h1.1; omega)
        case measure => simp [intOf]; omega
      · have HE := Lib.hid (enter_no HBa.out hCa hk12 2000000000000000 (Int.le_refl _) HSV.out hN2 d hfit hszd hf)
        rw [show run bef aft (stOf rows acc) k (d :: (ds.take k0).drop (k + 1)) = (stOf rows acc, k, fault bef aft (stOf rows acc) d) from by rw [run, if_neg hf]] at hrun
        obtain ⟨f, hff⟩ : ∃ f, f = fault bef aft (stOf rows acc) d := ⟨_, rfl⟩
        rw [← hff] at HE hrun hf
        have HRUN := Lib.hid hrun
        have df : (f == 0) = false := by simpa using hf
        have dg : (f != 0) = true := by simpa using hf
        subst hd2
        simp only [deedCells] at HE
        clear hcells hbl hdrop hd hlt hmem hfit hszd hrun hff hf hdk hdk0 hCa
        go_upto_region 9 with (go_at_call 26; refine HE.out.mono ?_; rintro e w5 ⟨rfl, hb5⟩; have HBt := Lib.hid (HBa.out.below hb5); have HWt := Lib.hid (HWa.out.trans (hb5.mono HWa.out.size)); have HZt := Lib.hid (HZa.out.below hb5); clear hb5)
        obtain ⟨⟨vapour0, vapour1⟩, ⟨broth0, broth1⟩, ⟨dust0, dust1⟩, ⟨soldDry0, soldDry1⟩, ⟨soldWater0, soldWater1⟩, ⟨soaked0, soaked1⟩⟩ := acc
        obtain ⟨ta, tn, tc, rfl⟩ := row_slice HBt.out.things
        have HO := Lib.hid (show (#[.slice ta tn tc, .int .i64 vapour0, .int .i64 vapour1, .int .i64 broth0, .int .i64 broth1, .int .i64 dust0, .int .i64 dust1, .int .i64 soldDry0, .int .i64 soldDry1, .int .i64 soldWater0, .int .i64 soldWater1, .int .i64 soaked0, .int .i64 soaked1] : Array Value).all (·.oneCell') = true from by simp [Value.oneCell'])
        go_upto_region 11 with (fail)
        have hmix : Try.prog.follows .mixedOrders = true := by kernel_rfl
        refine region_till [] (fun w' => w'.cell? ⟨B, 17, none⟩ = some (.int .i64 k)) 11 [false, false, false, false, false, false, false, false, false, false, false] hmix rfl rfl ?_
        have HBd := Lib.hid (HBt.out.below (Below.drew (Below.refl w5.heap.size w5)))
        have HZd := Lib.hid (show Blk w5.drew g2 37 #[.slice none 0 0, .int .i64 0, .int .i64 0, .int .i64 0, .int .i64 0, .int .i64 0, .int .i64 0, .int .i64 0, .int .i64 0, .int .i64 0, .int .i64 0, .int .i64 0, .int .i64 0] from HZt.out)
        have HWd := Lib.hid (HWt.out.drew)
        clear HBt HZt HWt hmix
        generalize w5.drew = Wd at HBd HZd HWd ⊢
        have HT := Lib.hid (HBd.out.blk.at 17 (.int .i64 k) rfl)
        refine till_pure (i := 0) (v := .pointer (some ⟨B, 0, none⟩)) rfl rfl (by kernel_rfl) (fun _ _ _ h => h) (yields_of rfl (fun w' _ => by simp [go_sem])) (fun _ => HT.out) ?_
        simp only [List.setIfInBounds_toArray, List.set_cons_succ, List.set_cons_zero]
        refine till_pure (i := 2) (v := .pointer (some ⟨B, 0, none⟩)) rfl rfl (by kernel_rfl) (fun _ _ _ h => h) (yields_of rfl (fun w' _ => by simp [go_sem])) (fun _ => HT.out) ?_
        simp only [List.setIfInBounds_toArray, List.set_cons_succ, List.set_cons_zero]
        refine till_pure (i := 3) (v := .pointer (some ⟨B, 0, none⟩)) rfl rfl (by kernel_rfl) (fun _ _ _ h => h) (yields_of rfl (fun w' _ => by simp [go_sem])) (fun _ => HT.out) ?_
        simp only [List.setIfInBounds_toArray, List.set_cons_succ, List.set_cons_zero]
        refine till_pure (i := 4) (v := .pointer (some ⟨B, 17, none⟩)) rfl rfl (by kernel_rfl) (fun _ _ _ h => h) (yields_of rfl (fun w' _ => by simp [go_sem])) (fun _ => HT.out) ?_
        simp only [List.setIfInBounds_toArray, List.set_cons_succ, List.set_cons_zero]
        refine till_load (i := 5) (v := .int .i64 k) rfl rfl (by kernel_rfl) (fun _ _ _ h => h) (yields_of rfl (fun w' hw' => by have hcx : w'.cell? ⟨B, 17, none⟩ = some (.int .i64 k) := hw'; simp [go_sem, hcx])) (fun _ => HT.out) ?_
        simp only [List.setIfInBounds_toArray, List.set_cons_succ, List.set_cons_zero]
        refine till_pure (i := 6) (v := .int .i64 f) rfl rfl (by kernel_rfl) (fun _ _ _ h => h) (yields_of rfl (fun w' _ => by simp [go_sem])) (fun _ => HT.out) ?_
        simp only [List.setIfInBounds_toArray, List.set_cons_succ, List.set_cons_zero]
        refine till_only (j := 1) (by kernel_rfl) rfl ?_
        go_wp2_with (go_at_call 27; refine (standing_row HBd.out).mono ?_; rintro e w6 ⟨rfl, hb6⟩; have HB6 := Lib.hid (HBd.out.below hb6); have HZ6 := Lib.hid (HZd.out.below hb6); have HW6 := Lib.hid (HWd.out.trans (hb6.mono HWd.out.size)); clear hb6)
        clear HT
        have HT := Lib.hid (HB6.out.blk.at 17 (.int .i64 k) rfl)
        refine ⟨fun _ => HT.out, ?_⟩
        try simp only [List.setIfInBounds_toArray, List.set_cons_succ, List.set_cons_zero]
        refine till_only (j := 7) (by kernel_rfl) rfl ?_
        refine wpList_store_mid rfl 37 (.tmp 4) (.tmp 37) rfl g2 0 #[.slice ta tn tc, .int .i64 vapour0, .int .i64 vapour1, .int .i64 broth0, .int .i64 broth1, .int .i64 dust0, .int .i64 dust1, .int .i64 soldDry0, .int .i64 soldDry1, .int .i64 soldWater0, .int .i64 soldWater1, .int .i64 soaked0, .int .i64 soaked1] rfl rfl (HZ6.out.there (o := 0) (n := 13) (Nat.le_of_ble_eq_true rfl)) size_standing HO.out ?_
        change wpList _ _ _ _ _ (w6.setCells g2 0 [.slice ta tn tc, .int .i64 vapour0, .int .i64 vapour1, .int .i64 broth0, .int .i64 broth1, .int .i64 dust0, .int .i64 dust1, .int .i64 soldDry0, .int .i64 soldDry1, .int .i64 soldWater0, .int .i64 soldWater1, .int .i64 soaked0, .int .i64 soaked1])
        clear HT
        have HT := Lib.hid ((HB6.out.blk.apart (show B ≠ g2 from fun e => by have h8 := HLT.out; have h9 := HB6.out.inB.1; omega) 0 [.slice ta tn tc, .int .i64 vapour0, .int .i64 vapour1, .int .i64 broth0, .int .i64 broth1, .int .i64 dust0, .int .i64 dust1, .int .i64 soldDry0, .int .i64 soldDry1, .int .i64 soldWater0, .int .i64 soldWater1, .int .i64 soaked0, .int .i64 soaked1]).at 17 (.int .i64 k) rfl)
        have HZ7 := Lib.hid (HZ6.out.stored (old := [.slice none 0 0, .int .i64 0, .int .i64 0, .int .i64 0, .int .i64 0, .int .i64 0, .int .i64 0, .int .i64 0, .int .i64 0, .int .i64 0, .int .i64 0, .int .i64 0, .int .i64 0]) [.slice ta tn tc, .int .i64 vapour0, .int .i64 vapour1, .int .i64 broth0, .int .i64 broth1, .int .i64 dust0, .int .i64 dust1, .int .i64 soldDry0, .int .i64 soldDry1, .int .i64 soldWater0, .int .i64 soldWater1, .int .i64 soaked0, .int .i64 soaked1] rfl)
        have HS7 := Lib.hid (HB6.out.stands.setCells HZ6.out (by decide) (by decide) 0 [.slice ta tn tc, .int .i64 vapour0, .int .i64 vapour1, .int .i64 broth0, .int .i64 broth1, .int .i64 dust0, .int .i64 dust1, .int .i64 soldDry0, .int .i64 soldDry1, .int .i64 soldWater0, .int .i64 soldWater1, .int .i64 soaked0, .int .i64 soaked1])
        have HW7 := Lib.hid (below_setCells HW6.out (show w.heap.size ≤ g2 from by have h8 := HG2.out; omega) [.slice ta tn tc, .int .i64 vapour0, .int .i64 vapour1, .int .i64 broth0, .int .i64 broth1, .int .i64 dust0, .int .i64 dust1, .int .i64 soldDry0, .int .i64 soldDry1, .int .i64 soldWater0, .int .i64 soldWater1, .int .i64 soaked0, .int .i64 soaked1] 0)
        change Till _ _ _ _ ∧ wpAnyT _ _ _ _ _ _ _ _ _ _
        generalize w6.setCells g2 0 [.slice ta tn tc, .int .i64 vapour0, .int .i64 vapour1, .int .i64 broth0, .int .i64 broth1, .int .i64 dust0, .int .i64 dust1, .int .i64 soldDry0, .int .i64 soldDry1, .int .i64 soldWater0, .int .i64 soldWater1, .int .i64 soaked0, .int .i64 soaked1] = w7 at HT HZ7 HS7 HW7 ⊢
        refine ⟨fun _ => HT.out, ?_⟩
        try simp only [List.setIfInBounds_toArray, List.set_cons_succ, List.set_cons_zero]
        refine till_pure (i := 8) (v := .int .i64 k) rfl rfl (by kernel_rfl) (fun _ _ _ h => h) (yields_of rfl (fun w' _ => by simp [go_sem])) (fun _ => HT.out) ?_
        simp only [List.setIfInBounds_toArray, List.set_cons_succ, List.set_cons_zero]
        refine till_pure (i := 9) (v := .int .i64 f) rfl rfl (by kernel_rfl) (fun _ _ _ h => h) (yields_of rfl (fun w' _ => by simp [go_sem])) (fun _ => HT.out) ?_
        simp only [List.setIfInBounds_toArray, List.set_cons_succ, List.set_cons_zero]
        refine till_pure (i := 10) (v := .int .i64 0) rfl rfl (by kernel_rfl) (fun _ _ _ h => h) (yields_of rfl (fun w' _ => by simp [go_sem])) (fun _ => HT.out) ?_
        simp only [List.setIfInBounds_toArray, List.set_cons_succ, List.set_cons_zero]
        refine till_done (by kernel_rfl) ?_
        have r0 := HZ7.out.at 0 (.slice ta tn tc) rfl
        have r1 := HZ7.out.at 1 (.int .i64 vapour0) rfl
        have r2 := HZ7.out.at 2 (.int .i64 vapour1) rfl
        have r3 := HZ7.out.at 3 (.int .i64 broth0) rfl
        have r4 := HZ7.out.at 4 (.int .i64 broth1) rfl
        have r5 := HZ7.out.at 5 (.int .i64 dust0) rfl
        have r6 := HZ7.out.at 6 (.int .i64 dust1) rfl
        have r7 := HZ7.out.at 7 (.int .i64 soldDry0) rfl
        have r8 := HZ7.out.at 8 (.int .i64 soldDry1) rfl
        have r9 := HZ7.out.at 9 (.int .i64 soldWater0) rfl
        have r10 := HZ7.out.at 10 (.int .i64 soldWater1) rfl
        have r11 := HZ7.out.at 11 (.int .i64 soaked0) rfl
        have r12 := HZ7.out.at 12 (.int .i64 soaked1) rfl
        go_wp2
        refine bodyPost_ret (v := .tuple #[.agg #[.slice ta tn tc, .int .i64 vapour0, .int .i64 vapour1, .int .i64 broth0, .int .i64 broth1, .int .i64 dust0, .int .i64 dust1, .int .i64 soldDry0, .int .i64 soldDry1, .int .i64 soldWater0, .int .i64 soldWater1, .int .i64 soaked0, .int .i64 soaked1], .int .i64 k, .int .i64 f, .int .i64 0]) (by simp [results, Try.results9, go_sem, r0, r1, r2, r3, r4, r5, r6, r7, r8, r9, r10, r11, r12]) rfl ?_
        exact ⟨rows, .slice ta tn tc, _, k, f, HRUN.out, HSr.out, hk, rfl, HW7.out, HS7.out⟩
    · have hkn : k = k0 := by omega
      subst hkn
      have HRUN := Lib.hid (show Yd.follow bef aft ds k = (stOf rows acc, k, 0) from by rw [HFr.out, List.drop_eq_nil_of_le (by rw [List.length_take]; omega)]; rfl)
      have HBt := HBr; have HZt := HZr; have HWt := HWr
      obtain ⟨⟨vapour0, vapour1⟩, ⟨broth0, broth1⟩, ⟨dust0, dust1⟩, ⟨soldDry0, soldDry1⟩, ⟨soldWater0, soldWater1⟩, ⟨soaked0, soaked1⟩⟩ := acc
      obtain ⟨ta, tn, tc, rfl⟩ := row_slice HBt.out.things
      have HO := Lib.hid (show (#[.slice ta tn tc, .int .i64 vapour0, .int .i64 vapour1, .int .i64 broth0, .int .i64 broth1, .int .i64 dust0, .int .i64 dust1, .int .i64 soldDry0, .int .i64 soldDry1, .int .i64 soldWater0, .int .i64 soldWater1, .int .i64 soaked0, .int .i64 soaked1] : Array Value).all (·.oneCell') = true from by simp [Value.oneCell'])
      go_upto_region 11 with (fail)
      have hmix : Try.prog.follows .mixedOrders = true := by kernel_rfl
      refine region_till [] (fun w' => w'.cell? ⟨B, 17, none⟩ = some (.int .i64 k)) 11 [false, false, false, false, false, false, false, false, false, false, false] hmix rfl rfl ?_
      have HBd := Lib.hid (HBt.out.below (Below.drew (Below.refl wr.heap.size wr)))
      have HZd := Lib.hid (show Blk wr.drew g2 37 #[.slice none 0 0, .int .i64 0, .int .i64 0, .int .i64 0, .int .i64 0, .int .i64 0, .int .i64 0, .int .i64 0, .int .i64 0, .int .i64 0, .int .i64 0, .int .i64 0, .int .i64 0] from HZt.out)
      have HWd := Lib.hid (HWt.out.drew)
      clear HBt HZt HWt hmix
      generalize wr.drew = Wd at HBd HZd HWd ⊢
      have HT := Lib.hid (HBd.out.blk.at 17 (.int .i64 k) rfl)
      refine till_pure (i := 0) (v := .pointer (some ⟨B, 0, none⟩)) rfl rfl (by kernel_rfl) (fun _ _ _ h => h) (yields_of rfl (fun w' _ => by simp [go_sem])) (fun _ => HT.out) ?_
      simp only [List.setIfInBounds_toArray, List.set_cons_succ, List.set_cons_zero]
      refine till_pure (i := 2) (v := .pointer (some ⟨B, 0, none⟩)) rfl rfl (by kernel_rfl) (fun _ _ _ h => h) (yields_of rfl (fun w' _ => by simp [go_sem])) (fun _ => HT.out) ?_
      simp only [List.setIfInBounds_toArray, List.set_cons_succ, List.set_cons_zero]
      refine till_pure (i := 3) (v := .pointer (some ⟨B, 0, none⟩)) rfl rfl (by kernel_rfl) (fun _ _ _ h => h) (yields_of rfl (fun w' _ => by simp [go_sem])) (fun _ => HT.out) ?_
      simp only [List.setIfInBounds_toArray, List.set_cons_succ, List.set_cons_zero]
      refine till_pure (i := 4) (v := .pointer (some ⟨B, 17, none⟩)) rfl rfl (by kernel_rfl) (fun _ _ _ h => h) (yields_of rfl (fun w' _ => by simp [go_sem])) (fun _ => HT.out) ?_
      simp only [List.setIfInBounds_toArray, List.set_cons_succ, List.set_cons_zero]
      refine till_load (i := 5) (v := .int .i64 k) rfl rfl (by kernel_rfl) (fun _ _ _ h => h) (yields_of rfl (fun w' hw' => by have hcx : w'.cell? ⟨B, 17, none⟩ = some (.int .i64 k) := hw'; simp [go_sem, hcx])) (fun _ => HT.out) ?_
      simp only [List.setIfInBounds_toArray, List.set_cons_succ, List.set_cons_zero]
      refine till_pure (i := 6) (v := .int .i64 0) rfl rfl (by kernel_rfl) (fun _ _ _ h => h) (yields_of rfl (fun w' _ => by simp [go_sem])) (fun _ => HT.out) ?_
      simp only [List.setIfInBounds_toArray, List.set_cons_succ, List.set_cons_zero]
      refine till_only (j := 1) (by kernel_rfl) rfl ?_
      go_wp2_with (go_at_call 27; refine (standing_row HBd.out).mono ?_; rintro e w6 ⟨rfl, hb6⟩; have HB6 := Lib.hid (HBd.out.below hb6); have HZ6 := Lib.hid (HZd.out.below hb6); have HW6 := Lib.hid (HWd.out.trans (hb6.mono HWd.out.size)); clear hb6)
      clear HT
      have HT := Lib.hid (HB6.out.blk.at 17 (.int .i64 k) rfl)
      refine ⟨fun _ => HT.out, ?_⟩
      try simp only [List.setIfInBounds_toArray, List.set_cons_succ, List.set_cons_zero]
      refine till_only (j := 7) (by kernel_rfl) rfl ?_
      refine wpList_store_mid rfl 37 (.tmp 4) (.tmp 37) rfl g2 0 #[.slice ta tn tc, .int .i64 vapour0, .int .i64 vapour1, .int .i64 broth0, .int .i64 broth1, .int .i64 dust0, .int .i64 dust1, .int .i64 soldDry0, .int .i64 soldDry1, .int .i64 soldWater0, .int .i64 soldWater1, .int .i64 soaked0, .int .i64 soaked1] rfl rfl (HZ6.out.there (o := 0) (n := 13) (Nat.le_of_ble_eq_true rfl)) size_standing HO.out ?_
      change wpList _ _ _ _ _ (w6.setCells g2 0 [.slice ta tn tc, .int .i64 vapour0, .int .i64 vapour1, .int .i64 broth0, .int .i64 broth1, .int .i64 dust0, .int .i64 dust1, .int .i64 soldDry0, .int .i64 soldDry1, .int .i64 soldWater0, .int .i64 soldWater1, .int .i64 soaked0, .int .i64 soaked1])
      clear HT
      have HT := Lib.hid ((HB6.out.blk.apart (show B ≠ g2 from fun e => by have h8 := HLT.out; have h9 := HB6.out.inB.1; omega) 0 [.slice ta tn tc, .int .i64 vapour0, .int .i64 vapour1, .int .i64 broth0, .int .i64 broth1, .int .i64 dust0, .int .i64 dust1, .int .i64 soldDry0, .int .i64 soldDry1, .int .i64 soldWater0, .int .i64 soldWater1, .int .i64 soaked0, .int .i64 soaked1]).at 17 (.int .i64 k) rfl)
      have HZ7 := Lib.hid (HZ6.out.stored (old := [.slice none 0 0, .int .i64 0, .int .i64 0, .int .i64 0, .int .i64 0, .int .i64 0, .int .i64 0, .int .i64 0, .int .i64 0, .int .i64 0, .int .i64 0, .int .i64 0, .int .i64 0]) [.slice ta tn tc, .int .i64 vapour0, .int .i64 vapour1, .int .i64 broth0, .int .i64 broth1, .int .i64 dust0, .int .i64 dust1, .int .i64 soldDry0, .int .i64 soldDry1, .int .i64 soldWater0, .int .i64 soldWater1, .int .i64 soaked0, .int .i64 soaked1] rfl)
      have HS7 := Lib.hid (HB6.out.stands.setCells HZ6.out (by decide) (by decide) 0 [.slice ta tn tc, .int .i64 vapour0, .int .i64 vapour1, .int .i64 broth0, .int .i64 broth1, .int .i64 dust0, .int .i64 dust1, .int .i64 soldDry0, .int .i64 soldDry1, .int .i64 soldWater0, .int .i64 soldWater1, .int .i64 soaked0, .int .i64 soaked1])
      have HW7 := Lib.hid (below_setCells HW6.out (show w.heap.size ≤ g2 from by have h8 := HG2.out; omega) [.slice ta tn tc, .int .i64 vapour0, .int .i64 vapour1, .int .i64 broth0, .int .i64 broth1, .int .i64 dust0, .int .i64 dust1, .int .i64 soldDry0, .int .i64 soldDry1, .int .i64 soldWater0, .int .i64 soldWater1, .int .i64 soaked0, .int .i64 soaked1] 0)
      change Till _ _ _ _ ∧ wpAnyT _ _ _ _ _ _ _ _ _ _
      generalize w6.setCells g2 0 [.slice ta tn tc, .int .i64 vapour0, .int .i64 vapour1, .int .i64 broth0, .int .i64 broth1, .int .i64 dust0, .int .i64 dust1, .int .i64 soldDry0, .int .i64 soldDry1, .int .i64 soldWater0, .int .i64 soldWater1, .int .i64 soaked0, .int .i64 soaked1] = w7 at HT HZ7 HS7 HW7 ⊢
      refine ⟨fun _ => HT.out, ?_⟩
      try simp only [List.setIfInBounds_toArray, List.set_cons_succ, List.set_cons_zero]
      refine till_pure (i := 8) (v := .int .i64 k) rfl rfl (by kernel_rfl) (fun _ _ _ h => h) (yields_of rfl (fun w' _ => by simp [go_sem])) (fun _ => HT.out) ?_
      simp only [List.setIfInBounds_toArray, List.set_cons_succ, List.set_cons_zero]
      refine till_pure (i := 9) (v := .int .i64 0) rfl rfl (by kernel_rfl) (fun _ _ _ h => h) (yields_of rfl (fun w' _ => by simp [go_sem])) (fun _ => HT.out) ?_
      simp only [List.setIfInBounds_toArray, List.set_cons_succ, List.set_cons_zero]
      refine till_pure (i := 10) (v := .int .i64 0) rfl rfl (by kernel_rfl) (fun _ _ _ h => h) (yields_of rfl (fun w' _ => by simp [go_sem])) (fun _ => HT.out) ?_
      simp only [List.setIfInBounds_toArray, List.set_cons_succ, List.set_cons_zero]
      refine till_done (by kernel_rfl) ?_
      have r0 := HZ7.out.at 0 (.slice ta tn tc) rfl
      have r1 := HZ7.out.at 1 (.int .i64 vapour0) rfl
      have r2 := HZ7.out.at 2 (.int .i64 vapour1) rfl
      have r3 := HZ7.out.at 3 (.int .i64 broth0) rfl
      have r4 := HZ7.out.at 4 (.int .i64 broth1) rfl
      have r5 := HZ7.out.at 5 (.int .i64 dust0) rfl
      have r6 := HZ7.out.at 6 (.int .i64 dust1) rfl
      have r7 := HZ7.out.at 7 (.int .i64 soldDry0) rfl
      have r8 := HZ7.out.at 8 (.int .i64 soldDry1) rfl
      have r9 := HZ7.out.at 9 (.int .i64 soldWater0) rfl
      have r10 := HZ7.out.at 10 (.int .i64 soldWater1) rfl
      have r11 := HZ7.out.at 11 (.int .i64 soaked0) rfl
      have r12 := HZ7.out.at 12 (.int .i64 soaked1) rfl
      go_wp2
      refine bodyPost_ret (v := .tuple #[.agg #[.slice ta tn tc, .int .i64 vapour0, .int .i64 vapour1, .int .i64 broth0, .int .i64 broth1, .int .i64 dust0, .int .i64 dust1, .int .i64 soldDry0, .int .i64 soldDry1, .int .i64 soldWater0, .int .i64 soldWater1, .int .i64 soaked0, .int .i64 soaked1], .int .i64 k, .int .i64 0, .int .i64 0]) (by simp [results, Try.results9, go_sem, r0, r1, r2, r3, r4, r5, r6, r7, r8, r9, r10, r11, r12]) rfl ?_
      exact ⟨rows, .slice ta tn tc, _, k, 0, HRUN.out, HSr.out, Nat.le_refl _, rfl, HW7.out, HS7.out⟩
/-- At most twelve deeds of any kind leave what is small. -/
theorem follow_calls (bef aft : Int) (v : Value) (ds : List (Deed Code)) (k0 : Nat) (w : World) (h : Held w.heap.size w 8 deedCells v ds) (hok : errYard bef aft ds = 0) (hsz : ∀ d ∈ ds, d.stack.size ≤ maxLen ∧ d.other.size ≤ maxLen) (hn : k0 ≤ ds.length) (h12 : k0 ≤ 12) :
    Calls Try.prog 9 #[.agg #[.int .i64 bef, .int .i64 aft, v], .int .i64 k0] w (FollowDone w bef aft ds k0) := by
  have hfit : ∀ d ∈ ds, Fits d := errDeeds_all (errYard_ok hok).2.2.2
  have hsm : ∀ (k : Nat) (s : St Code), Yd.run bef aft .empty 0 (ds.take k) = (s, k, 0) → SmallSt k s := fun k s hr => small_run small_empty (fun d hd => hfit d (List.mem_of_mem_take hd)) hr
  refine (follow_gen bef aft v ds k0 w h hok hsz hn (by omega) (fun k s hk hr => (hsm k s hr).most (cap_le (by omega)))).mono ?_
  rintro e w' ⟨rows, tv, acc, k, f, h1, h2, h3, h4, h5, h6⟩
  exact ⟨rows, tv, acc, k, f, h1, hsm k _ h2, h3, h4, h5, h6⟩
end Go.Proofs.Ytbgojeppfhldjaa
