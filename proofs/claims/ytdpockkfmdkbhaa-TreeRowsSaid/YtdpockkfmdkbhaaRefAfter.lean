/- How many rows of years the document counts. -/
import Derived.Test.YtdpockkfmdkbhaaDates
namespace Go.Proofs.Ytdpockkfmdkbhaa
open Go.RowKit Go.Shelf Go.Maps

set_option maxHeartbeats 1000000 in
theorem painted_calls (y d : Int) (h0 : 0 ≤ y) (W : World) : Calls Try.prog 35 #[.int .i64 y, .int .i64 d] W fun e w' => e = .returned (.bool (fitsB y d)) ∧ W = w' := by
  by_cases hd : d = -1
  · have hf : fitsB y d = true := fitsB_iff.2 (.inl hd)
    rw [hf]
    have hb : (d == -1) = true := by simp [hd]
    clear hd hf
    go_enter Try.func35, Try.ntmps35
    go_wp2
    go_ret
    exact ⟨rfl, rfl⟩
  · have hb : (d == -1) = false := by simp [hd]
    by_cases hm : y % 10 = d
    · have hf : fitsB y d = true := fitsB_iff.2 (.inr hm)
      rw [hf]
      have bm : (y % 10 == d) = true := by simp [hm]
      clear hd hm hf
      go_enter Try.func35, Try.ntmps35
      go_wp2
      go_ret
      exact ⟨rfl, rfl⟩
    · have hf : fitsB y d = false := by
        cases h : fitsB y d
        · rfl
        · rcases fitsB_iff.1 h with h' | h'
          · exact absurd h' hd
          · exact absurd h' hm
      rw [hf]
      have bm : (y % 10 == d) = false := by simp [hm]
      clear hd hm hf
      go_enter Try.func35, Try.ntmps35
      go_wp2
      go_ret
      exact ⟨rfl, rfl⟩

theorem int_parts : (Try.prog.info? 3).map (fun i => (i.zero, i.size, i.bytes)) = some (some (.int .i64 0), 1, 8) := by kernel_rfl
def zeros (L : Nat) : Array Value := madeCells (Value.cells (.int .i64 0)) (L * 1)
theorem make_ints (L : Nat) (hL : L ≤ 1000) (w : World) : (Instr.makeSlice 46 (.int .i64 (L : Int)) (.int .i64 (L : Int))).run Try.prog w = .ok (.slice (some ⟨w.heap.size, 0, none⟩) L L) (w.alloc (.cells (zeros L) 3)) := by
  obtain ⟨i, hi, hz, h1, h2⟩ := info_parts int_parts
  have := run_make (P := Try.prog) w 46 3 i _ Try.underlying46 hi hz .i64 .i64 L L (by omega) (Int.le_refl _) (by rw [h2]; omega) (by omega)
  rw [h1] at this
  simpa [zeros] using this

/-- A row of numbers. -/
def NumRow (cs : Array Value) (L : Nat) (f : Nat → Nat) : Prop := cs.size = L ∧ ∀ j, j < L → cs[j]? = some (.int .i64 (f j : Int))
theorem numRow_zeros (L : Nat) : NumRow (zeros L) L (fun _ => 0) := by
  refine ⟨by unfold zeros; rw [size_madeCells, Nat.mul_one], fun j hj => ?_⟩
  have h := toList_madeCells_one (.int .i64 0) (L * 1)
  have : (zeros L).toList[j]? = some (.int .i64 0) := by
    show (madeCells (Value.cells (.int .i64 0)) (L * 1)).toList[j]? = _
    have e : Value.cells (.int .i64 0) = #[.int .i64 0] := rfl
    rw [e, h, List.getElem?_replicate, if_pos (by omega)]
  rw [← Array.getElem?_toList]
  exact this
theorem NumRow.set {cs : Array Value} {L : Nat} {f : Nat → Nat} (h : NumRow cs L f) {i : Nat} (hi : i < L) {a : Nat} {g : Nat → Nat} (hg : ∀ j, g j = if j = i then a else f j) : NumRow (cs.setIfInBounds i (.int .i64 (a : Int))) L g := by
  refine ⟨by rw [Array.size_setIfInBounds]; exact h.1, fun j hj => ?_⟩
  rw [hg j]
  by_cases hij : i = j
  · subst hij
    rw [Array.getElem?_setIfInBounds_self_of_lt (by rw [h.1]; exact hi), if_pos rfl]
  · rw [Array.getElem?_setIfInBounds_ne hij, if_neg (fun e => hij e.symm)]
    exact h.2 j hj
theorem NumRow.congr {cs : Array Value} {L : Nat} {f g : Nat → Nat} (h : NumRow cs L f) (hg : ∀ j, j < L → f j = g j) : NumRow cs L g := ⟨h.1, fun j hj => by rw [← hg j hj]; exact h.2 j hj⟩

set_option maxRecDepth 100000 in
set_option maxHeartbeats 4000000 in
theorem after_walk (a : Option Addr) (c : Nat) (ds : List Int) (rest lo hi : Int) (r n : Nat) (w : World) (hr : rest = r) (hr1 : 1 ≤ r) (hr2 : r ≤ 30) (h0 : 0 ≤ lo) (h1 : lo ≤ hi) (h2 : hi ≤ 300) (hn : hi + 1 = (n : Int)) (hl : ds.length ≤ 10) (hall : ∀ d ∈ ds, -1 ≤ d ∧ d ≤ 9)
    (hH : Held w.heap.size w 1 intCells (.slice a ds.length c) ds) :
    Calls Try.prog 34 #[.int .i64 rest, .slice a ds.length c, .int .i64 0, .int .i64 lo, .int .i64 hi] w fun e w' => e = .returned (.int .i64 ((bk 0 r n ds lo.toNat : Nat) : Int)) ∧ Below w.heap.size w w' := by
  subst hr
  obtain ⟨L, hL⟩ : ∃ L : Nat, hi + 30 + 2 = (L : Int) := ⟨(hi + 30 + 2).toNat, by omega⟩
  have hL1 : L ≤ 332 := by omega
  have hLn : L = n + 31 := by omega
  have hmk0 : ∀ W : World, (Instr.makeSlice 46 (.int .i64 (hi + 30 + 2)) (.int .i64 (hi + 30 + 2))).run Try.prog W = .ok (.slice (some ⟨W.heap.size, 0, none⟩) L L) (W.alloc (.cells (zeros L) 3)) := fun W => by rw [hL]; exact make_ints L (by omega) W
  have hmk : ∀ W : World, (Instr.makeSlice 46 (.int .i64 (L : Int)) (.int .i64 (L : Int))).run Try.prog W = .ok (.slice (some ⟨W.heap.size, 0, none⟩) L L) (W.alloc (.cells (zeros L) 3)) := fun W => make_ints L (by omega) W
  have HH := Lib.hid hH; clear hH
  have HA := Lib.hid hall; clear hall
  have HZ := Lib.hid (numRow_zeros L)
  have HHL := Lib.hid hL; clear hL
  have HHLn := Lib.hid hLn; clear hLn
  generalize zeros L = zs at hmk0 hmk HZ
  have hl' : (ds.length : Int) ≤ 10 := by omega
  have hB0 : Below w.heap.size w (w.alloc (.cells zs 3)) := (Below.refl _ _).alloc (Nat.le_refl _) _
  have K0 := Lib.hid (Blk.new w 3 zs)
  go_enter Try.func34, Try.ntmps34
  go_wp2_with fail
  generalize w.alloc (.cells zs 3) = w1 at hB0 K0 ⊢
  go_loopw [12] (fun i wr => ∃ (k : Nat) (cs : Array Value), k ≤ L ∧ i = .int .i64 k ∧ Below w.heap.size w wr ∧ Hid (Blk wr w.heap.size 3 cs) ∧ Hid (NumRow cs L (fun j => if j < k then 1 else 0))) (fun i _ => L - (intOf i).toNat)
  case atStart => exact ⟨0, zs, by omega, rfl, hB0, K0, HZ⟩
  case round =>
    clear hB0 K0
    obtain ⟨k, cs, hk, rfl, hB, KB, HC⟩ := hrel
    by_cases hlt : k < L
    · have hkl : (k : Int) < (L : Int) := by omega
      have c0 : wr.cell? ⟨w.heap.size, k, none⟩ = some (.int .i64 ((if k < k then 1 else 0 : Nat) : Int)) := (KB.out.cell k).trans (HC.out.2 k hlt)
      have f0 : wr.frozen? ⟨w.heap.size, k, none⟩ = false := KB.out.frozen k
      have HN := Lib.hid (HC.out.set hlt (a := 1) (g := fun j => if j < k + 1 then 1 else 0) (fun j => by
        by_cases h : j = k
        · rw [if_pos h, if_pos (by omega)]
        · rw [if_neg h]
          by_cases h' : j < k
          · rw [if_pos h', if_pos (by omega)]
          · rw [if_neg h', if_neg (by omega)]))
      have KN := Lib.hid (KB.out.set_ k (.int .i64 1))
      have hBN : Below w.heap.size w (wr.setCell ⟨w.heap.size, k, none⟩ (.int .i64 1)) := hB.setCell (p := ⟨w.heap.size, k, none⟩) (Nat.le_refl _) _
      go_wp2
      exact ⟨⟨k + 1, _, by omega, by go_num, hBN, KN, HN⟩, by simp [intOf]; omega⟩
    · obtain rfl : L = k := by omega
      have HN := Lib.hid (HC.out.congr (g := fun y => bk 0 r n (ds.drop ds.length) y) (fun j hj => by rw [if_pos hj, List.drop_length]; rfl))
      clear HC hlt hk
      obtain ⟨wo, rfl⟩ : ∃ wo : World, wo = wr := ⟨_, rfl⟩
      go_wp2_with fail
      have HT := Lib.hid (show ds.length ≤ ds.length from Nat.le_refl _)
      go_loopw [11, 13] (fun v i wr => ∃ (k g : Nat) (cs : Array Value), k ≤ ds.length ∧ i = .int .i64 ((k : Int) - 1) ∧ v = .slice (some ⟨g, 0, none⟩) L L ∧ w.heap.size ≤ g ∧ Below w.heap.size w wr ∧ Hid (Blk wr g 3 cs) ∧ Hid (NumRow cs L (fun y => bk 0 r n (ds.drop k) y))) (fun _ i _ => (intOf i + 1).toNat)
      case atStart => exact ⟨ds.length, w.heap.size, cs, Nat.le_refl _, rfl, rfl, Nat.le_refl _, hB, KB, HN⟩
      case round =>
        clear hB KB HN HT
        obtain ⟨k, g, cs, hk, rfl, rfl, hg, hB, KB, HC⟩ := hrel
        by_cases hk0 : 0 < k
        · obtain ⟨j, rfl⟩ : ∃ j, k = j + 1 := ⟨k - 1, by omega⟩
          have e1 : ((j + 1 : Nat) : Int) - 1 = (j : Int) := by omega
          rw [e1]
          clear e1 hk0
          have hjl : j < ds.length := by omega
          obtain ⟨b, off, rfl, hb, hcell⟩ := held_place HH.out hjl
          have cd : wr.cell? ⟨b, off + j, none⟩ = some (.int .i64 ds[j]!) := (hB.cell (p := ⟨b, off + j, none⟩) hb).trans (by have := hcell j hjl 0 _ rfl; rwa [Nat.mul_one, Nat.add_zero] at this)
          clear hcell
          have hd := HA.out ds[j]! (by rw [getElem!_pos ds j hjl]; exact List.getElem_mem hjl)
          have hdrop : ds.drop j = ds[j]! :: ds.drop (j + 1) := by rw [List.drop_eq_getElem_cons hjl, getElem!_pos ds j hjl]
          have hsl : (ds.drop (j + 1)).length ≤ 9 := by rw [List.length_drop]; omega
          have HDR := Lib.hid hdrop; clear hdrop
          generalize ds[j]! = d at cd hd HDR
          generalize hs : ds.drop (j + 1) = s at HC HDR hsl
          clear hs
          have hj10 : (j : Int) < 10 := by omega
          have hjl' : (j : Int) < (ds.length : Int) := by omega
          have gb : g ≠ b := by omega
          have hgl := KB.out.lt
          have hbl : b < wr.heap.size := by have := hB.size; omega
          have hB2 : Below w.heap.size w (wr.alloc (.cells zs 3)) := hB.alloc hB.size _
          have K2 := Lib.hid (KB.out.alloc (.cells zs 3))
          have M2 := Lib.hid (Blk.new wr 3 zs)
          have cd2 : (wr.alloc (.cells zs 3)).cell? ⟨b, off + j, none⟩ = some (.int .i64 d) := ((Below.refl wr.heap.size wr).alloc (Nat.le_refl _) _ |>.cell (p := ⟨b, off + j, none⟩) hbl).trans cd
          have gG : g ≠ wr.heap.size := by omega
          have bG : b ≠ wr.heap.size := by omega
          have hwG : w.heap.size ≤ wr.heap.size := hB.size
          obtain ⟨wo2, rfl⟩ : ∃ wo2 : World, wo2 = wr := ⟨_, rfl⟩
          go_wp2_with fail
          generalize wo2.alloc (.cells zs 3) = w2 at hB2 K2 M2 cd2 ⊢
          generalize wo2.heap.size = G at M2 gG bG hwG ⊢
          clear KB cd hB hgl hbl
          go_loopw [15] (fun i w3 => ∃ (m : Nat) (cs2 : Array Value), m ≤ n ∧ i = .int .i64 ((m : Int) - 1) ∧ Below w.heap.size w w3 ∧ Hid (Blk w3 g 3 cs) ∧ Hid (Blk w3 G 3 cs2) ∧ Hid (w3.cell? ⟨b, off + j, none⟩ = some (.int .i64 d)) ∧ Hid (NumRow cs2 L (fun y => if m ≤ y then bk 0 r n (d :: s) y else 0))) (fun i _ => (intOf i + 1).toNat)
          case atStart => exact ⟨n, zs, Nat.le_refl _, by rw [← hn]; congr 1; omega, hB2, K2, M2, Lib.hid cd2, Lib.hid (HZ.out.congr (fun y _ => by
            by_cases h : n ≤ y
            · rw [if_pos h, bk_end 0 r n d s y h]
            · rw [if_neg h]))⟩
          case round =>
            clear hB2 K2 M2 cd2
            obtain ⟨m, cs2, hm, rfl, hB3, K3, M3, HCD, HC3⟩ := hrel
            by_cases hm0 : 0 < m
            · obtain ⟨q, rfl⟩ : ∃ q, m = q + 1 := ⟨m - 1, by omega⟩
              have e2 : ((q + 1 : Nat) : Int) - 1 = (q : Int) := by omega
              rw [e2]
              clear e2 hm0
              have hqL : q + 1 < L := by have := HHLn.out; omega
              have hqrL : q + r < L := by have := HHLn.out; omega
              have hqn : q < n := by omega
              have hqL' : (q : Int) + 1 < (L : Int) := by omega
              have hqL2 : (q : Int) < (L : Int) := by omega
              have hqr' : (q : Int) + (r : Int) < (L : Int) := by omega
              have hq300 : (q : Int) ≤ 300 := by omega
              have HST := Lib.hid (bk_step 0 r n d s q hqn)
              have hs1 := bk_small 0 r n hr1 (d :: s) (by simp; omega) (by omega) (q + 1)
              have hs2 := bk_small 0 r n hr1 s (by omega) (by omega) (q + r)
              have cN : wr.cell? ⟨G, q + 1, none⟩ = some (.int .i64 ((bk 0 r n (d :: s) (q + 1) : Nat) : Int)) := (M3.out.cell (q + 1)).trans (by have h := HC3.out.2 (q + 1) hqL; dsimp only at h; rwa [if_pos (Nat.le_refl _)] at h)
              have cQ : wr.cell? ⟨G, q, none⟩ = some (.int .i64 ((if q + 1 ≤ q then bk 0 r n (d :: s) q else 0 : Nat) : Int)) := (M3.out.cell q).trans (HC3.out.2 q (by omega))
              have fQ : wr.frozen? ⟨G, q, none⟩ = false := M3.out.frozen q
              have cS : Hid (cs[q + r]? = some (.int .i64 ((bk 0 r n s (q + r) : Nat) : Int))) := Lib.hid (HC.out.2 (q + r) hqrL)
              have HF : Hid (∀ v : Nat, v = bk 0 r n (d :: s) q → NumRow ((cs2.setIfInBounds q (.int .i64 (v : Int)))) L (fun y => if q ≤ y then bk 0 r n (d :: s) y else 0)) := Lib.hid (fun v hv => HC3.out.set (by omega) (fun y => by
                by_cases h : y = q
                · rw [if_pos h, h, if_pos (Nat.le_refl _), hv]
                · rw [if_neg h]
                  by_cases h' : q ≤ y
                  · rw [if_pos h', if_pos (by omega)]
                  · rw [if_neg h', if_neg (by omega)]))
              generalize bk 0 r n (d :: s) (q + 1) = B1 at cN HST hs1
              generalize bk 0 r n s (q + r) = B2 at cS HST hs2
              generalize (if q + 1 ≤ q then bk 0 r n (d :: s) q else 0 : Nat) = B0 at cQ
              have cd3 := HCD.out
              have hB4 : Below w.heap.size w (wr.setCell ⟨G, q, none⟩ (.int .i64 (B1 : Int))) := hB3.setCell (p := ⟨G, q, none⟩) hwG _
              have K4 := Lib.hid (K3.out.far (p := ⟨G, q, none⟩) gG (.int .i64 (B1 : Int)))
              have M4 := Lib.hid (M3.out.set_ q (.int .i64 (B1 : Int)))
              have HCD4 := Lib.hid (show (wr.setCell ⟨G, q, none⟩ (.int .i64 (B1 : Int))).cell? ⟨b, off + j, none⟩ = some (.int .i64 d) from (World.cell?_setCell_other _ ⟨G, q, none⟩ ⟨b, off + j, none⟩ _ (fun h => bG (congrArg Addr.block h).symm)).trans cd3)
              cases hf : fitsB (q : Int) d
              · have HSTf := Lib.hid (show B1 = bk 0 r n (d :: s) q from by have := HST.out; rw [Int.zero_add, hf, if_neg (by simp), Nat.add_zero] at this; exact this.symm)
                go_wp2_with (go_at_call 35; refine (painted_calls _ _ (by omega) _).mono ?_; rintro e w' ⟨rfl, rfl⟩)
                exact ⟨⟨q, _, by omega, rfl, hB4, K4, M4, HCD4, Lib.hid (HF.out B1 HSTf.out)⟩, by simp [intOf]⟩
              · have HSTf := Lib.hid (show B1 + B2 = bk 0 r n (d :: s) q from by have := HST.out; rw [Int.zero_add, hf, if_pos rfl] at this; exact this.symm)
                have hqz : q < cs2.size := by rw [HC3.out.1]; omega
                have c1 : (wr.setCell ⟨G, q, none⟩ (.int .i64 (B1 : Int))).cell? ⟨G, q, none⟩ = some (.int .i64 (B1 : Int)) := (M4.out.cell q).trans (Array.getElem?_setIfInBounds_self_of_lt hqz)
                have c2 : (wr.setCell ⟨G, q, none⟩ (.int .i64 (B1 : Int))).cell? ⟨g, q + r, none⟩ = some (.int .i64 (B2 : Int)) := (K4.out.cell (q + r)).trans cS.out
                go_wp2_with (go_at_call 35; refine (painted_calls _ _ (by omega) _).mono ?_; rintro e w' ⟨rfl, rfl⟩)
                clear cN cQ fQ cd3
                generalize wr.setCell ⟨G, q, none⟩ (.int .i64 (B1 : Int)) = w4 at hB4 K4 M4 HCD4 c1 c2 ⊢
                have hq0 : (0 : Int) ≤ (q : Int) + (r : Int) := by omega
                have htn : ((q : Int) + (r : Int)).toNat = q + r := by omega
                have hw1 : IntKind.i64.wrap ((q : Int) + (r : Int)) = (q : Int) + (r : Int) := IntWalk.i64_in _ (by omega)
                have hw2 : IntKind.i64.wrap ((B1 : Int) + (B2 : Int)) = (B1 : Int) + (B2 : Int) := IntWalk.i64_in _ (by omega)
                go_still_tail 14, (by kernel_rfl)
                change wpList _ _ _ _ _ w4.drew
                have hB5 : Below w.heap.size w w4.drew := hB4.drew
                have K5 := Lib.hid (show Blk w4.drew g 3 cs from K4.out)
                have M5 := Lib.hid (show Blk w4.drew G 3 _ from M4.out)
                have HCD5 := Lib.hid (show w4.drew.cell? ⟨b, off + j, none⟩ = _ from HCD4.out)
                clear hB4 K4 M4 HCD4 c1 c2
                generalize w4.drew = w5 at hB5 K5 M5 HCD5 ⊢
                have c5 : w5.cell? ⟨G, q, none⟩ = some (.int .i64 (B1 : Int)) := (M5.out.cell q).trans (Array.getElem?_setIfInBounds_self_of_lt hqz)
                have f5 : w5.frozen? ⟨G, q, none⟩ = false := M5.out.frozen q
                have hB6 : Below w.heap.size w (w5.setCell ⟨G, q, none⟩ (.int .i64 ((B1 + B2 : Nat) : Int))) := hB5.setCell (p := ⟨G, q, none⟩) hwG _
                have K6 := Lib.hid (K5.out.far (p := ⟨G, q, none⟩) gG (.int .i64 ((B1 + B2 : Nat) : Int)))
                have M6 := Lib.hid (M5.out.set_ q (.int .i64 ((B1 + B2 : Nat) : Int)))
                have HCD6 := Lib.hid (show (w5.setCell ⟨G, q, none⟩ (.int .i64 ((B1 + B2 : Nat) : Int))).cell? ⟨b, off + j, none⟩ = some (.int .i64 d) from (World.cell?_setCell_other _ ⟨G, q, none⟩ ⟨b, off + j, none⟩ _ (fun h => bG (congrArg Addr.block h).symm)).trans HCD5.out)
                have HN := Lib.hid (HF.out (B1 + B2) HSTf.out)
                go_wp2_with fail
                exact ⟨⟨q, _, by omega, rfl, hB6, K6, M6, HCD6, Lib.hid (by rw [Array.setIfInBounds_setIfInBounds]; exact HN.out)⟩, by simp [intOf]⟩
            · obtain rfl : m = 0 := by omega
              have HN := Lib.hid (HC3.out.congr (g := fun y => bk 0 r n (ds.drop j) y) (fun y _ => by rw [if_pos (Nat.zero_le _), HDR.out]))
              rw [show ((0 : Nat) : Int) - 1 = -1 by omega]
              go_wp2_with fail
              exact ⟨⟨j, G, cs2, by omega, rfl, rfl, hwG, hB3, M3, HN⟩, by simp [intOf]⟩
        · obtain rfl : k = 0 := by omega
          obtain ⟨l, rfl⟩ : ∃ l : Nat, lo = (l : Int) := ⟨lo.toNat, by omega⟩
          have hll : l < L := by have := HHLn.out; omega
          have cR : wr.cell? ⟨g, l, none⟩ = some (.int .i64 ((bk 0 r n ds l : Nat) : Int)) := (KB.out.cell l).trans (by have := HC.out.2 l hll; rwa [List.drop_zero] at this)
          have hll2 : (l : Int) < (L : Int) := by omega
          have hmin : min (l : Int) (hi + 30 + 1) = (l : Int) := by omega
          rw [show ((0 : Nat) : Int) - 1 = -1 by omega]
          have HQ := Lib.hid (show bk 0 r n ds l = bk 0 r n ds (l : Int).toNat from by rw [Int.toNat_natCast])
          generalize bk 0 r n ds l = B at cR HQ
          go_wp2
          go_ret
          exact ⟨by rw [← HQ.out]; rfl, hB⟩
end Go.Proofs.Ytdpockkfmdkbhaa
