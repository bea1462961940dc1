/- TreeRows: the walk, with the error 0, where the arguments are in order and there are digits. -/
import Derived.Test.YtdpockkfmdkbhaaLawRows
import Derived.IntWalk
import Derived.Deep.RegionWith
namespace Go.Proofs.Ytdpockkfmdkbhaa
open Go.RowKit Go.Shelf Go.Maps

set_option maxRecDepth 100000 in
set_option maxHeartbeats 4000000 in
theorem rowsLaw_zero (rest : Int) (b off n c o2 m2 c2 : Nat) (ds : List Int) (d lo hi cut cv N N2 E2 : Int) (L1 L2 : Nat) (F bkd : Nat → Int) (w : World)
    (hlen : ds.length = n) (hn0 : 0 < (n : Int)) (hn10 : (n : Int) ≤ 10) (hc : n ≤ c) (h1 : inB rest 1 30 = true) (h2 : boundsB lo hi 0 300 = true) (hr0 : 1 ≤ rest) (hr1 : rest ≤ 30) (hlo : 0 ≤ lo) (hlh : lo ≤ hi) (hhi : hi ≤ 300)
    (hcut0 : 0 ≤ cut) (hcut1 : cut ≤ 65535) (hcv : lo + cut % (hi - lo + 1) = cv)
    (hCell : ∀ W, Below w.heap.size w W → ∀ k, k < n → W.cell? ⟨b, off + k, none⟩ = some (.int .i64 ds[k]!)) (hDig : ∀ k, k < n → inB ds[k]! (-1) 9 = true) (hd : ds[0]! = d)
    (hD1 : ∀ W, Below w.heap.size w W → Calls Try.prog 18 #[.int .i64 rest, .slice (some ⟨b, off, none⟩) n c, .agg #[.int .i64 lo, .int .i64 hi]] W (DatesAre L1 N 0 W))
    (hD2 : ∀ W, Below w.heap.size w W → Calls Try.prog 18 #[.int .i64 rest, .slice (some ⟨b, off, none⟩) n c, .agg #[.int .i64 cv, .int .i64 hi]] W (DatesAre L2 N2 E2 W)) (hE2 : E2 = 0 ∨ (E2 = 9 ∧ N2 = 0))
    (hD3 : ∀ W, Below w.heap.size w W → ∀ k : Nat, lo + k + rest ≤ hi → Calls Try.prog 18 #[.int .i64 rest, .slice (some ⟨b, o2, none⟩) m2 c2, .agg #[.int .i64 (lo + k + rest), .int .i64 hi]] W (SomeDates (F k) W))
    (hF0 : ∀ k : Nat, lo + k ≤ hi → fitsB (lo + k) d = false → bkd k = bkd (k + 1)) (hF1 : ∀ k : Nat, lo + k ≤ hi → fitsB (lo + k) d = true → hi < lo + k + rest → bkd k = bkd (k + 1) + (if n = 1 then 1 else 0)) (hF2 : ∀ k : Nat, lo + k ≤ hi → fitsB (lo + k) d = true → lo + k + rest ≤ hi → bkd k = bkd (k + 1) + F k)
    (hsl : (c = 1 ∧ n = 1 ∧ o2 = off ∧ m2 = 0 ∧ c2 = 0) ∨ (1 < c ∧ o2 = off + 1 ∧ m2 + 1 = n ∧ c2 + 1 = c ∧ c ≤ 9223372036854775807))
    (hN : N = bkd 0) (hN2 : N2 = bkd (cv - lo).toNat) (hb0 : ∀ k, 0 ≤ bkd k) (hF : ∀ k, 0 ≤ F k) (hbig : bkd 0 ≤ 2000000000000000000) :
    Calls Try.prog 8 #[.int .i64 rest, .slice (some ⟨b, off, none⟩) n c, .agg #[.int .i64 lo, .int .i64 hi], .int .u16 cut] w fun e w' => e = .returned (.bool true) ∧ Below w.heap.size w w' := by
  have hm0 : 0 ≤ cut % (hi - lo + 1) := Int.emod_nonneg _ (by omega)
  have hm1 : cut % (hi - lo + 1) < hi - lo + 1 := Int.emod_lt_of_pos _ (by omega)
  have hcv0 : lo ≤ cv := by omega
  have hcv1 : cv ≤ hi := by omega
  have HCE := Lib.hid hCell; clear hCell
  have HDI := Lib.hid hDig; clear hDig
  have HD := Lib.hid hd; clear hd
  have HD1 := Lib.hid hD1; clear hD1
  have HD2 := Lib.hid hD2; clear hD2
  have HD3 := Lib.hid hD3; clear hD3
  have HF0 := Lib.hid hF0; clear hF0
  have HF1 := Lib.hid hF1; clear hF1
  have HF2 := Lib.hid hF2; clear hF2
  have HN := Lib.hid hN; clear hN
  have HN2 := Lib.hid hN2; clear hN2
  have HB0 := Lib.hid hb0; clear hb0
  have HFF := Lib.hid hF; clear hF
  have HBG := Lib.hid hbig; clear hbig
  have HE2 := Lib.hid hE2; clear hE2
  have HL := Lib.hid hlen; clear hlen
  have HSL := Lib.hid hsl; clear hsl
  have HCV := Lib.hid hcv; clear hcv
  have hn20 : (n : Int) ≤ 20 := by omega
  have hB0 : Below w.heap.size w (w.alloc (.cells #[.int .i64 lo, .int .i64 hi] 41)) := (Below.refl _ _).alloc (Nat.le_refl _) _
  have K0 := Lib.hid (Blk.new w 41 #[.int .i64 lo, .int .i64 hi])
  go_enter Try.func8, Try.ntmps8
  go_wp2_with (first
    | (go_at_call 18; refine (HD1.out _ hB0).mono ?_; rintro e w1 ⟨v1, c1, rfl, hw1⟩; have hB1 : Below w.heap.size w w1 := hB0.trans (hw1.mono hB0.size); have K1 := Lib.hid (K0.out.below hw1 K0.out.lt); have b0 : w1.cell? ⟨w.heap.size, 0, none⟩ = some (.int .i64 lo) := K1.out.cell 0; have b1 : w1.cell? ⟨w.heap.size, 1, none⟩ = some (.int .i64 hi) := K1.out.cell 1; clear hw1)
    | (go_at_call 14; refine (in_calls _ _ _ _).mono ?_; rintro e w' ⟨rfl, rfl⟩)
    | (go_at_call 21; refine (bounded_calls _ _ _ _ _).mono ?_; rintro e w' ⟨rfl, rfl⟩))
  go_loopw [12, 13] (fun v i wr => ∃ (k : Nat), k ≤ n ∧ v = .bool true ∧ i = .int .i64 k ∧ Below w.heap.size w wr ∧ Hid (Blk wr w.heap.size 41 #[.int .i64 lo, .int .i64 hi])) (fun _ i _ => n - (intOf i).toNat)
  case atStart => exact ⟨0, by omega, rfl, rfl, hB1.alloc hB1.size _, Lib.hid (K1.out.alloc _)⟩
  case round =>
    clear hB1 b0 b1 K1
    obtain ⟨k, hk, rfl, rfl, hB, KB⟩ := hrel
    by_cases hlt : k < n
    · have c0 : wr.cell? ⟨b, off + k, none⟩ = some (.int .i64 ds[k]!) := HCE.out _ hB k hlt
      have hdk : inB ds[k]! (-1) 9 = true := HDI.out k hlt
      generalize ds[k]! = dk at c0 hdk
      have hkl : (k : Int) < (n : Int) := by omega
      have hk20 : (k : Int) ≤ 20 := by omega
      go_wp2_with (go_at_call 14; refine (in_calls _ _ _ _).mono ?_; rintro e w' ⟨rfl, rfl⟩)
      exact ⟨⟨k + 1, by omega, rfl, by go_num, hB, KB⟩, by simp [intOf]; omega⟩
    · have b0 : wr.cell? ⟨w.heap.size, 0, none⟩ = some (.int .i64 lo) := KB.out.cell 0
      have b1 : wr.cell? ⟨w.heap.size, 1, none⟩ = some (.int .i64 hi) := KB.out.cell 1
      have hnb : ((hi - lo + 1) == 0) = false := by simp; omega
      have hcv : lo + cut % (hi - lo + 1) = cv := HCV.out
      all_goals
        go_wp2_with fail
        go_quiet (fail)
        go_wp2_with fail
        refine (HD2.out _ (below_drewN hB _)).mono ?_
        rintro e w2 ⟨v2, c3, rfl, hw2⟩
        have hB2 : Below w.heap.size w w2 := (below_drewN hB _).trans (hw2.mono (below_drewN hB _).size)
        have K2 := Lib.hid (KB.out.below ((below_drewN (Below.refl wr.heap.size wr) _).trans hw2) KB.out.lt)
        clear b0 b1 hw2 hcv
        have b0 : w2.cell? ⟨w.heap.size, 0, none⟩ = some (.int .i64 lo) := K2.out.cell 0
        go_wp2_with fail
        go_loopw [18, 19, 20, 21, 22] (fun s y _ _ _ wr => ∃ (k : Nat) (x : Int), lo + k ≤ cv ∧ s = .int .i64 x ∧ y = .int .i64 (lo + k) ∧ (0 ≤ x ∧ x ≤ 2000000000000000000) ∧ Hid (x + bkd k = bkd 0) ∧ Below w.heap.size w wr ∧ Hid (Blk wr w.heap.size 41 #[.int .i64 lo, .int .i64 hi])) (fun _ y _ _ _ _ => (cv - intOf y).toNat)
        case atStart => exact ⟨0, 0, by omega, rfl, by simp, by omega, Lib.hid (by simp), hB2, K2⟩
        case round =>
          clear hB2 b0 K2 hB KB
          obtain ⟨j, x, hk2, rfl, rfl, hx, HX, hB, KB⟩ := hrel
          have b1 : wr.cell? ⟨w.heap.size, 1, none⟩ = some (.int .i64 hi) := KB.out.cell 1
          have hdr : -1 ≤ d ∧ d ≤ 9 := by
            have := HDI.out 0 (by omega)
            rw [HD.out] at this
            simpa [inB] using this
          by_cases hlt : lo + j < cv
          · have c0 : wr.cell? ⟨b, off, none⟩ = some (.int .i64 d) := by
              have := HCE.out _ hB 0 (by omega)
              rw [HD.out] at this
              exact this
            have hbk := HB0.out (j + 1)
            have hxx := HX.out
            have hbg := HBG.out
            cases hfit : fitsB (lo + j) d
            · have hs := HF0.out j (by omega) hfit
              have hno : ¬ (d = -1 ∨ (lo + (j : Int)) % 10 = d) := fun hh => by rw [fitsB_iff.2 hh] at hfit; cases hfit
              have dn : decide (0 ≤ d) = true := decide_eq_true (by omega)
              have bq : ((lo + (j : Int)) % 10 != d) = true := bne_iff_ne.2 (fun hh => hno (.inr hh))
              have HX2 := Lib.hid (show x + bkd (j + 1) = bkd 0 from by omega)
              clear hs hbk hxx hbg hfit hno
              go_wp2_with fail
              exact ⟨⟨j + 1, x, by omega, rfl, by go_num, hx, HX2, hB, KB⟩, by simp [intOf]; omega⟩
            · have hway : decide (0 ≤ d) = false ∨ (decide (0 ≤ d) = true ∧ ((lo + (j : Int)) % 10 != d) = false) := by
                rcases fitsB_iff.1 hfit with hh | hh
                · exact .inl (decide_eq_false (by omega))
                · by_cases h0 : 0 ≤ d
                  · exact .inr ⟨decide_eq_true h0, by rw [hh]; simp⟩
                  · exact .inl (decide_eq_false h0)
              by_cases hlate : hi < lo + j + rest
              · have hs := HF1.out j (by omega) hfit hlate
                have dl : decide (hi < lo + j + rest) = true := decide_eq_true hlate
                by_cases hn1 : n = 1
                · rw [if_pos hn1] at hs
                  have HX2 := Lib.hid (show x + 1 + bkd (j + 1) = bkd 0 from by omega)
                  have hx2 : 0 ≤ x + 1 ∧ x + 1 ≤ 2000000000000000000 := by omega
                  have bn : ((n : Int) == 1) = true := by rw [hn1]; rfl
                  clear hs hbk hxx hbg hfit hn1
                  rcases hway with dn | ⟨dn, bq⟩
                  all_goals
                    go_wp2_with fail
                    exact ⟨⟨j + 1, x + 1, by omega, rfl, by go_num, hx2, HX2, hB, KB⟩, by simp [intOf]; omega⟩
                · rw [if_neg hn1] at hs
                  have HX2 := Lib.hid (show x + bkd (j + 1) = bkd 0 from by omega)
                  have bn : ((n : Int) == 1) = false := by simp; omega
                  clear hs hbk hxx hbg hfit hn1
                  rcases hway with dn | ⟨dn, bq⟩
                  all_goals
                    go_wp2_with fail
                    exact ⟨⟨j + 1, x, by omega, rfl, by go_num, hx, HX2, hB, KB⟩, by simp [intOf]; omega⟩
              · have hs := HF2.out j (by omega) hfit (by omega)
                have hf0 := HFF.out j
                have dl : decide (hi < lo + j + rest) = false := decide_eq_false hlate
                have HX2 := Lib.hid (show x + F j + bkd (j + 1) = bkd 0 from by omega)
                have hx2 : 0 ≤ x + F j ∧ x + F j ≤ 2000000000000000000 := by omega
                clear hs hbk hxx hbg hfit
                have hjr : lo + (j : Int) + rest ≤ hi := by omega
                have hsl := HSL.out
                have wr1 : IntKind.i64.wrap (lo + (j : Int) + rest) = lo + (j : Int) + rest := IntWalk.i64_in _ (by omega)
                rcases hsl with ⟨rfl, rfl, rfl, rfl, rfl⟩ | ⟨hc1, rfl, rfl, rfl, hc2⟩
                · rcases hway with dn | ⟨dn, bq⟩
                  all_goals
                    go_wp2_with fail
                    go_region_with (go_at_call 18; (with_reducible refine (HD3.out _ (show Below w.heap.size w wr.drew from hB.drew) j hjr).mono ?_); go_must (rintro e w5 ⟨v5, n5, c5, E5, rfl, hw5⟩; have hb5 : Below wr.heap.size wr w5 := Below.trans ((Below.refl _ wr).drew) hw5; clear hw5))
                    clear wr1
                    go_wp2_with fail
                    refine ⟨?_, by simp [intOf]; omega⟩
                    (repeat apply Exists.intro)
                    exact ⟨⟨j + 1, x + F j, by omega, rfl, by go_num, hx2, HX2, hB.trans (hb5.mono hB.size), Lib.hid (KB.out.below hb5 KB.out.lt)⟩, rfl⟩
                · have hc20 : ¬ c2 = 0 := by omega
                  rcases hway with dn | ⟨dn, bq⟩
                  all_goals
                    go_wp2_with fail
                    go_region_with (go_at_call 18; (with_reducible refine (HD3.out _ (show Below w.heap.size w wr.drew from hB.drew) j hjr).mono ?_); go_must (rintro e w5 ⟨v5, n5, c5, E5, rfl, hw5⟩; have hb5 : Below wr.heap.size wr w5 := Below.trans ((Below.refl _ wr).drew) hw5; clear hw5))
                    all_goals
                      clear wr1
                      go_wp2_with fail
                      refine ⟨?_, by simp [intOf]; omega⟩
                      (repeat apply Exists.intro)
                      exact ⟨⟨j + 1, x + F j, by omega, rfl, by go_num, hx2, HX2, hB.trans (hb5.mono hB.size), Lib.hid (KB.out.below hb5 KB.out.lt)⟩, rfl⟩
          · have hje : (cv - lo).toNat = j := by omega
            have hN2 := HN2.out
            rw [hje] at hN2
            have hs : N = x + N2 := by have h1 := HN.out; have h2 := HX.out; omega
            have hn2 : 0 ≤ N2 ∧ N2 ≤ 2000000000000000000 := by have h1 := HB0.out j; have h2 := HX.out; have h3 := HBG.out; omega
            clear hje hN2 HN HN2 HX
            subst hs
            rcases HE2.out with rfl | ⟨rfl, rfl⟩
            all_goals
              go_wp2_with (go_at_call 11; refine (grows_calls _).mono ?_; rintro e w6 ⟨rfl, hw6⟩)
              go_ret
              exact ⟨rfl, hB.trans (hw6.mono hB.size)⟩
end Go.Proofs.Ytdpockkfmdkbhaa
