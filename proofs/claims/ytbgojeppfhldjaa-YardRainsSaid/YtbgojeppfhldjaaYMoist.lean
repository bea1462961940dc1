/- A stack looked up behind the first deeds. A stack's water behind the first deeds, where these have no fault. -/
import Derived.Test.YtbgojeppfhldjaaYSameStanding
namespace Go.Proofs.Ytbgojeppfhldjaa
open Go Go.RowKit Go.Shelf Yd

theorem hasCode_calls (s code : Code) (dl dh wl wh pil boi : Int) (fa : Option Addr) (fn fc c : Nat) (w : World) (hc : w.cell? ⟨c, 0, none⟩ = some (.string code)) (hl : c < w.heap.size) :
    Calls Try.prog 47 #[.agg #[.string s, .int .i64 dl, .int .i64 dh, .int .i64 wl, .int .i64 wh, .int .i64 pil, .int .i64 boi, .slice fa fn fc], .pointer (some ⟨c, 0, none⟩)] w fun e w' => e = .returned (.bool (decide (s = code))) ∧ Below w.heap.size w w' := by
  have h1 : (w.alloc (.cells #[.string s, .int .i64 dl, .int .i64 dh, .int .i64 wl, .int .i64 wh, .int .i64 pil, .int .i64 boi, .slice fa fn fc] 48)).cell? ⟨c, 0, none⟩ = some (.string code) := (((Below.refl w.heap.size w).alloc (Nat.le_refl _) (.cells #[.string s, .int .i64 dl, .int .i64 dh, .int .i64 wl, .int .i64 wh, .int .i64 pil, .int .i64 boi, .slice fa fn fc] 48)).cell (p := ⟨c, 0, none⟩) hl).trans hc
  clear hc
  go_enter Try.func47, Try.ntmps47
  go_wp2
  go_ret
  exact ⟨by rw [← codes_beq]; rfl, (Below.refl _ _).alloc (Nat.le_refl _) _⟩

def ixInt (o : Option Nat) : Int := match o with | some k => (k : Int) | none => -1

set_option maxRecDepth 100000 in
set_option maxHeartbeats 1000000 in
theorem index_calls {w : World} {rows : List SRow} {tv : Value} (h : Stands w rows tv) (code : Code) (c : Nat) (hc : w.cell? ⟨c, 0, none⟩ = some (.string code)) (hl : c < w.heap.size) :
    Calls Try.prog 46 #[tv, .func (.func 47) #[] #[.pointer (some ⟨c, 0, none⟩)]] w fun e w' => e = .returned (.int .i64 (ixInt (ixOf rows code))) ∧ Below w.heap.size w w' := by
  have hen : ∀ args w, (callFunc 47 args).run Try.prog w = .ok (.enter 47 args) w := enters_of Try.func47 (by kernel_rfl) rfl
  obtain ⟨a, cp, rfl⟩ := stands_slice h
  have HH := Lib.hid h
  have HC := Lib.hid hc
  have HF := Lib.hid h.few
  obtain ⟨n, hn⟩ : ∃ n, n = rows.length := ⟨_, rfl⟩
  have HN := Lib.hid hn
  rw [← hn]
  have hn8 : n ≤ 8 := by rw [hn]; exact h.few
  clear h hc hn
  go_enter Try.func46, Try.ntmps46
  go_wp2
  go_loopw [8] (fun v wr => ∃ k : Nat, k ≤ n ∧ Hid (∀ (j : Nat) (q : SRow), j < k → rows[j]? = some q → q.1.code ≠ code) ∧ v = .int .i64 k ∧ Hid (Below w.heap.size w wr)) (fun v _ => n - (intOf v).toNat)
  case atStart => exact ⟨0, by omega, Lib.hid (fun j q h1 => by omega), rfl, Lib.hid (Below.refl _ _)⟩
  case round =>
    obtain ⟨k, hk, HJ, rfl, HB⟩ := hrel
    by_cases hlt : k < n
    · have hkr : k < rows.length := by rw [← HN.out]; exact hlt
      obtain ⟨p, hp⟩ : ∃ p, rows[k]? = some p := ⟨_, List.getElem?_eq_getElem hkr⟩
      have HSr := Lib.hid (HH.out.below HB.out)
      obtain ⟨g, cap, hv, hg, hcs⟩ := HSr.out.row hp
      obtain ⟨fa, fn, fc, hfv⟩ := row_slice (HSr.out.froms p (List.mem_of_getElem? hp))
      obtain ⟨⟨s, ⟨dl, dh⟩, ⟨wl, wh⟩, pil, boi, src⟩, pv⟩ := p
      simp only at hfv
      subst hfv
      injection hv with ea en ec
      subst ea ec
      have c0 : wr.cell? ⟨g, k * 8, none⟩ = some (.string s) := hcs 0 (by omega)
      have c1 : wr.cell? ⟨g, k * 8 + 1, none⟩ = some (.int .i64 dl) := hcs 1 (by omega)
      have c2 : wr.cell? ⟨g, k * 8 + 2, none⟩ = some (.int .i64 dh) := hcs 2 (by omega)
      have c3 : wr.cell? ⟨g, k * 8 + 3, none⟩ = some (.int .i64 wl) := hcs 3 (by omega)
      have c4 : wr.cell? ⟨g, k * 8 + 4, none⟩ = some (.int .i64 wh) := hcs 4 (by omega)
      have c5 : wr.cell? ⟨g, k * 8 + 5, none⟩ = some (.int .i64 pil) := hcs 5 (by omega)
      have c6 : wr.cell? ⟨g, k * 8 + 6, none⟩ = some (.int .i64 boi) := hcs 6 (by omega)
      have c7 : wr.cell? ⟨g, k * 8 + 7, none⟩ = some (.slice fa fn fc) := hcs 7 (by omega)
      have HCR := Lib.hid ((HB.out.cell (p := ⟨c, 0, none⟩) hl).trans HC.out)
      have HLR := Lib.hid (Nat.lt_of_lt_of_le hl HB.out.size)
      have hkI : (k : Int) < (n : Int) := by omega
      have HP := Lib.hid hp
      clear hcs en hp
      by_cases he : s = code
      · have HE := Lib.hid he
        have d1 : decide (s = code) = true := by simpa using he
        clear he
        go_wp2_with (go_at_call 47; refine (hasCode_calls s code dl dh wl wh pil boi fa fn fc c _ HCR.out HLR.out).mono ?_; rintro e w' ⟨rfl, hb1⟩; rw [d1]; have HB1 := Lib.hid hb1; clear hb1)
        go_ret
        refine ⟨?_, HB.out.trans (HB1.out.mono HB.out.size)⟩
        have : ixOf rows code = some k := by
          unfold ixOf
          rw [List.findIdx?_eq_some_iff_getElem]
          obtain ⟨hk2, hp2⟩ := List.getElem?_eq_some_iff.1 HP.out
          refine ⟨hk2, by rw [hp2]; simpa using HE.out, fun j hj => ?_⟩
          have hjl : j < rows.length := by omega
          have := HJ.out j rows[j] hj (List.getElem?_eq_getElem hjl)
          simpa using this
        rw [this]
        rfl
      · have HE := Lib.hid he
        have d1 : decide (s = code) = false := by simpa using he
        clear he
        go_wp2_with (go_at_call 47; refine (hasCode_calls s code dl dh wl wh pil boi fa fn fc c _ HCR.out HLR.out).mono ?_; rintro e w' ⟨rfl, hb1⟩; rw [d1]; have HB1 := Lib.hid hb1; clear hb1)
        go_roundw
        case rel =>
          refine ⟨k + 1, by omega, Lib.hid (fun j q hj hq => ?_), by go_num, Lib.hid (HB.out.trans (HB1.out.mono HB.out.size))⟩
          rcases Nat.lt_or_ge j k with h1 | h1
          · exact HJ.out j q h1 hq
          · obtain rfl : j = k := by omega
            rw [HP.out] at hq
            cases hq
            exact HE.out
        case measure => simp [intOf]; omega
    · have hkn : k = n := by omega
      subst hkn
      have hnone : ixOf rows code = none := by
        unfold ixOf
        rw [List.findIdx?_eq_none_iff]
        intro p hp
        obtain ⟨j, hj, rfl⟩ := List.mem_iff_getElem.1 hp
        have := HJ.out j rows[j] (by rw [HN.out]; exact hj) (List.getElem?_eq_getElem hj)
        simpa using this
      go_wp2
      go_ret
      exact ⟨by rw [hnone]; rfl, HB.out⟩
end Go.Proofs.Ytbgojeppfhldjaa
namespace Go.Proofs.Ytbgojeppfhldjaa
open Go Go.RowKit Go.Shelf Yd

/-- The stacks behind the first deeds. -/
def StacksDone (w : World) (bef aft : Int) (ds : List (Deed Code)) (n : Nat) (e : Ending) (w' : World) : Prop :=
  ∃ (rows : List SRow) (tv : Value) (acc : Yd.Acc) (k : Nat), Yd.follow bef aft ds n = (stOf rows acc, k, 0) ∧ SmallSt k (stOf rows acc) ∧ k ≤ n ∧ e = .returned (.tuple #[tv, .int .i64 0]) ∧ Below w.heap.size w w' ∧ Stands w' rows tv

set_option maxRecDepth 100000 in
set_option maxHeartbeats 4000000 in
theorem stacksAfter_calls (bef aft : Int) (v : Value) (ds : List (Deed Code)) (k0 : Nat) (w : World) (h : Held w.heap.size w 8 deedCells v ds) (hok : errYard bef aft ds = 0) (hsz : ∀ d ∈ ds, d.stack.size ≤ maxLen ∧ d.other.size ≤ maxLen) (hn : k0 ≤ ds.length) (h12 : k0 ≤ 12) (hf : (Yd.follow bef aft ds k0).2.2 = 0) :
    Calls Try.prog 45 #[.agg #[.int .i64 bef, .int .i64 aft, v], .int .i64 k0] w (StacksDone w bef aft ds k0) := by
  obtain ⟨a, c, hv, _, _⟩ := h.slice
  have HH := Lib.hid h
  have HFO := Lib.hid (fun (W : World) (hW : Below w.heap.size w W) => follow_calls bef aft v ds k0 W ((h.below hW).mono hW.size) hok hsz hn h12)
  have HF := Lib.hid hf
  subst hv
  obtain ⟨n, hnn⟩ : ∃ n, n = ds.length := ⟨_, rfl⟩
  rw [← hnn] at HFO ⊢
  have HW0 := Lib.hid ((Below.refl w.heap.size w).alloc (Nat.le_refl _) (.cells #[.int .i64 bef, .int .i64 aft, .slice a n c] 43))
  clear h hok hsz hn h12 hf hnn HH
  go_enter Try.func45, Try.ntmps45
  go_wp2_with (first
    | (go_at_call 9; refine (HFO.out _ HW0.out).mono ?_; rintro e w2 ⟨rows, tv, acc, k, f, hfo, hsm, hkn, rfl, hb2, hst⟩; obtain ⟨⟨vapour0, vapour1⟩, ⟨broth0, broth1⟩, ⟨dust0, dust1⟩, ⟨soldDry0, soldDry1⟩, ⟨soldWater0, soldWater1⟩, ⟨soaked0, soaked1⟩⟩ := acc; obtain ⟨ta, tn, tc, rfl⟩ := row_slice hst.things; obtain rfl : f = 0 := (by have := HF.out; rw [hfo] at this; exact this); have HFOL := Lib.hid hfo; have HSM := Lib.hid hsm; have HKN := Lib.hid hkn; have HST := Lib.hid hst; have HW2 := Lib.hid (HW0.out.trans (hb2.mono HW0.out.size)); have HZ2 := Lib.hid (Blk.new w2 37 #[.slice none 0 0, .int .i64 0, .int .i64 0, .int .i64 0, .int .i64 0, .int .i64 0, .int .i64 0, .int .i64 0, .int .i64 0, .int .i64 0, .int .i64 0, .int .i64 0, .int .i64 0]); have HO := Lib.hid (show (#[.slice ta tn tc, .int .i64 vapour0, .int .i64 vapour1, .int .i64 broth0, .int .i64 broth1, .int .i64 dust0, .int .i64 dust1, .int .i64 soldDry0, .int .i64 soldDry1, .int .i64 soldWater0, .int .i64 soldWater1, .int .i64 soaked0, .int .i64 soaked1] : Array Value).all (·.oneCell') = true from by simp [Value.oneCell']); clear hfo hsm hkn hst hb2)
    | ((with_reducible refine at_store 37 (.tmp 6) (.tmp 14) ?_); go_must (refine wpList_store_mid rfl 37 (.tmp 6) (.tmp 14) rfl w2.heap.size 0 #[.slice ta tn tc, .int .i64 vapour0, .int .i64 vapour1, .int .i64 broth0, .int .i64 broth1, .int .i64 dust0, .int .i64 dust1, .int .i64 soldDry0, .int .i64 soldDry1, .int .i64 soldWater0, .int .i64 soldWater1, .int .i64 soaked0, .int .i64 soaked1] rfl rfl (HZ2.out.there (o := 0) (n := 13) (Nat.le_of_ble_eq_true rfl)) size_standing HO.out ?_); have HZ3 := Lib.hid (HZ2.out.stored (old := [.slice none 0 0, .int .i64 0, .int .i64 0, .int .i64 0, .int .i64 0, .int .i64 0, .int .i64 0, .int .i64 0, .int .i64 0, .int .i64 0, .int .i64 0, .int .i64 0, .int .i64 0]) [.slice ta tn tc, .int .i64 vapour0, .int .i64 vapour1, .int .i64 broth0, .int .i64 broth1, .int .i64 dust0, .int .i64 dust1, .int .i64 soldDry0, .int .i64 soldDry1, .int .i64 soldWater0, .int .i64 soldWater1, .int .i64 soaked0, .int .i64 soaked1] rfl); have z3 := HZ3.out.at 0 (.slice ta tn tc) rfl))
  go_ret2
  refine ⟨rows, .slice ta tn tc, _, k, HFOL.out, HSM.out, HKN.out, rfl, below_setCells (HW2.out.alloc HW2.out.size _) HW2.out.size _ 0, ?_⟩
  exact (HST.out.same (fun k hk => Below.heap_alloc _ _ k hk)).setCells HZ2.out (by decide) (by decide) 0 _

/-- The stack with a code behind the first deeds. -/
def StackDone (w : World) (bef aft : Int) (ds : List (Deed Code)) (n : Nat) (code : Code) (e : Ending) (w' : World) : Prop :=
  ∃ (s : St Code) (k : Nat) (x : Stk Code) (v : Value), Yd.follow bef aft ds n = (s, k, 0) ∧ SmallSt k s ∧ k ≤ n ∧ s.stacks[at_ s.stacks code]? = some x ∧ e = .returned (.tuple #[.agg (stkCells x v).toArray, .int .i64 0]) ∧ Below w.heap.size w w' ∧ w'.ownsRow 0 3 1 v x.src.length (intCells x.src)

set_option maxRecDepth 100000 in
set_option maxHeartbeats 4000000 in
theorem stackAfter_calls (bef aft : Int) (v : Value) (ds : List (Deed Code)) (k0 : Nat) (w : World) (h : Held w.heap.size w 8 deedCells v ds) (hok : errYard bef aft ds = 0) (hsz : ∀ d ∈ ds, d.stack.size ≤ maxLen ∧ d.other.size ≤ maxLen) (hn : k0 ≤ ds.length) (h12 : k0 ≤ 12) (hf : (Yd.follow bef aft ds k0).2.2 = 0) (code : Code) (hat : at_ (Yd.follow bef aft ds k0).1.stacks code < (Yd.follow bef aft ds k0).1.stacks.length) :
    Calls Try.prog 33 #[.agg #[.int .i64 bef, .int .i64 aft, v], .int .i64 k0, .string code] w (StackDone w bef aft ds k0 code) := by
  obtain ⟨a, c, hv, _, _⟩ := h.slice
  have HFO := Lib.hid (fun (W : World) (hW : Below w.heap.size w W) => stacksAfter_calls bef aft v ds k0 W ((h.below hW).mono hW.size) hok hsz hn h12 hf)
  have HAT := Lib.hid hat
  subst hv
  obtain ⟨n, hnn⟩ : ∃ n, n = ds.length := ⟨_, rfl⟩
  rw [← hnn] at HFO ⊢
  have HW0 := Lib.hid ((Below.refl w.heap.size w).alloc (Nat.le_refl _) (.cells #[.int .i64 bef, .int .i64 aft, .slice a n c] 43))
  have hz0 : (w.alloc (.cells #[.int .i64 bef, .int .i64 aft, .slice a n c] 43)).heap.size = w.heap.size + 1 := World.size_alloc _ _
  have HC1 := Lib.hid (Blk.new (w.alloc (.cells #[.int .i64 bef, .int .i64 aft, .slice a n c] 43)) 9 #[.string code])
  have HW1 := Lib.hid (HW0.out.alloc HW0.out.size (.cells #[.string code] 9))
  have HC2 := Lib.hid (HC1.out.alloc (.cells #[.string ⟨#[]⟩, .int .i64 0, .int .i64 0, .int .i64 0, .int .i64 0, .int .i64 0, .int .i64 0, .slice none 0 0] 48))
  have hz1 : ((w.alloc (.cells #[.int .i64 bef, .int .i64 aft, .slice a n c] 43)).alloc (.cells #[.string code] 9)).heap.size = w.heap.size + 2 := by rw [World.size_alloc, hz0]
  have HR2 := Lib.hid (Blk.new ((w.alloc (.cells #[.int .i64 bef, .int .i64 aft, .slice a n c] 43)).alloc (.cells #[.string code] 9)) 48 #[.string ⟨#[]⟩, .int .i64 0, .int .i64 0, .int .i64 0, .int .i64 0, .int .i64 0, .int .i64 0, .slice none 0 0])
  have HW2 := Lib.hid (HW1.out.alloc HW1.out.size (.cells #[.string ⟨#[]⟩, .int .i64 0, .int .i64 0, .int .i64 0, .int .i64 0, .int .i64 0, .int .i64 0, .slice none 0 0] 48))
  rw [hz1] at HR2
  rw [hz0] at HC2
  have hmf : ∀ (fn : Fn) (first cap : Array Value) (w : World), (Instr.makeFunc fn first cap).run Try.prog w = .ok (.func fn first cap) w := fun _ _ _ _ => rfl
  clear h hok hsz hn h12 hf hnn hat HC1 HW0 HW1 hz0 hz1
  go_enter Try.func33, Try.ntmps33
  go_upto_region 5 with (first
    | (go_at_call 45; refine (HFO.out _ HW2.out).mono ?_; rintro e w3 ⟨rows, tv, acc, k, hfo, hsm, hkn, rfl, hb3, hst⟩; have HFOL := Lib.hid hfo; have HSM := Lib.hid hsm; have HKN := Lib.hid hkn; have HST := Lib.hid hst; have HC3 := Lib.hid (HC2.out.below hb3); have HR3 := Lib.hid (HR2.out.below hb3); have HW3 := Lib.hid (HW2.out.trans (hb3.mono HW2.out.size)); clear hfo hsm hkn hst hb3)
    | (go_at_call 46; refine (index_calls HST.out code (w.heap.size + 1) (HC3.out.at 0 _ rfl) HC3.out.lt).mono ?_; rintro e w4 ⟨rfl, hb4⟩; have HST4 := Lib.hid (HST.out.below hb4); have HR4 := Lib.hid (HR3.out.below hb4); have HW4 := Lib.hid (HW3.out.trans (hb4.mono HW3.out.size)); clear hb4))
  obtain ⟨i, hi⟩ : ∃ i, ixOf rows code = some i := by
    cases hx : ixOf rows code with
    | some i => exact ⟨i, rfl⟩
    | none =>
      have := HAT.out
      rw [HFOL.out] at this
      exact absurd this (ix_none hx)
  obtain ⟨p, hp, hpc⟩ := ixOf_some hi
  obtain ⟨hat2, hil⟩ := ix_at hi
  obtain ⟨g, cap, rfl, hg, hcs⟩ := HST4.out.row hp
  have hfrom := HST4.out.froms p (List.mem_of_getElem? hp)
  obtain ⟨fa, fn, fc, hfv⟩ := row_slice hfrom
  have hxx := row_map hp
  obtain ⟨⟨s, ⟨dl, dh⟩, ⟨wl, wh⟩, pil, boi, src⟩, pv⟩ := p
  simp only at hfv hpc hfrom hxx
  subst hfv
  have hi8 : i < 8 := by have := HST4.out.few; simp at hil; omega
  rw [hi, show ixInt (some i) = (i : Int) from rfl]
  have c0 : w4.cell? ⟨g, i * 8, none⟩ = some (.string s) := hcs 0 (by omega)
  have c1 : w4.cell? ⟨g, i * 8 + 1, none⟩ = some (.int .i64 dl) := hcs 1 (by omega)
  have c2 : w4.cell? ⟨g, i * 8 + 2, none⟩ = some (.int .i64 dh) := hcs 2 (by omega)
  have c3 : w4.cell? ⟨g, i * 8 + 3, none⟩ = some (.int .i64 wl) := hcs 3 (by omega)
  have c4 : w4.cell? ⟨g, i * 8 + 4, none⟩ = some (.int .i64 wh) := hcs 4 (by omega)
  have c5 : w4.cell? ⟨g, i * 8 + 5, none⟩ = some (.int .i64 pil) := hcs 5 (by omega)
  have c6 : w4.cell? ⟨g, i * 8 + 6, none⟩ = some (.int .i64 boi) := hcs 6 (by omega)
  have c7 : w4.cell? ⟨g, i * 8 + 7, none⟩ = some (.slice fa fn fc) := hcs 7 (by omega)
  have hil2 : i < rows.length := by simpa using hil
  obtain ⟨m, hm⟩ : ∃ m, m = rows.length := ⟨_, rfl⟩
  rw [← hm] at hil2 ⊢
  have hiI : (i : Int) < (m : Int) := by omega
  have hm8 : m ≤ 8 := by rw [hm]; exact HST4.out.few
  have HO := Lib.hid (show (#[.string s, .int .i64 dl, .int .i64 dh, .int .i64 wl, .int .i64 wh, .int .i64 pil, .int .i64 boi, .slice fa fn fc] : Array Value).all (·.oneCell') = true from by simp [Value.oneCell'])
  have HFR := Lib.hid hfrom
  have HX := Lib.hid (show (stOf rows acc).stacks[at_ (stOf rows acc).stacks code]? = some ⟨s, ⟨dl, dh⟩, ⟨wl, wh⟩, pil, boi, src⟩ from by unfold stOf; simp only; rw [hat2]; exact hxx)
  clear hcs hp hpc hi hat2 hil hxx hfrom hm
  obtain ⟨g2, hg2⟩ : ∃ g, g = w.heap.size + 2 := ⟨_, rfl⟩
  rw [← hg2] at HR4 ⊢
  have HG2 := Lib.hid hg2
  clear hg2
  go_wp2_with ((with_reducible refine at_store 48 (.tmp 6) (.tmp 30) ?_); go_must (refine wpList_store_mid rfl 48 (.tmp 6) (.tmp 30) rfl g2 0 #[.string s, .int .i64 dl, .int .i64 dh, .int .i64 wl, .int .i64 wh, .int .i64 pil, .int .i64 boi, .slice fa fn fc] rfl rfl (HR4.out.there (o := 0) (n := 8) (Nat.le_of_ble_eq_true rfl)) size_stack HO.out ?_); have HR5 := Lib.hid (HR4.out.stored (old := [.string ⟨#[]⟩, .int .i64 0, .int .i64 0, .int .i64 0, .int .i64 0, .int .i64 0, .int .i64 0, .slice none 0 0]) [.string s, .int .i64 dl, .int .i64 dh, .int .i64 wl, .int .i64 wh, .int .i64 pil, .int .i64 boi, .slice fa fn fc] rfl))
  have r0 := HR5.out.at 0 (.string s) rfl
  have r1 := HR5.out.at 1 (.int .i64 dl) rfl
  have r2 := HR5.out.at 2 (.int .i64 dh) rfl
  have r3 := HR5.out.at 3 (.int .i64 wl) rfl
  have r4 := HR5.out.at 4 (.int .i64 wh) rfl
  have r5 := HR5.out.at 5 (.int .i64 pil) rfl
  have r6 := HR5.out.at 6 (.int .i64 boi) rfl
  have r7 := HR5.out.at 7 (.slice fa fn fc) rfl
  refine bodyPost_ret (v := .tuple #[.agg #[.string s, .int .i64 dl, .int .i64 dh, .int .i64 wl, .int .i64 wh, .int .i64 pil, .int .i64 boi, .slice fa fn fc], .int .i64 0]) (by simp [results, Try.results33, go_sem, r0, r1, r2, r3, r4, r5, r6, r7]) rfl ?_
  refine ⟨_, k, _, .slice fa fn fc, HFOL.out, HSM.out, HKN.out, HX.out, rfl, below_setCells HW4.out (by have := HG2.out; omega) _ 0, ?_⟩
  exact row_same HFR.out (fun k hk => heap_setCells w4 g2 (fun e => HR4.out.notRow HFR.out (by decide) (by rw [hk, e])) _ _)

set_option maxRecDepth 100000 in
set_option maxHeartbeats 4000000 in
theorem moist_calls (bef aft : Int) (v : Value) (ds : List (Deed Code)) (k0 : Nat) (w : World) (h : Held w.heap.size w 8 deedCells v ds) (hok : errYard bef aft ds = 0) (hsz : ∀ d ∈ ds, d.stack.size ≤ maxLen ∧ d.other.size ≤ maxLen) (hn : k0 ≤ ds.length) (h12 : k0 ≤ 12) (hf : (Yd.follow bef aft ds k0).2.2 = 0) (code : Code) (y : Stk Code) (hat : (Yd.follow bef aft ds k0).1.stacks[at_ (Yd.follow bef aft ds k0).1.stacks code]? = some y) (hy : 0 < y.dry.lo) :
    Calls Try.prog 20 #[.agg #[.int .i64 bef, .int .i64 aft, v], .int .i64 k0, .string code] w fun e w' => e = .returned (.tuple #[.agg #[.int .i64 (moistLo y), .int .i64 (moistHi y)], .int .i64 0]) ∧ Below w.heap.size w w' := by
  obtain ⟨a, c, hv, _, _⟩ := h.slice
  have HFO := Lib.hid (fun (W : World) (hW : Below w.heap.size w W) => stackAfter_calls bef aft v ds k0 W ((h.below hW).mono hW.size) hok hsz hn h12 hf code (List.getElem?_eq_some_iff.1 hat).1)
  have HAT := Lib.hid hat
  subst hv
  obtain ⟨n, hnn⟩ : ∃ n, n = ds.length := ⟨_, rfl⟩
  rw [← hnn] at HFO ⊢
  have HW0 := Lib.hid ((Below.refl w.heap.size w).alloc (Nat.le_refl _) (.cells #[.int .i64 bef, .int .i64 aft, .slice a n c] 43))
  have hz0 : (w.alloc (.cells #[.int .i64 bef, .int .i64 aft, .slice a n c] 43)).heap.size = w.heap.size + 1 := World.size_alloc _ _
  have HR1 := Lib.hid (Blk.new (w.alloc (.cells #[.int .i64 bef, .int .i64 aft, .slice a n c] 43)) 23 #[.int .i64 0, .int .i64 0])
  have HW1 := Lib.hid (HW0.out.alloc HW0.out.size (.cells #[.int .i64 0, .int .i64 0] 23))
  rw [hz0] at HR1
  clear h hok hsz hn hf hnn hat HW0 hz0
  go_enter Try.func20, Try.ntmps20
  go_upto_region 2 with (first
    | (go_at_call 33; refine (HFO.out _ HW1.out).mono ?_; rintro e w3 ⟨s0, k, x, pv, hfo, hsm, hkn, hx, rfl, hb3, hrow⟩; obtain rfl : x = y := (by have := HAT.out; rw [hfo] at this; simp only at this; rw [hx] at this; exact Option.some.inj this); obtain ⟨fa, fn, fc, rfl⟩ := row_slice hrow; have HU := Lib.hid (And.intro (hsm.stacks _ (List.mem_of_getElem? hx)) hkn); obtain ⟨s, ⟨dl, dh⟩, ⟨wl, wh⟩, pil, boi, src⟩ := x; have HR3 := Lib.hid (HR1.out.below hb3); have HW3 := Lib.hid (HW1.out.trans (hb3.mono HW1.out.size)); have HZ3 := Lib.hid (Blk.new w3 48 #[.string ⟨#[]⟩, .int .i64 0, .int .i64 0, .int .i64 0, .int .i64 0, .int .i64 0, .int .i64 0, .slice none 0 0]); have HR3a := Lib.hid (HR3.out.alloc (.cells #[.string ⟨#[]⟩, .int .i64 0, .int .i64 0, .int .i64 0, .int .i64 0, .int .i64 0, .int .i64 0, .slice none 0 0] 48)); have HW3a := Lib.hid (HW3.out.alloc HW3.out.size (.cells #[.string ⟨#[]⟩, .int .i64 0, .int .i64 0, .int .i64 0, .int .i64 0, .int .i64 0, .int .i64 0, .slice none 0 0] 48)); have HG3 := Lib.hid HR3.out.lt; have HG4 := Lib.hid HW3.out.size; have HO := Lib.hid (show (#[.string s, .int .i64 dl, .int .i64 dh, .int .i64 wl, .int .i64 wh, .int .i64 pil, .int .i64 boi, .slice fa fn fc] : Array Value).all (·.oneCell') = true from by simp [Value.oneCell']); clear hfo hsm hkn hx hb3 hrow)
    | ((with_reducible refine at_store 48 (.tmp 8) (.tmp 15) ?_); go_must (refine wpList_store_mid rfl 48 (.tmp 8) (.tmp 15) rfl w3.heap.size 0 #[.string s, .int .i64 dl, .int .i64 dh, .int .i64 wl, .int .i64 wh, .int .i64 pil, .int .i64 boi, .slice fa fn fc] rfl rfl (HZ3.out.there (o := 0) (n := 8) (Nat.le_of_ble_eq_true rfl)) size_stack HO.out ?_)))
  have HZ4 := Lib.hid (HZ3.out.stored (old := [.string ⟨#[]⟩, .int .i64 0, .int .i64 0, .int .i64 0, .int .i64 0, .int .i64 0, .int .i64 0, .slice none 0 0]) [.string s, .int .i64 dl, .int .i64 dh, .int .i64 wl, .int .i64 wh, .int .i64 pil, .int .i64 boi, .slice fa fn fc] rfl)
  have HR4 := Lib.hid (HR3a.out.apart (Nat.ne_of_lt HG3.out) 0 [.string s, .int .i64 dl, .int .i64 dh, .int .i64 wl, .int .i64 wh, .int .i64 pil, .int .i64 boi, .slice fa fn fc])
  have HW4 := Lib.hid (below_setCells HW3a.out HG4.out [.string s, .int .i64 dl, .int .i64 dh, .int .i64 wl, .int .i64 wh, .int .i64 pil, .int .i64 boi, .slice fa fn fc] 0)
  generalize (w3.alloc (.cells #[.string ⟨#[]⟩, .int .i64 0, .int .i64 0, .int .i64 0, .int .i64 0, .int .i64 0, .int .i64 0, .slice none 0 0] 48)).setCells w3.heap.size 0 [.string s, .int .i64 dl, .int .i64 dh, .int .i64 wl, .int .i64 wh, .int .i64 pil, .int .i64 boi, .slice fa fn fc] = w4 at HZ4 HR4 HW4 ⊢
  obtain ⟨g8, hg8⟩ : ∃ g, g = w3.heap.size := ⟨_, rfl⟩
  obtain ⟨g6, hg6⟩ : ∃ g, g = w.heap.size + 1 := ⟨_, rfl⟩
  rw [← hg8] at HZ4 ⊢
  rw [← hg6] at HR4 ⊢
  have HG6 := Lib.hid hg6
  clear hg8 hg6 HR3 HR3a HZ3 HW3 HW3a HG3 HG4
  have z1 := HZ4.out.at 1 (.int .i64 dl) rfl
  obtain ⟨⟨⟨u1, u2, u3⟩, ⟨u4, u5, u6⟩, _, _, _, _, _⟩, hkn⟩ := HU.out
  have hcap := cap_le (i := k) (by omega)
  simp only at u1 u2 u3 u4 u5 u6 hy
  have hne : (dl == 0) = false := by simp; omega
  have u7 : dl ≤ 2000000000000000 ∧ dh ≤ 2000000000000000 ∧ wl ≤ 2000000000000000 ∧ wh ≤ 2000000000000000 := by omega
  obtain ⟨v1, v2, v3, v4⟩ := u7
  clear u3 u6 hcap
  go_upto_region 6 with (fail)
  have q1 := cell_regrown z1
  have q2 := cell_regrown (HZ4.out.at 2 (.int .i64 dh) rfl)
  have q3 := cell_regrown (HZ4.out.at 3 (.int .i64 wl) rfl)
  have q4 := cell_regrown (HZ4.out.at 4 (.int .i64 wh) rfl)
  have hne2 : (dh == 0) = false := by simp; omega
  refine region_split_below 22 (by kernel_rfl) (by kernel_rfl) (by kernel_rfl) ?_
  simp only [List.take_succ_cons, List.take_zero, List.drop_succ_cons, List.drop_zero]
  repeat (go_big_quiet_step (fail))
  refine wpQuiet_nil ?_
  intro v0 hw'
  have hb8 : Below w4.heap.size w4 v0 := by obtain ⟨⟨dq, osq⟩, hw''⟩ := hw'; rw [hw'']; exact below_regrown w4 dq osq
  clear hw' q1 q2 q3 q4
  have HR8 := Lib.hid (HR4.out.below hb8)
  have HW8 := Lib.hid (HW4.out.trans (hb8.mono HW4.out.size))
  clear hb8
  have HO2 := Lib.hid (show (#[.int .i64 (wl * 1000 / dh), .int .i64 ((wh * 1000 + dl - 1) / dl)] : Array Value).all (·.oneCell') = true from by simp [Value.oneCell'])
  go_wp2_with ((with_reducible refine at_store 23 (.tmp 6) (.tmp 47) ?_); go_must (refine wpList_store_mid rfl 23 (.tmp 6) (.tmp 47) rfl g6 0 #[.int .i64 (wl * 1000 / dh), .int .i64 ((wh * 1000 + dl - 1) / dl)] rfl rfl (HR8.out.there (o := 0) (n := 2) (Nat.le_of_ble_eq_true rfl)) size_bounds HO2.out ?_); have HR9 := Lib.hid (HR8.out.stored (old := [.int .i64 0, .int .i64 0]) [.int .i64 (wl * 1000 / dh), .int .i64 ((wh * 1000 + dl - 1) / dl)] rfl))
  have r0 := HR9.out.at 0 (.int .i64 (wl * 1000 / dh)) rfl
  have r1 := HR9.out.at 1 (.int .i64 ((wh * 1000 + dl - 1) / dl)) rfl
  refine bodyPost_ret (v := .tuple #[.agg #[.int .i64 (wl * 1000 / dh), .int .i64 ((wh * 1000 + dl - 1) / dl)], .int .i64 0]) (by simp [results, Try.results20, go_sem, r0, r1]) rfl ?_
  exact ⟨rfl, below_setCells HW8.out (by have := HG6.out; omega) _ 0⟩
end Go.Proofs.Ytbgojeppfhldjaa
