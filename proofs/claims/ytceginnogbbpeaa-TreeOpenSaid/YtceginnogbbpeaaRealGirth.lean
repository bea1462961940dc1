/- The real girth of a tree in a year lies in the bounds of that year. -/
import Derived.Test.YtceginnogbbpeaaInner
namespace Go.Proofs.Ytceginnogbbpeaa
open Go.RowKit Go.Shelf

/-- The cells of what a tree really is: numbers of 16 bits. -/
def RealFine (rc : Array Value) : Prop := ∀ i, i < 66 → ∃ z : Int, rc[i]? = some (.int .u16 z) ∧ 0 ≤ z ∧ z ≤ 65535

/-- Some number between two. -/
def SomeBetween (lo hi : Int) (w : World) (e : Ending) (w' : World) : Prop := ∃ n : Int, e = .returned (.int .i64 n) ∧ lo ≤ n ∧ n ≤ hi ∧ Below w.heap.size w w'

set_option maxRecDepth 100000 in
set_option maxHeartbeats 2000000 in
theorem realGirth_walk (rc : Array Value) (code : ByteArray) (bmin bmax taped gmin gmax wmin wmax : Int) (sa : Option Addr) (sn sc : Nat) (wa : Option Addr) (wn wc : Nat) (dead year : Int) (w : World) (hr : RealFine rc)
    (ht0 : 0 ≤ taped) (ht1 : taped ≤ 300) (hg0 : 0 ≤ gmin) (hg1 : gmin ≤ gmax) (hg2 : gmax ≤ 6000) (hu0 : 0 ≤ wmin) (hu1 : wmin ≤ wmax) (hu2 : wmax ≤ 50) (hy0 : 0 ≤ year) (hy1 : year ≤ 300) (lo hi : Int)
    (hup : taped ≤ year → lo = gmin + (year - taped) * wmin ∧ hi = gmax + (year - taped) * wmax) (hdn : year < taped → lo = max 0 (gmin - (taped - year) * wmax) ∧ hi = max 0 (gmax - (taped - year) * wmin)) :
    Calls Try.prog 15 #[.agg rc, .agg #[.string code, .int .i64 bmin, .int .i64 bmax, .int .i64 taped, .int .i64 gmin, .int .i64 gmax, .int .i64 wmin, .int .i64 wmax, .slice sa sn sc, .slice wa wn wc, .int .i64 dead], .int .i64 year] w (SomeBetween lo hi w) := by
  obtain ⟨z1, hz1, hz10, hz11⟩ := hr 1 (by omega)
  obtain ⟨p0, hp0⟩ : ∃ p0, gmin + z1 % (gmax - gmin + 1) = p0 := ⟨_, rfl⟩
  have hq0 : 0 ≤ z1 % (gmax - gmin + 1) := Int.emod_nonneg _ (by omega)
  have hq1 : z1 % (gmax - gmin + 1) < gmax - gmin + 1 := Int.emod_lt_of_pos _ (by omega)
  have hpl : gmin ≤ p0 ∧ p0 ≤ gmax := by omega
  have HP0 := Lib.hid (fun W => pick_calls gmin gmax z1 p0 W hg0 hg1 hg2 hz10 hz11 hp0)
  clear hp0 hq0 hq1
  have k1 : ((w.alloc (.cells rc 31)).alloc (.cells #[.string code, .int .i64 bmin, .int .i64 bmax, .int .i64 taped, .int .i64 gmin, .int .i64 gmax, .int .i64 wmin, .int .i64 wmax, .slice sa sn sc, .slice wa wn wc, .int .i64 dead] 48)).cell? ⟨w.heap.size, 1, none⟩ = some (.int .u16 z1) := (((Blk.new w 31 rc).alloc _).cell 1).trans hz1
  have hB0 := Lib.hid (show Below w.heap.size w ((w.alloc (.cells rc 31)).alloc (.cells #[.string code, .int .i64 bmin, .int .i64 bmax, .int .i64 taped, .int .i64 gmin, .int .i64 gmax, .int .i64 wmin, .int .i64 wmax, .slice sa sn sc, .slice wa wn wc, .int .i64 dead] 48)) from ((Below.refl _ _).alloc (Nat.le_refl _) _).alloc (by rw [World.size_alloc]; omega) _)
  have R0 := Lib.hid ((Blk.new w 31 rc).alloc (.cells #[.string code, .int .i64 bmin, .int .i64 bmax, .int .i64 taped, .int .i64 gmin, .int .i64 gmax, .int .i64 wmin, .int .i64 wmax, .slice sa sn sc, .slice wa wn wc, .int .i64 dead] 48))
  have T0 := Lib.hid (show Blk ((w.alloc (.cells rc 31)).alloc (.cells #[.string code, .int .i64 bmin, .int .i64 bmax, .int .i64 taped, .int .i64 gmin, .int .i64 gmax, .int .i64 wmin, .int .i64 wmax, .slice sa sn sc, .slice wa wn wc, .int .i64 dead] 48)) (w.heap.size + 1) 48 #[.string code, .int .i64 bmin, .int .i64 bmax, .int .i64 taped, .int .i64 gmin, .int .i64 gmax, .int .i64 wmin, .int .i64 wmax, .slice sa sn sc, .slice wa wn wc, .int .i64 dead] from by have := Blk.new (w.alloc (.cells rc 31)) 48 #[.string code, .int .i64 bmin, .int .i64 bmax, .int .i64 taped, .int .i64 gmin, .int .i64 gmax, .int .i64 wmin, .int .i64 wmax, .slice sa sn sc, .slice wa wn wc, .int .i64 dead]; rwa [World.size_alloc] at this)
  have HR := Lib.hid hr; clear hr hz1
  have HUP := Lib.hid hup; clear hup
  have HDN := Lib.hid hdn; clear hdn
  go_enter Try.func15, Try.ntmps15
  go_wp2_with fail
  refine (HP0.out _).mono ?_
  rintro e w1 ⟨rfl, hw1⟩
  have hB1 := hB0.out.trans (hw1.mono hB0.out.size)
  have R1 := Lib.hid (R0.out.below hw1 R0.out.lt)
  have T1 := Lib.hid (T0.out.below hw1 T0.out.lt)
  clear hw1 R0 T0 hB0 k1
  have t3 : w1.cell? ⟨w.heap.size + 1, 3, none⟩ = some (.int .i64 taped) := T1.out.cell 3
  go_wp2_with fail
  go_loopw [7, 8] (fun i j wr => ∃ g y : Int, i = .int .i64 g ∧ j = .int .i64 y ∧ taped ≤ y ∧ (y ≤ year ∨ y = taped) ∧ Hid (gmin + (y - taped) * wmin ≤ g ∧ g ≤ gmax + (y - taped) * wmax) ∧ Below w.heap.size w wr ∧ Hid (Blk wr w.heap.size 31 rc) ∧ Hid (Blk wr (w.heap.size + 1) 48 #[.string code, .int .i64 bmin, .int .i64 bmax, .int .i64 taped, .int .i64 gmin, .int .i64 gmax, .int .i64 wmin, .int .i64 wmax, .slice sa sn sc, .slice wa wn wc, .int .i64 dead])) (fun _ j _ => (year - intOf j).toNat)
  case atStart => exact ⟨p0, taped, rfl, rfl, by omega, .inr rfl, Lib.hid (by rw [Int.sub_self, Int.zero_mul, Int.zero_mul]; omega), hB1, R1, T1⟩
  case round =>
    clear t3 hB1 R1 T1
    obtain ⟨g, y, rfl, rfl, hy2, hy3, HG, hB, RB, TB⟩ := hrel
    have t3 : wr.cell? ⟨w.heap.size + 1, 3, none⟩ = some (.int .i64 taped) := TB.out.cell 3
    have t6 : wr.cell? ⟨w.heap.size + 1, 6, none⟩ = some (.int .i64 wmin) := TB.out.cell 6
    have t7 : wr.cell? ⟨w.heap.size + 1, 7, none⟩ = some (.int .i64 wmax) := TB.out.cell 7
    by_cases hlt : y < year
    · have hm0 : 0 ≤ y % 64 := by omega
      have hm1 : y % 64 < 64 := by omega
      have htm : y.tmod 64 = y % 64 := Int.tmod_eq_emod_of_nonneg (by omega)
      obtain ⟨z, hz, hz0, hz1⟩ := HR.out (2 + (y % 64).toNat) (by omega)
      have kz : wr.cell? ⟨w.heap.size, 2 + (y % 64).toNat, none⟩ = some (.int .u16 z) := (RB.out.cell _).trans hz
      clear hz
      obtain ⟨p, hp⟩ : ∃ p, wmin + z % (wmax - wmin + 1) = p := ⟨_, rfl⟩
      have hq0 : 0 ≤ z % (wmax - wmin + 1) := Int.emod_nonneg _ (by omega)
      have hq1 : z % (wmax - wmin + 1) < wmax - wmin + 1 := Int.emod_lt_of_pos _ (by omega)
      have hpb : wmin ≤ p ∧ p ≤ wmax := by omega
      have HP := Lib.hid (fun W => pick_calls wmin wmax z p W hu0 hu1 (by omega) hz0 hz1 hp)
      clear hp hq0 hq1
      have a1 := mul_bounds (a := y - taped) (b := wmin) (A := 300) (B := 50) (by omega) (by omega) (by omega) (by omega)
      have a2 := mul_bounds (a := y - taped) (b := wmax) (A := 300) (B := 50) (by omega) (by omega) (by omega) (by omega)
      have hgb : 0 ≤ g ∧ g ≤ 21000 := by have := HG.out; omega
      have HN := Lib.hid (show gmin + (y + 1 - taped) * wmin ≤ g + p ∧ g + p ≤ gmax + (y + 1 - taped) * wmax from by
        have e1 : (y + 1 - taped) * wmin = (y - taped) * wmin + wmin := by rw [show y + 1 - taped = y - taped + 1 by omega, Int.add_mul, Int.one_mul]
        have e2 : (y + 1 - taped) * wmax = (y - taped) * wmax + wmax := by rw [show y + 1 - taped = y - taped + 1 by omega, Int.add_mul, Int.one_mul]
        rw [e1, e2]; have := HG.out; omega)
      clear a1 a2 HG
      go_wp2_with fail
      go_region_with (go_at_call 30; (with_reducible refine (HP.out _).mono ?_); go_must (rintro e w5 ⟨rfl, hw5⟩; have hb5 : Below wr.heap.size wr w5 := Below.trans (by repeat (first | exact Below.refl _ _ | refine Below.drew ?_)) hw5; clear hw5))
      all_goals
        have hB6 : Below w.heap.size w w5 := hB.trans (hb5.mono hB.size)
        have RB6 := Lib.hid (RB.out.below hb5 RB.out.lt)
        have TB6 := Lib.hid (TB.out.below hb5 TB.out.lt)
        clear hb5 hB RB TB kz htm t3 t6 t7
        go_wp2
        exact ⟨⟨g + p, y + 1, by go_num, by go_num, by omega, .inl (by omega), HN, hB6, RB6, TB6⟩, by simp [intOf]; omega⟩
    · have hy4 : (taped ≤ year ∧ y = year) ∨ (year < taped ∧ y = taped) := by omega
      have HG2 : Hid ((taped ≤ year ∧ lo ≤ g ∧ g ≤ hi) ∨ (year < taped ∧ gmin ≤ g ∧ g ≤ gmax)) := Lib.hid (by
        rcases hy4 with ⟨h1, h2⟩ | ⟨h1, h2⟩
        · obtain ⟨e1, e2⟩ := HUP.out h1
          refine .inl ⟨h1, ?_⟩
          rw [e1, e2, ← h2]; exact HG.out
        · refine .inr ⟨h1, ?_⟩
          have := HG.out
          rw [h2, Int.sub_self, Int.zero_mul, Int.zero_mul] at this
          omega)
      have hgb : 0 ≤ g ∧ g ≤ 21000 := by
        have a1 := mul_bounds (a := y - taped) (b := wmin) (A := 300) (B := 50) (by omega) (by omega) (by omega) (by omega)
        have a2 := mul_bounds (a := y - taped) (b := wmax) (A := 300) (B := 50) (by omega) (by omega) (by omega) (by omega)
        have := HG.out
        omega
      have hst : ¬ y < year := hlt
      have dst : decide (y < year) = false := decide_eq_false hlt
      clear hlt HG hy2 hy3 hy4 t6 t7
      go_wp2_with fail
      clear dst hst t3
      go_loopw [7, 9] (fun i j wr => ∃ g x : Int, i = .int .i64 g ∧ j = .int .i64 x ∧ x ≤ taped - 1 ∧ (0 ≤ g ∧ g ≤ 21000) ∧ Hid ((taped ≤ year ∧ lo ≤ g ∧ g ≤ hi) ∨ (year < taped ∧ year - 1 ≤ x ∧ max 0 (gmin - (taped - 1 - x) * wmax) ≤ g ∧ g ≤ max 0 (gmax - (taped - 1 - x) * wmin))) ∧ Below w.heap.size w wr ∧ Hid (Blk wr w.heap.size 31 rc) ∧ Hid (Blk wr (w.heap.size + 1) 48 #[.string code, .int .i64 bmin, .int .i64 bmax, .int .i64 taped, .int .i64 gmin, .int .i64 gmax, .int .i64 wmin, .int .i64 wmax, .slice sa sn sc, .slice wa wn wc, .int .i64 dead])) (fun _ j _ => (intOf j + 1 - year).toNat)
      case atStart => exact ⟨g, taped - 1, rfl, rfl, by omega, hgb, Lib.hid (HG2.out.imp id fun ⟨h1, h2, h3⟩ => ⟨h1, by omega, by rw [show taped - 1 - (taped - 1) = 0 by omega, Int.zero_mul]; omega, by rw [show taped - 1 - (taped - 1) = 0 by omega, Int.zero_mul]; omega⟩), hB, RB, TB⟩
      case round =>
        clear HG2 hgb hB RB TB
        obtain ⟨g, x, rfl, rfl, hx1, hgb, HG, hB, RB, TB⟩ := hrel
        have t6 : wr.cell? ⟨w.heap.size + 1, 6, none⟩ = some (.int .i64 wmin) := TB.out.cell 6
        have t7 : wr.cell? ⟨w.heap.size + 1, 7, none⟩ = some (.int .i64 wmax) := TB.out.cell 7
        by_cases hge : year ≤ x
        · have hyt : year < taped := by omega
          have hm0 : 0 ≤ x % 64 := by omega
          have hm1 : x % 64 < 64 := by omega
          have htm : x.tmod 64 = x % 64 := Int.tmod_eq_emod_of_nonneg (by omega)
          obtain ⟨z, hz, hz0, hz1⟩ := HR.out (2 + (x % 64).toNat) (by omega)
          have kz : wr.cell? ⟨w.heap.size, 2 + (x % 64).toNat, none⟩ = some (.int .u16 z) := (RB.out.cell _).trans hz
          clear hz
          obtain ⟨p, hp⟩ : ∃ p, wmin + z % (wmax - wmin + 1) = p := ⟨_, rfl⟩
          have hq0 : 0 ≤ z % (wmax - wmin + 1) := Int.emod_nonneg _ (by omega)
          have hq1 : z % (wmax - wmin + 1) < wmax - wmin + 1 := Int.emod_lt_of_pos _ (by omega)
          have hpb : wmin ≤ p ∧ p ≤ wmax := by omega
          have HP := Lib.hid (fun W => pick_calls wmin wmax z p W hu0 hu1 (by omega) hz0 hz1 hp)
          clear hp hq0 hq1
          obtain ⟨g', hg'⟩ : ∃ g', max 0 (g - p) = g' := ⟨_, rfl⟩
          have hgb' : 0 ≤ g' ∧ g' ≤ 21000 := by omega
          have HN := Lib.hid (show (taped ≤ year ∧ lo ≤ g' ∧ g' ≤ hi) ∨ (year < taped ∧ year - 1 ≤ x - 1 ∧ max 0 (gmin - (taped - 1 - (x - 1)) * wmax) ≤ g' ∧ g' ≤ max 0 (gmax - (taped - 1 - (x - 1)) * wmin)) from by
            rcases HG.out with ⟨h1, _⟩ | ⟨h1, h2, h3, h4⟩
            · omega
            · have e1 : (taped - 1 - (x - 1)) * wmin = (taped - 1 - x) * wmin + wmin := by rw [show taped - 1 - (x - 1) = taped - 1 - x + 1 by omega, Int.add_mul, Int.one_mul]
              have e2 : (taped - 1 - (x - 1)) * wmax = (taped - 1 - x) * wmax + wmax := by rw [show taped - 1 - (x - 1) = taped - 1 - x + 1 by omega, Int.add_mul, Int.one_mul]
              rw [e1, e2]
              exact .inr ⟨h1, by omega, by omega, by omega⟩)
          clear HG
          go_wp2_with fail
          go_region_with (go_at_call 30; (with_reducible refine (HP.out _).mono ?_); go_must (rintro e w5 ⟨rfl, hw5⟩; have hb5 : Below wr.heap.size wr w5 := Below.trans (by repeat (first | exact Below.refl _ _ | refine Below.drew ?_)) hw5; clear hw5))
          all_goals
            have hB6 : Below w.heap.size w w5 := hB.trans (hb5.mono hB.size)
            have RB6 := Lib.hid (RB.out.below hb5 RB.out.lt)
            have TB6 := Lib.hid (TB.out.below hb5 TB.out.lt)
            clear hb5 hB RB TB kz htm t6 t7
            go_wp2
            exact ⟨⟨g', x - 1, by first | rfl | (rw [← hg']; go_num) | go_num, by go_num, by omega, hgb', HN, hB6, RB6, TB6⟩, by simp [intOf]; omega⟩
        · have HE := Lib.hid (show lo ≤ g ∧ g ≤ hi from by
            rcases HG.out with ⟨_, h2⟩ | ⟨h1, h2, h3, h4⟩
            · exact h2
            · obtain ⟨e1, e2⟩ := HDN.out h1
              obtain rfl : x = year - 1 := by omega
              rw [show taped - 1 - (year - 1) = taped - year by omega] at h3 h4
              rw [e1, e2]
              exact ⟨h3, h4⟩)
          go_wp2
          go_ret
          exact ⟨g, rfl, HE.out.1, HE.out.2, hB⟩
end Go.Proofs.Ytceginnogbbpeaa
