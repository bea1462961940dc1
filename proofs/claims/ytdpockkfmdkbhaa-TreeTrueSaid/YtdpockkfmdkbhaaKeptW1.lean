/- May a real tree really be stripped: way 1 of the walk. -/
import Derived.Test.YtdpockkfmdkbhaaKeptFacts
import Derived.IntWalk
import Derived.Lib.QuietBelow
namespace Go.Proofs.Ytdpockkfmdkbhaa
open Go.RowKit Go.Shelf

set_option maxRecDepth 100000 in
set_option maxHeartbeats 4000000 in
theorem kept_w1 (rc : Array Value) (age rest girth f0 f1 f2 heal : Int) (code : ByteArray) (bmin bmax taped gmin gmax wmin wmax : Int) (sa : Option Addr) (sc : Nat) (wa : Option Addr) (wc : Nat) (dead year height : Int) (strips : List (Int × Int)) (wounds : List Int) (w : World) (hsz : rc.size = 66)
    (hS : Held w.heap.size w 2 stripCells (.slice sa strips.length sc) strips) (hW : Held w.heap.size w 1 intCells (.slice wa wounds.length wc) wounds) (hsl : (strips.length : Int) ≤ 10) (hwl : (wounds.length : Int) ≤ 10)
    (hsx : ∀ s ∈ strips, 0 ≤ s.1 ∧ s.1 ≤ 300) (hwx : ∀ x ∈ wounds, 0 ≤ x ∧ x ≤ 300) (hy0 : 0 ≤ year) (hy1 : year ≤ 300) (_ : 1 ≤ rest) (_ : rest ≤ 30) (lo hi : Int) (hlo : 0 ≤ lo) (hhi : hi ≤ 21000)
    (hG : ∀ W, Calls Try.prog 15 #[.agg rc, .agg #[.string code, .int .i64 bmin, .int .i64 bmax, .int .i64 taped, .int .i64 gmin, .int .i64 gmax, .int .i64 wmin, .int .i64 wmax, .slice sa strips.length sc, .slice wa wounds.length wc, .int .i64 dead], .int .i64 year] W (SomeBetween lo hi W))
    (z0 p0 : Int) (hz0' : rc[0]? = some (.int .u16 z0)) (hP : ∀ W, Calls Try.prog 30 #[.agg #[.int .i64 bmin, .int .i64 bmax], .int .u16 z0] W fun e w' => e = .returned (.int .i64 p0) ∧ Below W.heap.size W w') (hp0 : 0 ≤ p0) (hp1 : p0 ≤ 300) (hlf : LawFine ⟨age, rest, girth, f0, f1, f2, heal⟩) (_ : 1 ≤ height) (_ : height ≤ 15000)
    (d0 d1 ok0 : Bool) (hok : (d0 || d1) = ok0) (hd0 : decide (dead < 0) = d0) (hd1 : decide (year < dead) = d1) (hfin : ((ok0 && strips.all (farB year rest)) && wounds.all (healedB year heal)) = true) (ha : ¬ age ≤ year - p0) :
    Calls Try.prog 16 #[.agg rc, .agg #[.int .i64 age, .int .i64 rest, .int .i64 girth, .int .i64 f0, .int .i64 f1, .int .i64 f2, .int .i64 heal], .agg #[.string code, .int .i64 bmin, .int .i64 bmax, .int .i64 taped, .int .i64 gmin, .int .i64 gmax, .int .i64 wmin, .int .i64 wmax, .slice sa strips.length sc, .slice wa wounds.length wc, .int .i64 dead], .int .i64 year, .int .i64 height] w (SomeKept (fun g => ((ok0 && strips.all (farB year rest)) && wounds.all (healedB year heal)) && decide (age ≤ year - p0) && (decide (0 < countBefore strips year) || decide (girth ≤ g)) && decide (10 * height ≤ factor ⟨age, rest, girth, f0, f1, f2, heal⟩ (countBefore strips year) * g)) lo hi w) := by
  have HPP := Lib.hid hP; clear hP
  have HZ0 := Lib.hid hz0'; clear hz0'
  have HLF := Lib.hid hlf; clear hlf
  have HG := Lib.hid hG; clear hG
  have HS := Lib.hid hS; clear hS
  have HW := Lib.hid hW; clear hW
  have HX := Lib.hid hsx; clear hsx
  have HY := Lib.hid hwx; clear hwx
  have HZ := Lib.hid (show (Try.prog.info? 31).map (·.size) = some rc.size from by rw [hsz]; exact size_real)
  clear hsz
  have hB0 := Lib.hid (show Below w.heap.size w (((w.alloc (.cells rc 31)).alloc (.cells #[.int .i64 age, .int .i64 rest, .int .i64 girth, .int .i64 f0, .int .i64 f1, .int .i64 f2, .int .i64 heal] 24)).alloc (.cells #[.string code, .int .i64 bmin, .int .i64 bmax, .int .i64 taped, .int .i64 gmin, .int .i64 gmax, .int .i64 wmin, .int .i64 wmax, .slice sa strips.length sc, .slice wa wounds.length wc, .int .i64 dead] 48)) from (((Below.refl _ _).alloc (Nat.le_refl _) _).alloc (by simp) _).alloc (by simp; omega) _)
  have R0 := Lib.hid (show Blk (((w.alloc (.cells rc 31)).alloc (.cells #[.int .i64 age, .int .i64 rest, .int .i64 girth, .int .i64 f0, .int .i64 f1, .int .i64 f2, .int .i64 heal] 24)).alloc (.cells #[.string code, .int .i64 bmin, .int .i64 bmax, .int .i64 taped, .int .i64 gmin, .int .i64 gmax, .int .i64 wmin, .int .i64 wmax, .slice sa strips.length sc, .slice wa wounds.length wc, .int .i64 dead] 48)) _ _ _ from ((Blk.new w 31 rc).alloc (.cells #[.int .i64 age, .int .i64 rest, .int .i64 girth, .int .i64 f0, .int .i64 f1, .int .i64 f2, .int .i64 heal] 24)).alloc (.cells #[.string code, .int .i64 bmin, .int .i64 bmax, .int .i64 taped, .int .i64 gmin, .int .i64 gmax, .int .i64 wmin, .int .i64 wmax, .slice sa strips.length sc, .slice wa wounds.length wc, .int .i64 dead] 48))
  have L0 := Lib.hid (show Blk (((w.alloc (.cells rc 31)).alloc (.cells #[.int .i64 age, .int .i64 rest, .int .i64 girth, .int .i64 f0, .int .i64 f1, .int .i64 f2, .int .i64 heal] 24)).alloc (.cells #[.string code, .int .i64 bmin, .int .i64 bmax, .int .i64 taped, .int .i64 gmin, .int .i64 gmax, .int .i64 wmin, .int .i64 wmax, .slice sa strips.length sc, .slice wa wounds.length wc, .int .i64 dead] 48)) (w.heap.size + 1) 24 #[.int .i64 age, .int .i64 rest, .int .i64 girth, .int .i64 f0, .int .i64 f1, .int .i64 f2, .int .i64 heal] from by have := (Blk.new (w.alloc (.cells rc 31)) 24 #[.int .i64 age, .int .i64 rest, .int .i64 girth, .int .i64 f0, .int .i64 f1, .int .i64 f2, .int .i64 heal]).alloc (.cells #[.string code, .int .i64 bmin, .int .i64 bmax, .int .i64 taped, .int .i64 gmin, .int .i64 gmax, .int .i64 wmin, .int .i64 wmax, .slice sa strips.length sc, .slice wa wounds.length wc, .int .i64 dead] 48); rwa [World.size_alloc] at this)
  have T0 := Lib.hid (show Blk (((w.alloc (.cells rc 31)).alloc (.cells #[.int .i64 age, .int .i64 rest, .int .i64 girth, .int .i64 f0, .int .i64 f1, .int .i64 f2, .int .i64 heal] 24)).alloc (.cells #[.string code, .int .i64 bmin, .int .i64 bmax, .int .i64 taped, .int .i64 gmin, .int .i64 gmax, .int .i64 wmin, .int .i64 wmax, .slice sa strips.length sc, .slice wa wounds.length wc, .int .i64 dead] 48)) (w.heap.size + 1 + 1) 48 #[.string code, .int .i64 bmin, .int .i64 bmax, .int .i64 taped, .int .i64 gmin, .int .i64 gmax, .int .i64 wmin, .int .i64 wmax, .slice sa strips.length sc, .slice wa wounds.length wc, .int .i64 dead] from by have := Blk.new ((w.alloc (.cells rc 31)).alloc (.cells #[.int .i64 age, .int .i64 rest, .int .i64 girth, .int .i64 f0, .int .i64 f1, .int .i64 f2, .int .i64 heal] 24)) 48 #[.string code, .int .i64 bmin, .int .i64 bmax, .int .i64 taped, .int .i64 gmin, .int .i64 gmax, .int .i64 wmin, .int .i64 wmax, .slice sa strips.length sc, .slice wa wounds.length wc, .int .i64 dead]; rwa [World.size_alloc, World.size_alloc] at this)
  have HOK := Lib.hid hok; clear hok
  have HFIN := Lib.hid hfin; clear hfin
  have HA := Lib.hid ha; clear ha
  cases d0 <;> cases d1
  all_goals
    go_enter Try.func16, Try.ntmps16
    go_wp2_with ((with_reducible refine at_load 31 (.tmp 5) ?_); go_must (refine wpList_load_row rfl 31 (.tmp 5) rfl w.heap.size rfl 31 rc (0, 0) _ R0.out Try.underlying31 rfl HZ.out ?_))
    refine (HG.out _).mono ?_
    rintro e w1 ⟨g, rfl, hg0, hg1, hw1⟩
    have hB1 := hB0.out.trans (hw1.mono hB0.out.size)
    have R1 := Lib.hid (R0.out.below hw1 R0.out.lt)
    have L1 := Lib.hid (L0.out.below hw1 L0.out.lt)
    have T1 := Lib.hid (T0.out.below hw1 T0.out.lt)
    clear hw1
    have t10 : w1.cell? ⟨w.heap.size + 1 + 1, 10, none⟩ = some (.int .i64 dead) := T1.out.cell 10
    go_wp2_with fail
    go_loopw [12, 13, 14] (fun i j u wr => ∃ (k m : Nat) (ok : Bool), k ≤ strips.length ∧ m ≤ k ∧ i = .int .i64 m ∧ j = .bool ok ∧ u = .int .i64 k ∧ Hid (countBefore strips year = m + countBefore (strips.drop k) year) ∧ Hid ((ok0 && strips.all (farB year rest)) = (ok && (strips.drop k).all (farB year rest))) ∧ Below w.heap.size w wr ∧ Hid (Blk wr w.heap.size 31 rc) ∧ Hid (Blk wr (w.heap.size + 1) 24 #[.int .i64 age, .int .i64 rest, .int .i64 girth, .int .i64 f0, .int .i64 f1, .int .i64 f2, .int .i64 heal]) ∧ Hid (Blk wr (w.heap.size + 1 + 1) 48 #[.string code, .int .i64 bmin, .int .i64 bmax, .int .i64 taped, .int .i64 gmin, .int .i64 gmax, .int .i64 wmin, .int .i64 wmax, .slice sa strips.length sc, .slice wa wounds.length wc, .int .i64 dead])) (fun _ _ u _ => strips.length - (intOf u).toNat)
    case atStart => exact ⟨0, 0, _, by omega, by omega, rfl, rfl, rfl, Lib.hid (by simp), Lib.hid (by rw [← HOK.out]; rfl), hB1, R1, L1, T1⟩
    case round =>
      clear t10 hB1 R1 L1 T1
      obtain ⟨k, m, ok, hk, hm, rfl, rfl, rfl, HN, HK, hB, RB, LB, TB⟩ := hrel
      have t8 : wr.cell? ⟨w.heap.size + 1 + 1, 8, none⟩ = some (.slice sa strips.length sc) := TB.out.cell 8
      have l1 : wr.cell? ⟨w.heap.size + 1, 1, none⟩ = some (.int .i64 rest) := LB.out.cell 1
      by_cases hlt : k < strips.length
      · obtain ⟨b, off, rfl, hb, hc⟩ := HS.out.place hlt
        have c0 : wr.cell? ⟨b, off + k * 2, none⟩ = some (.int .i64 strips[k]!.1) := (hB.cell (p := ⟨b, off + k * 2, none⟩) hb).trans (hc k hlt 0 _ rfl)
        clear hc
        have hs0 := HX.out strips[k]! (by rw [getElem!_pos strips k hlt]; exact List.getElem_mem hlt)
        have hn := HN.out
        have hk2 := HK.out
        rw [kept_count_step strips year k hlt] at hn
        rw [kept_all_step _ strips k hlt] at hk2
        clear HN HK
        have hfar : farB year rest strips[k]! = decide (rest ≤ max (year - strips[k]!.1) (-(year - strips[k]!.1))) := rfl
        generalize farB year rest strips[k]! = far at hfar hk2
        generalize strips[k]!.1 = z at c0 hs0 hn hfar
        have hfar2 : decide (rest ≤ max (year - z) (z - year)) = far := by rw [hfar, show -(year - z) = z - year by omega]
        have hk10 : (k : Int) ≤ 10 := by omega
        have hm10 : (m : Int) ≤ 10 := by omega
        have hkl : (k : Int) < (strips.length : Int) := by omega
        have hz1 : z ≤ 300 := hs0.2
        have hz0 : 0 ≤ z := hs0.1
        clear hs0
        by_cases hz : z < year
        · have dz : decide (z < year) = true := decide_eq_true hz
          have dz2 : decide (0 < year - z) = true := decide_eq_true (by omega)
          have HN := Lib.hid (show countBefore strips year = (m + 1) + countBefore (strips.drop (k + 1)) year from by rw [if_pos hz] at hn; omega)
          clear hn
          cases ok
          · have HK := Lib.hid (show (ok0 && strips.all (farB year rest)) = (false && (strips.drop (k + 1)).all (farB year rest)) from by rw [hk2]; simp)
            clear hk2 hfar hfar2
            go_wp2
            exact ⟨⟨k + 1, m + 1, false, by omega, by omega, by go_num, by first | rfl | simp [*], by go_num, HN, HK, hB, RB, LB, TB⟩, by simp [intOf]; omega⟩
          · have HK := Lib.hid (show (ok0 && strips.all (farB year rest)) = (decide (rest ≤ max (year - z) (-(year - z))) && (strips.drop (k + 1)).all (farB year rest)) from by rw [hk2, hfar, Bool.true_and])
            clear hk2 hfar hfar2
            go_wp2
            exact ⟨⟨k + 1, m + 1, _, by omega, by omega, by go_num, rfl, by go_num, HN, HK, hB, RB, LB, TB⟩, by simp [intOf]; omega⟩
        · have dz : decide (z < year) = false := decide_eq_false hz
          have dz2 : decide (0 < year - z) = false := decide_eq_false (by omega)
          have HN := Lib.hid (show countBefore strips year = m + countBefore (strips.drop (k + 1)) year from by rw [if_neg hz] at hn; omega)
          clear hn
          cases ok
          · have HK := Lib.hid (show (ok0 && strips.all (farB year rest)) = (false && (strips.drop (k + 1)).all (farB year rest)) from by rw [hk2]; simp)
            clear hk2 hfar hfar2
            go_wp2
            exact ⟨⟨k + 1, m, false, by omega, by omega, by go_num, by first | rfl | simp [*], by go_num, HN, HK, hB, RB, LB, TB⟩, by simp [intOf]; omega⟩
          · have HK := Lib.hid (show (ok0 && strips.all (farB year rest)) = (decide (rest ≤ max (year - z) (-(year - z))) && (strips.drop (k + 1)).all (farB year rest)) from by rw [hk2, hfar, Bool.true_and])
            clear hk2 hfar hfar2
            go_wp2
            exact ⟨⟨k + 1, m, _, by omega, by omega, by go_num, rfl, by go_num, HN, HK, hB, RB, LB, TB⟩, by simp [intOf]; omega⟩
      · have HK2 := Lib.hid (show (ok0 && strips.all (farB year rest)) = ok from by have := HK.out; rw [kept_all_end _ strips k (by omega), Bool.and_true] at this; exact this)
        have HN2 := Lib.hid (show countBefore strips year = m from by have := HN.out; rw [kept_count_end strips year k (by omega)] at this; omega)
        clear HN HK
        go_wp2_with fail
        have hm10 : (m : Int) ≤ 10 := by omega
        clear t8 l1 hlt hk
        go_loopw [13, 16] (fun i j wr => ∃ (k : Nat) (ok : Bool), k ≤ wounds.length ∧ i = .bool ok ∧ j = .int .i64 k ∧ Hid (((ok0 && strips.all (farB year rest)) && wounds.all (healedB year heal)) = (ok && (wounds.drop k).all (healedB year heal))) ∧ Below w.heap.size w wr ∧ Hid (Blk wr w.heap.size 31 rc) ∧ Hid (Blk wr (w.heap.size + 1) 24 #[.int .i64 age, .int .i64 rest, .int .i64 girth, .int .i64 f0, .int .i64 f1, .int .i64 f2, .int .i64 heal]) ∧ Hid (Blk wr (w.heap.size + 1 + 1) 48 #[.string code, .int .i64 bmin, .int .i64 bmax, .int .i64 taped, .int .i64 gmin, .int .i64 gmax, .int .i64 wmin, .int .i64 wmax, .slice sa strips.length sc, .slice wa wounds.length wc, .int .i64 dead])) (fun _ j _ => wounds.length - (intOf j).toNat)
        case atStart => exact ⟨0, ok, by omega, rfl, rfl, Lib.hid (by rw [HK2.out]; rfl), hB, RB, LB, TB⟩
        case round =>
          clear hB RB LB TB HK2
          obtain ⟨k, ok, hk, rfl, rfl, HK, hB, RB, LB, TB⟩ := hrel
          have t9 : wr.cell? ⟨w.heap.size + 1 + 1, 9, none⟩ = some (.slice wa wounds.length wc) := TB.out.cell 9
          have l6 : wr.cell? ⟨w.heap.size + 1, 6, none⟩ = some (.int .i64 heal) := LB.out.cell 6
          by_cases hlt : k < wounds.length
          · obtain ⟨b, off, rfl, hb, hc⟩ := HW.out.place hlt
            have c0 : wr.cell? ⟨b, off + k, none⟩ = some (.int .i64 wounds[k]!) := (hB.cell (p := ⟨b, off + k, none⟩) hb).trans (by have := hc k hlt 0 _ rfl; rwa [Nat.mul_one, Nat.add_zero] at this)
            clear hc
            have hs0 := HY.out wounds[k]! (by rw [getElem!_pos wounds k hlt]; exact List.getElem_mem hlt)
            have hk2 := HK.out
            rw [kept_all_step _ wounds k hlt] at hk2
            clear HK
            have hh : healedB year heal wounds[k]! = (decide (year - wounds[k]! < 0) || decide (heal ≤ year - wounds[k]!)) := rfl
            generalize healedB year heal wounds[k]! = hd at hh hk2
            generalize wounds[k]! = z at c0 hs0 hh
            have hk10 : (k : Int) ≤ 10 := by omega
            have hkl : (k : Int) < (wounds.length : Int) := by omega
            have hz1 : z ≤ 300 := hs0.2
            have hz0 : 0 ≤ z := hs0.1
            clear hs0
            cases ok
            · have HK := Lib.hid (show ((ok0 && strips.all (farB year rest)) && wounds.all (healedB year heal)) = (false && (wounds.drop (k + 1)).all (healedB year heal)) from by rw [hk2]; simp)
              clear hk2 hh
              go_wp2
              exact ⟨⟨k + 1, false, by omega, rfl, by go_num, HK, hB, RB, LB, TB⟩, by simp [intOf]; omega⟩
            · by_cases hz : year < z
              · have HK := Lib.hid (show ((ok0 && strips.all (farB year rest)) && wounds.all (healedB year heal)) = (true && (wounds.drop (k + 1)).all (healedB year heal)) from by rw [hk2, hh, decide_eq_true (show year - z < 0 by omega)]; simp)
                have dz : decide (year < z) = true := decide_eq_true hz
                have dz2 : decide (year - z < 0) = true := decide_eq_true (by omega)
                clear hk2 hh
                go_wp2
                exact ⟨⟨k + 1, true, by omega, rfl, by go_num, HK, hB, RB, LB, TB⟩, by simp [intOf]; omega⟩
              · have HK := Lib.hid (show ((ok0 && strips.all (farB year rest)) && wounds.all (healedB year heal)) = (decide (heal ≤ year - z) && (wounds.drop (k + 1)).all (healedB year heal)) from by rw [hk2, hh, decide_eq_false (show ¬ year - z < 0 by omega)]; simp)
                have dz : decide (year < z) = false := decide_eq_false hz
                have dz2 : decide (year - z < 0) = false := decide_eq_false (by omega)
                clear hk2 hh
                go_wp2
                exact ⟨⟨k + 1, _, by omega, rfl, by go_num, HK, hB, RB, LB, TB⟩, by simp [intOf]; omega⟩
          · have HK2 := Lib.hid (show ((ok0 && strips.all (farB year rest)) && wounds.all (healedB year heal)) = ok from by have := HK.out; rw [kept_all_end _ wounds k (by omega), Bool.and_true] at this; exact this)
            clear HK
            have l3 : wr.cell? ⟨w.heap.size + 1, 3 + (min (m : Int) 2).toNat, none⟩ = some (.int .i64 (factor ⟨age, rest, girth, f0, f1, f2, heal⟩ m)) := (LB.out.cell _).trans (fac_at ..)
            obtain ⟨fb0, fb1⟩ := factor_bounds ⟨age, rest, girth, f0, f1, f2, heal⟩ HLF.out m
            have hgb0 : 0 ≤ g := by omega
            have hgb1 : g ≤ 21000 := by omega
            have hfg := mul_bounds (a := factor ⟨age, rest, girth, f0, f1, f2, heal⟩ m) (b := g) (A := 50) (B := 21000) fb0 fb1 hgb0 hgb1
            have HF := Lib.hid (show factor ⟨age, rest, girth, f0, f1, f2, heal⟩ (countBefore strips year) = factor ⟨age, rest, girth, f0, f1, f2, heal⟩ m from by rw [HN2.out])
            generalize factor ⟨age, rest, girth, f0, f1, f2, heal⟩ m = fac at l3 fb0 fb1 hfg HF
            have hfg0 : 0 ≤ fac * g := hfg.1
            have hfg1 : fac * g ≤ 1050000 := hfg.2
            have l0 : wr.cell? ⟨w.heap.size + 1, 0, none⟩ = some (.int .i64 age) := LB.out.cell 0
            have l2 : wr.cell? ⟨w.heap.size + 1, 2, none⟩ = some (.int .i64 girth) := LB.out.cell 2
            have t1 : wr.cell? ⟨w.heap.size + 1 + 1, 1, none⟩ = some (.int .i64 bmin) := TB.out.cell 1
            have t2 : wr.cell? ⟨w.heap.size + 1 + 1, 2, none⟩ = some (.int .i64 bmax) := TB.out.cell 2
            have r0 : wr.cell? ⟨w.heap.size, 0, none⟩ = some (.int .u16 z0) := (RB.out.cell 0).trans HZ0.out
            obtain rfl : ok = true := HK2.out.symm.trans HFIN.out
            have HC := Lib.hid (show ∀ x : Bool, x = (true && decide (age ≤ year - p0) && (decide (0 < m) || decide (girth ≤ g)) && decide (10 * height ≤ fac * g)) → x = (((ok0 && strips.all (farB year rest)) && wounds.all (healedB year heal)) && decide (age ≤ year - p0) && (decide (0 < countBefore strips year) || decide (girth ≤ g)) && decide (10 * height ≤ factor ⟨age, rest, girth, f0, f1, f2, heal⟩ (countBefore strips year) * g)) from fun x hx => by rw [hx, HF.out, HK2.out, HN2.out])
            clear HF HK2 HN2
            have ha : ¬ age ≤ year - p0 := by have := HA.out; omega
            have ha2 : year - p0 < age := by omega
            have da : decide (age ≤ year - p0) = false := decide_eq_false (by omega)
            have kt1 := cell_regrown t1
            have kt2 := cell_regrown t2
            have kr0 := cell_regrown r0
            have kl0 := cell_regrown l0
            have kl2 := cell_regrown l2
            have cP : ∀ d os, Calls Try.prog 30 #[.agg #[.int .i64 bmin, .int .i64 bmax], .int .u16 z0] (Go.Sort.grow (redrawn wr d) os) fun e w'' => e = .returned (.int .i64 p0) ∧ ∃ p : Regrown, w'' = Go.Sort.grow (redrawn wr p.d) p.os := fun d os => Calls.regrown_of (HPP.out _)
            go_wp2_with fail
            refine wp_region_quiet_below (by kernel_rfl) (by kernel_rfl) ?_
            repeat (go_big_quiet_step (exact cP _ _))
            refine wpQuiet_nil ?_
            intro _ hw'
            obtain ⟨⟨dq, osq⟩, hw''⟩ := hw'
            subst hw''
            go_wp2
            go_ret
            exact ⟨g, congrArg (fun q => Ending.returned (.bool q)) (HC.out _ (by rw [decide_eq_false (show ¬ age ≤ year - p0 by omega)]; simp)), hg0, hg1, hB.trans ((below_regrown wr dq osq).mono hB.size)⟩
end Go.Proofs.Ytdpockkfmdkbhaa
