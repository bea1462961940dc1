/- The document's Equal, SameTree and Same where both are equal. The document's Lines. What TreeBack's walk needs in plain words. TreeBack: what is printed is read as it was. -/
import Derived.Test.YtnoofdjlocadbaaGreatDoorPrintTree
import Derived.IntWalk
import Derived.Lib.QuietBelow
import Derived.ChangeKeysEq
import Derived.Lib.Hide
import Derived.Test.YtnoofdjlocadbaaGreatDoorParse
import Derived.Test.YtnoofdjlocadbaaGreatDoorPrint
import Derived.Test.YtnoofdjlocadbaaGreatDoorGreat
import Derived.Test.YtnoofdjlocadbaaGreatDoorGrows
namespace Go.Proofs.YtnoofdjlocadbaaGreatDoor
open Go Go.RowKit Go.Lib Go.Shelf Go.Sort

def HeldAt {α : Type} [Inhabited α] (w : World) (k : Nat) (enc : α → List Value) (a : Option Addr) (xs : List α) : Prop :=
  ∀ j, j < xs.length → ∃ b off, a = some ⟨b, off, none⟩ ∧ b < w.heap.size ∧ ∀ j, j < xs.length → ∀ i u, (enc xs[j]!)[i]? = some u → w.cell? ⟨b, off + j * k + i, none⟩ = some u

set_option maxRecDepth 100000 in
set_option maxHeartbeats 1000000 in
theorem equalT_calls (xs : List Int) (a a' : Option Addr) (c c' n : Nat) (w : World) (hn : xs.length = n) (h : HeldAt w 1 intCells a xs) (h' : HeldAt w 1 intCells a' xs) (hl : n ≤ 1000) :
    Calls Tryz.prog 55 #[.slice a n c, .slice a' n c'] w fun e w' => e = .returned (.bool true) ∧ Below w.heap.size w w' := by
  have HC := Lib.hid h; have HC' := Lib.hid h'; have HN := Lib.hid hn
  clear h h' hn
  go_enter Tryz.func55, Tryz.ntmps55
  go_wp2
  go_loopw [5] (fun iv wr => ∃ (k : Nat), k ≤ n ∧ iv = .int .i64 k ∧ Hid (Below w.heap.size w wr)) (fun iv _ => n - (RowKit.intOf iv).toNat)
  case atStart => exact ⟨0, Nat.zero_le _, rfl, Lib.hid (Below.refl _ _)⟩
  case round =>
    obtain ⟨k, hk, rfl, HB⟩ := hrel
    by_cases hlt : k < n
    · obtain ⟨g, off, rfl, hg, hgc⟩ := HC.out k (by rw [HN.out]; exact hlt)
      obtain ⟨g', off', rfl, hg', hgc'⟩ := HC'.out k (by rw [HN.out]; exact hlt)
      have q0 := cell_regrown ((HB.out.cell (p := ⟨g, off + k, none⟩) hg).trans (show w.cell? ⟨g, off + k, none⟩ = some (.int .i64 xs[k]!) from by have := hgc k (by rw [HN.out]; exact hlt) 0 _ rfl; simpa using this))
      have q1 := cell_regrown ((HB.out.cell (p := ⟨g', off' + k, none⟩) hg').trans (show w.cell? ⟨g', off' + k, none⟩ = some (.int .i64 xs[k]!) from by have := hgc' k (by rw [HN.out]; exact hlt) 0 _ rfl; simpa using this))
      have hkI : (k : Int) < (n : Int) := by omega
      clear hgc hgc'
      go_upto_region 6 with (fail)
      refine wp_region_quiet_below (by kernel_rfl) (by kernel_rfl) ?_
      repeat (go_big_quiet_step (fail))
      refine wpQuiet_nil ?_
      intro v0 hw'
      have hb8 : Below wr.heap.size wr v0 := by obtain ⟨⟨dq, osq⟩, hw''⟩ := hw'; rw [hw'']; exact below_regrown wr dq osq
      clear hw' q0 q1
      go_wp2
      go_roundw
      case rel => exact ⟨k + 1, by omega, by go_num, Lib.hid (HB.out.trans (hb8.mono HB.out.size))⟩
      case measure => simp [RowKit.intOf]; omega
    · have hkn : k = n := by omega
      subst hkn
      go_wp2
      go_ret
      exact ⟨rfl, HB.out⟩

theorem HeldAt.to {α : Type} [Inhabited α] {w W : World} {k : Nat} {enc : α → List Value} {a : Option Addr} {xs : List α} (h : HeldAt w k enc a xs) (hb : Below w.heap.size w W) : HeldAt W k enc a xs := fun j hj => by
  obtain ⟨b, off, h1, h2, h3⟩ := h j hj
  exact ⟨b, off, h1, Nat.lt_of_lt_of_le h2 hb.size, fun j hj i u hu => (hb.cell (p := ⟨b, off + j * k + i, none⟩) h2).trans (h3 j hj i u hu)⟩

set_option maxRecDepth 100000 in
set_option maxHeartbeats 4000000 in
theorem sameTreeT_calls (code : ByteArray) (bmin bmax taped gmin gmax wmin wmax dead : Int) (strips : List (Int × Int)) (wounds : List Int) (sa ua pa qa : Option Addr) (sc uc pc qc : Nat) (w : World)
    (h1 : HeldAt w 2 stripCells sa strips) (h2 : HeldAt w 2 stripCells pa strips) (h3 : HeldAt w 1 intCells ua wounds) (h4 : HeldAt w 1 intCells qa wounds) (hm : strips.length ≤ 10 ∧ wounds.length ≤ 10) :
    Calls Tryz.prog 29 #[.agg #[.string code, .int .i64 bmin, .int .i64 bmax, .int .i64 taped, .int .i64 gmin, .int .i64 gmax, .int .i64 wmin, .int .i64 wmax, .slice sa strips.length sc, .slice ua wounds.length uc, .int .i64 dead], .agg #[.string code, .int .i64 bmin, .int .i64 bmax, .int .i64 taped, .int .i64 gmin, .int .i64 gmax, .int .i64 wmin, .int .i64 wmax, .slice pa strips.length pc, .slice qa wounds.length qc, .int .i64 dead]] w fun e w' => e = .returned (.bool true) ∧ Below w.heap.size w w' := by
  have HB0 := Lib.hid (((Below.refl w.heap.size w).alloc (Nat.le_refl _) (.cells #[.string code, .int .i64 bmin, .int .i64 bmax, .int .i64 taped, .int .i64 gmin, .int .i64 gmax, .int .i64 wmin, .int .i64 wmax, .slice sa strips.length sc, .slice ua wounds.length uc, .int .i64 dead] 45)).alloc (by rw [World.size_alloc]; omega) (.cells #[.string code, .int .i64 bmin, .int .i64 bmax, .int .i64 taped, .int .i64 gmin, .int .i64 gmax, .int .i64 wmin, .int .i64 wmax, .slice pa strips.length pc, .slice qa wounds.length qc, .int .i64 dead] 45))
  have HK0 := Lib.hid ((Bkt.new w 45 #[.string code, .int .i64 bmin, .int .i64 bmax, .int .i64 taped, .int .i64 gmin, .int .i64 gmax, .int .i64 wmin, .int .i64 wmax, .slice sa strips.length sc, .slice ua wounds.length uc, .int .i64 dead]).alloc (.cells #[.string code, .int .i64 bmin, .int .i64 bmax, .int .i64 taped, .int .i64 gmin, .int .i64 gmax, .int .i64 wmin, .int .i64 wmax, .slice pa strips.length pc, .slice qa wounds.length qc, .int .i64 dead] 45))
  have HL0 := Lib.hid (Bkt.new' (World.size_alloc w (.cells #[.string code, .int .i64 bmin, .int .i64 bmax, .int .i64 taped, .int .i64 gmin, .int .i64 gmax, .int .i64 wmin, .int .i64 wmax, .slice sa strips.length sc, .slice ua wounds.length uc, .int .i64 dead] 45)) 45 #[.string code, .int .i64 bmin, .int .i64 bmax, .int .i64 taped, .int .i64 gmin, .int .i64 gmax, .int .i64 wmin, .int .i64 wmax, .slice pa strips.length pc, .slice qa wounds.length qc, .int .i64 dead])
  have HE := Lib.hid (equalT_calls wounds ua qa uc qc wounds.length _ rfl (h3.to HB0.out) (h4.to HB0.out) (by omega))
  have HS := Lib.hid h1; have HP := Lib.hid h2
  have hm1 := hm.1
  have hm2 := hm.2
  clear h1 h2 h3 h4 hm
  go_enter Tryz.func29, Tryz.ntmps29
  go_wp2_with (go_at_call 55; go_must (refine HE.out.mono ?_); rintro e w1 ⟨rfl, hb1⟩; have HB1 := Lib.hid (HB0.out.trans (hb1.mono HB0.out.size)); have HK1 := Lib.hid (HK0.out.below hb1); have HL1 := Lib.hid (HL0.out.below hb1); clear hb1)
  go_loopw [5] (fun iv wr => ∃ (k : Nat), k ≤ strips.length ∧ iv = .int .i64 k ∧ Hid (Bkt wr w.heap.size 45 #[.string code, .int .i64 bmin, .int .i64 bmax, .int .i64 taped, .int .i64 gmin, .int .i64 gmax, .int .i64 wmin, .int .i64 wmax, .slice sa strips.length sc, .slice ua wounds.length uc, .int .i64 dead]) ∧ Hid (Bkt wr (w.heap.size + 1) 45 #[.string code, .int .i64 bmin, .int .i64 bmax, .int .i64 taped, .int .i64 gmin, .int .i64 gmax, .int .i64 wmin, .int .i64 wmax, .slice pa strips.length pc, .slice qa wounds.length qc, .int .i64 dead]) ∧ Hid (Below w.heap.size w wr)) (fun iv _ => strips.length - (RowKit.intOf iv).toNat)
  case atStart => exact ⟨0, Nat.zero_le _, rfl, HK1, HL1, HB1⟩
  case round =>
    clear HK1 HL1 HB1 HK0 HL0 HB0 HE
    obtain ⟨k, hk, rfl, HK, HL, HB⟩ := hrel
    have y0 := HK.out.at 8 _ rfl
    have z0 := HL.out.at 8 _ rfl
    by_cases hlt : k < strips.length
    · obtain ⟨g, off, rfl, hg, hgc⟩ := HS.out k hlt
      obtain ⟨g', off', rfl, hg', hgc'⟩ := HP.out k hlt
      have q0 := cell_regrown ((HB.out.cell (p := ⟨g, off + k * 2, none⟩) hg).trans (hgc k hlt 0 _ rfl))
      have q1 := cell_regrown ((HB.out.cell (p := ⟨g, off + k * 2 + 1, none⟩) hg).trans (hgc k hlt 1 _ rfl))
      have q2 := cell_regrown ((HB.out.cell (p := ⟨g', off' + k * 2, none⟩) hg').trans (hgc' k hlt 0 _ rfl))
      have q3 := cell_regrown ((HB.out.cell (p := ⟨g', off' + k * 2 + 1, none⟩) hg').trans (hgc' k hlt 1 _ rfl))
      have hkI : (k : Int) < (strips.length : Int) := by omega
      clear hgc hgc'
      go_upto_region 6 with (fail)
      have y1 := cell_regrown y0
      have z1 := cell_regrown z0
      refine wp_region_quiet_below (by kernel_rfl) (by kernel_rfl) ?_
      repeat (go_big_quiet_step (fail))
      refine wpQuiet_nil ?_
      intro v0 hw'
      have hb8 : Below wr.heap.size wr v0 := by obtain ⟨⟨dq, osq⟩, hw''⟩ := hw'; rw [hw'']; exact below_regrown wr dq osq
      clear hw' q0 q1 q2 q3 y1 z1 y0 z0
      go_wp2
      go_roundw
      case rel => exact ⟨k + 1, by omega, by go_num, Lib.hid (HK.out.below hb8), Lib.hid (HL.out.below hb8), Lib.hid (HB.out.trans (hb8.mono HB.out.size))⟩
      case measure => simp [RowKit.intOf]; omega
    · have hkn : k = strips.length := by omega
      subst hkn
      go_wp2
      go_ret
      exact ⟨rfl, HB.out⟩

theorem HeldAt.of {α : Type} [Inhabited α] {w : World} {k : Nat} {enc : α → List Value} {a : Option Addr} {n c : Nat} {xs : List α} (h : Held w.heap.size w k enc (.slice a n c) xs) : n = xs.length ∧ HeldAt w k enc a xs := by
  obtain ⟨a', c', h1, h2⟩ := held_open h
  injection h1 with e1 e2 e3
  subst e1
  exact ⟨e2, h2⟩
theorem plain_eq {ts ts' : List Tree} (he : ts.map Tree.plain = ts'.map Tree.plain) {k : Nat} (hk : k < ts.length) : k < ts'.length ∧ ts[k]!.plain = ts'[k]!.plain := by
  have hl : ts.length = ts'.length := by simpa using congrArg List.length he
  have hk' : k < ts'.length := by omega
  refine ⟨hk', ?_⟩
  have h1 : (ts.map Tree.plain)[k]? = some ts[k]!.plain := by rw [List.getElem?_map, List.getElem?_eq_getElem hk, getElem!_pos ts k hk]; rfl
  have h2 : (ts'.map Tree.plain)[k]? = some ts'[k]!.plain := by rw [List.getElem?_map, List.getElem?_eq_getElem hk', getElem!_pos ts' k hk']; rfl
  rw [he, h2] at h1
  exact (Option.some.inj h1).symm

theorem three_equal (a b c : Int) (W : World) : (Op.equalIn 9999 22 (.agg #[.int .i64 a, .int .i64 b, .int .i64 c]) (.agg #[.int .i64 a, .int .i64 b, .int .i64 c])).run Tryz.prog W = .ok true W := by
  obtain ⟨i, hi, _⟩ := int_parts
  have hu : Tryz.prog.underlying 22 = some (.array 3 3) := by kernel_rfl
  have hc : Tryz.prog.cellsOf 3 = 1 := by kernel_rfl
  rw [show (9999 : Nat) = 9998 + 1 from rfl, run_equalIn_array W 9998 _ _ hu hi, hc]
  simp [List.range, List.range.loop, Op.eqItems, go_sem]

set_option maxRecDepth 100000 in
set_option maxHeartbeats 4000000 in
theorem sameT_calls (age rest girth fa0 fa1 fa2 heal : Int) (ts ts' : List Tree) (ta va : Option Addr) (n tc vc : Nat) (w : World) (h : TreesHeld w.heap.size w (.slice ta n tc) ts) (h' : TreesHeld w.heap.size w (.slice va n vc) ts') (he : ts.map Tree.plain = ts'.map Tree.plain)
    (hm : n ≤ 20) (hs : ∀ t ∈ ts, t.strips.length ≤ 10 ∧ t.wounds.length ≤ 10) :
    Calls Tryz.prog 11 #[.agg #[.int .i64 age, .int .i64 rest, .int .i64 girth, .int .i64 fa0, .int .i64 fa1, .int .i64 fa2, .int .i64 heal, .slice ta n tc], .agg #[.int .i64 age, .int .i64 rest, .int .i64 girth, .int .i64 fa0, .int .i64 fa1, .int .i64 fa2, .int .i64 heal, .slice va n vc]] w fun e w' => e = .returned (.bool true) ∧ Below w.heap.size w w' := by
  obtain ⟨hn, ha⟩ := HeldAt.of h.1
  obtain ⟨hn', ha'⟩ := HeldAt.of h'.1
  have HN := Lib.hid hn; have HA := Lib.hid ha; have HA' := Lib.hid ha'; have HT := Lib.hid h.2; have HT' := Lib.hid h'.2; have HE := Lib.hid he; have HS := Lib.hid hs
  clear hn hn' ha ha' h h' he hs
  have HB0 := Lib.hid (((Below.refl w.heap.size w).alloc (Nat.le_refl _) (.cells #[.int .i64 age, .int .i64 rest, .int .i64 girth, .int .i64 fa0, .int .i64 fa1, .int .i64 fa2, .int .i64 heal, .slice ta n tc] 27)).alloc (by rw [World.size_alloc]; omega) (.cells #[.int .i64 age, .int .i64 rest, .int .i64 girth, .int .i64 fa0, .int .i64 fa1, .int .i64 fa2, .int .i64 heal, .slice va n vc] 27))
  have HK0 := Lib.hid ((Bkt.new w 27 #[.int .i64 age, .int .i64 rest, .int .i64 girth, .int .i64 fa0, .int .i64 fa1, .int .i64 fa2, .int .i64 heal, .slice ta n tc]).alloc (.cells #[.int .i64 age, .int .i64 rest, .int .i64 girth, .int .i64 fa0, .int .i64 fa1, .int .i64 fa2, .int .i64 heal, .slice va n vc] 27))
  have HL0 := Lib.hid (Bkt.new' (World.size_alloc w (.cells #[.int .i64 age, .int .i64 rest, .int .i64 girth, .int .i64 fa0, .int .i64 fa1, .int .i64 fa2, .int .i64 heal, .slice ta n tc] 27)) 27 #[.int .i64 age, .int .i64 rest, .int .i64 girth, .int .i64 fa0, .int .i64 fa1, .int .i64 fa2, .int .i64 heal, .slice va n vc])
  go_enter Tryz.func11, Tryz.ntmps11
  have h3 := three_equal fa0 fa1 fa2
  go_wp2
  go_loopw [5] (fun iv wr => ∃ (k : Nat), k ≤ n ∧ iv = .int .i64 k ∧ Hid (Bkt wr w.heap.size 27 #[.int .i64 age, .int .i64 rest, .int .i64 girth, .int .i64 fa0, .int .i64 fa1, .int .i64 fa2, .int .i64 heal, .slice ta n tc]) ∧ Hid (Bkt wr (w.heap.size + 1) 27 #[.int .i64 age, .int .i64 rest, .int .i64 girth, .int .i64 fa0, .int .i64 fa1, .int .i64 fa2, .int .i64 heal, .slice va n vc]) ∧ Hid (Below w.heap.size w wr)) (fun iv _ => n - (RowKit.intOf iv).toNat)
  case atStart => exact ⟨0, Nat.zero_le _, rfl, HK0, HL0, HB0⟩
  case round =>
    clear HK0 HL0 HB0
    obtain ⟨k, hk, rfl, HK, HL, HB⟩ := hrel
    have y0 := HK.out.at 7 _ rfl
    have z0 := HL.out.at 7 _ rfl
    by_cases hlt : k < n
    · have hk1 : k < ts.length := by rw [← HN.out]; exact hlt
      obtain ⟨hk2, hpl⟩ := plain_eq HE.out hk1
      obtain ⟨g, off, rfl, hg, hgc⟩ := HA.out k hk1
      obtain ⟨g', off', rfl, hg', hgc'⟩ := HA'.out k hk2
      have hc := hgc k hk1
      have hc' := hgc' k hk2
      have hm1 : ts[k]! ∈ ts := by rw [getElem!_pos ts k hk1]; exact List.getElem_mem hk1
      have hm2 : ts'[k]! ∈ ts' := by rw [getElem!_pos ts' k hk2]; exact List.getElem_mem hk2
      have ht1 := HT.out _ hm1
      have ht2 := HT'.out _ hm2
      have hs1 := HS.out _ hm1
      clear hgc hgc' hm1 hm2
      generalize ts[k]! = t at hpl hc ht1 hs1
      generalize ts'[k]! = u at hpl hc' ht2
      obtain ⟨code, bmin, bmax, taped, gmin, gmax, wmin, wmax, sv, wv, dead, strips, wounds⟩ := t
      obtain ⟨code2, bmin2, bmax2, taped2, gmin2, gmax2, wmin2, wmax2, sv2, wv2, dead2, strips2, wounds2⟩ := u
      simp only [Tree.plain, PTree.mk.injEq] at hpl
      obtain ⟨hcode, rfl, rfl, rfl, rfl, rfl, rfl, rfl, rfl, rfl, rfl⟩ := hpl
      obtain rfl : code = code2 := by rw [← str_of code, ← str_of code2, hcode]
      clear hcode
      obtain ⟨hst1, hwo1, _⟩ := ht1
      obtain ⟨hst2, hwo2, _⟩ := ht2
      dsimp only at hst1 hwo1 hst2 hwo2 hs1
      obtain ⟨sa, sc, rfl, _⟩ := held_open hst1
      obtain ⟨ua, uc, rfl, _⟩ := held_open hwo1
      obtain ⟨pa, pc, rfl, _⟩ := held_open hst2
      obtain ⟨qa, qc, rfl, _⟩ := held_open hwo2
      have HX1 := Lib.hid (show HeldAt w 2 stripCells sa strips from (HeldAt.of hst1).2); have HX2 := Lib.hid (show HeldAt w 2 stripCells pa strips from (HeldAt.of hst2).2); have HX3 := Lib.hid (show HeldAt w 1 intCells ua wounds from (HeldAt.of hwo1).2); have HX4 := Lib.hid (show HeldAt w 1 intCells qa wounds from (HeldAt.of hwo2).2); have HX5 := Lib.hid hs1
      clear hst1 hwo1 hst2 hwo2 hs1
      have q0 := cell_regrown ((HB.out.cell (p := ⟨g, off + k * 11, none⟩) hg).trans (hc 0 _ rfl))
      have q1 := cell_regrown ((HB.out.cell (p := ⟨g, off + k * 11 + 1, none⟩) hg).trans (hc 1 _ rfl))
      have q2 := cell_regrown ((HB.out.cell (p := ⟨g, off + k * 11 + 2, none⟩) hg).trans (hc 2 _ rfl))
      have q3 := cell_regrown ((HB.out.cell (p := ⟨g, off + k * 11 + 3, none⟩) hg).trans (hc 3 _ rfl))
      have q4 := cell_regrown ((HB.out.cell (p := ⟨g, off + k * 11 + 4, none⟩) hg).trans (hc 4 _ rfl))
      have q5 := cell_regrown ((HB.out.cell (p := ⟨g, off + k * 11 + 5, none⟩) hg).trans (hc 5 _ rfl))
      have q6 := cell_regrown ((HB.out.cell (p := ⟨g, off + k * 11 + 6, none⟩) hg).trans (hc 6 _ rfl))
      have q7 := cell_regrown ((HB.out.cell (p := ⟨g, off + k * 11 + 7, none⟩) hg).trans (hc 7 _ rfl))
      have q8 := cell_regrown ((HB.out.cell (p := ⟨g, off + k * 11 + 8, none⟩) hg).trans (hc 8 _ rfl))
      have q9 := cell_regrown ((HB.out.cell (p := ⟨g, off + k * 11 + 9, none⟩) hg).trans (hc 9 _ rfl))
      have q10 := cell_regrown ((HB.out.cell (p := ⟨g, off + k * 11 + 10, none⟩) hg).trans (hc 10 _ rfl))
      have r0 := cell_regrown ((HB.out.cell (p := ⟨g', off' + k * 11, none⟩) hg').trans (hc' 0 _ rfl))
      have r1 := cell_regrown ((HB.out.cell (p := ⟨g', off' + k * 11 + 1, none⟩) hg').trans (hc' 1 _ rfl))
      have r2 := cell_regrown ((HB.out.cell (p := ⟨g', off' + k * 11 + 2, none⟩) hg').trans (hc' 2 _ rfl))
      have r3 := cell_regrown ((HB.out.cell (p := ⟨g', off' + k * 11 + 3, none⟩) hg').trans (hc' 3 _ rfl))
      have r4 := cell_regrown ((HB.out.cell (p := ⟨g', off' + k * 11 + 4, none⟩) hg').trans (hc' 4 _ rfl))
      have r5 := cell_regrown ((HB.out.cell (p := ⟨g', off' + k * 11 + 5, none⟩) hg').trans (hc' 5 _ rfl))
      have r6 := cell_regrown ((HB.out.cell (p := ⟨g', off' + k * 11 + 6, none⟩) hg').trans (hc' 6 _ rfl))
      have r7 := cell_regrown ((HB.out.cell (p := ⟨g', off' + k * 11 + 7, none⟩) hg').trans (hc' 7 _ rfl))
      have r8 := cell_regrown ((HB.out.cell (p := ⟨g', off' + k * 11 + 8, none⟩) hg').trans (hc' 8 _ rfl))
      have r9 := cell_regrown ((HB.out.cell (p := ⟨g', off' + k * 11 + 9, none⟩) hg').trans (hc' 9 _ rfl))
      have r10 := cell_regrown ((HB.out.cell (p := ⟨g', off' + k * 11 + 10, none⟩) hg').trans (hc' 10 _ rfl))
      clear hc hc'
      have cS : ∀ d os, Calls Tryz.prog 29 #[.agg #[.string code, .int .i64 bmin, .int .i64 bmax, .int .i64 taped, .int .i64 gmin, .int .i64 gmax, .int .i64 wmin, .int .i64 wmax, .slice sa strips.length sc, .slice ua wounds.length uc, .int .i64 dead], .agg #[.string code, .int .i64 bmin, .int .i64 bmax, .int .i64 taped, .int .i64 gmin, .int .i64 gmax, .int .i64 wmin, .int .i64 wmax, .slice pa strips.length pc, .slice qa wounds.length qc, .int .i64 dead]] (grow (redrawn wr d) os) fun e w'' => e = .returned (.bool true) ∧ ∃ p : Regrown, w'' = grow (redrawn wr p.d) p.os := fun d os => Calls.regrown_of (sameTreeT_calls code bmin bmax taped gmin gmax wmin wmax dead strips wounds sa ua pa qa sc uc pc qc _ (HX1.out.to (HB.out.trans ((below_regrown wr d os).mono HB.out.size))) (HX2.out.to (HB.out.trans ((below_regrown wr d os).mono HB.out.size))) (HX3.out.to (HB.out.trans ((below_regrown wr d os).mono HB.out.size))) (HX4.out.to (HB.out.trans ((below_regrown wr d os).mono HB.out.size))) HX5.out)
      have hkI : (k : Int) < (n : Int) := by omega
      go_upto_region 6 with (fail)
      have y1 := cell_regrown y0
      have z1 := cell_regrown z0
      refine wp_region_quiet_below (by kernel_rfl) (by kernel_rfl) ?_
      repeat (go_big_quiet_step (with_reducible exact cS _ _))
      refine wpQuiet_nil ?_
      intro v0 hw'
      have hb8 : Below wr.heap.size wr v0 := by obtain ⟨⟨dq, osq⟩, hw''⟩ := hw'; rw [hw'']; exact below_regrown wr dq osq
      clear hw' y1 z1 y0 z0 cS q0 r0 q1 r1 q2 r2 q3 r3 q4 r4 q5 r5 q6 r6 q7 r7 q8 r8 q9 r9 q10 r10
      go_wp2
      go_roundw
      case rel => exact ⟨k + 1, by omega, by go_num, Lib.hid (HK.out.below hb8), Lib.hid (HL.out.below hb8), Lib.hid (HB.out.trans (hb8.mono HB.out.size))⟩
      case measure => simp [RowKit.intOf]; omega
    · have hkn : k = n := by omega
      subst hkn
      go_wp2
      go_ret
      exact ⟨rfl, HB.out⟩
end Go.Proofs.YtnoofdjlocadbaaGreatDoor
namespace Go.Proofs.YtnoofdjlocadbaaGreatDoor
open Go Go.RowKit Go.Lib

theorem cut_snoc (c b : UInt8) : ∀ (l : List UInt8) (ps : List (List UInt8)) (p : List UInt8), cutAll c l = ps ++ [p] → cutAll c (l ++ [b]) = if b = c then ps ++ [p] ++ [[]] else ps ++ [p ++ [b]]
  | [], ps, p, h => by
    simp only [cutAll] at h
    have h1 : ps = [] ∧ p = [] := by
      cases ps with
      | nil => simp at h; exact ⟨rfl, h⟩
      | cons q qs => simp at h
    obtain ⟨rfl, rfl⟩ := h1
    simp [cutAll]
  | a :: r, ps, p, h => by
    simp only [cutAll, List.cons_append] at h ⊢
    by_cases ha : a = c
    · rw [if_pos ha] at h ⊢
      cases ps with
      | nil => simp at h; exact absurd h.2 (cutAll_ne_nil c r)
      | cons q qs =>
        simp only [List.cons_append, List.cons.injEq] at h
        obtain ⟨rfl, h⟩ := h
        rw [cut_snoc c b r qs p h]
        split <;> simp
    · rw [if_neg ha] at h ⊢
      cases hr : cutAll c r with
      | nil => exact absurd hr (cutAll_ne_nil c r)
      | cons q qs =>
        rw [hr] at h
        dsimp only at h
        cases ps with
        | nil =>
          simp only [List.nil_append, List.cons.injEq] at h
          obtain ⟨rfl, rfl⟩ := h
          rw [cut_snoc c b r [] q hr]
          by_cases hbc : b = c <;> simp [hbc]
        | cons q' qs' =>
          simp only [List.cons_append, List.cons.injEq] at h
          obtain ⟨rfl, h⟩ := h
          rw [cut_snoc c b r (q :: qs') p (by rw [hr, h]; rfl)]
          by_cases hbc : b = c <;> simp [hbc]
theorem take_snocL {s : List UInt8} {k : Nat} {b : UInt8} (h : s[k]? = some b) : s.take (k + 1) = s.take k ++ [b] := by
  rw [List.take_add_one, h]; rfl
/-- What the loop of Lines knows behind k bytes: the lines that are whole, and where the present one begins. -/
structure Upto (s : List UInt8) (k fr : Nat) (ps : List (List UInt8)) : Prop where
  le : fr ≤ k
  ks : k ≤ s.length
  cut : cutAll 10 (s.take k) = ps ++ [(s.take k).drop fr]
theorem Upto.start (s : List UInt8) : Upto s 0 0 [] := ⟨Nat.le_refl _, Nat.zero_le _, by simp [cutAll]⟩
theorem Upto.feed {s : List UInt8} {k fr : Nat} {ps : List (List UInt8)} (h : Upto s k fr ps) (hb : s[k]? = some 10) : Upto s (k + 1) (k + 1) (ps ++ [(s.take k).drop fr]) := by
  have hk := (List.getElem?_eq_some_iff.1 hb).1
  refine ⟨Nat.le_refl _, hk, ?_⟩
  have h1 := cut_snoc 10 10 _ _ _ h.cut
  rw [if_pos rfl, ← take_snocL hb] at h1
  have e : (s.take (k + 1)).drop (k + 1) = [] := List.drop_eq_nil_of_le (by rw [List.length_take]; omega)
  rw [h1, e]
theorem Upto.other {s : List UInt8} {k fr : Nat} {ps : List (List UInt8)} {b : UInt8} (h : Upto s k fr ps) (hb : s[k]? = some b) (hn : b ≠ 10) : Upto s (k + 1) fr ps := by
  have hk := (List.getElem?_eq_some_iff.1 hb).1
  refine ⟨Nat.le_succ_of_le h.le, hk, ?_⟩
  have h1 := cut_snoc 10 b _ _ _ h.cut
  rw [if_neg hn, ← take_snocL hb] at h1
  rw [h1, take_snocL hb, List.drop_append_of_le_length (by rw [List.length_take]; have := h.le; omega)]
theorem Upto.end_open {s : List UInt8} {fr : Nat} {ps : List (List UInt8)} (h : Upto s s.length fr ps) (hf : fr < s.length) : linesL s = ps ++ [s.drop fr] := by
  have h1 := h.cut
  rw [List.take_length] at h1
  unfold linesL
  rw [h1, if_neg]
  rw [List.getLast?_append]
  simp
  omega
theorem Upto.end_shut {s : List UInt8} {fr : Nat} {ps : List (List UInt8)} (h : Upto s s.length fr ps) (hf : ¬ fr < s.length) : linesL s = ps := by
  have h1 := h.cut
  rw [List.take_length, List.drop_eq_nil_of_le (by omega)] at h1
  unfold linesL
  rw [h1, if_pos]
  · simp
  · simp

theorem cut_count {s : List UInt8} {k f : Nat} {ps : List (List UInt8)} (h : Upto s k f ps) : ps.length ≤ s.length := by
  have h1 := cutAll_le 10 (s.take k)
  rw [h.cut, List.length_append, List.length_take] at h1
  simp only [List.length_cons, List.length_nil] at h1
  omega
theorem str_part (s : List UInt8) (f k : Nat) : (str s).extract f k = str ((s.take k).drop f) := by
  rw [← str_of ((str s).extract f k)]
  congr 1
  have h := extract_toList (str s) f k
  rw [ByteArray.toList_eq, str_data] at h
  rw [h, List.drop_take]
theorem string_info : (Tryz.prog.info? 9).map (fun i => (i.zero, i.size, i.bytes)) = some (some (.string ⟨#[]⟩), 1, 16) := by kernel_rfl

set_option maxRecDepth 100000 in
set_option maxHeartbeats 2000000 in
theorem refLines_calls (s : List UInt8) (hs : s.length < 1000000000) (w : World) :
    Calls Tryz.prog 13 #[.string (str s)] w fun e w' => Below w.heap.size w w' ∧ ∃ v, e = .returned v ∧ w'.ownsRow w.heap.size 9 1 v (linesL s).length ((linesL s).map fun l => Value.string (str l)) := by
  obtain ⟨i0, hi, hz0, hz1, hz2⟩ := info_parts string_info
  have hsz := size_str s
  go_enter Tryz.func13, Tryz.ntmps13
  go_wp2
  go_loopw [3, 4, 5] (fun out fr iv wr => ∃ (k f : Nat) (ps : List (List UInt8)), iv = .int .i64 k ∧ fr = .int .i64 f ∧ Hid (Upto s k f ps) ∧ Hid (wr.ownsRow w.heap.size 9 1 out ps.length (ps.map fun l => Value.string (str l))) ∧ Hid (Below w.heap.size w wr)) (fun _ _ iv _ => s.length - (RowKit.intOf iv).toNat)
  case atStart => exact ⟨0, 0, [], rfl, rfl, Lib.hid (Upto.start s), Lib.hid (World.ownsRow_nil _ _ _ _), Lib.hid (Below.refl _ _)⟩
  case round =>
    obtain ⟨k, f, ps, rfl, rfl, HU, HO, HB⟩ := hrel
    by_cases hlt : k < s.length
    · have hki : (k : Int) < (s.length : Int) := by omega
      have hfk : f ≤ k := HU.out.le
      have hfi : (f : Int) ≤ (k : Int) := by omega
      have hkz : k < (str s).size := by omega
      have hgb : s[k]? = some (str s)[k] := by
        rw [List.getElem?_eq_getElem hlt]
        rfl
      by_cases hb : (str s)[k] = 10
      · have hcond : (((str s)[k].toNat : Int) == 10) = true := by rw [hb]; rfl
        have HF := Lib.hid (HU.out.feed (by rw [hgb, hb]))
        obtain ⟨oa, on, oc, rfl⟩ := slice_form HO.out
        have HPL := Lib.hid (show ps.length ≤ 1000000000 from by have := cut_count HU.out; omega)
        clear hgb hb
        go_wp2_with (at_builtin; go_must (refine wpList_append_own _ rfl (.tmp 16) (.tmp 21) 38 rfl w.heap.size 9 i0 (.string ⟨#[]⟩) 1 16 Tryz.underlying38 hi hz0 hz1 hz2 rfl (by decide) _ ps.length (ps.map fun l => Value.string (str l)) rfl (HO.out.alloc _) ⟨_, 0, none⟩ 1 1 [.string ((str s).extract f k)] rfl rfl (one_at _ 9 _) (by intro u hu; rw [List.mem_singleton.1 hu]; rfl) (by have := HPL.out; unfold maxLen; omega) (by have := HPL.out; omega) (by have := HB.out.size; rw [World.size_alloc]; omega) ?_); intro v' w2 hown' hgrow _; have HB2 := Lib.hid (below_grown (HB.out.alloc HB.out.size _) hgrow (HO.out.alloc _) (Nat.le_refl _) (by have := HB.out.size; rw [World.size_alloc]; omega)); have HO2 := Lib.hid (show w2.ownsRow w.heap.size 9 1 v' (ps ++ [(s.take k).drop f]).length ((ps ++ [(s.take k).drop f]).map fun l => Value.string (str l)) from by rw [List.length_append, List.map_append, List.map_singleton, ← str_part]; exact hown'); clear hown' hgrow)
        exact ⟨⟨k + 1, k + 1, _, congrArg (Value.int .i64) (Int.natCast_add k 1).symm, congrArg (Value.int .i64) (Int.natCast_add k 1).symm, HF, HO2, HB2⟩, numbers_measure _ k hlt⟩
      · have hcond : (((str s)[k].toNat : Int) == 10) = false := by
          rw [beq_eq_false_iff_ne]
          intro e
          exact hb (UInt8.toNat_inj.1 (show (str s)[k].toNat = 10 from by omega))
        have HF := Lib.hid (HU.out.other hgb hb)
        clear hgb hb
        go_wp2
        exact ⟨⟨k + 1, f, _, congrArg (Value.int .i64) (Int.natCast_add k 1).symm, rfl, HF, HO, HB⟩, numbers_measure _ k hlt⟩
    · obtain rfl : k = s.length := by have := HU.out.ks; omega
      have hfk : f ≤ s.length := HU.out.le
      obtain ⟨oa, on, oc, rfl⟩ := slice_form HO.out
      by_cases hfl : f < s.length
      · have hfi : (f : Int) < (s.length : Int) := by omega
        have HE := Lib.hid (HU.out.end_open hfl)
        have HPL := Lib.hid (show ps.length ≤ 1000000000 from by have := cut_count HU.out; omega)
        go_wp2_with (at_builtin; go_must (refine wpList_append_own _ rfl (.tmp 29) (.tmp 33) 38 rfl w.heap.size 9 i0 (.string ⟨#[]⟩) 1 16 Tryz.underlying38 hi hz0 hz1 hz2 rfl (by decide) _ ps.length (ps.map fun l => Value.string (str l)) rfl (HO.out.alloc _) ⟨_, 0, none⟩ 1 1 [.string ((str s).extract f s.length)] rfl rfl (one_at _ 9 _) (by intro u hu; rw [List.mem_singleton.1 hu]; rfl) (by have := HPL.out; unfold maxLen; omega) (by have := HPL.out; omega) (by have := HB.out.size; rw [World.size_alloc]; omega) ?_); intro v' w2 hown' hgrow _; have HB2 := Lib.hid (below_grown (HB.out.alloc HB.out.size _) hgrow (HO.out.alloc _) (Nat.le_refl _) (by have := HB.out.size; rw [World.size_alloc]; omega)); have HO2 := Lib.hid (show w2.ownsRow w.heap.size 9 1 v' (ps ++ [s.drop f]).length ((ps ++ [s.drop f]).map fun l => Value.string (str l)) from by have e : s.drop f = (s.take s.length).drop f := (by rw [List.take_length]); rw [List.length_append, List.map_append, List.map_singleton, e, ← str_part]; exact hown'); clear hown' hgrow)
        go_ret
        exact ⟨HB2.out, _, rfl, by rw [HE.out]; exact HO2.out⟩
      · have hfi : ¬ (f : Int) < (s.length : Int) := by omega
        have HE := Lib.hid (HU.out.end_shut hfl)
        go_wp2
        go_ret
        exact ⟨HB.out, _, rfl, by rw [HE.out]; exact HO.out⟩
end Go.Proofs.YtnoofdjlocadbaaGreatDoor
namespace Go.Proofs.YtnoofdjlocadbaaGreatDoor
open Go Go.RowKit Go.Lib

theorem code_plain (t : Tree) : t.code = str t.plain.code := (str_of t.code).symm
theorem any_plain (es : List Tree) (t : Tree) : (es.any fun o => sameCode o t) = (es.map Tree.plain).any fun o => (str o.code).toList == (str t.plain.code).toList := by
  rw [List.any_map]
  congr 1
theorem err_plain {t u : Tree} (h : t.plain = u.plain) : treeErr t = treeErr u := by
  obtain ⟨code, bmin, bmax, taped, gmin, gmax, wmin, wmax, sv, wv, dead, strips, wounds⟩ := t
  obtain ⟨code2, bmin2, bmax2, taped2, gmin2, gmax2, wmin2, wmax2, sv2, wv2, dead2, strips2, wounds2⟩ := u
  simp only [Tree.plain, PTree.mk.injEq] at h
  obtain ⟨_, rfl, rfl, rfl, rfl, rfl, rfl, rfl, rfl, rfl, rfl⟩ := h
  rfl
theorem tree_plain {es es' : List Tree} {t u : Tree} (he : es.map Tree.plain = es'.map Tree.plain) (h : t.plain = u.plain) : checkTree es t = checkTree es' u := by
  unfold checkTree
  rw [any_plain, any_plain, he, h, err_plain h, code_plain t, code_plain u, h]
theorem trees_plain : ∀ (ts ts' es es' : List Tree), ts.map Tree.plain = ts'.map Tree.plain → es.map Tree.plain = es'.map Tree.plain → treesErr es ts = treesErr es' ts'
  | [], [], _, _, _, _ => rfl
  | [], _ :: _, _, _, h, _ => by simp at h
  | _ :: _, [], _, _, h, _ => by simp at h
  | t :: r, u :: r', es, es', h, he => by
    simp only [List.map_cons, List.cons.injEq] at h
    simp only [treesErr, tree_plain he h.1]
    rw [trees_plain r r' (es ++ [t]) (es' ++ [u]) h.2 (by simp [he, h.1])]
theorem check_plain {f g : Forest} (h : f.plain = g.plain) : checkForest f = checkForest g := by
  simp only [Forest.plain, PForest.mk.injEq] at h
  unfold checkForest
  have hl : f.trees.length = g.trees.length := by simpa using congrArg List.length h.2
  rw [h.1, hl, trees_plain _ _ [] [] h.2 rfl]

theorem parse_ok {X : List UInt8} {f : Forest} (hr : readText X = .inr f.plain) (hc : checkForest f = 0) (hl : X.length ≤ 60000) {w w' : World} {e : Ending} (h : ParseDone X w e w') : Below w.heap.size w w' ∧ ∃ va vc ts,
    e = .returned (.tuple #[.agg #[.int .i64 f.law.age, .int .i64 f.law.rest, .int .i64 f.law.girth, .int .i64 f.law.f0, .int .i64 f.law.f1, .int .i64 f.law.f2, .int .i64 f.law.heal, .slice va f.trees.length vc], .int .i64 0, .int .i64 0]) ∧
    OwnTrees w.heap.size w' (.slice va f.trees.length vc) ts ∧ ts.map Tree.plain = f.trees.map Tree.plain ∧ ∀ t ∈ ts, t.strips.length ≤ 10 ∧ t.wounds.length ≤ 10 := by
  obtain ⟨hb, ⟨h1, _⟩ | ⟨_, n, h1, _⟩ | ⟨_, g, h1, h2⟩⟩ := h
  · omega
  · rw [hr] at h1; cases h1
  · rw [hr] at h1
    have hp : f.plain = g.plain := by injection h1
    have hcg : checkForest g = 0 := (check_plain hp).symm.trans hc
    rcases h2 with ⟨_, ho, rfl⟩ | ⟨h3, _⟩
    · obtain ⟨va, n, vc, hv⟩ := (ho w' (Nat.le_refl _) (fun _ _ _ => rfl)).1.slice
      have hn := HeldAt.of (hv ▸ (ho w' (Nat.le_refl _) (fun _ _ _ => rfl)).1)
      simp only [Forest.plain, PForest.mk.injEq] at hp
      have hlen : f.trees.length = g.trees.length := by simpa using congrArg List.length hp.2
      have hnn : n = f.trees.length := by rw [hlen]; exact hn.1
      subst hnn
      refine ⟨hb, va, vc, g.trees, ?_, hv ▸ ho, hp.2.symm, fun t ht => ((forest_valid hcg).2.2 t ht).many⟩
      unfold Forest.cells
      rw [hp.1, hv]
    · exact absurd hcg h3
theorem parse_no {X : List UInt8} {n : Nat} (hr : readText X = .inl n) (hl : X.length ≤ 60000) {w w' : World} {e : Ending} (h : ParseDone X w e w') : Below w.heap.size w w' ∧ e = .returned (.tuple #[zeroForest, .int .i64 (n : Int), .int .i64 3]) := by
  obtain ⟨hb, ⟨h1, _⟩ | ⟨_, m, h1, h2⟩ | ⟨_, g, h1, h2⟩⟩ := h
  · omega
  · rw [hr] at h1
    have : n = m := by injection h1
    subst this
    exact ⟨hb, h2⟩
  · rw [hr] at h1; cases h1

theorem forest_len {f : Forest} (h : checkForest f = 0) : (forestText f).length ≤ 30000 ∧ 0 < (forestText f).length := by
  obtain ⟨h1, h2, h3⟩ := forest_valid h
  have h4 := line_len wLaw f.law.nums (fun n hn => (h1 n hn).i64)
  have h5 := trees_len f.trees (fun t ht => tree_len (h3 t ht).treeSmall (h3 t ht).size)
  have h6 : f.law.nums.length = 7 := rfl
  have h7 : wLaw.length = 3 := rfl
  have h8 : 0 < (lineL wLaw f.law.nums).length := by unfold lineL; simp
  unfold forestText
  rw [List.length_append]
  omega
theorem itoa_one : itoa 1 = [49] := by
  unfold itoa
  rw [if_neg (by decide)]
  show decDigits 1 = [49]
  rw [decDigits, dif_pos (by decide)]
  rfl
theorem law_bytes : lawRow ⟨1, 1, 1, 1, 1, 1, 1⟩ ++ [10] = [108, 97, 119, 59, 49, 59, 49, 59, 49, 59, 49, 59, 49, 59, 49, 59, 49, 10] := by
  simp [lawRow, rowL, Law.nums, itoa_one, wLaw]
theorem strip_bytes (t : List UInt8) : stripRow (1, 1) ++ 10 :: t = [115, 116, 114, 105, 112, 59, 49, 59, 49, 10] ++ t := by
  simp [stripRow, rowL, itoa_one, wStrip]
/-- The four readings. -/
theorem back_reads {f : Forest} (h : checkForest f = 0) : readText (forestText f) = .inr f.plain ∧ readText (forestText f).dropLast = .inr f.plain ∧
    readText (forestText f ++ [108, 97, 119, 59, 49, 59, 49, 59, 49, 59, 49, 59, 49, 59, 49, 59, 49, 10]) = .inl ((linesL (forestText f)).length + 1) ∧
    readText ([115, 116, 114, 105, 112, 59, 49, 59, 49, 10] ++ forestText f) = .inl 1 := by
  have hf := forest_fine h
  rw [forest_text]
  refine ⟨read_text _ hf, read_short _ hf, ?_, ?_⟩
  · rw [← law_bytes, read_law_more _ hf]
    unfold textL feedL
    rw [lines_rows _ (row_fine_feed _ hf)]
  · rw [← strip_bytes]
    exact read_strip_first _ _
end Go.Proofs.YtnoofdjlocadbaaGreatDoor
namespace Go.Proofs.YtnoofdjlocadbaaGreatDoor
open Go Go.RowKit Go.Lib Go.Deep

theorem str_last (T : List UInt8) : (str T).extract 0 (T.length - 1) = str T.dropLast := by
  rw [str_part, List.drop_zero, List.dropLast_eq_take]

theorem row_form {w : World} {B n : Nat} {e : TypeId} {k : Nat} {v : Value} {xs : List Value} (h : w.ownsRow B e k v n xs) : ∃ a c, v = .slice a n c := by
  rcases h.2 with ⟨h1, h2⟩ | ⟨g, cap, cur, h1, _⟩
  · exact ⟨none, 0, by rw [h1, h2]⟩
  · exact ⟨_, _, h1⟩

set_option maxRecDepth 100000 in
set_option maxHeartbeats 8000000 in
theorem back_calls (f : Forest) (w : World) (h : TreesHeld w.heap.size w f.tv f.trees) (hL : Libs w) :
    Calls Tryz.prog 4 #[.agg f.cells.toArray] w fun e w' => e = .returned (.bool true) ∧ Below w.heap.size w w' := by
  obtain ⟨⟨age, rest, girth, fa0, fa1, fa2, heal⟩, tv, trees⟩ := f
  dsimp only at h
  obtain ⟨ta, tc, rfl, _⟩ := held_open h.1
  have HH := Lib.hid (fun W (hW : Below w.heap.size w W) => (h.below hW).mono hW.size); have HL := Lib.hid hL
  clear h hL
  have HA := Lib.hid ((Below.refl w.heap.size w).alloc (Nat.le_refl _) (.cells #[.int .i64 age, .int .i64 rest, .int .i64 girth, .int .i64 fa0, .int .i64 fa1, .int .i64 fa2, .int .i64 heal, .slice ta trees.length tc] 27))
  have HG0 := Lib.hid (Bkt.new w 27 #[.int .i64 age, .int .i64 rest, .int .i64 girth, .int .i64 fa0, .int .i64 fa1, .int .i64 fa2, .int .i64 heal, .slice ta trees.length tc])
  have HGR := Lib.hid (show Calls Tryz.prog 5 #[.agg #[.int .i64 age, .int .i64 rest, .int .i64 girth, .int .i64 fa0, .int .i64 fa1, .int .i64 fa2, .int .i64 heal, .slice ta trees.length tc]] _ _ from great_calls ⟨⟨age, rest, girth, fa0, fa1, fa2, heal⟩, .slice ta trees.length tc, trees⟩ _ (HH.out _ HA.out))
  simp only [Forest.cells]
  go_enter Tryz.func4, Tryz.ntmps4
  go_wp2_with fail
  refine HGR.out.mono ?_
  rintro e w1 ⟨b, rfl, hw1⟩
  have HB1 := Lib.hid (HA.out.trans (hw1.mono HA.out.size))
  have HG1 := Lib.hid (HG0.out.below hw1)
  clear hw1 HGR HG0 HA
  cases b
  case true =>
    go_wp2_with fail
    refine (grows_calls _).mono ?_
    rintro e w2 ⟨rfl, hw2⟩
    go_wp2
    go_ret
    exact ⟨rfl, HB1.out.trans (hw2.mono HB1.out.size)⟩
  case false =>
    have o0 : w1.cell? ⟨w.heap.size, 0, none⟩ = some (.int .i64 age) := HG1.out.at 0 _ rfl
    have o1 : w1.cell? ⟨w.heap.size, 1, none⟩ = some (.int .i64 rest) := HG1.out.at 1 _ rfl
    have o2 : w1.cell? ⟨w.heap.size, 2, none⟩ = some (.int .i64 girth) := HG1.out.at 2 _ rfl
    have o3 : w1.cell? ⟨w.heap.size, 3, none⟩ = some (.int .i64 fa0) := HG1.out.at 3 _ rfl
    have o4 : w1.cell? ⟨w.heap.size, 4, none⟩ = some (.int .i64 fa1) := HG1.out.at 4 _ rfl
    have o5 : w1.cell? ⟨w.heap.size, 5, none⟩ = some (.int .i64 fa2) := HG1.out.at 5 _ rfl
    have o6 : w1.cell? ⟨w.heap.size, 6, none⟩ = some (.int .i64 heal) := HG1.out.at 6 _ rfl
    have o7 : w1.cell? ⟨w.heap.size, 7, none⟩ = some (.slice ta trees.length tc) := HG1.out.at 7 _ rfl
    have HPR := Lib.hid (print_calls ⟨⟨age, rest, girth, fa0, fa1, fa2, heal⟩, .slice ta trees.length tc, trees⟩ w1 (HH.out _ HB1.out) (HL.out.below HB1.out))
    simp only [Forest.cells] at HPR
    go_wp2_with fail
    refine HPR.out.mono ?_
    clear o0 o1 o2 o3 o4 o5 o6 o7 HPR
    rintro e w2 ⟨hw2, ⟨hne, rfl⟩ | ⟨hz, rfl⟩⟩
    · have HB2 := Lib.hid (HB1.out.trans (hw2.mono HB1.out.size))
      have HG2 := Lib.hid (HG1.out.below hw2)
      clear hw2 HB1 HG1
      have HRF := Lib.hid (show Calls Tryz.prog 12 #[.agg #[.int .i64 age, .int .i64 rest, .int .i64 girth, .int .i64 fa0, .int .i64 fa1, .int .i64 fa2, .int .i64 heal, .slice ta trees.length tc]] _ _ from refForest_calls ⟨⟨age, rest, girth, fa0, fa1, fa2, heal⟩, .slice ta trees.length tc, trees⟩ w2 (HH.out _ HB2.out))
      generalize checkForest ⟨⟨age, rest, girth, fa0, fa1, fa2, heal⟩, .slice ta trees.length tc, trees⟩ = ce at hne HRF
      have o0 : w2.cell? ⟨w.heap.size, 0, none⟩ = some (.int .i64 age) := HG2.out.at 0 _ rfl
      have o1 : w2.cell? ⟨w.heap.size, 1, none⟩ = some (.int .i64 rest) := HG2.out.at 1 _ rfl
      have o2 : w2.cell? ⟨w.heap.size, 2, none⟩ = some (.int .i64 girth) := HG2.out.at 2 _ rfl
      have o3 : w2.cell? ⟨w.heap.size, 3, none⟩ = some (.int .i64 fa0) := HG2.out.at 3 _ rfl
      have o4 : w2.cell? ⟨w.heap.size, 4, none⟩ = some (.int .i64 fa1) := HG2.out.at 4 _ rfl
      have o5 : w2.cell? ⟨w.heap.size, 5, none⟩ = some (.int .i64 fa2) := HG2.out.at 5 _ rfl
      have o6 : w2.cell? ⟨w.heap.size, 6, none⟩ = some (.int .i64 heal) := HG2.out.at 6 _ rfl
      have o7 : w2.cell? ⟨w.heap.size, 7, none⟩ = some (.slice ta trees.length tc) := HG2.out.at 7 _ rfl
      go_wp2_with (first
        | (go_at_call 12; go_must (refine HRF.out.mono ?_); rintro e w3 ⟨rfl, hw3⟩; have HB3 := Lib.hid (HB2.out.trans (hw3.mono HB2.out.size)); clear hw3)
        | (go_at_call 6; go_must (refine (grows_calls _).mono ?_); rintro e w4 ⟨rfl, hw4⟩; have HB4 := Lib.hid (HB3.out.trans (hw4.mono HB3.out.size)); clear hw4))
      go_ret
      exact ⟨rfl, HB4.out⟩
    have HB2 := Lib.hid (HB1.out.trans (hw2.mono HB1.out.size))
    have HG2 := Lib.hid (HG1.out.below hw2)
    clear hw2 HB1 HG1
    have HZ := Lib.hid hz
    obtain ⟨hr1, hr2, hr3, hr4⟩ := back_reads hz
    obtain ⟨hl1, hl2⟩ := forest_len hz
    have HFW := Lib.hid (forest_valid hz)
    generalize hT : forestText ⟨⟨age, rest, girth, fa0, fa1, fa2, heal⟩, .slice ta trees.length tc, trees⟩ = T at hr1 hr2 hr3 hr4 hl1 hl2 ⊢
    clear hT hz
    have HR1 := Lib.hid hr1; have HR2 := Lib.hid hr2; have HR3 := Lib.hid hr3; have HR4 := Lib.hid hr4; have HL1 := Lib.hid hl1; have HL2 := Lib.hid hl2
    clear hr1 hr2 hr3 hr4 hl1 hl2
    have HP1 := Lib.hid (parse_calls T (by have := HL1.out; omega) w2 (HL.out.below HB2.out))
    go_wp2_with fail
    refine HP1.out.mono ?_
    intro e w3 hpd
    obtain ⟨hw3, va, vc, ts1, rfl, ho1, hm1, hs1⟩ := parse_ok HR1.out HZ.out (by have := HL1.out; omega) hpd
    clear hpd HP1
    have HB3 := Lib.hid (HB2.out.trans (hw3.mono HB2.out.size))
    have HG3 := Lib.hid (HG2.out.below hw3)
    have HT1 := Lib.hid (ho1 (w3.alloc (.cells #[.int .i64 age, .int .i64 rest, .int .i64 girth, .int .i64 fa0, .int .i64 fa1, .int .i64 fa2, .int .i64 heal, .slice va trees.length vc] 27)) (by rw [World.size_alloc]; omega) (fun g _ hl => alloc_old w3 _ g hl))
    have HM1 := Lib.hid hm1; have HS1 := Lib.hid hs1
    clear hw3 ho1 hm1 hs1 HB2 HG2
    dsimp only at HM1
    go_upto_region 7 with fail
    have HB4 := Lib.hid (HB3.out.alloc HB3.out.size (.cells #[.int .i64 age, .int .i64 rest, .int .i64 girth, .int .i64 fa0, .int .i64 fa1, .int .i64 fa2, .int .i64 heal, .slice va trees.length vc] 27))
    have HG4 := Lib.hid (HG3.out.alloc (.cells #[.int .i64 age, .int .i64 rest, .int .i64 girth, .int .i64 fa0, .int .i64 fa1, .int .i64 fa2, .int .i64 heal, .slice va trees.length vc] 27))
    have HK4 := Lib.hid (Bkt.new w3 27 #[.int .i64 age, .int .i64 rest, .int .i64 girth, .int .i64 fa0, .int .i64 fa1, .int .i64 fa2, .int .i64 heal, .slice va trees.length vc])
    have HGK := Lib.hid (show w.heap.size < w3.heap.size from HG3.out.lt)
    clear HB3 HG3
    generalize hk : w3.heap.size = K at HGK HK4 ⊢
    generalize w3.alloc (.cells #[.int .i64 age, .int .i64 rest, .int .i64 girth, .int .i64 fa0, .int .i64 fa1, .int .i64 fa2, .int .i64 heal, .slice va trees.length vc] 27) = w4 at HB4 HG4 HK4 HT1 ⊢
    clear hk
    have HSA := Lib.hid (sameT_calls age rest girth fa0 fa1 fa2 heal ts1 trees va ta trees.length vc tc w4 HT1.out (HH.out _ HB4.out) HM1.out HFW.out.2.1 HS1.out)
    have o0 : w4.cell? ⟨w.heap.size, 0, none⟩ = some (.int .i64 age) := HG4.out.at 0 _ rfl
    have o1 : w4.cell? ⟨w.heap.size, 1, none⟩ = some (.int .i64 rest) := HG4.out.at 1 _ rfl
    have o2 : w4.cell? ⟨w.heap.size, 2, none⟩ = some (.int .i64 girth) := HG4.out.at 2 _ rfl
    have o3 : w4.cell? ⟨w.heap.size, 3, none⟩ = some (.int .i64 fa0) := HG4.out.at 3 _ rfl
    have o4 : w4.cell? ⟨w.heap.size, 4, none⟩ = some (.int .i64 fa1) := HG4.out.at 4 _ rfl
    have o5 : w4.cell? ⟨w.heap.size, 5, none⟩ = some (.int .i64 fa2) := HG4.out.at 5 _ rfl
    have o6 : w4.cell? ⟨w.heap.size, 6, none⟩ = some (.int .i64 heal) := HG4.out.at 6 _ rfl
    have o7 : w4.cell? ⟨w.heap.size, 7, none⟩ = some (.slice ta trees.length tc) := HG4.out.at 7 _ rfl
    have p0 : w4.cell? ⟨K, 0, none⟩ = some (.int .i64 age) := HK4.out.at 0 _ rfl
    have p1 : w4.cell? ⟨K, 1, none⟩ = some (.int .i64 rest) := HK4.out.at 1 _ rfl
    have p2 : w4.cell? ⟨K, 2, none⟩ = some (.int .i64 girth) := HK4.out.at 2 _ rfl
    have p3 : w4.cell? ⟨K, 3, none⟩ = some (.int .i64 fa0) := HK4.out.at 3 _ rfl
    have p4 : w4.cell? ⟨K, 4, none⟩ = some (.int .i64 fa1) := HK4.out.at 4 _ rfl
    have p5 : w4.cell? ⟨K, 5, none⟩ = some (.int .i64 fa2) := HK4.out.at 5 _ rfl
    have p6 : w4.cell? ⟨K, 6, none⟩ = some (.int .i64 heal) := HK4.out.at 6 _ rfl
    have p7 : w4.cell? ⟨K, 7, none⟩ = some (.slice va trees.length vc) := HK4.out.at 7 _ rfl
    have hsz := size_str T
    have hl2 := HL2.out
    have hl1 := HL1.out
    go_upto_region 9 with (go_at_call 11; go_must (refine HSA.out.mono ?_); rintro e w5 ⟨rfl, hw5⟩; have HB5 := Lib.hid (HB4.out.trans (hw5.mono HB4.out.size)); have HG5 := Lib.hid (HG4.out.below hw5); have HK5 := Lib.hid (HK4.out.below hw5); clear hw5)
    clear o0 o1 o2 o3 o4 o5 o6 o7 p0 p1 p2 p3 p4 p5 p6 p7 HSA HT1 HM1 HS1 HB4 HG4 HK4
    have hl2i : (0 : Int) < (T.length : Int) := by omega
    go_wp2_with fail
    simp only [str_last]
    have HKL5 := Lib.hid (show K < w5.heap.size from HK5.out.lt)
    have HP2 := Lib.hid (parse_calls T.dropLast (by rw [List.length_dropLast]; omega) w5 (HL.out.below HB5.out))
    refine HP2.out.mono ?_
    intro e w6 hpd
    obtain ⟨hw6, ua, uc, ts2, rfl, ho2, hm2, hs2⟩ := parse_ok HR2.out HZ.out (by rw [List.length_dropLast]; omega) hpd
    clear hpd HP2
    have HB6 := Lib.hid (HB5.out.trans (hw6.mono HB5.out.size))
    have HG6 := Lib.hid (HG5.out.below hw6)
    have HK6 := Lib.hid (HK5.out.below hw6)
    have HO2 := Lib.hid ho2
    have HM2 := Lib.hid hm2; have HS2 := Lib.hid hs2
    clear hw6 ho2 hm2 hs2 HB5 HG5 HK5
    dsimp only at HM2
    go_upto_region 10 with ((with_reducible refine at_storeT 27 (.tmp 5) (.tmp 62) ?_); go_must (refine wpList_store_mid rfl 27 (.tmp 5) (.tmp 62) rfl K 0 #[.int .i64 age, .int .i64 rest, .int .i64 girth, .int .i64 fa0, .int .i64 fa1, .int .i64 fa2, .int .i64 heal, .slice ua trees.length uc] rfl rfl (Bkt.there HK6.out (o := 0) (n := 8) (Nat.le_of_ble_eq_true rfl)) forest_size (by simp [Value.oneCell']) ?_); change wpList _ _ _ _ _ (w6.setCells K 0 [.int .i64 age, .int .i64 rest, .int .i64 girth, .int .i64 fa0, .int .i64 fa1, .int .i64 fa2, .int .i64 heal, .slice ua trees.length uc]); have HK7 := Lib.hid (Bkt.stored (old := [.int .i64 age, .int .i64 rest, .int .i64 girth, .int .i64 fa0, .int .i64 fa1, .int .i64 fa2, .int .i64 heal, .slice va trees.length vc]) HK6.out [.int .i64 age, .int .i64 rest, .int .i64 girth, .int .i64 fa0, .int .i64 fa1, .int .i64 fa2, .int .i64 heal, .slice ua trees.length uc] rfl); have HB7 := Lib.hid (show Below w.heap.size w (w6.setCells K 0 [.int .i64 age, .int .i64 rest, .int .i64 girth, .int .i64 fa0, .int .i64 fa1, .int .i64 fa2, .int .i64 heal, .slice ua trees.length uc]) from below_setCells HB6.out (Nat.le_of_lt HGK.out) _ _); have HG7 := Lib.hid (show Bkt (w6.setCells K 0 [.int .i64 age, .int .i64 rest, .int .i64 girth, .int .i64 fa0, .int .i64 fa1, .int .i64 fa2, .int .i64 heal, .slice ua trees.length uc]) w.heap.size 27 #[.int .i64 age, .int .i64 rest, .int .i64 girth, .int .i64 fa0, .int .i64 fa1, .int .i64 fa2, .int .i64 heal, .slice ta trees.length tc] from HG6.out.apart (by have := HGK.out; omega) 0 _); have HT2 := Lib.hid (show TreesHeld ((w6.setCells K 0 [.int .i64 age, .int .i64 rest, .int .i64 girth, .int .i64 fa0, .int .i64 fa1, .int .i64 fa2, .int .i64 heal, .slice ua trees.length uc])).heap.size (w6.setCells K 0 [.int .i64 age, .int .i64 rest, .int .i64 girth, .int .i64 fa0, .int .i64 fa1, .int .i64 fa2, .int .i64 heal, .slice ua trees.length uc]) (.slice ua trees.length uc) ts2 from HO2.out _ (by rw [size_setCells]; exact Nat.le_refl _) (fun g hg _ => heap_setCells w6 K (by have := HKL5.out; omega) _ 0)); generalize w6.setCells K 0 [.int .i64 age, .int .i64 rest, .int .i64 girth, .int .i64 fa0, .int .i64 fa1, .int .i64 fa2, .int .i64 heal, .slice ua trees.length uc] = w7 at HK7 HB7 HG7 HT2 ⊢)
    have HSB := Lib.hid (sameT_calls age rest girth fa0 fa1 fa2 heal ts2 trees ua ta trees.length uc tc w7 HT2.out (HH.out _ HB7.out) HM2.out HFW.out.2.1 HS2.out)
    have o0 : w7.cell? ⟨w.heap.size, 0, none⟩ = some (.int .i64 age) := HG7.out.at 0 _ rfl
    have o1 : w7.cell? ⟨w.heap.size, 1, none⟩ = some (.int .i64 rest) := HG7.out.at 1 _ rfl
    have o2 : w7.cell? ⟨w.heap.size, 2, none⟩ = some (.int .i64 girth) := HG7.out.at 2 _ rfl
    have o3 : w7.cell? ⟨w.heap.size, 3, none⟩ = some (.int .i64 fa0) := HG7.out.at 3 _ rfl
    have o4 : w7.cell? ⟨w.heap.size, 4, none⟩ = some (.int .i64 fa1) := HG7.out.at 4 _ rfl
    have o5 : w7.cell? ⟨w.heap.size, 5, none⟩ = some (.int .i64 fa2) := HG7.out.at 5 _ rfl
    have o6 : w7.cell? ⟨w.heap.size, 6, none⟩ = some (.int .i64 heal) := HG7.out.at 6 _ rfl
    have o7 : w7.cell? ⟨w.heap.size, 7, none⟩ = some (.slice ta trees.length tc) := HG7.out.at 7 _ rfl
    have p0 : w7.cell? ⟨K, 0, none⟩ = some (.int .i64 age) := HK7.out.at 0 _ rfl
    have p1 : w7.cell? ⟨K, 1, none⟩ = some (.int .i64 rest) := HK7.out.at 1 _ rfl
    have p2 : w7.cell? ⟨K, 2, none⟩ = some (.int .i64 girth) := HK7.out.at 2 _ rfl
    have p3 : w7.cell? ⟨K, 3, none⟩ = some (.int .i64 fa0) := HK7.out.at 3 _ rfl
    have p4 : w7.cell? ⟨K, 4, none⟩ = some (.int .i64 fa1) := HK7.out.at 4 _ rfl
    have p5 : w7.cell? ⟨K, 5, none⟩ = some (.int .i64 fa2) := HK7.out.at 5 _ rfl
    have p6 : w7.cell? ⟨K, 6, none⟩ = some (.int .i64 heal) := HK7.out.at 6 _ rfl
    have p7 : w7.cell? ⟨K, 7, none⟩ = some (.slice ua trees.length uc) := HK7.out.at 7 _ rfl
    go_upto_region 12 with (go_at_call 11; go_must (refine HSB.out.mono ?_); rintro e w8 ⟨rfl, hw8⟩; have HB8 := Lib.hid (HB7.out.trans (hw8.mono HB7.out.size)); have HK8 := Lib.hid (HK7.out.below hw8); clear hw8)
    clear o0 o1 o2 o3 o4 o5 o6 o7 p0 p1 p2 p3 p4 p5 p6 p7 HSB HT2 HM2 HS2 HB7 HG7 HK7
    have HLI := Lib.hid (refLines_calls T (by omega) w8)
    go_upto_region 13 with (go_at_call 13; go_must (refine HLI.out.mono ?_); rintro e w9 ⟨hw9, v, rfl, hown⟩; obtain ⟨la, lc, rfl⟩ := row_form hown; have HB9 := Lib.hid (HB8.out.trans (hw9.mono HB8.out.size)); have HK9 := Lib.hid (HK8.out.below hw9); clear hw9 hown)
    clear HLI HB8 HK8
    have hll := lines_le T
    generalize linesL T = LL at HR3 hll ⊢
    have hA1 : str T ++ (⟨#[108, 97, 119, 59, 49, 59, 49, 59, 49, 59, 49, 59, 49, 59, 49, 59, 49, 10]⟩ : ByteArray) = str (T ++ [108, 97, 119, 59, 49, 59, 49, 59, 49, 59, 49, 59, 49, 59, 49, 59, 49, 10]) := str_app T _
    have hA2 : (⟨#[115, 116, 114, 105, 112, 59, 49, 59, 49, 10]⟩ : ByteArray) ++ str T = str ([115, 116, 114, 105, 112, 59, 49, 59, 49, 10] ++ T) := str_app _ T
    have hz1 : ¬ 9223372036854775807 < T.length + 18 := by omega
    have hz2 : ¬ 9223372036854775807 < 10 + T.length := by omega
    have HP3 := Lib.hid (parse_calls (T ++ [108, 97, 119, 59, 49, 59, 49, 59, 49, 59, 49, 59, 49, 59, 49, 59, 49, 10]) (by rw [List.length_append]; simp; omega) w9 (HL.out.below HB9.out))
    go_wp2_with fail
    refine HP3.out.mono ?_
    intro e w10 hpd
    obtain ⟨hw10, rfl⟩ := parse_no HR3.out (by rw [List.length_append]; simp; omega) hpd
    clear hpd HP3
    simp only [zeroForest, Int.natCast_add, Int.natCast_one]
    have HB10 := Lib.hid (HB9.out.trans (hw10.mono HB9.out.size))
    have HK10 := Lib.hid (HK9.out.below hw10)
    clear hw10 HB9 HK9
    go_upto_region 14 with ((with_reducible refine at_storeT 27 (.tmp 5) (.tmp 84) ?_); go_must (refine wpList_store_mid rfl 27 (.tmp 5) (.tmp 84) rfl K 0 #[.int .i64 0, .int .i64 0, .int .i64 0, .int .i64 0, .int .i64 0, .int .i64 0, .int .i64 0, .slice none 0 0] rfl rfl (Bkt.there HK10.out (o := 0) (n := 8) (Nat.le_of_ble_eq_true rfl)) forest_size (by simp [Value.oneCell']) ?_); change wpList _ _ _ _ _ (w10.setCells K 0 [.int .i64 0, .int .i64 0, .int .i64 0, .int .i64 0, .int .i64 0, .int .i64 0, .int .i64 0, .slice none 0 0]); have HK11 := Lib.hid (Bkt.stored (old := [.int .i64 age, .int .i64 rest, .int .i64 girth, .int .i64 fa0, .int .i64 fa1, .int .i64 fa2, .int .i64 heal, .slice ua trees.length uc]) HK10.out [.int .i64 0, .int .i64 0, .int .i64 0, .int .i64 0, .int .i64 0, .int .i64 0, .int .i64 0, .slice none 0 0] rfl); have HB11 := Lib.hid (show Below w.heap.size w (w10.setCells K 0 [.int .i64 0, .int .i64 0, .int .i64 0, .int .i64 0, .int .i64 0, .int .i64 0, .int .i64 0, .slice none 0 0]) from below_setCells HB10.out (Nat.le_of_lt HGK.out) _ _); generalize w10.setCells K 0 [.int .i64 0, .int .i64 0, .int .i64 0, .int .i64 0, .int .i64 0, .int .i64 0, .int .i64 0, .slice none 0 0] = w11 at HK11 HB11 ⊢)
    have HP4 := Lib.hid (parse_calls ([115, 116, 114, 105, 112, 59, 49, 59, 49, 10] ++ T) (by rw [List.length_append]; simp; omega) w11 (HL.out.below HB11.out))
    go_wp2_with fail
    refine HP4.out.mono ?_
    intro e w12 hpd
    obtain ⟨hw12, rfl⟩ := parse_no HR4.out (by rw [List.length_append]; simp; omega) hpd
    clear hpd HP4
    simp only [zeroForest]
    have HB12 := Lib.hid (HB11.out.trans (hw12.mono HB11.out.size))
    have HK12 := Lib.hid (HK11.out.below hw12)
    clear hw12 HB11 HK11
    go_upto_region 15 with fail
    have HB13 := Lib.hid (HB12.out.alloc HB12.out.size (.cells #[.int .i64 0, .int .i64 0, .int .i64 0, .int .i64 0, .int .i64 0, .int .i64 0, .int .i64 0, .slice none 0 0] 27))
    have HK13 := Lib.hid (HK12.out.alloc (.cells #[.int .i64 0, .int .i64 0, .int .i64 0, .int .i64 0, .int .i64 0, .int .i64 0, .int .i64 0, .slice none 0 0] 27))
    have HN13 := Lib.hid (Bkt.new w12 27 #[.int .i64 0, .int .i64 0, .int .i64 0, .int .i64 0, .int .i64 0, .int .i64 0, .int .i64 0, .slice none 0 0])
    generalize w12.heap.size = N at HN13 ⊢
    generalize w12.alloc (.cells #[.int .i64 0, .int .i64 0, .int .i64 0, .int .i64 0, .int .i64 0, .int .i64 0, .int .i64 0, .slice none 0 0] 27) = w13 at HB13 HK13 HN13 ⊢
    have p7 : w13.cell? ⟨K, 7, none⟩ = some (.slice none 0 0) := HK13.out.at 7 _ rfl
    have q7 : w13.cell? ⟨N, 7, none⟩ = some (.slice none 0 0) := HN13.out.at 7 _ rfl
    go_wp2_with (go_at_call 6; go_must (refine (grows_calls _).mono ?_); rintro e w14 ⟨rfl, hw14⟩; have HB14 := Lib.hid (HB13.out.trans (hw14.mono HB13.out.size)); clear hw14)
    go_ret
    exact ⟨rfl, HB14.out⟩
end Go.Proofs.YtnoofdjlocadbaaGreatDoor
