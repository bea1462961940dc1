/- Rows of years, continued by a strip with a digit. -/
import Derived.Test.YtnoofdjlocadbaaGreatDoorEach
import Derived.Maps.OwnIn
import Derived.Maps.OwnSet
namespace Go.Proofs.YtnoofdjlocadbaaGreatDoor
open Go.RowKit Go.Shelf Go.Maps

attribute [local go_sem] Oper.semAt_some

/-- What a map of numbers has at a key; 0: nothing. -/
def valAt (D : DataW Unit) (k : Int) : Int :=
  match D.atKey (.int .i64 k) (.lit (.int .i64 0)) with
  | .lit (.int _ c) => c
  | _ => 0

/-- One year more: the rows that end early enough, and the map that is made. -/
def digitStep (D : DataW Unit) (dg rest : Int) (st : Int × DataW Unit) (y : Int) : Int × DataW Unit :=
  (wrap64 (st.1 + valAt D (y - rest)), if 0 < wrap64 (st.1 + valAt D (y - rest)) ∧ (dg = -1 ∨ y % 10 = dg) then st.2.put (.int .i64 y) (.lit (.int .i64 (wrap64 (st.1 + valAt D (y - rest))))) else st.2)
def digitRun (D : DataW Unit) (dg rest : Int) (ys : List Year) : Int × DataW Unit := ys.foldl (fun st y => digitStep D dg rest st y.val) (0, .map [])
theorem digitRun_snoc (D : DataW Unit) (dg rest : Int) (ys : List Year) (y : Year) : digitRun D dg rest (ys ++ [y]) = digitStep D dg rest (digitRun D dg rest ys) y.val := by simp [digitRun]

theorem year_wf (y : Int) (h0 : -1000 ≤ y) (h1 : y ≤ 1000) : (Lit.int .i64 y).wf = true := WalkArith.wf_i64 (by omega)

theorem zero_int (w : World) : (zeroValue 3).run Tryz.prog w = .ok (.int .i64 0) w := by kernel_rfl
theorem blk_grown {w w' : World} {g : Nat} {t : TypeId} {cs : Array Value} {row : Option Nat} (h : Blk w g t cs) (hb : w.grownBy w' row) (hg : some g ≠ row) : Blk w' g t cs := (hb.block g h.lt hg).trans h

set_option maxRecDepth 100000 in
set_option maxHeartbeats 2000000 in
theorem followDigit_calls (mb nn : Nat) (dg rest lo hi : Int) (D : DataW Unit) (w : World) (hr0 : 1 ≤ rest) (hr1 : rest ≤ 30) (h0 : 0 ≤ lo) (h1 : lo ≤ hi) (h2 : hi ≤ 300) (hmb : mb < w.heap.size)
    (hown : w.ownsMap Tryz.prog 3 (plainElem Tryz.prog 3) mb nn D) :
    Calls Tryz.prog 69 #[.map (some mb), .int .i64 dg, .int .i64 rest, .agg #[.int .i64 lo, .int .i64 hi]] w fun e W' =>
      ∃ b : Nat, w.heap.size ≤ b ∧ e = .returned (.map (some b)) ∧ W'.ownsMap Tryz.prog 3 (plainElem Tryz.prog 3) b (hi - lo + 1).toNat (digitRun D dg rest (upto (yearAt lo) (hi - lo + 1).toNat)).2 ∧ Below w.heap.size w W' := by
  refine (callsIn_wide (n := 6)).1 ?_
  have hro : Fence.wide.round = none := rfl
  have hmm := @run_makeMap Tryz.prog
  refine callsIn_of_wp_marks Tryz.func69 rfl trivial ?_ hro
  simp only [Tryz.ntmps69, List.size_toArray, List.length_cons, List.length_nil, Nat.reduceAdd, Nat.reduceSub, Array.replicate_succ, Array.replicate_zero, List.push_toArray, List.append_toArray, List.nil_append, List.cons_append]
  gi_wp2_with (refine ⟨trivial, ?_⟩; gi_at_call 98; refine (callsIn_wide.2 (eachYear_calls lo hi _)).mono ?_; rintro e w' ⟨rfl, rfl⟩)
  have hB : Below w.heap.size w w := Below.refl _ _
  replace hown := hown.alloc (.cells #[.map (some mb)] 129)
  have k0 := Blk.new w 129 #[.map (some mb)]
  replace hB := hB.alloc hB.size (.cells #[.map (some mb)] 129)
  have z1 : (w.alloc (.cells #[.map (some mb)] 129)).heap.size = w.heap.size + 1 := by rw [World.size_alloc]
  generalize w.alloc (.cells #[.map (some mb)] 129) = v1 at k0 hown hB z1 ⊢
  replace k0 := k0.alloc (.cells #[.int .i64 dg] 3)
  replace hown := hown.alloc (.cells #[.int .i64 dg] 3)
  have k1 := Blk.new v1 3 #[.int .i64 dg]
  replace hB := hB.alloc hB.size (.cells #[.int .i64 dg] 3)
  have z2 : (v1.alloc (.cells #[.int .i64 dg] 3)).heap.size = w.heap.size + 2 := by rw [World.size_alloc, z1]
  rw [z1] at k1
  generalize v1.alloc (.cells #[.int .i64 dg] 3) = v2 at k0 k1 hown hB z2 ⊢
  clear z1
  replace k0 := k0.alloc (.cells #[.int .i64 rest] 3)
  replace k1 := k1.alloc (.cells #[.int .i64 rest] 3)
  replace hown := hown.alloc (.cells #[.int .i64 rest] 3)
  have k2 := Blk.new v2 3 #[.int .i64 rest]
  replace hB := hB.alloc hB.size (.cells #[.int .i64 rest] 3)
  have z3 : (v2.alloc (.cells #[.int .i64 rest] 3)).heap.size = w.heap.size + 3 := by rw [World.size_alloc, z2]
  rw [z2] at k2
  generalize v2.alloc (.cells #[.int .i64 rest] 3) = v3 at k0 k1 k2 hown hB z3 ⊢
  clear z2
  replace k0 := k0.alloc (.cells #[.int .i64 lo, .int .i64 hi] 41)
  replace k1 := k1.alloc (.cells #[.int .i64 lo, .int .i64 hi] 41)
  replace k2 := k2.alloc (.cells #[.int .i64 lo, .int .i64 hi] 41)
  replace hown := hown.alloc (.cells #[.int .i64 lo, .int .i64 hi] 41)
  have k3 := Blk.new v3 41 #[.int .i64 lo, .int .i64 hi]
  replace hB := hB.alloc hB.size (.cells #[.int .i64 lo, .int .i64 hi] 41)
  have z4 : (v3.alloc (.cells #[.int .i64 lo, .int .i64 hi] 41)).heap.size = w.heap.size + 4 := by rw [World.size_alloc, z3]
  rw [z3] at k3
  generalize v3.alloc (.cells #[.int .i64 lo, .int .i64 hi] 41) = v4 at k0 k1 k2 k3 hown hB z4 ⊢
  clear z3
  replace k0 := k0.alloc (.map #[] 0)
  replace k1 := k1.alloc (.map #[] 0)
  replace k2 := k2.alloc (.map #[] 0)
  replace k3 := k3.alloc (.map #[] 0)
  replace hown := hown.alloc (.map #[] 0)
  have km := World.ownsMap_made (H := Unit) v4 Tryz.prog 3 (plainElem Tryz.prog 3)
  replace hB := hB.alloc hB.size (.map #[] 0)
  have z5 : (v4.alloc (.map #[] 0)).heap.size = w.heap.size + 5 := by rw [World.size_alloc, z4]
  rw [z4] at km
  generalize v4.alloc (.map #[] 0) = v5 at k0 k1 k2 k3 km hown hB z5 ⊢
  clear z4
  replace k0 := k0.alloc (.cells #[.map (some (w.heap.size + 1 + 1 + 1 + 1))] 129)
  replace k1 := k1.alloc (.cells #[.map (some (w.heap.size + 1 + 1 + 1 + 1))] 129)
  replace k2 := k2.alloc (.cells #[.map (some (w.heap.size + 1 + 1 + 1 + 1))] 129)
  replace k3 := k3.alloc (.cells #[.map (some (w.heap.size + 1 + 1 + 1 + 1))] 129)
  replace km := km.alloc (.cells #[.map (some (w.heap.size + 1 + 1 + 1 + 1))] 129)
  replace hown := hown.alloc (.cells #[.map (some (w.heap.size + 1 + 1 + 1 + 1))] 129)
  have k5 := Blk.new v5 129 #[.map (some (w.heap.size + 1 + 1 + 1 + 1))]
  replace hB := hB.alloc hB.size (.cells #[.map (some (w.heap.size + 1 + 1 + 1 + 1))] 129)
  have z6 : (v5.alloc (.cells #[.map (some (w.heap.size + 1 + 1 + 1 + 1))] 129)).heap.size = w.heap.size + 6 := by rw [World.size_alloc, z5]
  rw [z5] at k5
  generalize v5.alloc (.cells #[.map (some (w.heap.size + 1 + 1 + 1 + 1))] 129) = v6 at k0 k1 k2 k3 km k5 hown hB z6 ⊢
  clear z5
  replace k0 := k0.alloc (.cells #[.int .i64 0] 3)
  replace k1 := k1.alloc (.cells #[.int .i64 0] 3)
  replace k2 := k2.alloc (.cells #[.int .i64 0] 3)
  replace k3 := k3.alloc (.cells #[.int .i64 0] 3)
  replace km := km.alloc (.cells #[.int .i64 0] 3)
  replace k5 := k5.alloc (.cells #[.int .i64 0] 3)
  replace hown := hown.alloc (.cells #[.int .i64 0] 3)
  have k6 := Blk.new v6 3 #[.int .i64 0]
  replace hB := hB.alloc hB.size (.cells #[.int .i64 0] 3)
  have z7 : (v6.alloc (.cells #[.int .i64 0] 3)).heap.size = w.heap.size + 7 := by rw [World.size_alloc, z6]
  rw [z6] at k6
  generalize v6.alloc (.cells #[.int .i64 0] 3) = v7 at k0 k1 k2 k3 km k5 k6 hown hB z7 ⊢
  clear z6
  replace k0 := k0.alloc (.cells #[.int .i64 lo, .int .i64 hi] 41)
  replace k1 := k1.alloc (.cells #[.int .i64 lo, .int .i64 hi] 41)
  replace k2 := k2.alloc (.cells #[.int .i64 lo, .int .i64 hi] 41)
  replace k3 := k3.alloc (.cells #[.int .i64 lo, .int .i64 hi] 41)
  replace km := km.alloc (.cells #[.int .i64 lo, .int .i64 hi] 41)
  replace k5 := k5.alloc (.cells #[.int .i64 lo, .int .i64 hi] 41)
  replace k6 := k6.alloc (.cells #[.int .i64 lo, .int .i64 hi] 41)
  replace hown := hown.alloc (.cells #[.int .i64 lo, .int .i64 hi] 41)
  have k7 := Blk.new v7 41 #[.int .i64 lo, .int .i64 hi]
  replace hB := hB.alloc hB.size (.cells #[.int .i64 lo, .int .i64 hi] 41)
  have z8 : (v7.alloc (.cells #[.int .i64 lo, .int .i64 hi] 41)).heap.size = w.heap.size + 8 := by rw [World.size_alloc, z7]
  rw [z7] at k7
  generalize v7.alloc (.cells #[.int .i64 lo, .int .i64 hi] 41) = v8 at k0 k1 k2 k3 km k5 k6 k7 hown hB z8 ⊢
  clear z7
  refine wpIn_rangeFunc_ownG hro (by omega) (gf := 120) (lb := #[.pointer (some ⟨w.heap.size + 1 + 1 + 1 + 1 + 1 + 1 + 1, 0, none⟩)]) rfl trivial (enters_of Tryz.func120 (by kernel_rfl) rfl)
    (each_stops Fence.wide 5 trivial hro (by omega) (w.heap.size + 1 + 1 + 1 + 1 + 1 + 1 + 1) lo hi h0 h1 h2 v8 k7) keptAt_t (keptAt_b (by omega)) (Below.refl _ _) (fun _ => rfl)
    (fun pre W => (((((Blk W (w.heap.size + 0) 129 #[.map (some mb)] ∧ Blk W (w.heap.size + 1) 3 #[.int .i64 dg]) ∧ Blk W (w.heap.size + 2) 3 #[.int .i64 rest]) ∧ (Blk W (w.heap.size + 5) 129 #[.map (some (w.heap.size + 1 + 1 + 1 + 1))] ∧ Blk W (w.heap.size + 6) 3 #[.int .i64 (digitRun D dg rest pre).1])) ∧ Blk W (w.heap.size + 7) 41 #[.int .i64 lo, .int .i64 hi]) ∧ (W.ownsMap Tryz.prog 3 (plainElem Tryz.prog 3) mb nn D ∧ W.ownsMap Tryz.prog 3 (plainElem Tryz.prog 3) (w.heap.size + 4) pre.length (digitRun D dg rest pre).2)) ∧ Below w.heap.size w W)
    (fun _ _ _ => False)
    (OwnFrom.and (OwnFrom.and (OwnFrom.and (OwnFrom.and (OwnFrom.and (OwnFrom.and (Own.from (blk_own _ _ _) _) (Own.from (blk_own _ _ _) _)) (Own.from (blk_own _ _ _) _)) (OwnFrom.and (Own.from (blk_own _ _ _) _) (Own.from (blk_own _ _ (fun pre : List Year => #[.int .i64 (digitRun D dg rest pre).1])) _))) (Own.from (blk_own _ _ _) _))
      (fun s A B row hs hg hr => ⟨hs.1.kept hg (fun e => by have := (hr _ e.symm).1; omega), hs.2.kept hg (fun e => by have := (hr _ e.symm).1; omega)⟩)) (ownFrom_below (Nat.le_refl _) (by omega)))
    (fun _ _ _ _ _ hs _ _ => hs)
    ⟨⟨⟨⟨⟨⟨k0, k1⟩, k2⟩, ⟨k5, k6⟩⟩, k7⟩, ⟨hown, km⟩⟩, hB⟩
    (fun x => { tmps := #[.map (some mb), .int .i64 dg, .int .i64 rest, .agg #[.int .i64 lo, .int .i64 hi], .pointer (some ⟨w.heap.size, 0, none⟩), .pointer (some ⟨w.heap.size + 1, 0, none⟩), .pointer (some ⟨w.heap.size + 1 + 1, 0, none⟩), .pointer (some ⟨w.heap.size + 1 + 1 + 1, 0, none⟩), .map none, .pointer (some ⟨w.heap.size + 1 + 1 + 1 + 1 + 1, 0, none⟩), .pointer (some ⟨w.heap.size + 1 + 1 + 1 + 1 + 1 + 1, 0, none⟩), .int .i64 x.val, .map (some (w.heap.size + 1 + 1 + 1 + 1)), .agg #[.int .i64 lo, .int .i64 hi], .func (.func 120) #[] #[.pointer (some ⟨w.heap.size + 1 + 1 + 1 + 1 + 1 + 1 + 1, 0, none⟩)], .int .i64 x.val, undef, undef, undef, undef, undef, undef, undef, undef, undef, undef, undef, undef, undef, undef, undef, undef, undef, undef, undef, undef, undef, undef, undef], defers := [] }) ?assign ?body ?done ?stop
  case assign =>
    intro l x W K hK
    gi_wp2
    exact hK
  case body =>
    rintro l pre x W ⟨⟨⟨⟨⟨⟨c0, c1⟩, c2⟩, ⟨c5, c6⟩⟩, c7⟩, ⟨hr, ho⟩⟩, hB1⟩ hlt
    have hrun := digitRun_snoc D dg rest pre x
    generalize digitRun D dg rest pre = st at c6 ho hrun
    obtain ⟨o, Do⟩ := st
    obtain ⟨y, hy0, hy1⟩ := x
    dsimp only at c6 ho hrun
    have hv : ∀ c, D.atKey (.int .i64 (y - rest)) (.lit (.int .i64 0)) = .lit (.int .i64 c) → c = valAt D (y - rest) := fun c hc => by unfold valAt; rw [hc]
    unfold digitStep at hrun
    generalize valAt D (y - rest) = c0' at hv hrun
    have HV := Lib.hid hv; clear hv
    have HR := Lib.hid hrun; clear hrun
    have d0 : W.cell? ⟨w.heap.size, 0, none⟩ = some (.map (some mb)) := c0.cell 0
    have d1 : W.cell? ⟨w.heap.size + 1, 0, none⟩ = some (.int .i64 dg) := c1.cell 0
    have d2 : W.cell? ⟨w.heap.size + 1 + 1, 0, none⟩ = some (.int .i64 rest) := c2.cell 0
    have d5 : W.cell? ⟨w.heap.size + 1 + 1 + 1 + 1 + 1, 0, none⟩ = some (.map (some (w.heap.size + 1 + 1 + 1 + 1))) := c5.cell 0
    have d6 : W.cell? ⟨w.heap.size + 1 + 1 + 1 + 1 + 1 + 1, 0, none⟩ = some (.int .i64 o) := c6.cell 0
    have f6 : W.frozen? ⟨w.heap.size + 1 + 1 + 1 + 1 + 1 + 1, 0, none⟩ = false := c6.frozen 0
    have hwf1 : (Lit.int .i64 (y - rest)).wf = true := year_wf _ (by omega) (by omega)
    have hwf2 : (Lit.int .i64 y).wf = true := year_wf _ (by omega) (by omega)
    have hsz : w.heap.size + 8 ≤ W.heap.size := by have := c7.lt; omega
    have hN : pre.length < 301 := by omega
    have ho2 : ∀ u, (W.setCell ⟨w.heap.size + 1 + 1 + 1 + 1 + 1 + 1, 0, none⟩ u).ownsMap Tryz.prog 3 (plainElem Tryz.prog 3) (w.heap.size + 1 + 1 + 1 + 1) pre.length Do := fun u => ho.setCell (by simp) u
    have kept6 : ∀ u, KeptAt (w.heap.size + 1 + 1 + 1 + 1 + 1 + 1 + 1) W (W.setCell ⟨w.heap.size + 1 + 1 + 1 + 1 + 1 + 1, 0, none⟩ u) := fun u => Below.heap_setCell W ⟨w.heap.size + 1 + 1 + 1 + 1 + 1 + 1, 0, none⟩ u _ (by simp)
    by_cases hpos : 0 < wrap64 (o + c0')
    · have bpos : decide (0 < wrap64 (o + c0')) = true := by simp [hpos]
      by_cases hdg : dg = -1
      · have HS := Lib.hid (show digitRun D dg rest (pre ++ [⟨y, hy0, hy1⟩]) = (wrap64 (o + c0'), Do.put (.int .i64 y) (.lit (.int .i64 (wrap64 (o + c0'))))) from by rw [HR.out, if_pos ⟨hpos, .inl hdg⟩])
        have bdg : (dg == -1) = true := by simp [hdg]
        clear hdg hpos HR
        gi_wp2_with (first | (gi_at_lookup; refine wpListIn_lookup_own_int _ rfl _ _ 129 rfl 3 3 .i64 (Maps.int_keyed Tryz.underlying3) Tryz.underlying129 Tryz.underlying3 (zero_int _) mb nn _ rfl hr _ _ rfl (Maps.keyOf_int_mk Tryz.underlying3 hwf1) ?_; intro c hat hwc; obtain rfl : c = c0' := HV.out c hat; clear hat) | (gi_at_mapUpdate; refine wpListIn_mapUpdate_own _ rfl _ _ _ 129 rfl 3 3 (Maps.int_keyed Tryz.underlying3) Tryz.underlying129 _ (w.heap.size + 1 + 1 + 1 + 1) pre.length _ rfl (ho2 _) (by unfold maxLen; omega) _ _ _ rfl rfl (Maps.keyOf_int_mk Tryz.underlying3 hwf2) _ [] (plainElem_int Tryz.underlying3 (wrap64_wf _)) ?_; intro w1 hown1 hgrow1))
        have hs1 : (W.setCell ⟨w.heap.size + 1 + 1 + 1 + 1 + 1 + 1, 0, none⟩ (.int .i64 (wrap64 (o + c)))).heap.size = W.heap.size := by simp [World.setCell]
        have e0 := blk_grown (c0.far (p := ⟨w.heap.size + 1 + 1 + 1 + 1 + 1 + 1, 0, none⟩) (by simp; omega) (.int .i64 (wrap64 (o + c)))) hgrow1 (by simp; omega)
        have e1 := blk_grown (c1.far (p := ⟨w.heap.size + 1 + 1 + 1 + 1 + 1 + 1, 0, none⟩) (by simp) (.int .i64 (wrap64 (o + c)))) hgrow1 (by simp)
        have e2 := blk_grown (c2.far (p := ⟨w.heap.size + 1 + 1 + 1 + 1 + 1 + 1, 0, none⟩) (by simp) (.int .i64 (wrap64 (o + c)))) hgrow1 (by simp)
        have e5 := blk_grown (c5.far (p := ⟨w.heap.size + 1 + 1 + 1 + 1 + 1 + 1, 0, none⟩) (by simp) (.int .i64 (wrap64 (o + c)))) hgrow1 (by simp)
        have e6 := blk_grown (c6.set_ 0 (.int .i64 (wrap64 (o + c)))) hgrow1 (by simp)
        have e7 := blk_grown (c7.far (p := ⟨w.heap.size + 1 + 1 + 1 + 1 + 1 + 1, 0, none⟩) (by simp) (.int .i64 (wrap64 (o + c)))) hgrow1 (by simp)
        have er := (hr.setCell (a := ⟨w.heap.size + 1 + 1 + 1 + 1 + 1 + 1, 0, none⟩) (by simp; omega) (.int .i64 (wrap64 (o + c)))).kept hgrow1 (by simp; omega)
        have hk7 : KeptAt (w.heap.size + 1 + 1 + 1 + 1 + 1 + 1 + 1) W w1 := e7.trans c7.symm
        have hB2 : Below w.heap.size w w1 := (hB1.setCell (p := ⟨w.heap.size + 1 + 1 + 1 + 1 + 1 + 1, 0, none⟩) (by simp; omega) (.int .i64 (wrap64 (o + c)))).grown hgrow1 (by rw [hs1]; exact hB1.size) (fun k e => by cases e; omega)
        have hkf : KeepsFrom v8.heap.size W w1 := ((KeepsOthers.setCell W ⟨w.heap.size + 1 + 1 + 1 + 1 + 1 + 1, 0, none⟩ (.int .i64 (wrap64 (o + c)))).from _).trans (KeepsFrom.of_grownBy hgrow1 (fun j e => by cases e; omega))
        exact ⟨hkf, hk7, ⟨⟨⟨⟨⟨⟨e0, e1⟩, e2⟩, ⟨e5, by rw [HS.out]; exact e6⟩⟩, e7⟩, ⟨er, by rw [HS.out, List.length_append]; exact hown1⟩⟩, hB2⟩⟩
      · have bdg : (dg == -1) = false := by simp [hdg]
        by_cases hm : y % 10 = dg
        · have HS := Lib.hid (show digitRun D dg rest (pre ++ [⟨y, hy0, hy1⟩]) = (wrap64 (o + c0'), Do.put (.int .i64 y) (.lit (.int .i64 (wrap64 (o + c0'))))) from by rw [HR.out, if_pos ⟨hpos, .inr hm⟩])
          have bm : (y % 10 == dg) = true := by simp [hm]
          clear hdg hm hpos HR
          gi_wp2_with (first | (gi_at_lookup; refine wpListIn_lookup_own_int _ rfl _ _ 129 rfl 3 3 .i64 (Maps.int_keyed Tryz.underlying3) Tryz.underlying129 Tryz.underlying3 (zero_int _) mb nn _ rfl hr _ _ rfl (Maps.keyOf_int_mk Tryz.underlying3 hwf1) ?_; intro c hat hwc; obtain rfl : c = c0' := HV.out c hat; clear hat) | (gi_at_mapUpdate; refine wpListIn_mapUpdate_own _ rfl _ _ _ 129 rfl 3 3 (Maps.int_keyed Tryz.underlying3) Tryz.underlying129 _ (w.heap.size + 1 + 1 + 1 + 1) pre.length _ rfl (ho2 _) (by unfold maxLen; omega) _ _ _ rfl rfl (Maps.keyOf_int_mk Tryz.underlying3 hwf2) _ [] (plainElem_int Tryz.underlying3 (wrap64_wf _)) ?_; intro w1 hown1 hgrow1))
          have hs1 : (W.setCell ⟨w.heap.size + 1 + 1 + 1 + 1 + 1 + 1, 0, none⟩ (.int .i64 (wrap64 (o + c)))).heap.size = W.heap.size := by simp [World.setCell]
          have e0 := blk_grown (c0.far (p := ⟨w.heap.size + 1 + 1 + 1 + 1 + 1 + 1, 0, none⟩) (by simp; omega) (.int .i64 (wrap64 (o + c)))) hgrow1 (by simp; omega)
          have e1 := blk_grown (c1.far (p := ⟨w.heap.size + 1 + 1 + 1 + 1 + 1 + 1, 0, none⟩) (by simp) (.int .i64 (wrap64 (o + c)))) hgrow1 (by simp)
          have e2 := blk_grown (c2.far (p := ⟨w.heap.size + 1 + 1 + 1 + 1 + 1 + 1, 0, none⟩) (by simp) (.int .i64 (wrap64 (o + c)))) hgrow1 (by simp)
          have e5 := blk_grown (c5.far (p := ⟨w.heap.size + 1 + 1 + 1 + 1 + 1 + 1, 0, none⟩) (by simp) (.int .i64 (wrap64 (o + c)))) hgrow1 (by simp)
          have e6 := blk_grown (c6.set_ 0 (.int .i64 (wrap64 (o + c)))) hgrow1 (by simp)
          have e7 := blk_grown (c7.far (p := ⟨w.heap.size + 1 + 1 + 1 + 1 + 1 + 1, 0, none⟩) (by simp) (.int .i64 (wrap64 (o + c)))) hgrow1 (by simp)
          have er := (hr.setCell (a := ⟨w.heap.size + 1 + 1 + 1 + 1 + 1 + 1, 0, none⟩) (by simp; omega) (.int .i64 (wrap64 (o + c)))).kept hgrow1 (by simp; omega)
          have hk7 : KeptAt (w.heap.size + 1 + 1 + 1 + 1 + 1 + 1 + 1) W w1 := e7.trans c7.symm
          have hB2 : Below w.heap.size w w1 := (hB1.setCell (p := ⟨w.heap.size + 1 + 1 + 1 + 1 + 1 + 1, 0, none⟩) (by simp; omega) (.int .i64 (wrap64 (o + c)))).grown hgrow1 (by rw [hs1]; exact hB1.size) (fun k e => by cases e; omega)
          have hkf : KeepsFrom v8.heap.size W w1 := ((KeepsOthers.setCell W ⟨w.heap.size + 1 + 1 + 1 + 1 + 1 + 1, 0, none⟩ (.int .i64 (wrap64 (o + c)))).from _).trans (KeepsFrom.of_grownBy hgrow1 (fun j e => by cases e; omega))
          exact ⟨hkf, hk7, ⟨⟨⟨⟨⟨⟨e0, e1⟩, e2⟩, ⟨e5, by rw [HS.out]; exact e6⟩⟩, e7⟩, ⟨er, by rw [HS.out, List.length_append]; exact hown1⟩⟩, hB2⟩⟩
        · have HS := Lib.hid (show digitRun D dg rest (pre ++ [⟨y, hy0, hy1⟩]) = (wrap64 (o + c0'), Do) from by rw [HR.out, if_neg (fun h => by rcases h.2 with h | h; exact hdg h; exact hm h)])
          have bm : (y % 10 == dg) = false := by simp [hm]
          clear hdg hm hpos HR
          gi_wp2_with (gi_at_lookup; refine wpListIn_lookup_own_int _ rfl _ _ 129 rfl 3 3 .i64 (Maps.int_keyed Tryz.underlying3) Tryz.underlying129 Tryz.underlying3 (zero_int _) mb nn _ rfl hr _ _ rfl (Maps.keyOf_int_mk Tryz.underlying3 hwf1) ?_; intro c hat hwc; obtain rfl : c = c0' := HV.out c hat; clear hat)
          exact ⟨(KeepsOthers.setCell _ _ _).from _, kept6 _, ⟨⟨⟨⟨⟨⟨c0.far (by simp; omega) _, c1.far (by simp) _⟩, c2.far (by simp) _⟩, ⟨c5.far (by simp) _, by rw [HS.out]; exact c6.set_ 0 _⟩⟩, c7.far (by simp) _⟩, ⟨hr.setCell (by simp; omega) _, by rw [HS.out, List.length_append]; exact (ho.setCell (by simp) _).mono (by simp)⟩⟩, hB1.setCell (by simp; omega) _⟩⟩
    · have bpos : decide (0 < wrap64 (o + c0')) = false := by simp [hpos]
      have HS := Lib.hid (show digitRun D dg rest (pre ++ [⟨y, hy0, hy1⟩]) = (wrap64 (o + c0'), Do) from by rw [HR.out, if_neg (fun h => hpos h.1)])
      clear hpos HR
      gi_wp2_with (gi_at_lookup; refine wpListIn_lookup_own_int _ rfl _ _ 129 rfl 3 3 .i64 (Maps.int_keyed Tryz.underlying3) Tryz.underlying129 Tryz.underlying3 (zero_int _) mb nn _ rfl hr _ _ rfl (Maps.keyOf_int_mk Tryz.underlying3 hwf1) ?_; intro c hat hwc; obtain rfl : c = c0' := HV.out c hat; clear hat)
      exact ⟨(KeepsOthers.setCell _ _ _).from _, kept6 _, ⟨⟨⟨⟨⟨⟨c0.far (by simp; omega) _, c1.far (by simp) _⟩, c2.far (by simp) _⟩, ⟨c5.far (by simp) _, by rw [HS.out]; exact c6.set_ 0 _⟩⟩, c7.far (by simp) _⟩, ⟨hr.setCell (by simp; omega) _, by rw [HS.out, List.length_append]; exact (ho.setCell (by simp) _).mono (by simp)⟩⟩, hB1.setCell (by simp; omega) _⟩⟩
  case done =>
    rintro D2 ys W hD rfl ⟨⟨⟨_, c7⟩, ⟨hr, ho⟩⟩, hB1⟩ hK
    rename_i hc
    obtain ⟨_, c5, c6⟩ := hc
    have d5 : W.cell? ⟨w.heap.size + 1 + 1 + 1 + 1 + 1, 0, none⟩ = some (.map (some (w.heap.size + 1 + 1 + 1 + 1))) := c5.cell 0
    gi_wp2
    refine ⟨by simp, .inl ⟨_, _, rfl, run_takeDeferred hK, ?_⟩⟩
    refine ⟨_, results_tmp rfl _ _ _, w.heap.size + 1 + 1 + 1 + 1, by omega, rfl, ?_, hB1.trans (belowK_b (w := v8) (by omega) W D2 _ _ hD hK rfl rfl)⟩
    have hm := ho.kept (grownBy_putObj' W D2 (.deferred none)) (fun e => by cases e; omega)
    rw [upto_length] at hm
    exact hm
  case stop =>
    rintro D2 c pre W _ _ h _
    exact h.elim
end Go.Proofs.YtnoofdjlocadbaaGreatDoor
