/- The sum over a map, in whatever order; a value laid into a new map; a list of maps. The rows of years that painted digits can mean. The iterator over a list of maps, from its end. A loop over an iterator whose k-th round is known: what is handed to a round is told by the number of rounds before it. The iterator over a list of maps, from its end: its rounds by their number. The least and the greatest year of each strip: the loop's state. -/
import Derived.Test.YtnoofdjlocadbaaGreatDoorDelete
import Derived.Maps.AppendAt
import Derived.Maps.Ext
/-! The sum over a map, in whatever order; a value laid into a new map; a list of maps. -/
namespace Go.Proofs.YtnoofdjlocadbaaGreatDoor
open Go.RowKit Go.Shelf Go.Maps

def litNum : DataW Unit → Int
  | .lit (.int _ c) => c
  | _ => 0
def sumLeft (es : List (Lit × DataW Unit)) (left : Lit → Bool) : Int := ((es.filter fun p => left p.1).map fun p => litNum p.2).sum

theorem sumLeft_cons (p : Lit × DataW Unit) (es : List (Lit × DataW Unit)) (left : Lit → Bool) : sumLeft (p :: es) left = (if left p.1 then litNum p.2 else 0) + sumLeft es left := by
  unfold sumLeft
  cases h : left p.1 <;> simp [h]
theorem sumLeft_congr {es : List (Lit × DataW Unit)} {l l' : Lit → Bool} (h : ∀ p ∈ es, l p.1 = l' p.1) : sumLeft es l = sumLeft es l' := by
  unfold sumLeft
  rw [List.filter_congr h]
theorem sumLeft_none {es : List (Lit × DataW Unit)} {left : Lit → Bool} (hl : ∀ kl, left kl = false) : sumLeft es left = 0 := by
  unfold sumLeft
  rw [List.filter_eq_nil_iff.2 (fun p _ => by simp [hl])]
  rfl
theorem sumLeft_step {x c : Int} {left : Lit → Bool} (hl : left (.int .i64 x) = true) : ∀ {es : List (Lit × DataW Unit)}, es.Pairwise (fun p q => p.1 ≠ q.1) →
    (∀ zd, (DataW.map es).atKey (.int .i64 x) zd = .lit (.int .i64 c)) → sumLeft es left = c + sumLeft es (fun z => left z && !z.sameKey (.int .i64 x))
  | [], _, hat => by
    have := hat (.lit (.int .i64 (c + 1)))
    simp [DataW.atKey] at this
    omega
  | p :: es, hap, hat => by
    rw [sumLeft_cons, sumLeft_cons]
    have hap2 := List.pairwise_cons.1 hap
    cases hs : p.1.sameKey (.int .i64 x)
    · have hat' : ∀ zd, (DataW.map es).atKey (.int .i64 x) zd = .lit (.int .i64 c) := fun zd => by
        have := hat zd
        simpa [DataW.atKey, List.find?_cons, hs] using this
      rw [sumLeft_step hl hap2.2 hat']
      simp only [Bool.not_false, Bool.and_true]
      omega
    · have he := WideAt.sameKey_eq hs
      have hp : p.2 = .lit (.int .i64 c) := by
        have := hat (.lit (.int .i64 0))
        simpa [DataW.atKey, List.find?_cons, hs] using this
      rw [sumLeft_congr (l := fun z => left z && !z.sameKey (.int .i64 x)) (l' := left) (fun q hq => by
        have hne := hap2.1 q hq
        cases hq2 : q.1.sameKey (.int .i64 x)
        · simp
        · exact absurd (he.trans (WideAt.sameKey_eq hq2).symm) hne)]
      rw [he, hl, hp]
      simp [litNum]

/-- The sum of all that a map of numbers has. -/
def total (D : DataW Unit) : Int :=
  match D with
  | .map es => sumLeft es (fun _ => true)
  | _ => 0
theorem total_start {es : List (Lit × DataW Unit)} (hk : ∀ p ∈ es, WideAt.IsKeyLit p.1) : sumLeft es (Maps.has (.map es)) = total (.map es) := by
  show sumLeft es _ = sumLeft es (fun _ => true)
  exact sumLeft_congr (fun p hp => List.any_eq_true.2 ⟨p, hp, WideAt.sameKey_self (hk p hp)⟩)

section
variable {P : Program} {ops : Array Oper} {rest : List Oper}
/-- A value laid into a map that is being made. -/
theorem wpList_insert_own {H : Type} (w : World) {o : Oper} {a : Act} {Q : Exit → Act → World → Prop}
    (hg : o.guard = none) (m x v : Operand) (t : TypeId) (hop : o.op = Op.insert t m x v)
    (k e : TypeId) (K : Keyed P k) (ht : P.underlying t = some (.map k e)) (R : Value → Option (DataW H × List MemPlace)) (b n : Nat) (D : DataW H)
    (hm : a.eval m = .map (some b)) (hown : w.ownsMap P k R b n D) (hn : n < maxLen) (key val : Value) (kl : Lit) (hx : a.eval x = key) (hv : a.eval v = val) (hkey : keyOf P k key = some kl)
    (d : DataW H) (ps : List MemPlace) (hval : R val = some (d, ps))
    (hK : ∀ w', w'.ownsMap P k R b (n + 1) (D.put kl d) → w.grownBy w' (some b) → wpList P ops Q rest (a.put o.dst undef) w') :
    wpList P ops Q (o :: rest) a w := by
  refine wpList_plain hg fun K' hK' => ?_
  obtain ⟨w', hrun, r1, r2⟩ := hown.update K ht hn hkey hval
  unfold Oper.wp
  simp [execOp, hop, hm, hx, hv, hrun, Result.andThen]
  exact hK' _ _ (hK w' r1 r2)
theorem at_ins {d : Option Tmp} (ty : TypeId) (m x y : Operand) {ty2 : TypeId} {ps : String} {af : Array Edge} {gd : Option (Nat × Bool)} {a : Act} {w : World} {Q : Exit → Act → World → Prop} (h : wpList P ops Q (⟨d, .insert ty m x y, ty2, ps, af, gd⟩ :: rest) a w) : wpList P ops Q (⟨d, .insert ty m x y, ty2, ps, af, gd⟩ :: rest) a w := h
end

theorem ownsMap_below {W W' : World} {b n : Nat} {D : DataW Unit} {k : TypeId} {P : Program} {R : Value → Option (DataW Unit × List MemPlace)} (h : W.ownsMap P k R b n D) (hb : Below W.heap.size W W') : W'.ownsMap P k R b n D := by
  have hl := h.lt
  obtain ⟨es, clock, hh, rest⟩ := h
  exact ⟨es, clock, (hb.block b hl).trans hh, rest⟩
theorem ownsRow_below {W W' : World} {base : Nat} {e : TypeId} {size : Nat} {v : Value} {n : Nat} {xs : List Value} (h : W.ownsRow base e size v n xs) (hb : Below W.heap.size W W') : W'.ownsRow base e size v n xs := by
  rcases h with ⟨h1, h2⟩
  refine ⟨h1, ?_⟩
  rcases h2 with h2 | ⟨g, cap, cur, hv, hg, hh, hr⟩
  · exact .inl h2
  · refine .inr ⟨g, cap, cur, hv, hg, (hb.block g ?_).trans hh, hr⟩
    rcases Nat.lt_or_ge g W.heap.size with h | h
    · exact h
    · rw [Array.getElem?_eq_none h] at hh
      cases hh
theorem map_not_row {W : World} {base : Nat} {e k : TypeId} {P : Program} {R : Value → Option (DataW Unit × List MemPlace)} {size : Nat} {v : Value} {n nn b : Nat} {xs : List Value} {D : DataW Unit} (hr : W.ownsRow base e size v n xs) (hm : W.ownsMap P k R b nn D) : some b ≠ v.ownBlock := fun he => by
  obtain ⟨es, clock, hh, _⟩ := hm
  rcases hr.2 with ⟨rfl, _⟩ | ⟨g, cap, cur, rfl, _, hb, _⟩
  · cases he
  · cases he
    rw [hb] at hh
    cases hh

theorem getD_app {α : Type} {xs ys : List α} {j : Nat} {d : α} (h : j < xs.length) : (xs ++ ys).getD j d = xs.getD j d := by
  simp only [List.getD, List.getElem?_append_left h]

/-- A list of maps: its header, its blocks. -/
structure Fit' (W : World) (n0 N : Nat) (Ds : List (DataW Unit)) (v : Value) (bs : List Nat) : Prop where
  len : bs.length = Ds.length
  row : W.ownsRow n0 129 1 v Ds.length (bs.map fun g => .map (some g))
  at_ : ∀ j, j < bs.length → n0 ≤ bs.getD j 0 ∧ W.ownsMap Tryz.prog 3 (plainElem Tryz.prog 3) (bs.getD j 0) N (Ds.getD j (.map []))
  apart : bs.Nodup

theorem Fit'.below {W W' : World} {n0 N : Nat} {Ds : List (DataW Unit)} {v : Value} {bs : List Nat} (h : Fit' W n0 N Ds v bs) (hb : Below W.heap.size W W') : Fit' W' n0 N Ds v bs :=
  ⟨h.len, ownsRow_below h.row hb, fun j hj => ⟨(h.at_ j hj).1, ownsMap_below (h.at_ j hj).2 hb⟩, h.apart⟩

theorem Fit'.lt {W : World} {n0 N : Nat} {Ds : List (DataW Unit)} {v : Value} {bs : List Nat} (h : Fit' W n0 N Ds v bs) : ∀ g ∈ bs, g < W.heap.size := fun g hg => by
  obtain ⟨j, hj, rfl⟩ := List.mem_iff_getElem.1 hg
  have := (h.at_ j hj).2.lt
  simpa [List.getD, List.getElem?_eq_getElem hj] using this

theorem Fit'.append {W W' : World} {n0 N : Nat} {Ds : List (DataW Unit)} {v v' : Value} {bs : List Nat} {g : Nat} {D : DataW Unit} (h : Fit' W n0 N Ds v bs) (hg : W.ownsMap Tryz.prog 3 (plainElem Tryz.prog 3) g N D) (h0 : n0 ≤ g) (hne : g ∉ bs)
    (hgr : W.grownBy W' v.ownBlock) (hr : W'.ownsRow n0 129 1 v' (Ds.length + 1) ((bs.map fun g => Value.map (some g)) ++ [.map (some g)])) : Fit' W' n0 N (Ds ++ [D]) v' (bs ++ [g]) := by
  refine ⟨by simp [h.len], by simpa using hr, fun j hj => ?_, ?_⟩
  · rcases Nat.lt_or_ge j bs.length with hl | hl
    · rw [getD_app hl, getD_app (by rw [← h.len]; exact hl)]
      have hk := h.at_ j hl
      exact ⟨hk.1, hk.2.kept hgr (map_not_row h.row hk.2)⟩
    · have : j = bs.length := by simp at hj; omega
      subst this
      have e1 : (bs ++ [g]).getD bs.length 0 = g := by simp
      have e2 : (Ds ++ [D]).getD bs.length (.map []) = D := by rw [h.len]; simp
      rw [e1, e2]
      exact ⟨h0, hg.kept hgr (map_not_row h.row hg)⟩
  · refine List.nodup_append.2 ⟨h.apart, by simp, ?_⟩
    intro a ha b hb e
    simp at hb
    subst hb
    exact hne (e ▸ ha)
end Go.Proofs.YtnoofdjlocadbaaGreatDoor

/-! The rows of years that painted digits can mean. -/
namespace Go.Proofs.YtnoofdjlocadbaaGreatDoor
open Go.RowKit Go.Shelf Go.Maps

def stepRows (rest lo hi : Int) (D : DataW Unit) (d : Int) : DataW Unit := (digitRun D d rest (upto (yearAt lo) (hi - lo + 1).toNat)).2
/-- The years of the last strip, and the number of rows to each. -/
def rowsRun (rest lo hi : Int) (ds : List Int) : DataW Unit := ds.foldl (stepRows rest lo hi) (.map [(.int .i64 (lo - rest), .lit (.int .i64 1))])
theorem rowsRun_snoc (rest lo hi : Int) (ds : List Int) (d : Int) : rowsRun rest lo hi (ds ++ [d]) = stepRows rest lo hi (rowsRun rest lo hi ds) d := by simp [rowsRun]
/-- The same for each of the first strips. -/
def fits (rest lo hi : Int) (ds : List Int) : Nat → List (DataW Unit)
  | 0 => []
  | k + 1 => fits rest lo hi ds k ++ [rowsRun rest lo hi (ds.take (k + 1))]
theorem fits_length (rest lo hi : Int) (ds : List Int) : ∀ k, (fits rest lo hi ds k).length = k
  | 0 => rfl
  | k + 1 => by simp [fits, fits_length rest lo hi ds k]
theorem take_snoc (ds : List Int) {k : Nat} (hk : k < ds.length) : ds.take (k + 1) = ds.take k ++ [ds.getD k 0] := by
  rw [List.take_add_one, List.getElem?_eq_getElem hk]
  simp [List.getD, List.getElem?_eq_getElem hk]

theorem info_rows : (Tryz.prog.info? 129).map (fun i => (i.zero, i.size, i.bytes)) = some (some (.map none), 1, 8) := by kernel_rfl

set_option maxRecDepth 100000 in
set_option maxHeartbeats 2000000 in
theorem follow_calls (b off c : Nat) (ds : List Int) (rest lo hi : Int) (w : World) (hr0 : 1 ≤ rest) (hr1 : rest ≤ 30) (h0 : 0 ≤ lo) (h1 : lo ≤ hi) (h2 : hi ≤ 300) (hb : b < w.heap.size) (hlen : ds.length ≤ 1000)
    (hd : ∀ j, j < ds.length → w.cell? ⟨b, off + j, none⟩ = some (.int .i64 (ds.getD j 0))) :
    Calls Tryz.prog 39 #[.int .i64 rest, .slice (some ⟨b, off, none⟩) ds.length c, .agg #[.int .i64 lo, .int .i64 hi]] w fun e W' =>
      ∃ (v : Value) (bs : List Nat), e = .returned (.tuple #[v, .int .i64 (wrap64 (total (rowsRun rest lo hi ds)))]) ∧ Fit' W' (w.heap.size + 1) (hi - lo + 1).toNat (fits rest lo hi ds ds.length) v bs ∧ Below w.heap.size w W' := by
  have hmm := @run_makeMap Tryz.prog
  obtain ⟨i0, hi0, hz0, hz1, hz2⟩ := info_parts info_rows
  have hD := Lib.hid hd; clear hd
  have hwf0 : (Lit.int .i64 (lo - rest)).wf = true := year_wf _ (by omega) (by omega)
  have hwf1 : (Lit.int .i64 1).wf = true := rfl
  go_enter Tryz.func39, Tryz.ntmps39
  go_wp2_with ((with_reducible refine at_ins 129 _ _ _ ?_); go_must (refine wpList_insert_own (H := Unit) _ rfl _ _ _ 129 rfl 3 3 lawI Tryz.underlying129 (plainElem Tryz.prog 3) (w.heap.size + 1) 0 (.map []) rfl (by have := World.ownsMap_made (H := Unit) (w.alloc (.cells #[.int .i64 lo, .int .i64 hi] 41)) Tryz.prog 3 (plainElem Tryz.prog 3); simpa using this) (by unfold maxLen; omega) _ _ _ rfl rfl (Maps.keyOf_int_mk Tryz.underlying3 hwf0) _ [] (plainElem_int Tryz.underlying3 hwf1) ?_); intro w1 hown1 hgr1; go_frame)
  go_loopw [6, 8, 10, 21] (fun v g dd iv wr => ∃ (i : Nat) (bs : List Nat) (gb nn : Nat), i ≤ ds.length ∧ iv = .int .i64 i ∧ g = .map (some gb) ∧ wr.ownsMap Tryz.prog 3 (plainElem Tryz.prog 3) gb nn (rowsRun rest lo hi (ds.take i)) ∧ w.heap.size ≤ gb ∧
      Fit' wr (w.heap.size + 1) (hi - lo + 1).toNat (fits rest lo hi ds i) v bs ∧ wr.heap[w.heap.size]? = some (.cells #[.int .i64 lo, .int .i64 hi] 41 (0, 0)) ∧ Below w.heap.size w wr)
    (fun _ _ _ iv _ => ds.length - (intOf iv).toNat)
  case atStart =>
    refine ⟨0, [], w.heap.size + 1, 1, Nat.zero_le _, by simp, rfl, hown1, by omega, ⟨rfl, World.ownsRow_nil _ _ _ _, by simp, List.nodup_nil⟩, blk_grown ((Blk.new w 41 #[.int .i64 lo, .int .i64 hi]).alloc _) hgr1 (by simp), ?_⟩
    exact (((Below.refl _ _).alloc (Nat.le_refl _) _).alloc (by simp) _).grown hgr1 (by simp <;> omega) (fun k hk => by cases hk; omega)
  case round =>
    obtain ⟨i, bs, gb, nn, hik, rfl, rfl, hm, hgb, hfit, hblk, hB⟩ := hrel
    have b0 : wr.cell? ⟨w.heap.size, 0, none⟩ = some (.int .i64 lo) := Blk.cell hblk 0
    have b1 : wr.cell? ⟨w.heap.size, 1, none⟩ = some (.int .i64 hi) := Blk.cell hblk 1
    have hsz := hB.size
    by_cases hlt : i < ds.length
    · have hcell : wr.cell? ⟨b, off + i, none⟩ = some (.int .i64 (ds.getD i 0)) := (hB.cell hb).trans (hD.out i hlt)
      have e1 : rowsRun rest lo hi (ds.take (i + 1)) = stepRows rest lo hi (rowsRun rest lo hi (ds.take i)) (ds.getD i 0) := by rw [take_snoc ds hlt, rowsRun_snoc]
      have hF1 : fits rest lo hi ds (i + 1) = fits rest lo hi ds i ++ [rowsRun rest lo hi (ds.take (i + 1))] := rfl
      have hFl : (fits rest lo hi ds i).length = i := fits_length _ _ _ _ _
      have hml := hm.lt
      generalize rowsRun rest lo hi (ds.take i) = D0 at hm e1
      generalize ds.getD i 0 = d at hcell e1
      generalize fits rest lo hi ds i = Fs at hfit hF1 hFl
      have HC := Lib.hid (followDigit_calls gb nn d rest lo hi D0 wr hr0 hr1 h0 h1 h2 hml hm)
      have HE := Lib.hid e1
      have HF := Lib.hid hF1
      have HM := Lib.hid hm
      have HT := Lib.hid hfit
      have HL := Lib.hid hblk
      have HW := Lib.hid hB
      clear e1 hF1 hm hfit hblk hB
      go_wp2_with (first
        | (go_at_call 69; refine HC.out.mono ?_; rintro e w2 ⟨g2, hg2, rfl, hm2, hB2⟩; have hrow2 := ownsRow_below HT.out.row hB2; have hsz2 := hB2.size; have HM2 := Lib.hid hm2; have HB2 := Lib.hid hB2; clear hm2 hB2)
        | (at_builtin; refine wpList_append_own_at _ rfl (.tmp 30) (.tmp 32) 89 rfl (w.heap.size + 1) 129 i0 (.map none) 1 8 Tryz.underlying89 hi0 hz0 hz1 hz2 rfl (by decide) _ _ _ rfl (hrow2.alloc _) ⟨w2.heap.size, 0, none⟩ 1 1 [.map (some g2)] rfl rfl (cell_one_new _ _ _) (by intro u hu; simp at hu; subst hu; rfl) (by rw [hFl]; unfold maxLen; omega) (by rw [hFl]; omega) (by simp; omega) ?_; intro v1 w3 hown3 hgrow3 hnil3 hat3))
      have hm2 := HM2.out; have hB2 := HB2.out; have hm := HM.out; have hfit := HT.out; have hblk := HL.out; have hB := HW.out
      have hB2a : Below wr.heap.size wr (w2.alloc (.cells #[.map (some g2)] 129)) := hB2.alloc (by omega) _
      go_roundw
      case rel =>
        refine ⟨i + 1, bs ++ [g2], g2, (hi - lo + 1).toNat, by omega, by first | rfl | (simp; omega), rfl, ?_, by omega, ?_, ?_, ?_⟩
        · rw [HE.out]; exact (hm2.alloc (.cells #[.map (some g2)] 129)).kept hgrow3 (map_not_row (hrow2.alloc (.cells #[.map (some g2)] 129)) (hm2.alloc (.cells #[.map (some g2)] 129)))
        · rw [HF.out, HE.out]
          exact (hfit.below hB2a).append (hm2.alloc _) (by omega) (fun h => by have := hfit.lt g2 h; omega) hgrow3 hown3
        · exact blk_grown (Blk.alloc (Blk.below hblk hB2 (by omega)) _) hgrow3 (fun e => by have := (hfit.row.lt _ e.symm).1; omega)
        · exact ((hB.trans (hB2.mono (by omega))).alloc (by omega) _).grown hgrow3 (by simp; omega) (fun k hk => by have := (hfit.row.lt k hk).1; omega)
      case measure => simp [intOf]; omega
    · obtain rfl : i = ds.length := by omega
      rw [List.take_length] at hm
      obtain ⟨es, hes, hrise, hkeys⟩ := World.ownsMap.canon hm lawI
      have hap := apart_of_rising hrise
      generalize hDD : rowsRun rest lo hi ds = DD at hm hes ⊢
      subst hes
      rename World => W1
      go_wp2_with (at_range; refine wpList_range_own _ rfl _ 129 rfl 3 3 lawI Tryz.underlying129 _ gb nn _ rfl hm ?_; intro w2 hrg0 hg0 hs0)
      go_frame
      go_loopw [7, 12] (fun acc _ wq => ∃ (left : Lit → Bool) (cnt : Nat) (z : Int), acc = .int .i64 z ∧ wrap64 (z + sumLeft es left) = wrap64 (total (.map es)) ∧ wrap64 z = z ∧ wq.ranges Tryz.prog 3 (plainElem Tryz.prog 3) gb W1.heap.size nn (.map es) left cnt ∧ W1.grownBy wq none)
        (fun _ _ wq => wq.rangeLeft gb W1.heap.size)
      case atStart => exact ⟨_, _, 0, rfl, by rw [total_start hkeys, Int.zero_add], (by unfold wrap64; omega), hrg0, hg0⟩
      case round =>
        obtain ⟨left, cnt, z, rfl, hz, hzw, hrg, hgw⟩ := hrel
        go_wp2_with (at_next; refine wpList_next_ranges_ii _ rfl _ rfl 3 3 .i64 .i64 lawI Tryz.underlying3 Tryz.underlying3 gb W1.heap.size nn _ _ _ rfl hrg ?_ ?_)
        · intro _ hl0
          go_wp2
          go_ret2
          have hBq : Below W1.heap.size W1 wr := (Below.refl _ _).grown hgw (Nat.le_refl _) (fun k hk => by cases hk)
          rw [sumLeft_none hl0, Int.add_zero, hzw] at hz
          exact ⟨_, bs, by rw [hDD, ← hz]; rfl, hfit.below hBq, hB.trans (hBq.mono hsz)⟩
        · intro x cc w3 cnt1 hwx hwc hlx hat hrg1 hlt1 hg1 hs1 hen
          have hgw1 := hgw.andThen hg1 (fun j hj => by cases hj; exact Or.inl (Nat.le_refl _))
          have hstep := sumLeft_step hlx hap hat
          go_wp2
          go_roundw
          case rel =>
            refine ⟨_, cnt1, wrap64 (z + cc), rfl, ?_, ?_, hrg1, hgw1⟩
            · rw [← hz, hstep]; unfold wrap64; omega
            · unfold wrap64; omega
          case measure => rw [hrg1.left_eq, hrg.left_eq]; exact hlt1
end Go.Proofs.YtnoofdjlocadbaaGreatDoor

/-! The iterator over a list of maps, from its end. -/
namespace Go.Proofs.YtnoofdjlocadbaaGreatDoor
open Go.RowKit Go.Shelf Go.Maps

attribute [local go_sem] Oper.semAt_some

/-- Two blocks lie as they lay. -/
def Kept2 (B g : Nat) (W W' : World) : Prop := KeptAt B W W' ∧ KeptAt g W W'

set_option maxHeartbeats 1000000 in
theorem backward_calls (v : Value) (hv : ∃ a n c, v = .slice a n c) (w : World) :
    Calls Tryz.prog 70 #[v] w fun e w' => e = .returned (.func (.func 99) #[] #[.pointer (some ⟨w.heap.size, 0, none⟩)]) ∧ w' = w.alloc (.cells #[v] 89) := by
  obtain ⟨a, n, c, rfl⟩ := hv
  go_enter Tryz.func70, Tryz.ntmps70
  go_wp2
  go_ret
  exact ⟨rfl, rfl⟩
end Go.Proofs.YtnoofdjlocadbaaGreatDoor

/-! A loop over an iterator whose k-th round is known: what is handed to a round is told by the number of rounds before it. -/
namespace Go.Proofs.YtnoofdjlocadbaaGreatDoor
open Go.RowKit Go.Shelf Go.Maps

/-- A round that falls off its end, and how. -/
def nthPost (B : Nat) (Kp : World → World → Prop) (I : World → Prop) (W : World) : Exit → Act → World → Prop
  | .normal, _, W' => KeepsFrom B W W' ∧ Kp W W' ∧ I W'
  | _, _, _ => False

/-- An iterator that hands out (encs 0), (encs 1), .. (encs (N - 1)), to rounds that all go on. -/
def SeqNth (F : Fence) (n : Nat) (P : Program) (gf : Nat) (lb : Array Value) (encs : Nat → Array Value) (Kp : World → World → Prop) (N : Nat) (w : World) : Prop :=
  ∀ (l : Nat) (J : Nat → World → Prop) (W : World), Below w.heap.size w W →
    (∀ k W1, k < N → J k W1 → YieldAt F (n - 1) P l (encs k) W1 fun e W' => e = .returned (.bool true) ∧ J (k + 1) W' ∧ Kp W1 W') →
    J 0 W → CallsIn F n P gf (#[.func (.yield l) #[] #[]] ++ lb) W fun e W' => (∃ v, e = .returned v) ∧ J N W'

variable {F : Fence} {n : Nat} {P : Program}

theorem wpIn_rangeFunc_nth {g : Operand} {ps : Array Tmp} {assign body : Code} {Q : Exit → Act → World → Prop} {a : Act} {w : World} (hro : F.round = none) (h1 : 1 ≤ n) {gf : Nat} {lb : Array Value}
    (hg : a.eval g = .func (.func gf) #[] lb) (hFg : F.fn gf) (eg : ∀ args w, (callFunc gf args).run P w = .ok (.enter gf args) w) {encs : Nat → Array Value} {Kp : World → World → Prop} {N : Nat} {w0 : World}
    (hseq : SeqNth F (n - 1) P gf lb encs Kp N w0) (hKt : ∀ {A B C : World}, Kp A B → Kp B C → Kp A C)
    (hKb : ∀ (W : World) (l : Nat) (o' : Obj), w.heap.size ≤ l → Kp W (W.putObj l o')) (hb0 : Below w0.heap.size w0 w) (hps : ∀ k, (encs k).size = ps.size)
    (I : Nat → World → Prop) (hI : OwnFrom w.heap.size I) (h0 : I 0 w) (a₁ : Nat → Act)
    (hassign : ∀ (l k : Nat) (W : World) (K : Act → World → Prop), K (a₁ k) W →
      assign.wpIn (F.inRound l) (n - 1 - 1) P (Exit.then K (fun _ _ _ => False)) { tmps := (ps.zip (encs k)).foldl (fun t (p, v) => t.setIfInBounds p v) a.tmps, defers := [] } W)
    (hbody : ∀ (l k : Nat) (W : World), k < N → I k W → body.wpIn (F.inRound l) (n - 1 - 1) P (nthPost w.heap.size Kp (I (k + 1)) W) (a₁ k) W)
    (hdone : ∀ (D : Nat) (W : World), w.heap.size ≤ D → I N W → W.heap[D]? = some (.deferred (some [])) → Q .normal { a with defers := { target := .collected D, args := #[] } :: a.defers } W) :
    (Code.rangeFunc g ps assign body).wpIn F n P Q a w := by
  refine wpIn_rangeFunc (fun fn hfn => ?_)
  let r : LoopState → Loop := fun s => { state := s, pending := none, fn, tmps := a.tmps, params := ps, assign, body, defers := w.heap.size }
  let B : World → Prop := fun W => W.heap[w.heap.size]? = some (.deferred (some []))
  let L : LoopState → World → Prop := fun s W => W.heap[w.heap.size + 1]? = some (.loop (r s))
  have turn : ∀ (s s' : LoopState) (k : Nat) (W : World), I k W → B W → L s W → I k (W.putObj (w.heap.size + 1) (.loop (r s'))) ∧ B (W.putObj (w.heap.size + 1) (.loop (r s'))) ∧ L s' (W.putObj (w.heap.size + 1) (.loop (r s'))) := fun s s' k W hi hb hl =>
    ⟨hI.putObj _ hi (by omega) hl rfl, (World.putObj_heap_other (by omega)).trans hb, World.putObj_heap_same (Array.getElem?_eq_some_iff.1 hl).1⟩
  have z1 : (w.alloc (.deferred (some []))).heap.size = w.heap.size + 1 := World.size_alloc _ _
  have i1 : I 0 ((w.alloc (.deferred (some []))).alloc (.loop (r .ready))) := hI.alloc _ (hI.alloc _ h0)
  have b1 : B ((w.alloc (.deferred (some []))).alloc (.loop (r .ready))) := (Below.heap_alloc _ _ _ (by omega)).trans (World.alloc_heap_new w _)
  have l1 : L .ready ((w.alloc (.deferred (some []))).alloc (.loop (r .ready))) := by
    have := World.alloc_heap_new (w.alloc (.deferred (some []))) (.loop (r .ready))
    rwa [z1] at this
  have u1 : Below w0.heap.size w0 ((w.alloc (.deferred (some []))).alloc (.loop (r .ready))) := (hb0.alloc hb0.size _).alloc (by have := hb0.size; omega) _
  refine ⟨w.heap.size + 1, [{ target := .collected w.heap.size, args := #[] }], (w.alloc (.deferred (some []))).alloc (.loop (r .ready)), { target := .fn (.func gf) lb, args := #[.func (.yield (w.heap.size + 1)) #[] #[]] }, (w.alloc (.deferred (some []))).alloc (.loop (r .ready)), gf,
    #[.func (.yield (w.heap.size + 1)) #[] #[]] ++ lb, (w.alloc (.deferred (some []))).alloc (.loop (r .ready)), ?_, ?_, ?_, ?_, fun _ => h1, ?_⟩
  · rw [hro]
    exact run_enterLoop_outer _ _ _ _ _
  · simp only [resolve, hg]
    simp [go_sem]
  · intro f' hf'
    simp [Target.leads] at hf'
    exact hf' ▸ hFg
  · simp [invoke, go_sem, eg]
  refine (hseq (w.heap.size + 1) (fun k W => I k W ∧ B W ∧ L .ready W) _ u1 ?_ ⟨i1, b1, l1⟩).mono ?_
  · rintro k W hk ⟨hi, hb, hl⟩
    refine ⟨fn, _, assign, body, run_yield hl (hps k), roundIn_of_wpIn hfn (hassign _ k W _ ⟨_, run_beginRound hl rfl, ?_⟩)⟩
    obtain ⟨hi2, hb2, hl2⟩ := turn .ready .busy k W hi hb hl
    refine wpIn_mono (hbody _ k _ hk hi2) ?_
    rintro e a3 W3 hp
    cases e with
    | normal =>
      obtain ⟨hk3, hkp3, hi3⟩ := hp
      have hb3 : B W3 := hk3.same _ _ (Nat.le_refl _) hb2 rfl
      have hl3 : L .busy W3 := hk3.same _ _ (by omega) hl2 rfl
      exact ⟨_, _, run_endRound none hl3, rfl, turn .busy .ready _ W3 hi3 hb3 hl3, hKt (hKt (hKb _ _ _ (by omega)) hkp3) (hKb _ _ _ (by omega))⟩
    | _ => exact hp.elim
  · rintro e W2 ⟨⟨v, rfl⟩, hi, hb, hl⟩
    obtain ⟨hi4, hb4, _⟩ := turn .ready .exhausted N W2 hi hb hl
    exact ⟨none, _, run_endLoop hl (by simp [r]), hdone _ _ (Nat.le_refl _) hi4 hb4⟩
end Go.Proofs.YtnoofdjlocadbaaGreatDoor

/-! The iterator over a list of maps, from its end: its rounds by their number. -/
namespace Go.Proofs.YtnoofdjlocadbaaGreatDoor
open Go.RowKit Go.Shelf Go.Maps

attribute [local go_sem] Oper.semAt_some

set_option maxRecDepth 100000 in
set_option maxHeartbeats 2000000 in
theorem back_in (F : Fence) (n : Nat) (h7 : F.fn 99) (hro : F.round = none) (hn : 1 ≤ n) (l Bs g len cap : Nat) (bs : List Nat) (hl0 : 0 < len) (hlc : len ≤ cap) (hlen : len ≤ 1000) (J : Nat → World → Prop)
    (hY : ∀ k W, k < len → J k W → YieldAt F (n - 1) Tryz.prog l #[.int .i64 ((len - 1 - k : Nat) : Int), .map (some (bs.getD (len - 1 - k) 0))] W fun e W' => e = .returned (.bool true) ∧ J (k + 1) W' ∧ Kept2 Bs g W W')
    (W : World) (hb : Blk W Bs 89 #[.slice (some ⟨g, 0, none⟩) len cap]) (hc : ∀ j, j < len → W.cell? ⟨g, j, none⟩ = some (.map (some (bs.getD j 0)))) (hJ : J 0 W) :
    CallsIn F n Tryz.prog 99 #[.func (.yield l) #[] #[], .pointer (some ⟨Bs, 0, none⟩)] W fun e W' => (∃ v, e = .returned v) ∧ J len W' := by
  have c0 : W.cell? ⟨Bs, 0, none⟩ = some (.slice (some ⟨g, 0, none⟩) len cap) := hb.cell 0
  have HC := Lib.hid hc; clear hc
  refine callsIn_of_wp Tryz.func99 rfl h7 ?_ hro
  simp only [Tryz.ntmps99, List.size_toArray, List.length_cons, List.length_nil, Nat.reduceAdd, Nat.reduceSub, Array.replicate_succ, Array.replicate_zero, List.push_toArray, List.append_toArray, List.nil_append, List.cons_append]
  gi_wp2
  gi_loopw [3] (fun i wr => ∃ k : Nat, k ≤ len ∧ i = .int .i64 ((len : Int) - 1 - k) ∧ J k wr ∧ Blk wr Bs 89 #[.slice (some ⟨g, 0, none⟩) len cap] ∧ KeptAt g W wr)
    (fun i _ => (intOf i + 1).toNat)
  case atStart => exact ⟨0, Nat.zero_le _, by simp, hJ, hb, rfl⟩
  case round =>
    obtain ⟨k, hk, rfl, hJs, hbw, hgw⟩ := hrel
    have c1 : wr.cell? ⟨Bs, 0, none⟩ = some (.slice (some ⟨g, 0, none⟩) len cap) := hbw.cell 0
    by_cases hlt : k < len
    · have ei : (len : Int) - 1 - k = ((len - 1 - k : Nat) : Int) := by omega
      have hy0 := hY k wr hlt hJs
      have hm : len - 1 - k < len := by omega
      have hmk : len - 1 - k + k + 1 = len := by omega
      rw [ei]
      generalize len - 1 - k = m at hm hmk ei hy0
      have cm : wr.cell? ⟨g, m, none⟩ = some (.map (some (bs.getD m 0))) := (World.cell?_of_block (w := W) (a := ⟨g, m, none⟩) hgw).trans (HC.out m hm)
      obtain ⟨fn, tmps, assign, body, hy, hR⟩ := hy0
      generalize bs.getD m 0 = bm at cm hy
      gi_wp2
      refine hR.mono ?_
      rintro e W3 ⟨rfl, hJ3, hk3⟩
      have hb3 : Blk W3 Bs 89 #[.slice (some ⟨g, 0, none⟩) len cap] := Eq.trans hk3.1 hbw
      gi_wp2
      go_roundw
      case rel => exact ⟨k + 1, by omega, by (first | (congr 1; done) | (congr 1; omega)), hJ3, hb3, Eq.trans hk3.2 hgw⟩
      case measure => simp only [intOf]; omega
    · obtain rfl : k = len := by omega
      have ei : (k : Int) - 1 - k = -1 := by omega
      rw [ei]
      gi_wp2
      go_end0
      exact ⟨⟨_, rfl⟩, hJs⟩

theorem back_nth (F : Fence) (n : Nat) (h7 : F.fn 99) (hro : F.round = none) (hn : 1 ≤ n) (Bs g len cap : Nat) (bs : List Nat) (hl0 : 0 < len) (hlc : len ≤ cap) (hlen : len ≤ 1000) (w : World)
    (hb : Blk w Bs 89 #[.slice (some ⟨g, 0, none⟩) len cap]) (hg : g < w.heap.size) (hc : ∀ j, j < len → w.cell? ⟨g, j, none⟩ = some (.map (some (bs.getD j 0)))) :
    SeqNth F n Tryz.prog 99 #[.pointer (some ⟨Bs, 0, none⟩)] (fun k => #[Value.int .i64 ((len - 1 - k : Nat) : Int), .map (some (bs.getD (len - 1 - k) 0))]) (Kept2 Bs g) len w := fun l J W hW hY hJ =>
  back_in F n h7 hro hn l Bs g len cap bs hl0 hlc hlen J hY W (hb.below hW hb.lt) (fun j hj => (hW.cell hg).trans (hc j hj)) hJ
end Go.Proofs.YtnoofdjlocadbaaGreatDoor

/-! The least and the greatest year of each strip: the loop's state. -/
namespace Go.Proofs.YtnoofdjlocadbaaGreatDoor
open Go.RowKit Go.Shelf Go.Maps

attribute [local go_sem] Oper.semAt_some

theorem bounds_parts : (Tryz.prog.info? 41).map (fun i => (i.zero, i.size, i.bytes)) = some (some (.agg #[.int .i64 0, .int .i64 0]), 2, 16) := by kernel_rfl
def boundsCells (len : Nat) : Array Value := madeCells (Value.cells (.agg #[.int .i64 0, .int .i64 0])) (len * 2)
theorem boundsCells_size (len : Nat) : (boundsCells len).size = len * 2 := size_madeCells _ _
theorem make_bounds (len : Nat) (hlen : len ≤ 1000) (w : World) : (Instr.makeSlice 53 (.int .i64 (len : Int)) (.int .i64 (len : Int))).run Tryz.prog w = .ok (.slice (some ⟨w.heap.size, 0, none⟩) len len) (w.alloc (.cells (boundsCells len) 41)) := by
  obtain ⟨i, hi, hz, h1, h2⟩ := info_parts bounds_parts
  have := run_make (P := Tryz.prog) w 53 41 i _ Tryz.underlying53 hi hz .i64 .i64 len len (by omega) (Int.le_refl _) (by rw [h2]; omega) (by omega)
  rw [h1] at this
  simpa [boundsCells] using this

/-- What lies while the maps are gone through from the last: k have been read, k' have been struck. -/
structure Sp (w : World) (s len ga N n0 : Nat) (bs : List Nat) (Ds : List (DataW Unit)) (v : Value) (rest : Int) (lat lo hi : Nat → Int) (k k' : Nat) (W : World) : Prop where
  c0 : Blk W s 3 #[.int .i64 rest]
  c1 : Blk W (s + 1) 3 #[.int .i64 (lat k)]
  arr : ∃ cs, Blk W (s + 1 + 1) 41 cs ∧ cs.size = len * 2 ∧ ∀ j, len ≤ j + k → j < len → cs[j * 2]? = some (.int .i64 (lo j)) ∧ cs[j * 2 + 1]? = some (.int .i64 (hi j))
  c3 : Blk W (s + 1 + 1 + 1) 53 #[.slice (some ⟨s + 1 + 1, 0, none⟩) len len]
  c4 : Blk W (s + 1 + 1 + 1 + 1) 89 #[v]
  maps : ∀ j, j + k' < len → W.ownsMap Tryz.prog 3 (plainElem Tryz.prog 3) (bs.getD j 0) N (Ds.getD j (.map []))
  kept : KeptAt ga w W
  bel : Below n0 w W

section
variable {w W W' : World} {s len ga N n0 : Nat} {bs : List Nat} {Ds : List (DataW Unit)} {v : Value} {rest : Int} {lat lo hi : Nat → Int} {k k' : Nat}

theorem grown_of_below (h : Below W.heap.size W W') : W.grownBy W' none := ⟨h.os, h.tape, h.output, h.size, fun k hk _ => h.block k hk⟩

/-- A turn of a block that is none of these. -/
theorem Sp.grown {row : Option Nat} (h : Sp w s len ga N n0 bs Ds v rest lat lo hi k k' W) (hg : W.grownBy W' row) (hr : ∀ r, row = some r → s + 5 ≤ r) (hga : ga < s) (hbs : ∀ j, j < len → bs.getD j 0 < s) (hn0 : n0 ≤ s) : Sp w s len ga N n0 bs Ds v rest lat lo hi k k' W' := by
  obtain ⟨c0, c1, ⟨cs, ca, hcs⟩, c3, c4, maps, kept, bel⟩ := h
  refine ⟨blk_grown c0 hg (fun e => by have := hr _ e.symm; omega), blk_grown c1 hg (fun e => by have := hr _ e.symm; omega), ⟨cs, blk_grown ca hg (fun e => by have := hr _ e.symm; omega), hcs⟩, blk_grown c3 hg (fun e => by have := hr _ e.symm; omega), blk_grown c4 hg (fun e => by have := hr _ e.symm; omega),
    fun j hj => (maps j hj).kept hg (fun e => by have := hr _ e.symm; have := hbs j (by omega); omega), ?_, bel.grown hg (by have := c0.lt; omega) (fun r e => by have := hr r e; omega)⟩
  exact (hg.block ga (by have := c0.lt; omega) (fun e => by have := hr _ e.symm; omega)).trans kept

/-- The last map that has not been gone through is struck. -/
theorem Sp.struck {m : Nat} (h : Sp w s len ga N n0 bs Ds v rest lat lo hi k k W) (hg : W.grownBy W' (some (bs.getD m 0))) (hm : m + k + 1 = len) (hga : ga < s) (hgb : ga ≠ bs.getD m 0) (hbs : ∀ j, j < len → n0 ≤ bs.getD j 0 ∧ bs.getD j 0 < s)
    (hinj : ∀ i j, i < len → j < len → bs.getD i 0 = bs.getD j 0 → i = j) : Sp w s len ga N n0 bs Ds v rest lat lo hi k (k + 1) W' := by
  obtain ⟨c0, c1, ⟨cs, ca, hcs⟩, c3, c4, maps, kept, bel⟩ := h
  have hb := hbs m (by omega)
  have ne : ∀ d, some (s + d) ≠ some (bs.getD m 0) := fun d e => by have := Option.some.inj e; omega
  refine ⟨blk_grown c0 hg (ne 0), blk_grown c1 hg (ne 1), ⟨cs, blk_grown ca hg (ne 2), hcs⟩, blk_grown c3 hg (ne 3), blk_grown c4 hg (ne 4), fun j hj => (maps j (by omega)).kept hg (fun e => ?_), ?_, bel.grown hg (by have := c0.lt; omega) (fun r e => by cases e; exact hb.1)⟩
  · have := hinj j m (by omega) (by omega) (Option.some.inj e)
    omega
  · exact (hg.block ga (by have := c0.lt; omega) (fun e => hgb (Option.some.inj e))).trans kept

/-- The answer for the strip, and the year by which the strip before it must lie, are stored. -/
theorem Sp.stored {m : Nat} (h : Sp w s len ga N n0 bs Ds v rest lat lo hi k (k + 1) W) (hm : m + k + 1 = len) (hga : ga < s) (hbs : ∀ j, j < len → n0 ≤ bs.getD j 0 ∧ bs.getD j 0 < s) (hn0 : n0 ≤ s) :
    Sp w s len ga N n0 bs Ds v rest lat lo hi (k + 1) (k + 1) (((W.setCell ⟨s + 1 + 1, m * 2, none⟩ (.int .i64 (lo m))).setCell ⟨s + 1 + 1, m * 2 + 1, none⟩ (.int .i64 (hi m))).setCell ⟨s + 1, 0, none⟩ (.int .i64 (lat (k + 1)))) := by
  obtain ⟨c0, c1, ⟨cs, ca, hcs, hv⟩, c3, c4, maps, kept, bel⟩ := h
  have hmb : ∀ j, j + (k + 1) < len → bs.getD j 0 < s := fun j hj => (hbs j (by omega)).2
  refine ⟨((c0.far (by dsimp only; omega) _).far (by dsimp only; omega) _).far (by dsimp only; omega) _, ((c1.far (by dsimp only; omega) _).far (by dsimp only; omega) _).set_ 0 _, ⟨_, ((ca.set_ _ _).set_ _ _).far (by dsimp only; omega) _, by simpa using hcs, ?_⟩, ((c3.far (by dsimp only; omega) _).far (by dsimp only; omega) _).far (by dsimp only; omega) _, ((c4.far (by dsimp only; omega) _).far (by dsimp only; omega) _).far (by dsimp only; omega) _,
    fun j hj => (((maps j hj).setCell (by have := hmb j hj; dsimp only; omega) _).setCell (by have := hmb j hj; dsimp only; omega) _).setCell (by have := hmb j hj; dsimp only; omega) _, ?_, ((bel.setCell (by dsimp only; omega) _).setCell (by dsimp only; omega) _).setCell (by dsimp only; omega) _⟩
  · intro j h1 h2
    by_cases hj : j = m
    · subst hj
      constructor
      · rw [Array.getElem?_setIfInBounds_ne (by omega), Array.getElem?_setIfInBounds_self_of_lt (by omega)]
      · rw [Array.getElem?_setIfInBounds_self_of_lt (by simp; omega)]
    · have := hv j (by omega) h2
      constructor
      · rw [Array.getElem?_setIfInBounds_ne (by omega), Array.getElem?_setIfInBounds_ne (by omega)]; exact this.1
      · rw [Array.getElem?_setIfInBounds_ne (by omega), Array.getElem?_setIfInBounds_ne (by omega)]; exact this.2
  · unfold KeptAt
    rw [Below.heap_setCell _ _ _ _ (by dsimp only; omega), Below.heap_setCell _ _ _ _ (by dsimp only; omega), Below.heap_setCell _ _ _ _ (by dsimp only; omega)]
    exact kept
end
end Go.Proofs.YtnoofdjlocadbaaGreatDoor
