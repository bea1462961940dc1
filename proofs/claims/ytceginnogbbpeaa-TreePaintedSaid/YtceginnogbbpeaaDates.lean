/- Dates in general: what it returns. -/
import Derived.Test.YtceginnogbbpeaaDatesNil
namespace Go.Proofs.Ytceginnogbbpeaa
open Go.RowKit Go.Shelf Go.Maps

theorem held_place {α : Type} [Inhabited α] {B : Nat} {w : World} {k : Nat} {enc : α → List Value} {a : Option Addr} {n c : Nat} {xs : List α} (h : Held B w k enc (.slice a n c) xs) {j : Nat} (hj : j < xs.length) :
    ∃ b off : Nat, a = some ⟨b, off, none⟩ ∧ b < B ∧ ∀ j, j < xs.length → ∀ i u, (enc xs[j]!)[i]? = some u → w.cell? ⟨b, off + j * k + i, none⟩ = some u := by
  rcases h with ⟨h1, h2⟩ | ⟨b, off, c', h1, hb, _, hc⟩
  · rw [h2] at hj; cases hj
  · cases h1
    exact ⟨b, off, rfl, hb, hc⟩

/-- The number of rows; the error; the first and the last year of each strip. -/
def rowsOf (rest : Int) (ds : List Int) (lo hi : Int) : Nat := bk lo rest.toNat (hi - lo + 1).toNat ds 0
def datesE (rest : Int) (ds : List Int) (lo hi : Int) : Int := if datesErr rest ds lo hi = 0 then (if rowsOf rest ds lo hi = 0 then 9 else 0) else datesErr rest ds lo hi
def datesN (rest : Int) (ds : List Int) (lo hi : Int) : Int := if datesE rest ds lo hi = 0 then rowsOf rest ds lo hi else 0
def endsOf (rest : Int) (ds : List Int) (lo hi : Int) : List (Int × Int) := (List.range ds.length).map fun j => (minAt lo rest.toNat ds j, maxAt hi rest.toNat ds j)
def datesL (rest : Int) (ds : List Int) (lo hi : Int) : List (Int × Int) := if datesE rest ds lo hi = 0 then endsOf rest ds lo hi else []

theorem endsOf_length (rest : Int) (ds : List Int) (lo hi : Int) : (endsOf rest ds lo hi).length = ds.length := by simp [endsOf]
theorem endsOf_at (rest : Int) (ds : List Int) (lo hi : Int) {j : Nat} (hj : j < ds.length) : (endsOf rest ds lo hi)[j]! = (minAt lo rest.toNat ds j, maxAt hi rest.toNat ds j) := by
  rw [getElem!_pos _ j (by rw [endsOf_length]; exact hj)]
  simp [endsOf]

/-- What Dates leaves. -/
def DatesPost (rest : Int) (ds : List Int) (lo hi : Int) (w : World) (e : Ending) (w' : World) : Prop :=
  ∃ v' : Value, e = .returned (.tuple #[v', .int .i64 (datesN rest ds lo hi), .int .i64 (datesE rest ds lo hi)]) ∧ Held w'.heap.size w' 2 stripCells v' (datesL rest ds lo hi) ∧ Below w.heap.size w w'

set_option maxHeartbeats 1000000 in
theorem dates_wrong (v : Value) (ds : List Int) (rest lo hi : Int) (w : World) (h : Held w.heap.size w 1 intCells v ds) (he : datesErr rest ds lo hi ≠ 0) :
    Calls Try.prog 18 #[.int .i64 rest, v, .agg #[.int .i64 lo, .int .i64 hi]] w (DatesPost rest ds lo hi w) := by
  have hE : datesE rest ds lo hi = datesErr rest ds lo hi := by unfold datesE; rw [if_neg he]
  have hN : datesN rest ds lo hi = 0 := by unfold datesN; rw [hE, if_neg he]
  have hL : datesL rest ds lo hi = [] := by unfold datesL; rw [hE, if_neg he]
  have HC := Lib.hid (show ∀ W, Below w.heap.size w W → _ from fun W (hW : Below w.heap.size w W) => checkDates_calls ((h.below hW).mono hW.size) rest lo hi)
  have HE := Lib.hid hE
  have HN := Lib.hid hN
  have HL := Lib.hid hL
  clear h hE hN hL
  have hne := bne_iff_ne.2 he
  generalize datesErr rest ds lo hi = er at HC HE hne he
  clear he
  go_enter Try.func18, Try.ntmps18
  go_wp2_with (go_at_call 31; refine (HC.out _ ((Below.refl _ _).alloc (Nat.le_refl _) _)).mono ?_; rintro e w1 ⟨rfl, hw1⟩; have hB1 : Below w.heap.size w w1 := ((Below.refl _ _).alloc (Nat.le_refl _) (.cells #[.int .i64 lo, .int .i64 hi] 41)).trans (hw1.mono (by simp)); clear hw1)
  refine bodyPost_ret (results_tmp3 rfl _ _ _) rfl ?_
  exact ⟨.slice none 0 0, by rw [HN.out, HE.out]; rfl, by rw [HL.out]; exact .inl ⟨⟨none, 0, rfl⟩, rfl⟩, hB1⟩

set_option maxHeartbeats 1000000 in
theorem dates_none (a : Option Addr) (c : Nat) (rest lo hi : Int) (w : World) (he : datesErr rest [] lo hi = 0) :
    Calls Try.prog 18 #[.int .i64 rest, .slice a 0 c, .agg #[.int .i64 lo, .int .i64 hi]] w (DatesPost rest [] lo hi w) := by
  obtain ⟨⟨hr0, hr1⟩, ⟨h0, h1, h2⟩, _, _⟩ := dates_good he
  have hE : datesE rest [] lo hi = 0 := by unfold datesE; rw [if_pos he, if_neg (show ¬ rowsOf rest [] lo hi = 0 by simp [rowsOf, bk])]
  have hN : datesN rest [] lo hi = 1 := by unfold datesN; rw [hE, if_pos rfl]; rfl
  have hL : datesL rest [] lo hi = [] := by unfold datesL; rw [hE, if_pos rfl]; rfl
  have HC := Lib.hid (show ∀ W, _ from fun W => he ▸ checkDates_calls (w := W) (.inl ⟨⟨a, c, rfl⟩, rfl⟩ : Held W.heap.size W 1 intCells (.slice a 0 c) []) rest lo hi)
  have HE := Lib.hid hE
  have HN := Lib.hid hN
  have HL := Lib.hid hL
  clear hE hN hL he
  go_enter Try.func18, Try.ntmps18
  go_wp2_with (first
    | (go_at_call 31; refine (HC.out _).mono ?_; rintro e w1 ⟨rfl, hw1⟩; have hB1 : Below w.heap.size w w1 := ((Below.refl _ _).alloc (Nat.le_refl _) (.cells #[.int .i64 lo, .int .i64 hi] 41)).trans (hw1.mono (by simp)); have k1 : Blk w1 w.heap.size 41 #[.int .i64 lo, .int .i64 hi] := Blk.below (Blk.new w _ _) hw1 (by simp); have b0 : w1.cell? ⟨w.heap.size, 0, none⟩ = some (.int .i64 lo) := k1.cell 0; have b1 : w1.cell? ⟨w.heap.size, 1, none⟩ = some (.int .i64 hi) := k1.cell 1; clear hw1)
    | (go_at_call 32; refine (follow_nil _ _ rest lo hi _ hr0 hr1 h0 h1 h2).mono ?_; rintro e w2 ⟨rfl, hw2⟩; have hB2 : Below w.heap.size w w2 := hB1.trans (hw2.mono hB1.size); have k2 := k1.below hw2 k1.lt; have c1 : w2.cell? ⟨w.heap.size, 1, none⟩ = some (.int .i64 hi) := k2.cell 1; clear hw2)
    | (go_at_call 33; refine (spans_nil rest hi _).mono ?_; rintro e w3 ⟨g, rfl, hw3⟩; have hB3 : Below w.heap.size w w3 := hB2.trans (hw3.mono hB2.size); clear hw3))
  refine bodyPost_ret (results_tmp3 rfl _ _ _) rfl ?_
  exact ⟨_, by rw [HN.out, HE.out]; rfl, by rw [HL.out]; exact .inl ⟨⟨_, _, rfl⟩, rfl⟩, hB3⟩

set_option maxRecDepth 100000 in
set_option maxHeartbeats 1000000 in
theorem dates_against (b off c : Nat) (ds : List Int) (rest lo hi : Int) (w : World) (he : datesErr rest ds lo hi = 0) (hz : rowsOf rest ds lo hi = 0) (h : Held w.heap.size w 1 intCells (.slice (some ⟨b, off, none⟩) ds.length c) ds) (hb : b < w.heap.size)
    (hc : ∀ j, j < ds.length → w.cell? ⟨b, off + j, none⟩ = some (.int .i64 (ds.getD j 0))) :
    Calls Try.prog 18 #[.int .i64 rest, .slice (some ⟨b, off, none⟩) ds.length c, .agg #[.int .i64 lo, .int .i64 hi]] w (DatesPost rest ds lo hi w) := by
  obtain ⟨⟨hr0, hr1⟩, ⟨h0, h1, h2⟩, hl, hall⟩ := dates_good he
  have hE : datesE rest ds lo hi = 9 := by unfold datesE; rw [if_pos he, if_pos hz]
  have hN : datesN rest ds lo hi = 0 := by unfold datesN; rw [hE, if_neg (by decide)]
  have hL : datesL rest ds lo hi = [] := by unfold datesL; rw [hE, if_neg (by decide)]
  have HC := Lib.hid (show ∀ W, Below w.heap.size w W → _ from fun W (hW : Below w.heap.size w W) => he ▸ checkDates_calls ((h.below hW).mono hW.size) rest lo hi)
  have HT := Lib.hid (show wrap64 (total (rowsRun rest lo hi ds)) = 0 from by
    rw [total_run rest lo hi rest.toNat (hi - lo + 1).toNat (by omega) (by omega) h0 h1 h2 rfl ds hl]
    unfold rowsOf at hz
    rw [hz]; rfl)
  have HE := Lib.hid hE
  have HN := Lib.hid hN
  have HL := Lib.hid hL
  have HD := Lib.hid hc
  clear hE hN hL he hz h hc hall
  go_enter Try.func18, Try.ntmps18
  go_wp2_with (first
    | (go_at_call 31; refine (HC.out _ ((Below.refl _ _).alloc (Nat.le_refl _) _)).mono ?_; rintro e w1 ⟨rfl, hw1⟩; have hB1 : Below w.heap.size w w1 := ((Below.refl _ _).alloc (Nat.le_refl _) (.cells #[.int .i64 lo, .int .i64 hi] 41)).trans (hw1.mono (by simp)); have k1 : Blk w1 w.heap.size 41 #[.int .i64 lo, .int .i64 hi] := Blk.below (Blk.new w _ _) hw1 (by simp); have b0 : w1.cell? ⟨w.heap.size, 0, none⟩ = some (.int .i64 lo) := k1.cell 0; have b1 : w1.cell? ⟨w.heap.size, 1, none⟩ = some (.int .i64 hi) := k1.cell 1; clear hw1)
    | (go_at_call 32; refine (follow_calls b off c ds rest lo hi w1 hr0 hr1 h0 h1 h2 (Nat.lt_of_lt_of_le hb hB1.size) (by omega) (fun j hj => (hB1.cell hb).trans (HD.out j hj))).mono ?_; rintro e w2 ⟨v, bs, rfl, _, hw2⟩; rw [HT.out]; have hB2 : Below w.heap.size w w2 := hB1.trans (hw2.mono hB1.size); clear hw2))
  refine bodyPost_ret (results_tmp3 rfl _ _ _) rfl ?_
  exact ⟨_, by rw [HN.out, HE.out]; rfl, by rw [HL.out]; exact .inl ⟨⟨_, _, rfl⟩, rfl⟩, hB2⟩

set_option maxRecDepth 100000 in
set_option maxHeartbeats 1000000 in
theorem dates_some (b off c : Nat) (ds : List Int) (rest lo hi : Int) (w : World) (he : datesErr rest ds lo hi = 0) (hz : rowsOf rest ds lo hi ≠ 0) (h : Held w.heap.size w 1 intCells (.slice (some ⟨b, off, none⟩) ds.length c) ds) (hb : b < w.heap.size) (hpos : 0 < ds.length)
    (hc : ∀ j, j < ds.length → w.cell? ⟨b, off + j, none⟩ = some (.int .i64 (ds.getD j 0))) :
    Calls Try.prog 18 #[.int .i64 rest, .slice (some ⟨b, off, none⟩) ds.length c, .agg #[.int .i64 lo, .int .i64 hi]] w (DatesPost rest ds lo hi w) := by
  obtain ⟨⟨hr0, hr1⟩, ⟨h0, h1, h2⟩, hl, hall⟩ := dates_good he
  have hE : datesE rest ds lo hi = 0 := by unfold datesE; rw [if_pos he, if_neg hz]
  have hN : datesN rest ds lo hi = rowsOf rest ds lo hi := by unfold datesN; rw [hE, if_pos rfl]
  have hL : datesL rest ds lo hi = endsOf rest ds lo hi := by unfold datesL; rw [hE, if_pos rfl]
  have HC := Lib.hid (show ∀ W, Below w.heap.size w W → _ from fun W (hW : Below w.heap.size w W) => he ▸ checkDates_calls ((h.below hW).mono hW.size) rest lo hi)
  have hp : 0 < bk lo rest.toNat (hi - lo + 1).toNat ds 0 := by unfold rowsOf at hz; omega
  have HT := Lib.hid (show wrap64 (total (rowsRun rest lo hi ds)) = rowsOf rest ds lo hi from total_run rest lo hi rest.toNat (hi - lo + 1).toNat (by omega) (by omega) h0 h1 h2 rfl ds hl)
  have hends := dates_ends rest lo hi rest.toNat (hi - lo + 1).toNat (by omega) (by omega) h0 h1 h2 rfl ds hl hall hp
  have hbd : ∀ j, j < ds.length → lo ≤ minAt lo rest.toNat ds j ∧ minAt lo rest.toNat ds j ≤ maxAt hi rest.toNat ds j ∧ maxAt hi rest.toNat ds j ≤ hi := fun j hj => max_at_le lo hi rest.toNat (hi - lo + 1).toNat (by omega) ds hall hp (by omega) hj
  have HX := Lib.hid (show ∀ k, k < (fits rest lo hi ds ds.length).length → 0 < (spanKeys ((fits rest lo hi ds ds.length).getD ((fits rest lo hi ds ds.length).length - 1 - k) (.map [])) (latAt (fits rest lo hi ds ds.length) rest hi k)).length ∧ -1000 ≤ spanHi ((fits rest lo hi ds ds.length).getD ((fits rest lo hi ds ds.length).length - 1 - k) (.map [])) (latAt (fits rest lo hi ds ds.length) rest hi k) ∧ spanHi ((fits rest lo hi ds ds.length).getD ((fits rest lo hi ds ds.length).length - 1 - k) (.map [])) (latAt (fits rest lo hi ds ds.length) rest hi k) ≤ 1000 from fun k hk => by
    rw [fits_length] at hk ⊢
    obtain ⟨_, e1, _, e3⟩ := hends k hk
    have := hbd (ds.length - 1 - k) (by omega)
    rw [e3]
    exact ⟨e1, by omega, by omega⟩)
  have HY := Lib.hid (show ∀ j, j < ds.length → spanLo ((fits rest lo hi ds ds.length).getD j (.map [])) (latAt (fits rest lo hi ds ds.length) rest hi ((fits rest lo hi ds ds.length).length - 1 - j)) = minAt lo rest.toNat ds j ∧ spanHi ((fits rest lo hi ds ds.length).getD j (.map [])) (latAt (fits rest lo hi ds ds.length) rest hi ((fits rest lo hi ds ds.length).length - 1 - j)) = maxAt hi rest.toNat ds j from fun j hj => by
    rw [fits_length]
    obtain ⟨_, _, e2, e3⟩ := hends (ds.length - 1 - j) (by omega)
    rw [show ds.length - 1 - (ds.length - 1 - j) = j by omega] at e2 e3
    exact ⟨e2, e3⟩)
  have HFl := Lib.hid (show (fits rest lo hi ds ds.length).length = ds.length from fits_length ..)
  have HE := Lib.hid hE
  have HN := Lib.hid hN
  have HL := Lib.hid hL
  have HD := Lib.hid hc
  have hwb : (((rowsOf rest ds lo hi : Nat) : Int) == 0) = false := by simp; omega
  generalize rowsOf rest ds lo hi = m at HN HT hwb
  clear hE hN hL he hz h hc hall hends hbd hp
  have HF := Lib.hid (show ∀ W, Below w.heap.size w W → Calls Try.prog 32 #[.int .i64 rest, .slice (some ⟨b, off, none⟩) ds.length c, .agg #[.int .i64 lo, .int .i64 hi]] W fun e W' => ∃ (v : Value) (bs : List Nat), e = .returned (.tuple #[v, .int .i64 (m : Int)]) ∧ Fit' W' (W.heap.size + 1) (hi - lo + 1).toNat (fits rest lo hi ds ds.length) v bs ∧ Below W.heap.size W W' from fun W hW => by
    have := follow_calls b off c ds rest lo hi W hr0 hr1 h0 h1 h2 (Nat.lt_of_lt_of_le hb hW.size) (by omega) (fun j hj => (hW.cell hb).trans (HD.out j hj))
    rwa [HT.out] at this)
  clear HT
  have hN1 : (hi - lo + 1).toNat ≤ 1000 := by omega
  generalize fits rest lo hi ds ds.length = Fs at HX HY HFl HF
  generalize (hi - lo + 1).toNat = N at HF hN1
  have hFp : 0 < Fs.length := by rw [HFl.out]; exact hpos
  have hFm : Fs.length ≤ 1000 := by rw [HFl.out]; omega
  go_enter Try.func18, Try.ntmps18
  go_wp2_with (first
    | (go_at_call 31; refine (HC.out _ ((Below.refl _ _).alloc (Nat.le_refl _) _)).mono ?_; rintro e w1 ⟨rfl, hw1⟩; have hB1 : Below w.heap.size w w1 := ((Below.refl _ _).alloc (Nat.le_refl _) (.cells #[.int .i64 lo, .int .i64 hi] 41)).trans (hw1.mono (by simp)); have k1 : Blk w1 w.heap.size 41 #[.int .i64 lo, .int .i64 hi] := Blk.below (Blk.new w _ _) hw1 (by simp); have b0 : w1.cell? ⟨w.heap.size, 0, none⟩ = some (.int .i64 lo) := k1.cell 0; have b1 : w1.cell? ⟨w.heap.size, 1, none⟩ = some (.int .i64 hi) := k1.cell 1; clear hw1)
    | (go_at_call 32; refine (HF.out _ hB1).mono ?_; rintro e w2 ⟨v, bs, rfl, hfit, hw2⟩; have hB2 : Below w.heap.size w w2 := hB1.trans (hw2.mono hB1.size); have k2 := k1.below hw2 k1.lt; have c1 : w2.cell? ⟨w.heap.size, 1, none⟩ = some (.int .i64 hi) := k2.cell 1; have hn0 : w1.heap.size + 1 ≤ w2.heap.size := (by have h2 := hfit.at_ 0 (by rw [hfit.len]; exact hFp); have := h2.1; have := h2.2.lt; omega); have hs1 := hB1.size; clear hw2; obtain ⟨va, vn, vc, rfl⟩ : ∃ a n c, v = .slice a n c := (by rcases hfit.row.2 with ⟨h, _⟩ | ⟨g, cap, _, h, _⟩ <;> exact ⟨_, _, _, h⟩))
    | (go_at_call 33; refine (spans_calls (w1.heap.size + 1) N Fs _ bs rest hi w2 hfit hFp hFm hN1 HX.out hr0 hr1 hn0).mono ?_; rintro e w3 ⟨g, cs, hg, rfl, hblk, hcs, hw3⟩; have hB3 : Below w.heap.size w w3 := hB2.trans (hw3.mono (by omega)); clear hw3))
  refine bodyPost_ret (results_tmp3 rfl _ _ _) rfl ?_
  refine ⟨.slice (some ⟨g, 0, none⟩) Fs.length Fs.length, by rw [HN.out, HE.out]; rfl, ?_, hB3⟩
  rw [HL.out, HFl.out]
  refine .inr ⟨g, 0, ds.length, by rw [endsOf_length], hblk.lt, ⟨by rw [endsOf_length]; exact Nat.le_refl _, by rw [endsOf_length]; omega, by omega⟩, fun j hj i u hu => ?_⟩
  rw [endsOf_length] at hj
  rw [endsOf_at rest ds lo hi hj] at hu
  obtain ⟨y1, y2⟩ := hcs j (by rw [HFl.out]; exact hj)
  obtain ⟨e1, e2⟩ := HY.out j hj
  rw [e1] at y1
  rw [e2] at y2
  rw [Nat.zero_add, hblk.cell]
  match i, hu with
  | 0, hu => simp only [stripCells, List.getElem?_cons_zero, Option.some.injEq] at hu; rw [Nat.add_zero, y1, hu]
  | 1, hu => simp only [stripCells, List.getElem?_cons_succ, List.getElem?_cons_zero, Option.some.injEq] at hu; rw [y2, hu]
  | i + 2, hu => simp [stripCells] at hu

theorem dates_calls {v : Value} {ds : List Int} {w : World} (h : Held w.heap.size w 1 intCells v ds) (rest lo hi : Int) :
    Calls Try.prog 18 #[.int .i64 rest, v, .agg #[.int .i64 lo, .int .i64 hi]] w (DatesPost rest ds lo hi w) := by
  by_cases he : datesErr rest ds lo hi = 0
  · rcases h with ⟨⟨a, c, rfl⟩, rfl⟩ | ⟨b, off, c, rfl, hb, hl, hc⟩
    · exact dates_none a c rest lo hi w he
    · have hc' : ∀ j, j < ds.length → w.cell? ⟨b, off + j, none⟩ = some (.int .i64 (ds.getD j 0)) := fun j hj => by
        have := hc j hj 0 _ rfl
        rw [Nat.mul_one, Nat.add_zero, getElem!_pos ds j hj] at this
        rw [this, List.getD_eq_getElem?_getD, List.getElem?_eq_getElem hj]; rfl
      have h : Held w.heap.size w 1 intCells (.slice (some ⟨b, off, none⟩) ds.length c) ds := .inr ⟨b, off, c, rfl, hb, hl, hc⟩
      by_cases hd : ds = []
      · subst hd
        exact dates_none _ c rest lo hi w he
      · by_cases hz : rowsOf rest ds lo hi = 0
        · exact dates_against b off c ds rest lo hi w he hz h hb hc'
        · exact dates_some b off c ds rest lo hi w he hz h hb (List.length_pos_iff.2 hd) hc'
  · exact dates_wrong v ds rest lo hi w h he
end Go.Proofs.Ytceginnogbbpeaa
