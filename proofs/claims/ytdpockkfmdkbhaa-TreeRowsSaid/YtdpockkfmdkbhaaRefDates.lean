/- The document's Dates: it returns what the program's does. -/
import Derived.Test.YtdpockkfmdkbhaaRefAfter
import Derived.Test.YtdpockkfmdkbhaaRowsFacts
namespace Go.Proofs.Ytdpockkfmdkbhaa
open Go.RowKit Go.Shelf Go.Maps

theorem held_digit {B : Nat} {w : World} {a : Option Addr} {n c : Nat} {ds : List Int} (h : Held B w 1 intCells (.slice a n c) ds) {j : Nat} (hj : j < ds.length) :
    ∃ b off : Nat, a = some ⟨b, off, none⟩ ∧ b < B ∧ w.cell? ⟨b, off + j, none⟩ = some (.int .i64 (ds.getD j 0)) := by
  obtain ⟨b, off, e, hb, hc⟩ := held_place h hj
  refine ⟨b, off, e, hb, ?_⟩
  have := hc j hj 0 _ rfl
  rw [Nat.mul_one, Nat.add_zero, getElem!_pos ds j hj] at this
  rw [this, List.getD_eq_getElem?_getD, List.getElem?_eq_getElem hj]; rfl

theorem thr_le (lo : Int) (r : Nat) (hr : r ≤ 30) : ∀ s : List Int, (∀ d ∈ s, -1 ≤ d ∧ d ≤ 9) → thr lo r s ≤ lo + 39 * s.length
  | [], _ => by simp [thr]
  | d :: s, h => by
    have h1 := thr_le lo r hr s (fun d hd => h d (by simp [hd]))
    have h2 := (nxt_spec (y := thr lo r s) (h d (by simp)).1 (h d (by simp)).2).2.1
    simp only [thr, List.length_cons]; omega

/-- A step of the search for the first year that fits, and for the last one. -/
theorem nxt_more {d T y : Int} (h0 : -1 ≤ d) (h1 : d ≤ 9) (_hT : T ≤ y) (hM : y ≤ nxt d T) (hf : fitsB y d = false) : y + 1 ≤ nxt d T := by
  obtain ⟨_, _, n3, _⟩ := nxt_spec (y := T) h0 h1
  by_cases e : y = nxt d T
  · rw [e, n3] at hf; cases hf
  · omega
theorem nxt_stop {d T y : Int} (h0 : -1 ≤ d) (h1 : d ≤ 9) (hT : T ≤ y) (hM : y ≤ nxt d T) (hf : fitsB y d = true) : nxt d T = y := by
  have := (nxt_spec (y := T) h0 h1).2.2.2 y hT hf
  omega
theorem prv_more {d T y : Int} (h0 : -1 ≤ d) (h1 : d ≤ 9) (_hT : y ≤ T) (hM : prv d T ≤ y) (hf : fitsB y d = false) : prv d T ≤ y - 1 := by
  obtain ⟨_, _, n3, _⟩ := prv_spec (y := T) h0 h1
  by_cases e : y = prv d T
  · rw [e, n3] at hf; cases hf
  · omega
theorem prv_stop {d T y : Int} (h0 : -1 ≤ d) (h1 : d ≤ 9) (hT : y ≤ T) (hM : prv d T ≤ y) (hf : fitsB y d = true) : prv d T = y := by
  have := (prv_spec (y := T) h0 h1).2.2.2 y hT hf
  omega

set_option maxHeartbeats 1000000 in
theorem refDates_v1 (rest : Int) (v : Value) (lo hi : Int) (w : World) (r1 : inB rest 1 30 = false) :
    Calls Try.prog 19 #[.int .i64 rest, v, .agg #[.int .i64 lo, .int .i64 hi]] w fun e w' => e = .returned (.tuple #[.slice none 0 0, .int .i64 0, .int .i64 1]) ∧ Below w.heap.size w w' := by
  go_enter Try.func19, Try.ntmps19
  go_wp2_with (first | (go_at_call 14; refine (in_calls _ _ _ _).mono ?_; rintro e w' ⟨rfl, rfl⟩) | (go_at_call 21; refine (bounded_calls _ _ _ _ _).mono ?_; rintro e w' ⟨rfl, rfl⟩))
  refine bodyPost_ret (results_tmp3 rfl _ _ _) rfl ?_
  exact ⟨rfl, (by repeat (first | exact Below.refl _ _ | refine Below.alloc ?_ (by simp <;> omega) _))⟩
set_option maxHeartbeats 1000000 in
theorem refDates_v2 (rest : Int) (v : Value) (lo hi : Int) (w : World) (r1 : inB rest 1 30 = true) (r2 : boundsB lo hi 0 300 = false) :
    Calls Try.prog 19 #[.int .i64 rest, v, .agg #[.int .i64 lo, .int .i64 hi]] w fun e w' => e = .returned (.tuple #[.slice none 0 0, .int .i64 0, .int .i64 1]) ∧ Below w.heap.size w w' := by
  go_enter Try.func19, Try.ntmps19
  go_wp2_with (first | (go_at_call 14; refine (in_calls _ _ _ _).mono ?_; rintro e w' ⟨rfl, rfl⟩) | (go_at_call 21; refine (bounded_calls _ _ _ _ _).mono ?_; rintro e w' ⟨rfl, rfl⟩))
  refine bodyPost_ret (results_tmp3 rfl _ _ _) rfl ?_
  exact ⟨rfl, (by repeat (first | exact Below.refl _ _ | refine Below.alloc ?_ (by simp <;> omega) _))⟩
set_option maxHeartbeats 1000000 in
theorem refDates_many (rest : Int) (a : Option Addr) (n c : Nat) (lo hi : Int) (w : World) (r1 : inB rest 1 30 = true) (r2 : boundsB lo hi 0 300 = true) (h : (10 : Int) < (n : Int)) :
    Calls Try.prog 19 #[.int .i64 rest, .slice a n c, .agg #[.int .i64 lo, .int .i64 hi]] w fun e w' => e = .returned (.tuple #[.slice none 0 0, .int .i64 0, .int .i64 2]) ∧ Below w.heap.size w w' := by
  go_enter Try.func19, Try.ntmps19
  go_wp2_with (first | (go_at_call 14; refine (in_calls _ _ _ _).mono ?_; rintro e w' ⟨rfl, rfl⟩) | (go_at_call 21; refine (bounded_calls _ _ _ _ _).mono ?_; rintro e w' ⟨rfl, rfl⟩))
  refine bodyPost_ret (results_tmp3 rfl _ _ _) rfl ?_
  exact ⟨rfl, (by repeat (first | exact Below.refl _ _ | refine Below.alloc ?_ (by simp <;> omega) _))⟩

theorem rowsOf_abs (rest : Int) (ds : List Int) (lo hi : Int) (h0 : 0 ≤ lo) (h1 : lo ≤ hi) : bk 0 rest.toNat (hi + 1).toNat ds lo.toNat = rowsOf rest ds lo hi := by
  obtain ⟨m, rfl⟩ : ∃ m : Nat, lo = (m : Int) := ⟨lo.toNat, by omega⟩
  unfold rowsOf
  rw [bk_abs, Int.toNat_natCast, Nat.add_zero]
  congr 1; omega

/-- The row of bounds while it is filled. -/
def EndRow (cs : Array Value) (len i k : Nat) (f g : Nat → Int) : Prop := cs.size = len * 2 ∧ (∀ j, j < i → cs[j * 2]? = some (.int .i64 (f j))) ∧ (∀ j, k ≤ j → j < len → cs[j * 2 + 1]? = some (.int .i64 (g j)))
theorem EndRow.some0 {cs : Array Value} {len i k : Nat} {f g : Nat → Int} (h : EndRow cs len i k f g) {j : Nat} (hj : j < len) : ∃ x, cs[j * 2]? = some x := ⟨_, Array.getElem?_eq_getElem (by rw [h.1]; omega)⟩
theorem EndRow.some1 {cs : Array Value} {len i k : Nat} {f g : Nat → Int} (h : EndRow cs len i k f g) {j : Nat} (hj : j < len) : ∃ x, cs[j * 2 + 1]? = some x := ⟨_, Array.getElem?_eq_getElem (by rw [h.1]; omega)⟩
theorem EndRow.first {cs : Array Value} {len i k : Nat} {f g : Nat → Int} (h : EndRow cs len i k f g) (hi : i < len) {v : Int} (hv : f i = v) : EndRow (cs.setIfInBounds (i * 2) (.int .i64 v)) len (i + 1) k f g := by
  obtain ⟨h1, h2, h3⟩ := h
  refine ⟨by rw [Array.size_setIfInBounds]; exact h1, fun j hj => ?_, fun j hk hj => ?_⟩
  · by_cases e : j = i
    · subst e; rw [Array.getElem?_setIfInBounds_self_of_lt (by omega), hv]
    · rw [Array.getElem?_setIfInBounds_ne (by omega)]; exact h2 j (by omega)
  · rw [Array.getElem?_setIfInBounds_ne (by omega)]; exact h3 j hk hj
theorem EndRow.last {cs : Array Value} {len i k : Nat} {f g : Nat → Int} (h : EndRow cs len i (k + 1) f g) (hk : k < len) {v : Int} (hv : g k = v) : EndRow (cs.setIfInBounds (k * 2 + 1) (.int .i64 v)) len i k f g := by
  obtain ⟨h1, h2, h3⟩ := h
  refine ⟨by rw [Array.size_setIfInBounds]; exact h1, fun j hj => ?_, fun j hk' hj => ?_⟩
  · rw [Array.getElem?_setIfInBounds_ne (by omega)]; exact h2 j hj
  · by_cases e : j = k
    · subst e; rw [Array.getElem?_setIfInBounds_self_of_lt (by omega), hv]
    · rw [Array.getElem?_setIfInBounds_ne (by omega)]; exact h3 j (by omega) hj

set_option maxRecDepth 100000 in
set_option maxHeartbeats 4000000 in
theorem refDates_walk (a : Option Addr) (c : Nat) (ds : List Int) (rest lo hi : Int) (w : World) (r1 : inB rest 1 30 = true) (r2 : boundsB lo hi 0 300 = true) (hl : ds.length ≤ 10) (h : Held w.heap.size w 1 intCells (.slice a ds.length c) ds) :
    Calls Try.prog 19 #[.int .i64 rest, .slice a ds.length c, .agg #[.int .i64 lo, .int .i64 hi]] w (DatesPost rest ds lo hi w) := by
  obtain ⟨hr0, hr1⟩ : 1 ≤ rest ∧ rest ≤ 30 := by simpa [inB] using r1
  obtain ⟨h0, h1, h2⟩ : 0 ≤ lo ∧ lo ≤ hi ∧ hi ≤ 300 := by simpa [boundsB] using r2
  have hl' : (ds.length : Int) ≤ 10 := by omega
  have HE := Lib.hid (show datesErr rest ds lo hi = digitsErr ds from by unfold datesErr; rw [if_pos (by simp [r1, r2]), if_neg (by omega)])
  have HR := Lib.hid (show digitsErr ds = digitsErr (ds.drop 0) from rfl)
  generalize digitsErr ds = r at HE HR
  have HH := Lib.hid h; clear h
  have hB0 : Below w.heap.size w ((w.alloc (.cells #[.int .i64 lo, .int .i64 hi] 41)).alloc (.cells #[.int .i64 lo, .int .i64 hi] 41)) := ((Below.refl _ _).alloc (Nat.le_refl _) _).alloc (by simp) _
  have K0 := (Blk.new w 41 #[.int .i64 lo, .int .i64 hi]).alloc (.cells #[.int .i64 lo, .int .i64 hi] 41)
  go_enter Try.func19, Try.ntmps19
  go_wp2_with (first | (go_at_call 14; refine (in_calls _ _ _ _).mono ?_; rintro e w' ⟨rfl, rfl⟩) | (go_at_call 21; refine (bounded_calls _ _ _ _ _).mono ?_; rintro e w' ⟨rfl, rfl⟩))
  generalize (w.alloc (.cells #[.int .i64 lo, .int .i64 hi] 41)).alloc (.cells #[.int .i64 lo, .int .i64 hi] 41) = w1 at hB0 K0 ⊢
  have b0 : w1.cell? ⟨w.heap.size, 0, none⟩ = some (.int .i64 lo) := K0.cell 0
  have b1 : w1.cell? ⟨w.heap.size, 1, none⟩ = some (.int .i64 hi) := K0.cell 1
  have K0 := Lib.hid K0
  go_loop [9] (fun i => ∃ k : Nat, k ≤ ds.length ∧ i = .int .i64 k ∧ Hid (r = digitsErr (ds.drop k))) (fun i => ds.length - (intOf i).toNat)
  case atStart => exact ⟨0, by omega, rfl, HR⟩
  case round =>
    clear HR
    obtain ⟨k, hk, rfl, HR⟩ := hrel
    by_cases hlt : k < ds.length
    · obtain ⟨b, off, rfl, hb, hcell⟩ := held_place HH.out hlt
      have c0 : w1.cell? ⟨b, off + k, none⟩ = some (.int .i64 ds[k]!) := (hB0.cell (p := ⟨b, off + k, none⟩) hb).trans (by have := hcell k hlt 0 _ rfl; rwa [Nat.mul_one, Nat.add_zero] at this)
      clear hcell
      have hlt' : (k : Int) < (ds.length : Int) := by omega
      generalize hx : ds[k]! = y at c0
      have HX := Lib.hid hx; clear hx
      cases h1 : inB y (-1) 9
      · have HS := Lib.hid (digits_bad ds k hlt r HR.out (by rw [HX.out, h1]))
        go_wp2_with (go_at_call 14; refine (in_calls _ _ _ _).mono ?_; rintro e w' ⟨rfl, rfl⟩)
        refine bodyPost_ret (results_tmp3 rfl _ _ _) rfl ?_
        have hd : datesErr rest ds lo hi ≠ 0 := by rw [HE.out, HS.out]; decide
        obtain ⟨e1, _, e3⟩ := dates_bad hd
        have e2 : datesE rest ds lo hi = 1 := by unfold datesE; rw [if_neg hd, HE.out, HS.out]
        exact ⟨.slice none 0 0, by rw [e1, e2]; rfl, by rw [e3]; exact .inl ⟨⟨none, 0, rfl⟩, rfl⟩, hB0⟩
      · have HS := Lib.hid (digits_step ds k hlt r HR.out (by rw [HX.out, h1]))
        go_wp2_with (go_at_call 14; refine (in_calls _ _ _ _).mono ?_; rintro e w' ⟨rfl, rfl⟩)
        exact ⟨⟨k + 1, by omega, by go_num, HS⟩, by simp [intOf]; omega⟩
    · have hr : r = 0 := digits_end ds k (by omega) r HR.out
      subst hr
      obtain rfl : ds.length = k := by omega
      clear hlt hk HR
      have herr : datesErr rest ds lo hi = 0 := HE.out
      obtain ⟨_, _, _, hall⟩ := dates_good herr
      have HA := Lib.hid (after_walk a c ds rest lo hi rest.toNat (hi + 1).toNat w1 (by omega) (by omega) (by omega) h0 h1 h2 (by omega) hl hall ((HH.out.below hB0).mono hB0.size))
      have HRW := rowsOf_abs rest ds lo hi h0 h1
      have hsm : rowsOf rest ds lo hi ≤ 2000000000000000000 := bk_small lo rest.toNat _ (by omega) ds hl (by omega) 0
      have eN := (dates_ok herr).1
      by_cases hz : rowsOf rest ds lo hi = 0
      · have hE : datesE rest ds lo hi = 9 := by unfold datesE; rw [if_pos herr, if_pos hz]
        rw [HRW, hz] at HA
        have hN : datesN rest ds lo hi = 0 := by rw [eN, hz]; rfl
        have hL : datesL rest ds lo hi = [] := by unfold datesL; rw [hE, if_neg (by decide)]
        have HE' := Lib.hid hE
        have HN := Lib.hid hN
        have HL := Lib.hid hL
        clear hE hN hL eN hz hsm HRW hall herr
        go_wp2_with (go_at_call 34; refine HA.out.mono ?_; rintro e w2 ⟨rfl, hw2⟩; have hB2 : Below w.heap.size w w2 := hB0.trans (hw2.mono hB0.size); clear hw2)
        refine bodyPost_ret (results_tmp3 rfl _ _ _) rfl ?_
        exact ⟨.slice none 0 0, by rw [HN.out, HE'.out]; rfl, by rw [HL.out]; exact .inl ⟨⟨none, 0, rfl⟩, rfl⟩, hB2⟩
      · have hE : datesE rest ds lo hi = 0 := by unfold datesE; rw [if_pos herr, if_neg hz]
        have hL : datesL rest ds lo hi = endsOf rest ds lo hi := by unfold datesL; rw [hE, if_pos rfl]
        have hpos : 0 < bk lo rest.toNat (hi - lo + 1).toNat ds 0 := by unfold rowsOf at hz; omega
        have HD := Lib.hid (show ∀ j, j < ds.length → -1 ≤ ds.getD j 0 ∧ ds.getD j 0 ≤ 9 from fun j hj => getD_all hall hj)
        have HT := Lib.hid (show ∀ i, i ≤ ds.length → lo ≤ thr lo rest.toNat (ds.take i).reverse ∧ thr lo rest.toNat (ds.take i).reverse ≤ 700 from fun i hi => by
          have hm : ∀ d ∈ (ds.take i).reverse, -1 ≤ d ∧ d ≤ 9 := fun e he => hall e (List.mem_of_mem_take (List.mem_reverse.1 he))
          have := thr_le lo rest.toNat (by omega) _ hm
          rw [List.length_reverse, List.length_take] at this
          exact ⟨thr_lo lo rest.toNat _ hm, by omega⟩)
        have HTS := Lib.hid (show ∀ i, i < ds.length → thr lo rest.toNat (ds.take (i + 1)).reverse = nxt (ds.getD i 0) (thr lo rest.toNat (ds.take i).reverse) + rest from fun i hi => by
          rw [take_rev ds hi]; simp only [thr]; omega)
        have HLS := Lib.hid (show ∀ i, i < ds.length → late hi rest.toNat (ds.drop i) = prv (ds.getD i 0) (late hi rest.toNat (ds.drop (i + 1))) - rest from fun i hi => by
          rw [drop_at ds hi]; simp only [late]; omega)
        have HLB := Lib.hid (show ∀ i, i < ds.length → lo ≤ prv (ds.getD i 0) (late hi rest.toNat (ds.drop (i + 1))) ∧ late hi rest.toNat (ds.drop (i + 1)) ≤ hi from fun i hil => by
          have := max_at_le lo hi rest.toNat (hi - lo + 1).toNat (by omega) ds hall hpos (by omega) hil
          unfold maxAt at this
          exact ⟨by omega, late_le hi rest.toNat _ (fun d hd => hall d (List.mem_of_mem_drop hd))⟩)
        have HT0 := Lib.hid (show lo = thr lo rest.toNat (ds.take 0).reverse from rfl)
        have HL0 := Lib.hid (show hi = late hi rest.toNat (ds.drop ds.length) from by rw [List.drop_length]; rfl)
        rw [HRW] at HA
        have hzb : (((rowsOf rest ds lo hi : Nat) : Int) == 0) = false := by simp; omega
        have HN := Lib.hid eN
        have HE' := Lib.hid hE
        have HL := Lib.hid hL
        have hmk := fun W : World => make_bounds ds.length (by omega) W
        generalize rowsOf rest ds lo hi = m at HA hzb HN hsm
        clear hE hL eN hz hpos HRW hall herr
        have HZ := Lib.hid (show EndRow (boundsCells ds.length) ds.length 0 ds.length (minAt lo rest.toNat ds) (maxAt hi rest.toNat ds) from ⟨boundsCells_size _, fun j hj => absurd hj (by omega), fun j h1 h2 => absurd h1 (by omega)⟩)
        generalize boundsCells ds.length = zs at hmk HZ
        go_wp2_with (go_at_call 34; refine HA.out.mono ?_; rintro e w2 ⟨rfl, hw2⟩; have hB2 : Below w.heap.size w w2 := hB0.trans (hw2.mono hB0.size); have K2 := K0.out.below hw2 K0.out.lt; have y0 : w2.cell? ⟨w.heap.size, 0, none⟩ = some (.int .i64 lo) := K2.cell 0; have hlt2 := K2.lt; have hne2 : w.heap.size ≠ w2.heap.size := (by omega); have K3 := Lib.hid (K2.alloc (.cells zs 41)); have K2 := Lib.hid K2; clear hw2 b0 b1)
        have hB3 : Below w.heap.size w (w2.alloc (.cells zs 41)) := hB2.alloc hB2.size _
        have M3 := Lib.hid (Blk.new w2 41 zs)
        have hwG : w.heap.size ≤ w2.heap.size := hB2.size
        clear y0 K2 hlt2
        generalize w2.alloc (.cells zs 41) = w3 at hB3 K3 M3 ⊢
        generalize w2.heap.size = G at M3 hwG hne2 ⊢
        clear hB2
        go_loopw [12, 13] (fun v iv wr => ∃ (i : Nat) (cs : Array Value), i ≤ ds.length ∧ iv = .int .i64 i ∧ v = .int .i64 (thr lo rest.toNat (ds.take i).reverse) ∧ Below w.heap.size w wr ∧ Hid (Blk wr w.heap.size 41 #[.int .i64 lo, .int .i64 hi]) ∧ Hid (Blk wr G 41 cs) ∧ Hid (EndRow cs ds.length i ds.length (minAt lo rest.toNat ds) (maxAt hi rest.toNat ds))) (fun _ iv _ => ds.length - (intOf iv).toNat)
        case atStart => exact ⟨0, zs, Nat.zero_le _, rfl, rfl, hB3, K3, M3, HZ⟩
        case round =>
          clear hB3 K3 M3 HZ
          obtain ⟨i, cs, hil, rfl, rfl, hB, K, M, HC⟩ := hrel
          by_cases hlt : i < ds.length
          · obtain ⟨b, off, rfl, hb, hcell⟩ := held_digit HH.out hlt
            have cd : wr.cell? ⟨b, off + i, none⟩ = some (.int .i64 (ds.getD i 0)) := (hB.cell (p := ⟨b, off + i, none⟩) hb).trans hcell
            clear hcell
            have hd := HD.out i hlt
            have ht := HT.out i hil
            have HS := Lib.hid (HTS.out i hlt)
            have HM := Lib.hid (show minAt lo rest.toNat ds i = nxt (ds.getD i 0) (thr lo rest.toNat (ds.take i).reverse) from rfl)
            obtain ⟨x, hx⟩ := HC.out.some0 hlt
            have cx : wr.cell? ⟨G, i * 2, none⟩ = some x := (M.out.cell (i * 2)).trans hx
            have fx : wr.frozen? ⟨G, i * 2, none⟩ = false := M.out.frozen (i * 2)
            clear hx
            have hlt' : (i : Int) < (ds.length : Int) := by omega
            generalize ds.getD i 0 = d at cd hd HS HM
            generalize thr lo rest.toNat (ds.take i).reverse = T at ht HS HM ⊢
            have hn := nxt_spec (y := T) hd.1 hd.2
            have hn1 := hn.1
            have hn2 := hn.2.1
            clear hn
            go_wp2_with fail
            go_loop [12] (fun v => ∃ y : Int, v = .int .i64 y ∧ T ≤ y ∧ y ≤ nxt d T) (fun v => (nxt d T - intOf v).toNat)
            case atStart => exact ⟨T, rfl, Int.le_refl _, hn1⟩
            case round =>
              obtain ⟨y, rfl, hy1, hy2⟩ := hrel
              have hy3 : 0 ≤ y ∧ y ≤ 1000 := by omega
              cases hf : fitsB y d
              · have hmore := nxt_more hd.1 hd.2 hy1 hy2 hf
                go_wp2_with (go_at_call 35; refine (painted_calls _ _ (by omega) _).mono ?_; rintro e w' ⟨rfl, rfl⟩)
                exact ⟨⟨y + 1, by go_num, by omega, hmore⟩, by simp [intOf]; omega⟩
              · have hstop := nxt_stop hd.1 hd.2 hy1 hy2 hf
                have HN1 := Lib.hid (HC.out.first hlt (v := y) (by rw [HM.out, hstop]))
                have HT1 := Lib.hid (show thr lo rest.toNat (ds.take (i + 1)).reverse = y + rest from by rw [HS.out, hstop])
                have hB5 : Below w.heap.size w (wr.setCell ⟨G, i * 2, none⟩ (.int .i64 y)) := hB.setCell (p := ⟨G, i * 2, none⟩) hwG _
                have K5 := Lib.hid (K.out.far (p := ⟨G, i * 2, none⟩) hne2 (.int .i64 y))
                have M5 := Lib.hid (M.out.set_ (i * 2) (.int .i64 y))
                go_wp2_with (go_at_call 35; refine (painted_calls _ _ (by omega) _).mono ?_; rintro e w' ⟨rfl, rfl⟩)
                exact ⟨⟨i + 1, _, by omega, by go_num, by rw [HT1.out], hB5, K5, M5, HN1⟩, by simp [intOf]; omega⟩
          · obtain rfl : ds.length = i := by omega
            have yh : wr.cell? ⟨w.heap.size, 1, none⟩ = some (.int .i64 hi) := K.out.cell 1
            clear hlt hil
            obtain ⟨wo, rfl⟩ : ∃ wo : World, wo = wr := ⟨_, rfl⟩
            go_wp2_with fail
            go_loopw [12, 14] (fun v iv wr => ∃ (k : Nat) (cs : Array Value), k ≤ ds.length ∧ iv = .int .i64 ((k : Int) - 1) ∧ v = .int .i64 (late hi rest.toNat (ds.drop k)) ∧ Below w.heap.size w wr ∧ Hid (Blk wr G 41 cs) ∧ Hid (EndRow cs ds.length ds.length k (minAt lo rest.toNat ds) (maxAt hi rest.toNat ds))) (fun _ iv _ => (intOf iv + 1).toNat)
            case atStart => exact ⟨ds.length, cs, Nat.le_refl _, rfl, by rw [← HL0.out], hB, M, HC⟩
            case round =>
              clear hB K M HC yh
              obtain ⟨k, cs, hk, rfl, rfl, hB, M, HC⟩ := hrel
              by_cases hk0 : 0 < k
              · obtain ⟨j, rfl⟩ : ∃ j, k = j + 1 := ⟨k - 1, by omega⟩
                have e1 : ((j + 1 : Nat) : Int) - 1 = (j : Int) := by omega
                rw [e1]
                clear e1 hk0
                have hjl : j < ds.length := by omega
                obtain ⟨b, off, rfl, hb, hcell⟩ := held_digit HH.out hjl
                have cd : wr.cell? ⟨b, off + j, none⟩ = some (.int .i64 (ds.getD j 0)) := (hB.cell (p := ⟨b, off + j, none⟩) hb).trans hcell
                clear hcell
                have hd := HD.out j hjl
                have ht := HLB.out j hjl
                have HS := Lib.hid (HLS.out j hjl)
                have HM := Lib.hid (show maxAt hi rest.toNat ds j = prv (ds.getD j 0) (late hi rest.toNat (ds.drop (j + 1))) from rfl)
                obtain ⟨x, hx⟩ := HC.out.some1 hjl
                have cx : wr.cell? ⟨G, j * 2 + 1, none⟩ = some x := (M.out.cell (j * 2 + 1)).trans hx
                have fx : wr.frozen? ⟨G, j * 2 + 1, none⟩ = false := M.out.frozen (j * 2 + 1)
                clear hx
                have hlt' : (j : Int) < (ds.length : Int) := by omega
                generalize ds.getD j 0 = d at cd hd ht HS HM
                generalize late hi rest.toNat (ds.drop (j + 1)) = T at ht HS HM ⊢
                have hn1 := (prv_spec (y := T) hd.1 hd.2).1
                go_wp2_with fail
                go_loop [12] (fun v => ∃ y : Int, v = .int .i64 y ∧ y ≤ T ∧ prv d T ≤ y) (fun v => (intOf v - prv d T).toNat)
                case atStart => exact ⟨T, rfl, Int.le_refl _, hn1⟩
                case round =>
                  obtain ⟨y, rfl, hy1, hy2⟩ := hrel
                  have hy3 : 0 ≤ y ∧ y ≤ 1000 := by omega
                  cases hf : fitsB y d
                  · have hmore := prv_more hd.1 hd.2 hy1 hy2 hf
                    go_wp2_with (go_at_call 35; refine (painted_calls _ _ (by omega) _).mono ?_; rintro e w' ⟨rfl, rfl⟩)
                    exact ⟨⟨y - 1, by go_num, by omega, hmore⟩, by simp [intOf]; omega⟩
                  · have hstop := prv_stop hd.1 hd.2 hy1 hy2 hf
                    have HN1 := Lib.hid (HC.out.last hjl (v := y) (by rw [HM.out, hstop]))
                    have HT1 := Lib.hid (show late hi rest.toNat (ds.drop j) = y - rest from by rw [HS.out, hstop])
                    have hB5 : Below w.heap.size w (wr.setCell ⟨G, j * 2 + 1, none⟩ (.int .i64 y)) := hB.setCell (p := ⟨G, j * 2 + 1, none⟩) hwG _
                    have M5 := Lib.hid (M.out.set_ (j * 2 + 1) (.int .i64 y))
                    go_wp2_with (go_at_call 35; refine (painted_calls _ _ (by omega) _).mono ?_; rintro e w' ⟨rfl, rfl⟩)
                    exact ⟨⟨j, _, by omega, by go_num, by rw [HT1.out], hB5, M5, HN1⟩, by simp [intOf]⟩
              · obtain rfl : k = 0 := by omega
                rw [show ((0 : Nat) : Int) - 1 = -1 by omega]
                have HF := Lib.hid (show Held wr.heap.size wr 2 stripCells (.slice (some ⟨G, 0, none⟩) ds.length ds.length) (endsOf rest ds lo hi) from by
                  refine .inr ⟨G, 0, ds.length, by rw [endsOf_length], M.out.lt, ⟨by rw [endsOf_length]; exact Nat.le_refl _, by rw [endsOf_length]; omega, by omega⟩, fun j hj i u hu => ?_⟩
                  rw [endsOf_length] at hj
                  rw [endsOf_at rest ds lo hi hj] at hu
                  have y1 := HC.out.2.1 j hj
                  have y2 := HC.out.2.2 j (Nat.zero_le _) hj
                  rw [Nat.zero_add, M.out.cell]
                  match i, hu with
                  | 0, hu => simp only [stripCells, List.getElem?_cons_zero, Option.some.injEq] at hu; rw [Nat.add_zero, y1, hu]
                  | 1, hu => simp only [stripCells, List.getElem?_cons_succ, List.getElem?_cons_zero, Option.some.injEq] at hu; rw [y2, hu]
                  | i + 2, hu => simp [stripCells] at hu)
                go_wp2_with fail
                refine bodyPost_ret (results_tmp3 rfl _ _ _) rfl ?_
                exact ⟨_, by rw [HN.out, HE'.out]; rfl, by rw [HL.out]; exact HF.out, hB⟩

theorem refDates_calls {v : Value} {ds : List Int} {w : World} (h : Held w.heap.size w 1 intCells v ds) (rest lo hi : Int) :
    Calls Try.prog 19 #[.int .i64 rest, v, .agg #[.int .i64 lo, .int .i64 hi]] w (DatesPost rest ds lo hi w) := by
  have early : ∀ n : Int, n ≠ 0 → datesErr rest ds lo hi = n → Calls Try.prog 19 #[.int .i64 rest, v, .agg #[.int .i64 lo, .int .i64 hi]] w (fun e w' => e = .returned (.tuple #[.slice none 0 0, .int .i64 0, .int .i64 n]) ∧ Below w.heap.size w w') →
      Calls Try.prog 19 #[.int .i64 rest, v, .agg #[.int .i64 lo, .int .i64 hi]] w (DatesPost rest ds lo hi w) := fun n hn he hc => hc.mono fun e w' ⟨h1, h2⟩ => by
    have hd : datesErr rest ds lo hi ≠ 0 := by rw [he]; exact hn
    obtain ⟨e1, _, e3⟩ := dates_bad hd
    have e2 : datesE rest ds lo hi = n := by unfold datesE; rw [if_neg hd, he]
    exact ⟨.slice none 0 0, by rw [h1, e1, e2], by rw [e3]; exact .inl ⟨⟨none, 0, rfl⟩, rfl⟩, h2⟩
  cases r1 : inB rest 1 30
  · exact early 1 (by decide) (by unfold datesErr; rw [if_neg (by simp [r1])]) (refDates_v1 rest v lo hi w r1)
  · cases r2 : boundsB lo hi 0 300
    · exact early 1 (by decide) (by unfold datesErr; rw [if_neg (by simp [r2])]) (refDates_v2 rest v lo hi w r1 r2)
    · have hs : ∃ a c, v = .slice a ds.length c := by
        rcases h with ⟨⟨a, c, rfl⟩, rfl⟩ | ⟨b, off, c, rfl, _⟩
        · exact ⟨a, c, rfl⟩
        · exact ⟨_, c, rfl⟩
      obtain ⟨a, c, rfl⟩ := hs
      by_cases hl : ds.length > 10
      · exact early 2 (by decide) (by unfold datesErr; rw [if_pos (by simp [r1, r2]), if_pos hl]) (refDates_many rest a ds.length c lo hi w r1 r2 (by omega))
      · exact refDates_walk a c ds rest lo hi w r1 r2 (by omega) h
end Go.Proofs.Ytdpockkfmdkbhaa
