/- TreeRows: all ways together. -/
import Derived.Test.YtdpockkfmdkbhaaLawRowsB
import Derived.Test.YtdpockkfmdkbhaaLawRowsC
namespace Go.Proofs.Ytdpockkfmdkbhaa
open Go.RowKit Go.Shelf Go.Maps

theorem rows_valid (rest : Int) (ds : List Int) (lo hi : Int) : datesErr rest ds lo hi = 0 ↔ ((inB rest 1 30 && boundsB lo hi 0 300 && decide ((ds.length : Int) ≤ 10)) && ds.all digitB) = true := by
  unfold datesErr
  cases inB rest 1 30 && boundsB lo hi 0 300 with
  | false => simp
  | true =>
    rw [if_pos rfl]
    by_cases hl : ds.length > 10
    · rw [if_pos hl]
      have : decide ((ds.length : Int) ≤ 10) = false := decide_eq_false (by omega)
      simp [this]
    · rw [if_neg hl, digitsErr_all]
      have : decide ((ds.length : Int) ≤ 10) = true := decide_eq_true (by omega)
      simp [this]

/-- The digits behind the first one. -/
theorem held_tail {B : Nat} {w : World} {b off n c : Nat} {d : Int} {t : List Int} (hn : n = t.length + 1) (h : Held B w 1 intCells (.slice (some ⟨b, off, none⟩) n c) (d :: t)) (hc : 1 < c) :
    Held B w 1 intCells (.slice (some ⟨b, off + 1, none⟩) (n - 1) (c - 1)) t := by
  rcases h with ⟨_, h2⟩ | ⟨b', off', c', h1, hb, hl, hcell⟩
  · cases h2
  · cases h1
    refine .inr ⟨b, off + 1, c - 1, by rw [hn]; rfl, hb, ⟨by have := hl.1; simp at this; omega, by have := hl.2.1; simp at this; omega, by have := hl.2.2; omega⟩, fun j hj i u hu => ?_⟩
    have := hcell (j + 1) (by simp; omega) i u (by simpa using hu)
    rw [← this]
    congr 2
    omega

theorem held_cap {B : Nat} {w : World} {b off n c : Nat} {ds : List Int} (h : Held B w 1 intCells (.slice (some ⟨b, off, none⟩) n c) ds) (hpos : 0 < ds.length) : ds.length ≤ c ∧ c ≤ 9223372036854775807 := by
  rcases h with ⟨_, h2⟩ | ⟨b', off', c', h1, hb, hl, hcell⟩
  · rw [h2] at hpos; cases hpos
  · cases h1
    exact ⟨hl.1, hl.2.2⟩

theorem some_dates {v : Value} {ds : List Int} {w : World} (h : Held w.heap.size w 1 intCells v ds) (rest lo hi : Int) :
    Calls Try.prog 18 #[.int .i64 rest, v, .agg #[.int .i64 lo, .int .i64 hi]] w (SomeDates (datesN rest ds lo hi) w) :=
  (dates_calls h rest lo hi).mono fun e w' ⟨v', he, hh, hb⟩ => by
    obtain ⟨a, c, rfl⟩ := held_len hh
    exact ⟨a, _, c, _, he, hb⟩

set_option maxHeartbeats 2000000 in
theorem rowsLaw_calls {v : Value} {ds : List Int} {w : World} (h : Held w.heap.size w 1 intCells v ds) (rest lo hi cut : Int) (hcut0 : 0 ≤ cut) (hcut1 : cut ≤ 65535) :
    Calls Try.prog 8 #[.int .i64 rest, v, .agg #[.int .i64 lo, .int .i64 hi], .int .u16 cut] w fun e w' => e = .returned (.bool true) ∧ Below w.heap.size w w' := by
  obtain ⟨a, c, rfl⟩ := held_len h
  by_cases hl : ds.length > 20
  · exact rowsLaw_many rest a ds.length c lo hi cut w (by omega)
  have hD := fun W (hW : Below w.heap.size w W) => dates_are ((h.below hW).mono hW.size) rest lo hi
  by_cases he : datesErr rest ds lo hi = 0
  · obtain ⟨⟨hr0, hr1⟩, ⟨hb0, hb1, hb2⟩, hl10, hdig⟩ := dates_good he
    have r1 : inB rest 1 30 = true := by simp [inB]; omega
    have r2 : boundsB lo hi 0 300 = true := by simp [boundsB]; omega
    obtain ⟨hN, hE⟩ := dates_ok he
    match ds, h, hD, hdig, hl10, hN, hE, he with
    | [], h, hD, _, _, hN, hE, he =>
      have hE0 : datesE rest [] lo hi = 0 := by
        rcases hE with h0 | ⟨_, h0⟩
        · exact h0
        · simp [rowsOf, bk] at h0
      have hL0 : (datesL rest [] lo hi).length = 0 := by unfold datesL; rw [if_pos hE0, endsOf_length]; rfl
      have hN1 : datesN rest [] lo hi = 1 := by rw [hN]; rfl
      rw [hE0, hL0, hN1] at hD
      exact rowsLaw_nil rest a c lo hi cut w r1 r2 hD
    | d :: t, h, hD, hdig, hl10, hN, hE, he =>
      obtain ⟨b, off, rfl, hb, hcell⟩ := held_place h (j := 0) (by simp)
      obtain ⟨hcap0, hcap1⟩ := held_cap h (by simp)
      obtain ⟨n, hn⟩ : ∃ n, n = t.length + 1 := ⟨_, rfl⟩
      have hlen : (d :: t).length = n := by rw [hn]; rfl
      rw [hlen] at h hD hcap0
      have hn10 : n ≤ 10 := by rw [← hlen]; exact hl10
      have hm0 : 0 ≤ cut % (hi - lo + 1) := Int.emod_nonneg _ (by omega)
      have hm1 : cut % (hi - lo + 1) < hi - lo + 1 := Int.emod_lt_of_pos _ (by omega)
      obtain ⟨cv, hcv⟩ : ∃ cv, lo + cut % (hi - lo + 1) = cv := ⟨_, rfl⟩
      have hCell : ∀ W, Below w.heap.size w W → ∀ k, k < n → W.cell? ⟨b, off + k, none⟩ = some (.int .i64 (d :: t)[k]!) := fun W hW k hk => (hW.cell (p := ⟨b, off + k, none⟩) hb).trans (by have := hcell k (by rw [hlen]; exact hk) 0 _ rfl; rwa [Nat.mul_one, Nat.add_zero] at this)
      have hDig : ∀ k, k < n → inB (d :: t)[k]! (-1) 9 = true := fun k hk => by
        have := hdig (d :: t)[k]! (by rw [getElem!_pos _ k (by rw [hlen]; exact hk)]; exact List.getElem_mem _)
        exact decide_eq_true this
      have heC : datesErr rest (d :: t) cv hi = 0 := dates_of ⟨hr0, hr1⟩ (by omega) hl10 hdig
      obtain ⟨hNC, hEC⟩ := dates_ok heC
      have hD2 := fun W (hW : Below w.heap.size w W) => dates_are ((h.below hW).mono hW.size) rest cv hi
      have hE2 : datesE rest (d :: t) cv hi = 0 ∨ (datesE rest (d :: t) cv hi = 9 ∧ datesN rest (d :: t) cv hi = 0) := hEC.imp id (fun ⟨x, y⟩ => ⟨x, by rw [hNC, y]; rfl⟩)
      have hdt : ∀ e ∈ t, -1 ≤ e ∧ e ≤ 9 := fun e he => hdig e (by simp [he])
      have htl : t.length ≤ 10 := by omega
      -- the digits behind the first one, as the walk writes them
      have hsl : ∃ o2 m2 c2 : Nat, ((c = 1 ∧ n = 1 ∧ o2 = off ∧ m2 = 0 ∧ c2 = 0) ∨ (1 < c ∧ o2 = off + 1 ∧ m2 + 1 = n ∧ c2 + 1 = c ∧ c ≤ 9223372036854775807)) ∧ ∀ W, Below w.heap.size w W → Held W.heap.size W 1 intCells (.slice (some ⟨b, o2, none⟩) m2 c2) t := by
        by_cases hc1 : c = 1
        · have hn1 : n = 1 := by omega
          have ht : t = [] := List.length_eq_zero_iff.1 (by omega)
          exact ⟨off, 0, 0, .inl ⟨hc1, hn1, rfl, rfl, rfl⟩, fun W _ => .inl ⟨⟨_, _, rfl⟩, ht⟩⟩
        · exact ⟨off + 1, n - 1, c - 1, .inr ⟨by omega, rfl, by omega, by omega, hcap1⟩, fun W hW => (((held_tail hn h (by omega)).below hW).mono hW.size)⟩
      obtain ⟨o2, m2, c2, hsl, hT⟩ := hsl
      have hD3 : ∀ W, Below w.heap.size w W → ∀ k : Nat, lo + k + rest ≤ hi → Calls Try.prog 18 #[.int .i64 rest, .slice (some ⟨b, o2, none⟩) m2 c2, .agg #[.int .i64 (lo + k + rest), .int .i64 hi]] W (SomeDates (((fun k : Nat => ((bk lo rest.toNat (hi - lo + 1).toNat t (k + rest.toNat) : Nat) : Int)) k)) W) := fun W hW k hk => by
        have := some_dates (hT W hW) rest (lo + k + rest) hi
        have e0 : datesErr rest t (lo + k + rest) hi = 0 := dates_of ⟨hr0, hr1⟩ (by omega) htl hdt
        rw [(dates_ok e0).1] at this
        have e1 : rowsOf rest t (lo + k + rest) hi = bk lo rest.toNat (hi - lo + 1).toNat t (k + rest.toNat) := by
          rw [← rows_from rest lo hi t (k + rest.toNat) hb0 (by omega)]
          congr 1
          omega
        rw [e1] at this
        exact this
      have hF0 : ∀ k : Nat, lo + k ≤ hi → fitsB (lo + k) d = false → ((fun k : Nat => ((bk lo rest.toNat (hi - lo + 1).toNat (d :: t) k : Nat) : Int)) k) = ((fun k : Nat => ((bk lo rest.toNat (hi - lo + 1).toNat (d :: t) k : Nat) : Int)) (k + 1)) := fun k hk hf => by
        have := rows_step rest lo hi d t k hk
        rw [hf] at this
        simp at this
        simp [this]
      have hF1 : ∀ k : Nat, lo + k ≤ hi → fitsB (lo + k) d = true → hi < lo + k + rest → ((fun k : Nat => ((bk lo rest.toNat (hi - lo + 1).toNat (d :: t) k : Nat) : Int)) k) = ((fun k : Nat => ((bk lo rest.toNat (hi - lo + 1).toNat (d :: t) k : Nat) : Int)) (k + 1)) + (if n = 1 then 1 else 0) := fun k hk hf hlate => by
        have := rows_step rest lo hi d t k hk
        rw [hf, if_pos rfl, rows_late rest lo hi t k (by omega) hlate] at this
        have hnt : n = 1 ↔ t = [] := by rw [hn, ← List.length_eq_zero_iff]; omega
        dsimp only
        rw [this]
        by_cases ht : t = []
        · rw [if_pos ht, if_pos (hnt.2 ht)]; rfl
        · rw [if_neg ht, if_neg (fun x => ht (hnt.1 x))]; rfl
      have hF2 : ∀ k : Nat, lo + k ≤ hi → fitsB (lo + k) d = true → lo + k + rest ≤ hi → ((fun k : Nat => ((bk lo rest.toNat (hi - lo + 1).toNat (d :: t) k : Nat) : Int)) k) = ((fun k : Nat => ((bk lo rest.toNat (hi - lo + 1).toNat (d :: t) k : Nat) : Int)) (k + 1)) + ((fun k : Nat => ((bk lo rest.toNat (hi - lo + 1).toNat t (k + rest.toNat) : Nat) : Int)) k) := fun k hk hf _ => by
        have := rows_step rest lo hi d t k hk
        rw [hf, if_pos rfl] at this
        dsimp only
        omega
      have hN' : datesN rest (d :: t) lo hi = ((fun k : Nat => ((bk lo rest.toNat (hi - lo + 1).toNat (d :: t) k : Nat) : Int)) 0) := hN
      have hN2' : datesN rest (d :: t) cv hi = ((fun k : Nat => ((bk lo rest.toNat (hi - lo + 1).toNat (d :: t) k : Nat) : Int)) (cv - lo).toNat) := by
        rw [hNC]
        have := rows_from rest lo hi (d :: t) (cv - lo).toNat hb0 (by omega)
        rw [show lo + ((cv - lo).toNat : Int) = cv by omega] at this
        rw [this]
      have hbig : ((fun k : Nat => ((bk lo rest.toNat (hi - lo + 1).toNat (d :: t) k : Nat) : Int)) 0) ≤ 2000000000000000000 := by
        have := rows_small rest lo hi (d :: t) 0 hr0 hl10 hb0 hb2
        dsimp only
        omega
      have hp0 : ∀ k, 0 ≤ ((fun k : Nat => ((bk lo rest.toNat (hi - lo + 1).toNat (d :: t) k : Nat) : Int)) k) := fun k => Int.natCast_nonneg _
      have hpF : ∀ k, 0 ≤ ((fun k : Nat => ((bk lo rest.toNat (hi - lo + 1).toNat t (k + rest.toNat) : Nat) : Int)) k) := fun k => Int.natCast_nonneg _
      generalize (fun k : Nat => ((bk lo rest.toNat (hi - lo + 1).toNat (d :: t) k : Nat) : Int)) = bkd at hF0 hF1 hF2 hN' hN2' hbig hp0
      generalize (fun k : Nat => ((bk lo rest.toNat (hi - lo + 1).toNat t (k + rest.toNat) : Nat) : Int)) = F at hD3 hF2 hpF
      rcases hE with hE0 | ⟨hE9, _⟩
      · rw [hE0] at hD
        rw [hlen]
        exact rowsLaw_zero rest b off n c o2 m2 c2 (d :: t) d lo hi cut cv _ _ _ _ _ F bkd w hlen (by omega) (by omega) hcap0 r1 r2 hr0 hr1 hb0 hb1 hb2 hcut0 hcut1 hcv hCell hDig rfl hD hD2 hE2 hD3 hF0 hF1 hF2 hsl hN' hN2' hp0 hpF hbig
      · rw [hE9] at hD
        rw [hlen]
        exact rowsLaw_nine rest b off n c o2 m2 c2 (d :: t) d lo hi cut cv _ _ _ _ _ F bkd w hlen (by omega) (by omega) hcap0 r1 r2 hr0 hr1 hb0 hb1 hb2 hcut0 hcut1 hcv hCell hDig rfl hD hD2 hE2 hD3 hF0 hF1 hF2 hsl hN' hN2' hp0 hpF hbig
  · obtain ⟨hN, hE, hL⟩ := dates_bad he
    rw [hN, hL] at hD
    have hv : ((inB rest 1 30 && boundsB lo hi 0 300 && decide ((ds.length : Int) ≤ 10)) && ds.all digitB) = false := by
      rw [← Bool.not_eq_true]
      exact fun x => he ((rows_valid rest ds lo hi).2 x)
    exact rowsLaw_bad rest a c ds lo hi cut _ w (by omega) h hD (bne_iff_ne.2 hE) _ _ _ rfl rfl rfl hv
end Go.Proofs.Ytdpockkfmdkbhaa
