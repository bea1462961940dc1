/- YardRains: the law's walk. -/
import Derived.Test.YtbgojeppfhldjaaYRainFollow
import Derived.Test.YtbgojeppfhldjaaYOpen
namespace Go.Proofs.Ytbgojeppfhldjaa
open Go Go.RowKit Go.Shelf Yd
theorem ok_of_50 {r : Bd} (h : boundsB r.lo r.hi 0 50 = true) : r.Ok := by
  simp only [boundsB, decide_eq_true_eq] at h
  exact ⟨h.1, h.2.1⟩
theorem bd_calls (a b lo hi : Int) (w : World) :
    Calls Try.prog 5 #[.agg #[.int .i64 a, .int .i64 b], .int .i64 lo, .int .i64 hi] w fun e w' => e = .returned (.bool (boundsB a b lo hi)) ∧ Below w.heap.size w w' :=
  (bounded_calls a b lo hi w).mono fun e w' h => ⟨h.1, by rw [h.2]; exact (Below.refl _ _).alloc (Nat.le_refl _) _⟩
/-- What really falls, day by day, by the choices. -/
def realRain : Nat → List Bd → List Int
  | _, [] => []
  | i, r :: rs => pickOf r.lo r.hi ((7 * i : Nat) : Int) :: realRain (i + 1) rs
theorem realRain_has : ∀ {i : Nat} {rs : List Bd}, (∀ r ∈ rs, r.Ok) → Yd.All2 (fun n r => Bd.Has n r) (realRain i rs) rs
  | _, [], _ => .nil
  | i, r :: rs, h => .cons (pick_in (h r (by simp)).2) (realRain_has fun x hx => h x (by simp [hx]))
theorem realRain_drop : ∀ {rs : List Bd} {i q : Nat}, q < rs.length → (realRain i rs).drop q = pickOf rs[q]!.lo rs[q]!.hi ((7 * (i + q) : Nat) : Int) :: (realRain i rs).drop (q + 1)
  | r :: rs, i, 0, _ => by simp [realRain]
  | r :: rs, i, q + 1, h => by
    rw [realRain, List.drop_succ_cons, List.drop_succ_cons, realRain_drop (rs := rs) (i := i + 1) (q := q) (by simpa using h)]
    simp [show i + 1 + q = i + (q + 1) from by omega]
theorem realRain_end {rs : List Bd} {i n : Nat} (h : rs.length ≤ n) : (realRain i rs).drop n = [] := by
  have : ∀ (rs : List Bd) (i : Nat), (realRain i rs).length = rs.length := by
    intro rs
    induction rs with
    | nil => intro i; rfl
    | cons r rs ih => intro i; simp [realRain, ih]
  exact List.drop_eq_nil_of_le (by rw [this]; exact h)
theorem left_small {l a : Int} (hl : 0 ≤ l ∧ l ≤ 100000000) (ha : 0 ≤ a ∧ a ≤ 9) : 0 ≤ l * 50 * a ∧ l * 50 * a ≤ l * 450 := by
  have h1 : 0 ≤ l * 50 * a := Int.mul_nonneg (by omega) ha.1
  have h2 : l * 50 * a ≤ l * 50 * 9 := Int.mul_le_mul_of_nonneg_left ha.2 (by omega)
  omega

set_option linter.unusedSimpArgs false in
set_option maxRecDepth 100000 in
set_option maxHeartbeats 16000000 in
theorem rains_stands (slo shi dlo dhi wlo whi : Int) (v : Value) (l : List Bd) (pv : Value) (xs : List Int) (w : World) (h : Held w.heap.size w 2 bdCells v l) (hpv : Held w.heap.size w 1 pickCells pv xs) (hno : ¬ (l.length ≤ 30 ∧ boundsB slo shi 0 9 = true ∧ boundsB dlo dhi 0 100000000 = true ∧ boundsB wlo whi 0 100000000 = true)) :
    Calls Try.prog 3 #[.agg #[.int .i64 slo, .int .i64 shi], v, .agg #[.int .i64 dlo, .int .i64 dhi], .agg #[.int .i64 wlo, .int .i64 whi], pv] w (LawDone w) := by
  obtain ⟨a, cp, rfl, _, _⟩ := h.slice
  obtain ⟨pa, pc, rfl, _, _⟩ := hpv.slice
  obtain ⟨n, hn⟩ : ∃ n, n = l.length := ⟨_, rfl⟩
  obtain ⟨m, hm⟩ : ∃ m, m = xs.length := ⟨_, rfl⟩
  rw [← hn] at hno ⊢
  rw [← hm]
  clear h hpv hn hm
  by_cases h30 : 30 < n
  · have d1 : decide ((30 : Int) < (n : Int)) = true := by simp; omega
    clear hno h30
    have HS := Lib.hid (rfl : (0 : Nat) = 0); have HD := HS; have HW := HS
    go_enter Try.func3, Try.ntmps3
    go_upto_region 1 with fail
    have HL := Lib.hid (show Locs w (((w.alloc (.cells #[.int .i64 slo, .int .i64 shi] 23)).alloc (.cells #[.int .i64 dlo, .int .i64 dhi] 23)).alloc (.cells #[.int .i64 wlo, .int .i64 whi] 23)) [(w.heap.size, 23, [.int .i64 slo, .int .i64 shi]), (w.heap.size + 1, 23, [.int .i64 dlo, .int .i64 dhi]), (w.heap.size + 1 + 1, 23, [.int .i64 wlo, .int .i64 whi])] [] from (((Locs.start w).alloc 23 [.int .i64 slo, .int .i64 shi] rfl).alloc 23 [.int .i64 dlo, .int .i64 dhi] (World.size_alloc _ _)).alloc 23 [.int .i64 wlo, .int .i64 whi] (by rw [World.size_alloc, World.size_alloc]))
    generalize (((w.alloc (.cells #[.int .i64 slo, .int .i64 shi] 23)).alloc (.cells #[.int .i64 dlo, .int .i64 dhi] 23)).alloc (.cells #[.int .i64 wlo, .int .i64 whi] 23)) = v0 at HL ⊢
    generalize w.heap.size + 1 + 1 = g2 at HL ⊢
    generalize w.heap.size + 1 = g1 at HL ⊢
    generalize w.heap.size = g0 at HL ⊢
    try simp only [Act.put]
    have y0 := HL.out.at 0 0 (v := .int .i64 slo) rfl rfl
    have y1 := HL.out.at 0 1 (v := .int .i64 shi) rfl rfl
    have y2 := HL.out.at 1 0 (v := .int .i64 dlo) rfl rfl
    have y3 := HL.out.at 1 1 (v := .int .i64 dhi) rfl rfl
    have y4 := HL.out.at 2 0 (v := .int .i64 wlo) rfl rfl
    have y5 := HL.out.at 2 1 (v := .int .i64 whi) rfl rfl
    go_wp2_with (first
      | (go_at_call 5; refine (bd_calls _ _ _ _ _).mono ?_; rintro e w1 ⟨rfl, hb⟩; (first | rw [HS.out] | rw [HD.out] | rw [HW.out]); have HL := Lib.hid (HL.out.below hb); have y0 := HL.out.at 0 0 (v := .int .i64 slo) rfl rfl; have y1 := HL.out.at 0 1 (v := .int .i64 shi) rfl rfl; have y2 := HL.out.at 1 0 (v := .int .i64 dlo) rfl rfl; have y3 := HL.out.at 1 1 (v := .int .i64 dhi) rfl rfl; have y4 := HL.out.at 2 0 (v := .int .i64 wlo) rfl rfl; have y5 := HL.out.at 2 1 (v := .int .i64 whi) rfl rfl; clear hb)
      | (go_at_call 6; refine (stands_calls _).mono ?_; rintro e w2 ⟨rfl, hb2⟩; have HL := Lib.hid (HL.out.below hb2); clear hb2))
    go_ret
    exact lawDone HL.out.low
  have d1 : decide ((30 : Int) < (n : Int)) = false := by simp; omega
  cases hS : boundsB slo shi 0 9 with
  | false =>
    have HS := Lib.hid hS; have HD := HS; have HW := HS
    clear hno h30 hS
    go_enter Try.func3, Try.ntmps3
    go_upto_region 1 with fail
    have HL := Lib.hid (show Locs w (((w.alloc (.cells #[.int .i64 slo, .int .i64 shi] 23)).alloc (.cells #[.int .i64 dlo, .int .i64 dhi] 23)).alloc (.cells #[.int .i64 wlo, .int .i64 whi] 23)) [(w.heap.size, 23, [.int .i64 slo, .int .i64 shi]), (w.heap.size + 1, 23, [.int .i64 dlo, .int .i64 dhi]), (w.heap.size + 1 + 1, 23, [.int .i64 wlo, .int .i64 whi])] [] from (((Locs.start w).alloc 23 [.int .i64 slo, .int .i64 shi] rfl).alloc 23 [.int .i64 dlo, .int .i64 dhi] (World.size_alloc _ _)).alloc 23 [.int .i64 wlo, .int .i64 whi] (by rw [World.size_alloc, World.size_alloc]))
    generalize (((w.alloc (.cells #[.int .i64 slo, .int .i64 shi] 23)).alloc (.cells #[.int .i64 dlo, .int .i64 dhi] 23)).alloc (.cells #[.int .i64 wlo, .int .i64 whi] 23)) = v0 at HL ⊢
    generalize w.heap.size + 1 + 1 = g2 at HL ⊢
    generalize w.heap.size + 1 = g1 at HL ⊢
    generalize w.heap.size = g0 at HL ⊢
    try simp only [Act.put]
    have y0 := HL.out.at 0 0 (v := .int .i64 slo) rfl rfl
    have y1 := HL.out.at 0 1 (v := .int .i64 shi) rfl rfl
    have y2 := HL.out.at 1 0 (v := .int .i64 dlo) rfl rfl
    have y3 := HL.out.at 1 1 (v := .int .i64 dhi) rfl rfl
    have y4 := HL.out.at 2 0 (v := .int .i64 wlo) rfl rfl
    have y5 := HL.out.at 2 1 (v := .int .i64 whi) rfl rfl
    go_wp2_with (first
      | (go_at_call 5; refine (bd_calls _ _ _ _ _).mono ?_; rintro e w1 ⟨rfl, hb⟩; (first | rw [HS.out] | rw [HD.out] | rw [HW.out]); have HL := Lib.hid (HL.out.below hb); have y0 := HL.out.at 0 0 (v := .int .i64 slo) rfl rfl; have y1 := HL.out.at 0 1 (v := .int .i64 shi) rfl rfl; have y2 := HL.out.at 1 0 (v := .int .i64 dlo) rfl rfl; have y3 := HL.out.at 1 1 (v := .int .i64 dhi) rfl rfl; have y4 := HL.out.at 2 0 (v := .int .i64 wlo) rfl rfl; have y5 := HL.out.at 2 1 (v := .int .i64 whi) rfl rfl; clear hb)
      | (go_at_call 6; refine (stands_calls _).mono ?_; rintro e w2 ⟨rfl, hb2⟩; have HL := Lib.hid (HL.out.below hb2); clear hb2))
    go_ret
    exact lawDone HL.out.low
  | true =>
    cases hD : boundsB dlo dhi 0 100000000 with
    | false =>
      have HS := Lib.hid hS; have HD := Lib.hid hD; have HW := HS
      clear hno h30 hS hD
      go_enter Try.func3, Try.ntmps3
      go_upto_region 1 with fail
      have HL := Lib.hid (show Locs w (((w.alloc (.cells #[.int .i64 slo, .int .i64 shi] 23)).alloc (.cells #[.int .i64 dlo, .int .i64 dhi] 23)).alloc (.cells #[.int .i64 wlo, .int .i64 whi] 23)) [(w.heap.size, 23, [.int .i64 slo, .int .i64 shi]), (w.heap.size + 1, 23, [.int .i64 dlo, .int .i64 dhi]), (w.heap.size + 1 + 1, 23, [.int .i64 wlo, .int .i64 whi])] [] from (((Locs.start w).alloc 23 [.int .i64 slo, .int .i64 shi] rfl).alloc 23 [.int .i64 dlo, .int .i64 dhi] (World.size_alloc _ _)).alloc 23 [.int .i64 wlo, .int .i64 whi] (by rw [World.size_alloc, World.size_alloc]))
      generalize (((w.alloc (.cells #[.int .i64 slo, .int .i64 shi] 23)).alloc (.cells #[.int .i64 dlo, .int .i64 dhi] 23)).alloc (.cells #[.int .i64 wlo, .int .i64 whi] 23)) = v0 at HL ⊢
      generalize w.heap.size + 1 + 1 = g2 at HL ⊢
      generalize w.heap.size + 1 = g1 at HL ⊢
      generalize w.heap.size = g0 at HL ⊢
      try simp only [Act.put]
      have y0 := HL.out.at 0 0 (v := .int .i64 slo) rfl rfl
      have y1 := HL.out.at 0 1 (v := .int .i64 shi) rfl rfl
      have y2 := HL.out.at 1 0 (v := .int .i64 dlo) rfl rfl
      have y3 := HL.out.at 1 1 (v := .int .i64 dhi) rfl rfl
      have y4 := HL.out.at 2 0 (v := .int .i64 wlo) rfl rfl
      have y5 := HL.out.at 2 1 (v := .int .i64 whi) rfl rfl
      go_wp2_with (first
        | (go_at_call 5; refine (bd_calls _ _ _ _ _).mono ?_; rintro e w1 ⟨rfl, hb⟩; (first | rw [HS.out] | rw [HD.out] | rw [HW.out]); have HL := Lib.hid (HL.out.below hb); have y0 := HL.out.at 0 0 (v := .int .i64 slo) rfl rfl; have y1 := HL.out.at 0 1 (v := .int .i64 shi) rfl rfl; have y2 := HL.out.at 1 0 (v := .int .i64 dlo) rfl rfl; have y3 := HL.out.at 1 1 (v := .int .i64 dhi) rfl rfl; have y4 := HL.out.at 2 0 (v := .int .i64 wlo) rfl rfl; have y5 := HL.out.at 2 1 (v := .int .i64 whi) rfl rfl; clear hb)
        | (go_at_call 6; refine (stands_calls _).mono ?_; rintro e w2 ⟨rfl, hb2⟩; have HL := Lib.hid (HL.out.below hb2); clear hb2))
      go_ret
      exact lawDone HL.out.low
    | true =>
      cases hW : boundsB wlo whi 0 100000000 with
      | false =>
        have HS := Lib.hid hS; have HD := Lib.hid hD; have HW := Lib.hid hW
        clear hno h30 hS hD hW
        go_enter Try.func3, Try.ntmps3
        go_upto_region 1 with fail
        have HL := Lib.hid (show Locs w (((w.alloc (.cells #[.int .i64 slo, .int .i64 shi] 23)).alloc (.cells #[.int .i64 dlo, .int .i64 dhi] 23)).alloc (.cells #[.int .i64 wlo, .int .i64 whi] 23)) [(w.heap.size, 23, [.int .i64 slo, .int .i64 shi]), (w.heap.size + 1, 23, [.int .i64 dlo, .int .i64 dhi]), (w.heap.size + 1 + 1, 23, [.int .i64 wlo, .int .i64 whi])] [] from (((Locs.start w).alloc 23 [.int .i64 slo, .int .i64 shi] rfl).alloc 23 [.int .i64 dlo, .int .i64 dhi] (World.size_alloc _ _)).alloc 23 [.int .i64 wlo, .int .i64 whi] (by rw [World.size_alloc, World.size_alloc]))
        generalize (((w.alloc (.cells #[.int .i64 slo, .int .i64 shi] 23)).alloc (.cells #[.int .i64 dlo, .int .i64 dhi] 23)).alloc (.cells #[.int .i64 wlo, .int .i64 whi] 23)) = v0 at HL ⊢
        generalize w.heap.size + 1 + 1 = g2 at HL ⊢
        generalize w.heap.size + 1 = g1 at HL ⊢
        generalize w.heap.size = g0 at HL ⊢
        try simp only [Act.put]
        have y0 := HL.out.at 0 0 (v := .int .i64 slo) rfl rfl
        have y1 := HL.out.at 0 1 (v := .int .i64 shi) rfl rfl
        have y2 := HL.out.at 1 0 (v := .int .i64 dlo) rfl rfl
        have y3 := HL.out.at 1 1 (v := .int .i64 dhi) rfl rfl
        have y4 := HL.out.at 2 0 (v := .int .i64 wlo) rfl rfl
        have y5 := HL.out.at 2 1 (v := .int .i64 whi) rfl rfl
        go_wp2_with (first
          | (go_at_call 5; refine (bd_calls _ _ _ _ _).mono ?_; rintro e w1 ⟨rfl, hb⟩; (first | rw [HS.out] | rw [HD.out] | rw [HW.out]); have HL := Lib.hid (HL.out.below hb); have y0 := HL.out.at 0 0 (v := .int .i64 slo) rfl rfl; have y1 := HL.out.at 0 1 (v := .int .i64 shi) rfl rfl; have y2 := HL.out.at 1 0 (v := .int .i64 dlo) rfl rfl; have y3 := HL.out.at 1 1 (v := .int .i64 dhi) rfl rfl; have y4 := HL.out.at 2 0 (v := .int .i64 wlo) rfl rfl; have y5 := HL.out.at 2 1 (v := .int .i64 whi) rfl rfl; clear hb)
          | (go_at_call 6; refine (stands_calls _).mono ?_; rintro e w2 ⟨rfl, hb2⟩; have HL := Lib.hid (HL.out.below hb2); clear hb2))
        go_ret
        exact lawDone HL.out.low
      | true => exact absurd ⟨by omega, hS, hD, hW⟩ hno

set_option linter.unusedSimpArgs false in
set_option maxRecDepth 100000 in
set_option maxHeartbeats 16000000 in
theorem rains_real (slo shi dlo dhi wlo whi : Int) (v : Value) (l : List Bd) (pv : Value) (xs : List Int) (w : World) (h : Held w.heap.size w 2 bdCells v l) (hpv : Held w.heap.size w 1 pickCells pv xs) (hxs : ∀ x ∈ xs, 0 ≤ x ∧ x ≤ 65535) (h30 : l.length ≤ 30) (hS : boundsB slo shi 0 9 = true) (hD : boundsB dlo dhi 0 100000000 = true) (hW : boundsB wlo whi 0 100000000 = true) :
    Calls Try.prog 3 #[.agg #[.int .i64 slo, .int .i64 shi], v, .agg #[.int .i64 dlo, .int .i64 dhi], .agg #[.int .i64 wlo, .int .i64 whi], pv] w (LawDone w) := by
  obtain ⟨a, cp, rfl, _, hcs⟩ := h.slice
  obtain ⟨pa, pc, rfl, hpm, hpcs⟩ := hpv.slice
  have HH := Lib.hid h
  have HCS := Lib.hid hcs; have HPC := Lib.hid hpcs; have HXS := Lib.hid hxs
  obtain ⟨n, hn⟩ : ∃ n, n = l.length := ⟨_, rfl⟩
  obtain ⟨m, hm⟩ : ∃ m, m = xs.length := ⟨_, rfl⟩
  have HN := Lib.hid hn; have HM := Lib.hid hm
  rw [← hn] at h30 HH ⊢
  rw [← hm] at hpm ⊢
  have HS := Lib.hid hS; have HD := Lib.hid hD; have HW := Lib.hid hW
  have d1 : decide ((30 : Int) < (n : Int)) = false := by simp; omega
  clear h hpv hxs hn hm hcs hpcs hS hD hW
  go_enter Try.func3, Try.ntmps3
  go_upto_region 1 with fail
  have HL := Lib.hid (show Locs w (((w.alloc (.cells #[.int .i64 slo, .int .i64 shi] 23)).alloc (.cells #[.int .i64 dlo, .int .i64 dhi] 23)).alloc (.cells #[.int .i64 wlo, .int .i64 whi] 23)) [(w.heap.size, 23, [.int .i64 slo, .int .i64 shi]), (w.heap.size + 1, 23, [.int .i64 dlo, .int .i64 dhi]), (w.heap.size + 1 + 1, 23, [.int .i64 wlo, .int .i64 whi])] [] from (((Locs.start w).alloc 23 [.int .i64 slo, .int .i64 shi] rfl).alloc 23 [.int .i64 dlo, .int .i64 dhi] (World.size_alloc _ _)).alloc 23 [.int .i64 wlo, .int .i64 whi] (by rw [World.size_alloc, World.size_alloc]))
  generalize (((w.alloc (.cells #[.int .i64 slo, .int .i64 shi] 23)).alloc (.cells #[.int .i64 dlo, .int .i64 dhi] 23)).alloc (.cells #[.int .i64 wlo, .int .i64 whi] 23)) = v0 at HL ⊢
  generalize w.heap.size + 1 + 1 = g2 at HL ⊢
  generalize w.heap.size + 1 = g1 at HL ⊢
  generalize w.heap.size = g0 at HL ⊢
  try simp only [Act.put]
  have y0 := HL.out.at 0 0 (v := .int .i64 slo) rfl rfl
  have y1 := HL.out.at 0 1 (v := .int .i64 shi) rfl rfl
  have y2 := HL.out.at 1 0 (v := .int .i64 dlo) rfl rfl
  have y3 := HL.out.at 1 1 (v := .int .i64 dhi) rfl rfl
  have y4 := HL.out.at 2 0 (v := .int .i64 wlo) rfl rfl
  have y5 := HL.out.at 2 1 (v := .int .i64 whi) rfl rfl
  go_upto_region 3 with (go_at_call 5; refine (bd_calls _ _ _ _ _).mono ?_; rintro e w1 ⟨rfl, hb⟩; (first | rw [HS.out] | rw [HD.out] | rw [HW.out]); have HL := Lib.hid (HL.out.below hb); have y0 := HL.out.at 0 0 (v := .int .i64 slo) rfl rfl; have y1 := HL.out.at 0 1 (v := .int .i64 shi) rfl rfl; have y2 := HL.out.at 1 0 (v := .int .i64 dlo) rfl rfl; have y3 := HL.out.at 1 1 (v := .int .i64 dhi) rfl rfl; have y4 := HL.out.at 2 0 (v := .int .i64 wlo) rfl rfl; have y5 := HL.out.at 2 1 (v := .int .i64 whi) rfl rfl; clear hb)
  have HL1 := HL
  clear HL y0 y1 y2 y3 y4 y5 d1
  go_wp2
  have HR0 := Lib.hid (Rowed.nil w w1 ([(g0, 23, [.int .i64 slo, .int .i64 shi]), (g1, 23, [.int .i64 dlo, .int .i64 dhi]), (g2, 23, [.int .i64 wlo, .int .i64 whi])] : List (Nat × TypeId × List Value)) 23 2)
  go_loopw [11, 12] (fun kv iv wr => ∃ (q : Nat) (es : List Bd), q ≤ n ∧ iv = .int .i64 q ∧ Hid (es.length = q) ∧ Hid (Yd.All2 Bd.In es (l.take q)) ∧ Hid (∀ r ∈ es, boundsB r.lo r.hi 0 50 = true) ∧ Hid (∀ r ∈ l.take q, boundsB r.lo r.hi 0 50 = true) ∧ Hid (Rowed w wr ([(g0, 23, [.int .i64 slo, .int .i64 shi]), (g1, 23, [.int .i64 dlo, .int .i64 dhi]), (g2, 23, [.int .i64 wlo, .int .i64 whi])] : List (Nat × TypeId × List Value)) 23 2 (kv) (q) (flat bdCells es)) ∧ Hid (Locs w wr [(g0, 23, [.int .i64 slo, .int .i64 shi]), (g1, 23, [.int .i64 dlo, .int .i64 dhi]), (g2, 23, [.int .i64 wlo, .int .i64 whi])] [])) (fun _ iv _ => n - (intOf iv).toNat)
  case atStart => exact ⟨0, [], Nat.zero_le _, rfl, Lib.hid rfl, Lib.hid .nil, Lib.hid (by simp), Lib.hid (by simp), HR0, HL1⟩
  case round =>
    clear HL1 HR0
    obtain ⟨q, es, hq, rfl, HEL, HIN, HEB, HLB, HR, HL⟩ := hrel
    obtain ⟨sa, sn, sc, rfl⟩ := row_slice HR.out.own
    by_cases hlt : q < n
    · skip
      have hqI : (q : Int) < (n : Int) := by omega
      have hq0 : (0 : Int) ≤ (q : Int) := by omega
      have hql : q < l.length := by rw [← HN.out]; exact hlt
      obtain ⟨b, off, rfl, hbl, ⟨hnc, hcm⟩, hcells⟩ := HCS.out (by omega)
      obtain ⟨⟨lo, hi⟩, hd⟩ : ∃ d, d = l[q]! := ⟨_, rfl⟩
      have HDQ := Lib.hid hd
      have HF0 := Lib.hid (show ∀ W, Below w.heap.size w W → W.cell? ⟨b, off + q * 2, none⟩ = some (.int .i64 lo) from fun W hW => (hW.cell (p := ⟨b, off + q * 2 + 0, none⟩) hbl).trans (hcells q hql 0 _ (by rw [← hd]; rfl)))
      have HF1 := Lib.hid (show ∀ W, Below w.heap.size w W → W.cell? ⟨b, off + q * 2 + 1, none⟩ = some (.int .i64 hi) from fun W hW => (hW.cell (p := ⟨b, off + q * 2 + 1, none⟩) hbl).trans (hcells q hql 1 _ (by rw [← hd]; rfl)))
      rw [← HN.out] at hnc
      clear hcells hd hql
      have c0 := HF0.out _ HL.out.low
      have c1 := HF1.out _ HL.out.low
      cases hB : boundsB lo hi 0 50 with
      | false =>
        have HBB := Lib.hid hB
        clear hB HR
        go_wp2_with (first
          | (go_at_call 5; refine (bd_calls _ _ _ _ _).mono ?_; rintro e w1 ⟨rfl, hb⟩; rw [HBB.out]; have HL := Lib.hid (HL.out.below hb); clear hb)
          | (go_at_call 6; refine (stands_calls _).mono ?_; rintro e w2 ⟨rfl, hb2⟩; have HL := Lib.hid (HL.out.below hb2); clear hb2))
        go_ret
        exact lawDone HL.out.low
      | true =>
        have HBB := Lib.hid hB
        clear hB
        go_upto_region 9 with (go_at_call 5; refine (bd_calls _ _ _ _ _).mono ?_; rintro e w1 ⟨rfl, hb⟩; rw [HBB.out]; have HL := Lib.hid (HL.out.below hb); have HR := Lib.hid (HR.out.below hb); clear c0 c1; clear hb)
        have hb50 : 0 ≤ lo ∧ lo ≤ hi ∧ hi ≤ 100000000 := by have := HBB.out; simp only [boundsB, decide_eq_true_eq] at this; omega
        have hmm : (m : Int) ≤ 9223372036854775807 := by omega
        by_cases hpk : 2 * q + 1 < m
        · skip
          have hpkI : 2 * (q : Int) + 1 < (m : Int) := by omega
          obtain ⟨b', off', rfl, hb', _, hpc⟩ := HPC.out (by rw [← HM.out]; omega)
          obtain ⟨p0, hpe0⟩ : ∃ p, p = xs[2 * q]! := ⟨_, rfl⟩
          have hp0 : 0 ≤ p0 ∧ p0 ≤ 65535 := by rw [hpe0]; exact HXS.out _ (get_in (by rw [← HM.out]; omega))
          have q0 := cell_regrown (show w1.cell? ⟨b', off' + 2 * q, none⟩ = some (.int .u16 p0) from (HL.out.low.cell (p := ⟨b', off' + 2 * q, none⟩) hb').trans (by have := hpc (2 * q) (by rw [← HM.out]; omega) 0 (.int .u16 p0) (by rw [← hpe0]; rfl); simpa using this))
          obtain ⟨p1, hpe1⟩ : ∃ p, p = xs[2 * q + 1]! := ⟨_, rfl⟩
          have hp1 : 0 ≤ p1 ∧ p1 ≤ 65535 := by rw [hpe1]; exact HXS.out _ (get_in (by rw [← HM.out]; omega))
          have q1 := cell_regrown (show w1.cell? ⟨b', off' + (2 * q + 1), none⟩ = some (.int .u16 p1) from (HL.out.low.cell (p := ⟨b', off' + (2 * q + 1), none⟩) hb').trans (by have := hpc (2 * q + 1) (by rw [← HM.out]; omega) 0 (.int .u16 p1) (by rw [← hpe1]; rfl); simpa using this))
          have hi0 : (0 : Int) ≤ 2 * (q : Int) := by omega
          have hi1 : (0 : Int) ≤ 2 * (q : Int) + 1 := by omega
          have hj0 : 2 * (q : Int) < (m : Int) := by omega
          have en0 : (2 * (q : Int)).toNat = 2 * q := by omega
          have en1 : (2 * (q : Int) + 1).toNat = 2 * q + 1 := by omega
          clear hpc hpe0 hpe1
          go_upto_region 11 with fail
          refine wp_region_quiet_below (by kernel_rfl) (by kernel_rfl) ?_
          repeat (go_big_quiet_step (fail))
          refine wpQuiet_nil ?_
          intro wq hw'
          have hb8 : Below w1.heap.size w1 wq := by obtain ⟨⟨dq, osq⟩, hw''⟩ := hw'; rw [hw'']; exact below_regrown _ dq osq
          clear hw' q0 q1 hi0 hi1 hj0 en0 en1
          have HL := Lib.hid (HL.out.below hb8)
          have HR := Lib.hid (HR.out.below hb8)
          clear hb8
          generalize wq = v9 at HL HR ⊢
          have c0 := HF0.out _ HL.out.low
          have c1 := HF1.out _ HL.out.low
          obtain ⟨i0, i1, hI⟩ : ∃ i0 i1, innerOf lo hi (p0) (p1) = ⟨i0, i1⟩ := ⟨_, _, rfl⟩
          have hQ := inner_in (b := p0) (c := p1) hb50.2.1
          rw [hI] at hQ
          simp only at hQ
          have HQ := Lib.hid hQ
          have HKI := Lib.hid (fun W => by have := inner_calls lo hi (p0) (p1) W hb50 hp0 hp1; rw [hI] at this; exact this)
          clear hI hQ
          obtain ⟨i1_, hi1, hi1a, hi1b, hi1c⟩ := info_parts info_bds
          have HI1 := Lib.hid hi1; have HI1a := Lib.hid hi1a; have HI1b := Lib.hid hi1b; have HI1c := Lib.hid hi1c
          have HA1 := Lib.hid (show q + 1 ≤ maxLen ∧ (q + 1) * 16 ≤ 140737488355328 by unfold maxLen; omega)
          clear hi1 hi1a hi1b hi1c
          go_wp2_with (first | (go_at_call 7; refine (HKI.out _).mono ?_; rintro e w3 ⟨rfl, hb⟩; have HL := Lib.hid (HL.out.below hb); have HR := Lib.hid (HR.out.below hb); have HRa := Lib.hid (show Rowed w (w3.alloc (.cells #[.int .i64 i0, .int .i64 i1] 23)) ([(g0, 23, [.int .i64 slo, .int .i64 shi]), (g1, 23, [.int .i64 dlo, .int .i64 dhi]), (g2, 23, [.int .i64 wlo, .int .i64 whi]), (w3.heap.size, 23, [.int .i64 i0, .int .i64 i1])] : List (Nat × TypeId × List Value)) 23 2 (.slice sa sn sc) (q) (flat bdCells es) from HR.out.alloc 23 [.int .i64 i0, .int .i64 i1] rfl); have HLa := Lib.hid (show Locs w (w3.alloc (.cells #[.int .i64 i0, .int .i64 i1] 23)) [(g0, 23, [.int .i64 slo, .int .i64 shi]), (g1, 23, [.int .i64 dlo, .int .i64 dhi]), (g2, 23, [.int .i64 wlo, .int .i64 whi]), (w3.heap.size, 23, [.int .i64 i0, .int .i64 i1])] [] from HL.out.alloc 23 [.int .i64 i0, .int .i64 i1] rfl); clear hb c0 c1) | (at_builtin; refine wpList_append_lies _ rfl (.tmp 85) (.tmp 93) 24 rfl w.heap.size 23 i1_ (.agg #[.int .i64 0, .int .i64 0]) 2 16 Try.underlying24 HI1.out HI1a.out HI1b.out HI1c.out rfl (by decide) (.slice sa sn sc) q (flat bdCells es) rfl HRa.out.own ⟨w3.heap.size, 0, none⟩ 1 1 [.int .i64 i0, .int .i64 i1] rfl rfl (World.news_of_block (heap_alloc_new w3 _)) (by simp [Value.oneCell']) (by decide) HA1.out.1 HA1.out.2 HLa.out.low.size (w3.heap.size + 1) (World.size_alloc _ _) ?_; intro g cap w7 hown7 hg7 hat7 hlt7; have HL7 := Lib.hid (HLa.out.appended HRa.out hg7); have HR7 := Lib.hid (Rowed.appended HLa.out HRa.out hown7 (by rw [World.size_alloc]; exact hat7)); clear hown7 hg7 hat7 hlt7))
          go_roundw
          case rel =>
            have hql : q < l.length := by rw [← HN.out]; exact hlt
            have htk : l.take (q + 1) = l.take q ++ [⟨lo, hi⟩] := by rw [← List.take_append_getElem hql, HDQ.out, getElem!_pos l q hql]
            have hQ := HQ.out
            refine ⟨q + 1, es ++ [⟨i0, i1⟩], by omega, by go_num, Lib.hid (by rw [List.length_append, HEL.out]; rfl), Lib.hid ?_, Lib.hid ?_, Lib.hid ?_, Lib.hid ?_, Lib.hid (HL7.out.fewer (List.sublist_append_left ([(g0, 23, [.int .i64 slo, .int .i64 shi]), (g1, 23, [.int .i64 dlo, .int .i64 dhi]), (g2, 23, [.int .i64 wlo, .int .i64 whi])] : List (Nat × TypeId × List Value)) ([(w3.heap.size, 23, [.int .i64 i0, .int .i64 i1])] : List (Nat × TypeId × List Value))) (List.Sublist.refl _))⟩
            · rw [htk]
              exact HIN.out.append (.one (by unfold Bd.In; simp only; omega))
            · intro r hr
              rcases List.mem_append.1 hr with h1 | h1
              · exact HEB.out r h1
              · rw [List.mem_singleton.1 h1]
                have := HBB.out
                simp only [boundsB, decide_eq_true_eq] at this ⊢
                omega
            · intro r hr
              rw [htk] at hr
              rcases List.mem_append.1 hr with h1 | h1
              · exact HLB.out r h1
              · rw [List.mem_singleton.1 h1]
                exact HBB.out
            · rw [flat_append, show flat bdCells [(⟨i0, i1⟩ : Bd)] = [.int .i64 i0, .int .i64 i1] from rfl]
              exact HR7.out.fewer (List.sublist_append_left ([(g0, 23, [.int .i64 slo, .int .i64 shi]), (g1, 23, [.int .i64 dlo, .int .i64 dhi]), (g2, 23, [.int .i64 wlo, .int .i64 whi])] : List (Nat × TypeId × List Value)) ([(w3.heap.size, 23, [.int .i64 i0, .int .i64 i1])] : List (Nat × TypeId × List Value)))
          case measure => simp [intOf]; omega
        · skip
          have hpkI : (m : Int) ≤ 2 * (q : Int) + 1 := by omega
          have hp0 : 0 ≤ (q : Int) * 31 ∧ (q : Int) * 31 ≤ 65535 := by omega
          have hp1 : 0 ≤ (q : Int) * 7 ∧ (q : Int) * 7 ≤ 65535 := by omega
          go_upto_region 12 with fail
          have c0 := HF0.out _ HL.out.low
          have c1 := HF1.out _ HL.out.low
          obtain ⟨i0, i1, hI⟩ : ∃ i0 i1, innerOf lo hi ((q : Int) * 31) ((q : Int) * 7) = ⟨i0, i1⟩ := ⟨_, _, rfl⟩
          have hQ := inner_in (b := (q : Int) * 31) (c := (q : Int) * 7) hb50.2.1
          rw [hI] at hQ
          simp only at hQ
          have HQ := Lib.hid hQ
          have HKI := Lib.hid (fun W => by have := inner_calls lo hi ((q : Int) * 31) ((q : Int) * 7) W hb50 hp0 hp1; rw [hI] at this; exact this)
          clear hI hQ
          obtain ⟨i1_, hi1, hi1a, hi1b, hi1c⟩ := info_parts info_bds
          have HI1 := Lib.hid hi1; have HI1a := Lib.hid hi1a; have HI1b := Lib.hid hi1b; have HI1c := Lib.hid hi1c
          have HA1 := Lib.hid (show q + 1 ≤ maxLen ∧ (q + 1) * 16 ≤ 140737488355328 by unfold maxLen; omega)
          clear hi1 hi1a hi1b hi1c
          go_wp2_with (first | (go_at_call 7; refine (HKI.out _).mono ?_; rintro e w3 ⟨rfl, hb⟩; have HL := Lib.hid (HL.out.below hb); have HR := Lib.hid (HR.out.below hb); have HRa := Lib.hid (show Rowed w (w3.alloc (.cells #[.int .i64 i0, .int .i64 i1] 23)) ([(g0, 23, [.int .i64 slo, .int .i64 shi]), (g1, 23, [.int .i64 dlo, .int .i64 dhi]), (g2, 23, [.int .i64 wlo, .int .i64 whi]), (w3.heap.size, 23, [.int .i64 i0, .int .i64 i1])] : List (Nat × TypeId × List Value)) 23 2 (.slice sa sn sc) (q) (flat bdCells es) from HR.out.alloc 23 [.int .i64 i0, .int .i64 i1] rfl); have HLa := Lib.hid (show Locs w (w3.alloc (.cells #[.int .i64 i0, .int .i64 i1] 23)) [(g0, 23, [.int .i64 slo, .int .i64 shi]), (g1, 23, [.int .i64 dlo, .int .i64 dhi]), (g2, 23, [.int .i64 wlo, .int .i64 whi]), (w3.heap.size, 23, [.int .i64 i0, .int .i64 i1])] [] from HL.out.alloc 23 [.int .i64 i0, .int .i64 i1] rfl); clear hb c0 c1) | (at_builtin; refine wpList_append_lies _ rfl (.tmp 85) (.tmp 93) 24 rfl w.heap.size 23 i1_ (.agg #[.int .i64 0, .int .i64 0]) 2 16 Try.underlying24 HI1.out HI1a.out HI1b.out HI1c.out rfl (by decide) (.slice sa sn sc) q (flat bdCells es) rfl HRa.out.own ⟨w3.heap.size, 0, none⟩ 1 1 [.int .i64 i0, .int .i64 i1] rfl rfl (World.news_of_block (heap_alloc_new w3 _)) (by simp [Value.oneCell']) (by decide) HA1.out.1 HA1.out.2 HLa.out.low.size (w3.heap.size + 1) (World.size_alloc _ _) ?_; intro g cap w7 hown7 hg7 hat7 hlt7; have HL7 := Lib.hid (HLa.out.appended HRa.out hg7); have HR7 := Lib.hid (Rowed.appended HLa.out HRa.out hown7 (by rw [World.size_alloc]; exact hat7)); clear hown7 hg7 hat7 hlt7))
          go_roundw
          case rel =>
            have hql : q < l.length := by rw [← HN.out]; exact hlt
            have htk : l.take (q + 1) = l.take q ++ [⟨lo, hi⟩] := by rw [← List.take_append_getElem hql, HDQ.out, getElem!_pos l q hql]
            have hQ := HQ.out
            refine ⟨q + 1, es ++ [⟨i0, i1⟩], by omega, by go_num, Lib.hid (by rw [List.length_append, HEL.out]; rfl), Lib.hid ?_, Lib.hid ?_, Lib.hid ?_, Lib.hid ?_, Lib.hid (HL7.out.fewer (List.sublist_append_left ([(g0, 23, [.int .i64 slo, .int .i64 shi]), (g1, 23, [.int .i64 dlo, .int .i64 dhi]), (g2, 23, [.int .i64 wlo, .int .i64 whi])] : List (Nat × TypeId × List Value)) ([(w3.heap.size, 23, [.int .i64 i0, .int .i64 i1])] : List (Nat × TypeId × List Value))) (List.Sublist.refl _))⟩
            · rw [htk]
              exact HIN.out.append (.one (by unfold Bd.In; simp only; omega))
            · intro r hr
              rcases List.mem_append.1 hr with h1 | h1
              · exact HEB.out r h1
              · rw [List.mem_singleton.1 h1]
                have := HBB.out
                simp only [boundsB, decide_eq_true_eq] at this ⊢
                omega
            · intro r hr
              rw [htk] at hr
              rcases List.mem_append.1 hr with h1 | h1
              · exact HLB.out r h1
              · rw [List.mem_singleton.1 h1]
                exact HBB.out
            · rw [flat_append, show flat bdCells [(⟨i0, i1⟩ : Bd)] = [.int .i64 i0, .int .i64 i1] from rfl]
              exact HR7.out.fewer (List.sublist_append_left ([(g0, 23, [.int .i64 slo, .int .i64 shi]), (g1, 23, [.int .i64 dlo, .int .i64 dhi]), (g2, 23, [.int .i64 wlo, .int .i64 whi])] : List (Nat × TypeId × List Value)) ([(w3.heap.size, 23, [.int .i64 i0, .int .i64 i1])] : List (Nat × TypeId × List Value)))
          case measure => simp [intOf]; omega
    · skip
      have hqn : n = q := by omega
      subst hqn
      obtain rfl : n = sn := by have := row_len HR.out.own; omega
      have HLI := Lib.hid (show Yd.All2 Bd.In es l from by have := HIN.out; rwa [List.take_of_length_le (by rw [← HN.out]; exact Nat.le_refl _)] at this)
      have HLOK := Lib.hid (show ∀ r ∈ l, boundsB r.lo r.hi 0 50 = true from by have := HLB.out; rwa [List.take_of_length_le (by rw [← HN.out]; exact Nat.le_refl _)] at this)
      have HKH := Lib.hid (held_own HR.out.own bd_two HEL.out (by omega))
      have hair : Air ⟨slo, shi⟩ := by have := HS.out; simp only [boundsB, decide_eq_true_eq] at this; exact this
      have hokl : ∀ r ∈ l, r.Ok := fun r hr => ok_of_50 (HLOK.out r hr)
      have hoke : ∀ r ∈ es, r.Ok := fun r hr => ok_of_50 (HEB.out r hr)
      have HDI := Lib.hid (drys_in hair hair ⟨Int.le_refl _, Int.le_refl _⟩ hoke hokl HLI.out)
      have HDA := Lib.hid (drys_air hair hokl)
      have HKA := Lib.hid (drys_air hair hoke)
      have HDL := Lib.hid (show (drys ⟨slo, shi⟩ l).length = n from by rw [drys_len, HN.out])
      have HKL := Lib.hid (show (drys ⟨slo, shi⟩ es).length = n from by rw [drys_len, HEL.out])
      have HDY1 := Lib.hid (fun (W : World) (hW : Below w.heap.size w W) => dryness_calls slo shi (.slice a n cp) l W ((HH.out.below hW).mono hW.size) (by rw [← HN.out]; omega) HS.out HLOK.out)
      have HDY2 := Lib.hid (fun (W : World) (hW : Below wr.heap.size wr W) => dryness_calls slo shi (.slice sa n sc) es W ((HKH.out.below hW).mono hW.size) (by rw [HEL.out]; omega) HS.out HEB.out)
      have HBR := Lib.hid (Below.refl wr.heap.size wr)
      have HWL := Lib.hid HL.out.low
      have HKW := Lib.hid (fun (W : World) (hW : Below wr.heap.size wr W) => (HKH.out.below hW).mono hW.size)
      have hwat : (⟨wlo, whi⟩ : Bd).Up 100000000 := by have := HW.out; simp only [boundsB, decide_eq_true_eq] at this; exact this
      have HRW := Lib.hid (fun (l0 a0 : Int) (h1 : Bd.Has l0 ⟨wlo, whi⟩) (h2 : Bd.Has a0 ⟨slo, shi⟩) => real_wet (up_ok hwat) hair hoke h1 h2 (realRain_has (i := 0) hoke))
      clear HR HIN HLB hair hokl hoke hwat
      generalize drys ⟨slo, shi⟩ l = dd at HDI HDA HDL HDY1
      generalize drys ⟨slo, shi⟩ es = kk at HDI HKA HKL HDY2 HRW
      have y0 := HL.out.at 0 0 (v := .int .i64 slo) rfl rfl
      have y1 := HL.out.at 0 1 (v := .int .i64 shi) rfl rfl
      have y2 := HL.out.at 1 0 (v := .int .i64 dlo) rfl rfl
      have y3 := HL.out.at 1 1 (v := .int .i64 dhi) rfl rfl
      have y4 := HL.out.at 2 0 (v := .int .i64 wlo) rfl rfl
      have y5 := HL.out.at 2 1 (v := .int .i64 whi) rfl rfl
      go_upto_region 14 with (go_at_call 8; refine (HDY1.out _ HL.out.low).mono ?_; rintro e w4 ⟨dv, rfl, hb, hrow⟩; rw [HDL.out] at hrow; obtain ⟨da, dn, dc, rfl⟩ := row_slice hrow; obtain rfl : n = dn := (row_len hrow).symm; have HDH := Lib.hid (fun (W : World) (hW : Below w4.heap.size w4 W) => ((held_own hrow bd_two HDL.out (by omega)).below hW).mono hW.size); have HB4 := Lib.hid (Below.refl w4.heap.size w4); have HL := Lib.hid (HL.out.below hb); have HBR := Lib.hid (HBR.out.trans (hb.mono HBR.out.size)); have y0 := HL.out.at 0 0 (v := .int .i64 slo) rfl rfl; have y1 := HL.out.at 0 1 (v := .int .i64 shi) rfl rfl; have y2 := HL.out.at 1 0 (v := .int .i64 dlo) rfl rfl; have y3 := HL.out.at 1 1 (v := .int .i64 dhi) rfl rfl; have y4 := HL.out.at 2 0 (v := .int .i64 wlo) rfl rfl; have y5 := HL.out.at 2 1 (v := .int .i64 whi) rfl rfl; clear hb; clear hrow)
      go_upto_region 15 with (go_at_call 8; refine (HDY2.out _ HBR.out).mono ?_; rintro e w5 ⟨kv, rfl, hb, hrow⟩; rw [HKL.out] at hrow; obtain ⟨ka, kn, kc, rfl⟩ := row_slice hrow; obtain rfl : n = kn := (row_len hrow).symm; have HKD := Lib.hid (fun (W : World) (hW : Below w5.heap.size w5 W) => ((held_own hrow bd_two HKL.out (by omega)).below hW).mono hW.size); have HB4 := Lib.hid (HB4.out.trans (hb.mono HB4.out.size)); have HB5 := Lib.hid (Below.refl w5.heap.size w5); have HL := Lib.hid (HL.out.below hb); have HBR := Lib.hid (HBR.out.trans (hb.mono HBR.out.size)); have y0 := HL.out.at 0 0 (v := .int .i64 slo) rfl rfl; have y1 := HL.out.at 0 1 (v := .int .i64 shi) rfl rfl; have y2 := HL.out.at 1 0 (v := .int .i64 dlo) rfl rfl; have y3 := HL.out.at 1 1 (v := .int .i64 dhi) rfl rfl; have y4 := HL.out.at 2 0 (v := .int .i64 wlo) rfl rfl; have y5 := HL.out.at 2 1 (v := .int .i64 whi) rfl rfl; clear hb; clear hrow)
      clear HDY1 HDY2
      have hdry : (⟨dlo, dhi⟩ : Bd).Up 100000000 := by have := HD.out; simp only [boundsB, decide_eq_true_eq] at this; exact this
      have hwat : (⟨wlo, whi⟩ : Bd).Up 100000000 := by have := HW.out; simp only [boundsB, decide_eq_true_eq] at this; exact this
      have HRA1 := Lib.hid (fun (W : World) (hW : Below w4.heap.size w4 W) => dried_calls dlo dhi wlo whi (.slice da n dc) dd W (HDH.out W hW) (by rw [HDL.out]; omega) HDA.out)
      have HRA2 := Lib.hid (fun (W : World) (hW : Below w5.heap.size w5 W) => dried_calls dlo dhi wlo whi (.slice ka n kc) kk W (HKD.out W hW) (by rw [HKL.out]; omega) HKA.out)
      have HFO1 := Lib.hid (fun (v : Value) (W : World) (h : Held W.heap.size W 8 deedCells v (driedDeeds codeS noCode ⟨dlo, dhi⟩ ⟨wlo, whi⟩ dd)) => by have := rain_follow hdry hwat (by rw [HDL.out]; omega) HDA.out v W h; rw [HDL.out] at this; exact this)
      have HFO2 := Lib.hid (fun (v : Value) (W : World) (h : Held W.heap.size W 8 deedCells v (driedDeeds codeS noCode ⟨dlo, dhi⟩ ⟨wlo, whi⟩ kk)) => by have := rain_follow hdry hwat (by rw [HKL.out]; omega) HKA.out v W h; rw [HKL.out] at this; exact this)
      have HLD := Lib.hid (show (driedDeeds codeS noCode ⟨dlo, dhi⟩ ⟨wlo, whi⟩ dd).length ≤ 140737488355328 from by unfold driedDeeds; rw [List.length_cons, rests_len, HDL.out]; omega)
      have HLK := Lib.hid (show (driedDeeds codeS noCode ⟨dlo, dhi⟩ ⟨wlo, whi⟩ kk).length ≤ 140737488355328 from by unfold driedDeeds; rw [List.length_cons, rests_len, HKL.out]; omega)
      have hin0 : Bd.In (⟨wlo, whi⟩ : Bd) ⟨wlo, whi⟩ := ⟨Int.le_refl _, Int.le_refl _⟩
      have hwi := wet_in (up_ok hwat) (up_ok hwat) hin0 HKA.out HDA.out HDI.out
      have hvi := vapours_in (v := .zero) (y := .zero) ⟨Int.le_refl _, Int.le_refl _⟩ (up_ok hwat) (up_ok hwat) hin0 HKA.out HDA.out HDI.out
      have HWI := Lib.hid hwi
      have HVI := Lib.hid hvi
      clear hin0 hwi hvi hdry hwat
      generalize wet ⟨wlo, whi⟩ dd = wd at HFO1 HWI
      generalize wet ⟨wlo, whi⟩ kk = wk at HFO2 HWI HRW
      generalize vapours .zero ⟨wlo, whi⟩ dd = vd at HFO1 HVI
      generalize vapours .zero ⟨wlo, whi⟩ kk = vk at HFO2 HVI
      go_upto_region 18 with fail
      go_upto_region 19 with (first
        | (go_at_call 10; refine (HRA1.out _ HB4.out).mono ?_; rintro e w6 ⟨yv, rfl, hb, hrow⟩; have HYH := Lib.hid (held_own hrow deed_eight rfl HLD.out); have HB4 := Lib.hid (HB4.out.trans (hb.mono HB4.out.size)); have HB5 := Lib.hid (HB5.out.trans (hb.mono HB5.out.size)); have HBR := Lib.hid (HBR.out.trans (hb.mono HBR.out.size)); have HL := Lib.hid (HL.out.below hb); have y0 := HL.out.at 0 0 (v := .int .i64 slo) rfl rfl; have y1 := HL.out.at 0 1 (v := .int .i64 shi) rfl rfl; have y2 := HL.out.at 1 0 (v := .int .i64 dlo) rfl rfl; have y3 := HL.out.at 1 1 (v := .int .i64 dhi) rfl rfl; have y4 := HL.out.at 2 0 (v := .int .i64 wlo) rfl rfl; have y5 := HL.out.at 2 1 (v := .int .i64 whi) rfl rfl; clear hb hrow)
        | (go_at_call 9; refine (HFO1.out _ _ HYH.out).mono ?_; rintro e w7 ⟨fv1, tv, rfl, hb, hst⟩; obtain ⟨t1a, t1n, t1c, rfl⟩ := row_slice hst.things; have HB4 := Lib.hid (HB4.out.trans (hb.mono HB4.out.size)); have HB5 := Lib.hid (HB5.out.trans (hb.mono HB5.out.size)); have HBR := Lib.hid (HBR.out.trans (hb.mono HBR.out.size)); have HL := Lib.hid (HL.out.stand hb hst rfl); clear hb hst HYH)
        | ((with_reducible refine at_store 37 (.tmp 20) (.tmp 137) ?_); go_must (refine wpList_store_mid rfl 37 (.tmp 20) (.tmp 137) rfl w7.heap.size 0 #[.slice t1a t1n t1c, .int .i64 vd.lo, .int .i64 vd.hi, .int .i64 0, .int .i64 0, .int .i64 0, .int .i64 0, .int .i64 0, .int .i64 0, .int .i64 0, .int .i64 0, .int .i64 0, .int .i64 0] rfl rfl ((Blk.new w7 37 #[.slice none 0 0, .int .i64 0, .int .i64 0, .int .i64 0, .int .i64 0, .int .i64 0, .int .i64 0, .int .i64 0, .int .i64 0, .int .i64 0, .int .i64 0, .int .i64 0, .int .i64 0]).there (o := 0) (n := 13) (Nat.le_of_ble_eq_true rfl)) size_standing (by simp [Value.oneCell']) ?_)))
      have HB4' := Lib.hid (below_setCells (HB4.out.alloc HB4.out.size (.cells #[.slice none 0 0, .int .i64 0, .int .i64 0, .int .i64 0, .int .i64 0, .int .i64 0, .int .i64 0, .int .i64 0, .int .i64 0, .int .i64 0, .int .i64 0, .int .i64 0, .int .i64 0] 37)) HB4.out.size [.slice t1a t1n t1c, .int .i64 vd.lo, .int .i64 vd.hi, .int .i64 0, .int .i64 0, .int .i64 0, .int .i64 0, .int .i64 0, .int .i64 0, .int .i64 0, .int .i64 0, .int .i64 0, .int .i64 0] 0)
      clear HB4
      have HB4 := HB4'
      clear HB4'
      have HB5' := Lib.hid (below_setCells (HB5.out.alloc HB5.out.size (.cells #[.slice none 0 0, .int .i64 0, .int .i64 0, .int .i64 0, .int .i64 0, .int .i64 0, .int .i64 0, .int .i64 0, .int .i64 0, .int .i64 0, .int .i64 0, .int .i64 0, .int .i64 0] 37)) HB5.out.size [.slice t1a t1n t1c, .int .i64 vd.lo, .int .i64 vd.hi, .int .i64 0, .int .i64 0, .int .i64 0, .int .i64 0, .int .i64 0, .int .i64 0, .int .i64 0, .int .i64 0, .int .i64 0, .int .i64 0] 0)
      clear HB5
      have HB5 := HB5'
      clear HB5'
      have HBR' := Lib.hid (below_setCells (HBR.out.alloc HBR.out.size (.cells #[.slice none 0 0, .int .i64 0, .int .i64 0, .int .i64 0, .int .i64 0, .int .i64 0, .int .i64 0, .int .i64 0, .int .i64 0, .int .i64 0, .int .i64 0, .int .i64 0, .int .i64 0] 37)) HBR.out.size [.slice t1a t1n t1c, .int .i64 vd.lo, .int .i64 vd.hi, .int .i64 0, .int .i64 0, .int .i64 0, .int .i64 0, .int .i64 0, .int .i64 0, .int .i64 0, .int .i64 0, .int .i64 0, .int .i64 0] 0)
      clear HBR
      have HBR := HBR'
      clear HBR'
      have HLn := Lib.hid (show Locs w ((w7.alloc (.cells #[.slice none 0 0, .int .i64 0, .int .i64 0, .int .i64 0, .int .i64 0, .int .i64 0, .int .i64 0, .int .i64 0, .int .i64 0, .int .i64 0, .int .i64 0, .int .i64 0, .int .i64 0] 37)).setCells w7.heap.size 0 [.slice t1a t1n t1c, .int .i64 vd.lo, .int .i64 vd.hi, .int .i64 0, .int .i64 0, .int .i64 0, .int .i64 0, .int .i64 0, .int .i64 0, .int .i64 0, .int .i64 0, .int .i64 0, .int .i64 0]) [(g0, 23, [.int .i64 slo, .int .i64 shi]), (g1, 23, [.int .i64 dlo, .int .i64 dhi]), (g2, 23, [.int .i64 wlo, .int .i64 whi]), (w7.heap.size, 37, [.slice t1a t1n t1c, .int .i64 vd.lo, .int .i64 vd.hi, .int .i64 0, .int .i64 0, .int .i64 0, .int .i64 0, .int .i64 0, .int .i64 0, .int .i64 0, .int .i64 0, .int .i64 0, .int .i64 0])] [([(⟨codeS, ⟨dlo, dhi⟩, wd, 0, -1, [0]⟩, fv1)], .slice t1a t1n t1c)] from (HL.out.alloc 37 [.slice none 0 0, .int .i64 0, .int .i64 0, .int .i64 0, .int .i64 0, .int .i64 0, .int .i64 0, .int .i64 0, .int .i64 0, .int .i64 0, .int .i64 0, .int .i64 0, .int .i64 0] rfl).setLoc 3 [] [.slice none 0 0, .int .i64 0, .int .i64 0, .int .i64 0, .int .i64 0, .int .i64 0, .int .i64 0, .int .i64 0, .int .i64 0, .int .i64 0, .int .i64 0, .int .i64 0, .int .i64 0] [] [.slice t1a t1n t1c, .int .i64 vd.lo, .int .i64 vd.hi, .int .i64 0, .int .i64 0, .int .i64 0, .int .i64 0, .int .i64 0, .int .i64 0, .int .i64 0, .int .i64 0, .int .i64 0, .int .i64 0] rfl rfl)
      clear HL y0 y1 y2 y3 y4 y5
      have HL := HLn
      clear HLn
      generalize ((w7.alloc (.cells #[.slice none 0 0, .int .i64 0, .int .i64 0, .int .i64 0, .int .i64 0, .int .i64 0, .int .i64 0, .int .i64 0, .int .i64 0, .int .i64 0, .int .i64 0, .int .i64 0, .int .i64 0] 37)).setCells w7.heap.size 0 [.slice t1a t1n t1c, .int .i64 vd.lo, .int .i64 vd.hi, .int .i64 0, .int .i64 0, .int .i64 0, .int .i64 0, .int .i64 0, .int .i64 0, .int .i64 0, .int .i64 0, .int .i64 0, .int .i64 0]) = x1 at HL HB4 HB5 HBR ⊢
      generalize w7.heap.size = g20 at HL ⊢
      try simp only [Act.put]
      clear HB4
      have y0 := HL.out.at 0 0 (v := .int .i64 slo) rfl rfl
      have y1 := HL.out.at 0 1 (v := .int .i64 shi) rfl rfl
      have y2 := HL.out.at 1 0 (v := .int .i64 dlo) rfl rfl
      have y3 := HL.out.at 1 1 (v := .int .i64 dhi) rfl rfl
      have y4 := HL.out.at 2 0 (v := .int .i64 wlo) rfl rfl
      have y5 := HL.out.at 2 1 (v := .int .i64 whi) rfl rfl
      go_upto_region 20 with (first
        | (go_at_call 10; refine (HRA2.out _ HB5.out).mono ?_; rintro e w6 ⟨yv, rfl, hb, hrow⟩; have HYH := Lib.hid (held_own hrow deed_eight rfl HLK.out); have HB5 := Lib.hid (HB5.out.trans (hb.mono HB5.out.size)); have HBR := Lib.hid (HBR.out.trans (hb.mono HBR.out.size)); have HL := Lib.hid (HL.out.below hb); have y0 := HL.out.at 0 0 (v := .int .i64 slo) rfl rfl; have y1 := HL.out.at 0 1 (v := .int .i64 shi) rfl rfl; have y2 := HL.out.at 1 0 (v := .int .i64 dlo) rfl rfl; have y3 := HL.out.at 1 1 (v := .int .i64 dhi) rfl rfl; have y4 := HL.out.at 2 0 (v := .int .i64 wlo) rfl rfl; have y5 := HL.out.at 2 1 (v := .int .i64 whi) rfl rfl; clear hb hrow)
        | (go_at_call 9; refine (HFO2.out _ _ HYH.out).mono ?_; rintro e w7 ⟨fv2, tv, rfl, hb, hst⟩; obtain ⟨t2a, t2n, t2c, rfl⟩ := row_slice hst.things; have HB5 := Lib.hid (HB5.out.trans (hb.mono HB5.out.size)); have HBR := Lib.hid (HBR.out.trans (hb.mono HBR.out.size)); have HL := Lib.hid (HL.out.stand hb hst rfl); clear hb hst HYH)
        | ((with_reducible refine at_store 37 (.tmp 23) (.tmp 148) ?_); go_must (refine wpList_store_mid rfl 37 (.tmp 23) (.tmp 148) rfl w7.heap.size 0 #[.slice t2a t2n t2c, .int .i64 vk.lo, .int .i64 vk.hi, .int .i64 0, .int .i64 0, .int .i64 0, .int .i64 0, .int .i64 0, .int .i64 0, .int .i64 0, .int .i64 0, .int .i64 0, .int .i64 0] rfl rfl ((Blk.new w7 37 #[.slice none 0 0, .int .i64 0, .int .i64 0, .int .i64 0, .int .i64 0, .int .i64 0, .int .i64 0, .int .i64 0, .int .i64 0, .int .i64 0, .int .i64 0, .int .i64 0, .int .i64 0]).there (o := 0) (n := 13) (Nat.le_of_ble_eq_true rfl)) size_standing (by simp [Value.oneCell']) ?_)))
      have HB5' := Lib.hid (below_setCells (HB5.out.alloc HB5.out.size (.cells #[.slice none 0 0, .int .i64 0, .int .i64 0, .int .i64 0, .int .i64 0, .int .i64 0, .int .i64 0, .int .i64 0, .int .i64 0, .int .i64 0, .int .i64 0, .int .i64 0, .int .i64 0] 37)) HB5.out.size [.slice t2a t2n t2c, .int .i64 vk.lo, .int .i64 vk.hi, .int .i64 0, .int .i64 0, .int .i64 0, .int .i64 0, .int .i64 0, .int .i64 0, .int .i64 0, .int .i64 0, .int .i64 0, .int .i64 0] 0)
      clear HB5
      have HB5 := HB5'
      clear HB5'
      have HBR' := Lib.hid (below_setCells (HBR.out.alloc HBR.out.size (.cells #[.slice none 0 0, .int .i64 0, .int .i64 0, .int .i64 0, .int .i64 0, .int .i64 0, .int .i64 0, .int .i64 0, .int .i64 0, .int .i64 0, .int .i64 0, .int .i64 0, .int .i64 0] 37)) HBR.out.size [.slice t2a t2n t2c, .int .i64 vk.lo, .int .i64 vk.hi, .int .i64 0, .int .i64 0, .int .i64 0, .int .i64 0, .int .i64 0, .int .i64 0, .int .i64 0, .int .i64 0, .int .i64 0, .int .i64 0] 0)
      clear HBR
      have HBR := HBR'
      clear HBR'
      have HLn := Lib.hid (show Locs w ((w7.alloc (.cells #[.slice none 0 0, .int .i64 0, .int .i64 0, .int .i64 0, .int .i64 0, .int .i64 0, .int .i64 0, .int .i64 0, .int .i64 0, .int .i64 0, .int .i64 0, .int .i64 0, .int .i64 0] 37)).setCells w7.heap.size 0 [.slice t2a t2n t2c, .int .i64 vk.lo, .int .i64 vk.hi, .int .i64 0, .int .i64 0, .int .i64 0, .int .i64 0, .int .i64 0, .int .i64 0, .int .i64 0, .int .i64 0, .int .i64 0, .int .i64 0]) [(g0, 23, [.int .i64 slo, .int .i64 shi]), (g1, 23, [.int .i64 dlo, .int .i64 dhi]), (g2, 23, [.int .i64 wlo, .int .i64 whi]), (g20, 37, [.slice t1a t1n t1c, .int .i64 vd.lo, .int .i64 vd.hi, .int .i64 0, .int .i64 0, .int .i64 0, .int .i64 0, .int .i64 0, .int .i64 0, .int .i64 0, .int .i64 0, .int .i64 0, .int .i64 0]), (w7.heap.size, 37, [.slice t2a t2n t2c, .int .i64 vk.lo, .int .i64 vk.hi, .int .i64 0, .int .i64 0, .int .i64 0, .int .i64 0, .int .i64 0, .int .i64 0, .int .i64 0, .int .i64 0, .int .i64 0, .int .i64 0])] [([(⟨codeS, ⟨dlo, dhi⟩, wd, 0, -1, [0]⟩, fv1)], .slice t1a t1n t1c), ([(⟨codeS, ⟨dlo, dhi⟩, wk, 0, -1, [0]⟩, fv2)], .slice t2a t2n t2c)] from (HL.out.alloc 37 [.slice none 0 0, .int .i64 0, .int .i64 0, .int .i64 0, .int .i64 0, .int .i64 0, .int .i64 0, .int .i64 0, .int .i64 0, .int .i64 0, .int .i64 0, .int .i64 0, .int .i64 0] rfl).setLoc 4 [] [.slice none 0 0, .int .i64 0, .int .i64 0, .int .i64 0, .int .i64 0, .int .i64 0, .int .i64 0, .int .i64 0, .int .i64 0, .int .i64 0, .int .i64 0, .int .i64 0, .int .i64 0] [] [.slice t2a t2n t2c, .int .i64 vk.lo, .int .i64 vk.hi, .int .i64 0, .int .i64 0, .int .i64 0, .int .i64 0, .int .i64 0, .int .i64 0, .int .i64 0, .int .i64 0, .int .i64 0, .int .i64 0] rfl rfl)
      clear HL y0 y1 y2 y3 y4 y5
      have HL := HLn
      clear HLn
      generalize ((w7.alloc (.cells #[.slice none 0 0, .int .i64 0, .int .i64 0, .int .i64 0, .int .i64 0, .int .i64 0, .int .i64 0, .int .i64 0, .int .i64 0, .int .i64 0, .int .i64 0, .int .i64 0, .int .i64 0] 37)).setCells w7.heap.size 0 [.slice t2a t2n t2c, .int .i64 vk.lo, .int .i64 vk.hi, .int .i64 0, .int .i64 0, .int .i64 0, .int .i64 0, .int .i64 0, .int .i64 0, .int .i64 0, .int .i64 0, .int .i64 0, .int .i64 0]) = x2 at HL HB5 HBR ⊢
      generalize w7.heap.size = g23 at HL ⊢
      try simp only [Act.put]
      have HKN := Lib.hid (HKW.out _ HBR.out)
      clear HBR HKW HKH
      clear HB5 HRA1 HRA2 HFO1 HFO2 HLD HLK HDH HKD HDI HDA HKA HDL HKL
      obtain rfl : t1n = 1 := row_len (HL.out.stood 0 rfl).things
      obtain ⟨gp1, cp1, hvp, hgp, hcp1⟩ := (HL.out.stood 0 rfl).row (k := 0) rfl
      injection hvp with e1 e2 e3
      subst e1 e3
      clear e2 hgp
      obtain rfl : t2n = 1 := row_len (HL.out.stood 1 rfl).things
      obtain ⟨gp2, cp2, hvp, hgp, hcp2⟩ := (HL.out.stood 1 rfl).row (k := 0) rfl
      injection hvp with e1 e2 e3
      subst e1 e3
      clear e2 hgp
      have s0 := HL.out.at 3 0 (v := .slice (some ⟨gp1, 0, none⟩) 1 t1c) rfl rfl
      have s1 := HL.out.at 4 0 (v := .slice (some ⟨gp2, 0, none⟩) 1 t2c) rfl rfl
      go_upto_region 22 with fail
      clear s0 s1
      have c13 := cell_regrown (show x2.cell? ⟨gp1, 3, none⟩ = some (.int .i64 wd.lo) from by have := hcp1 3 (by decide); simpa [rowCells, stkCells] using this)
      have c14 := cell_regrown (show x2.cell? ⟨gp1, 4, none⟩ = some (.int .i64 wd.hi) from by have := hcp1 4 (by decide); simpa [rowCells, stkCells] using this)
      have c23 := cell_regrown (show x2.cell? ⟨gp2, 3, none⟩ = some (.int .i64 wk.lo) from by have := hcp2 3 (by decide); simpa [rowCells, stkCells] using this)
      have c24 := cell_regrown (show x2.cell? ⟨gp2, 4, none⟩ = some (.int .i64 wk.hi) from by have := hcp2 4 (by decide); simpa [rowCells, stkCells] using this)
      have q0 := cell_regrown (show x2.cell? ⟨g20, 0, none⟩ = some (.slice (some ⟨gp1, 0, none⟩) 1 t1c) from HL.out.at 3 0 rfl rfl)
      have q1 := cell_regrown (show x2.cell? ⟨g20, 1, none⟩ = some (.int .i64 vd.lo) from HL.out.at 3 1 rfl rfl)
      have q2 := cell_regrown (show x2.cell? ⟨g20, 2, none⟩ = some (.int .i64 vd.hi) from HL.out.at 3 2 rfl rfl)
      have q3 := cell_regrown (show x2.cell? ⟨g23, 0, none⟩ = some (.slice (some ⟨gp2, 0, none⟩) 1 t2c) from HL.out.at 4 0 rfl rfl)
      have q4 := cell_regrown (show x2.cell? ⟨g23, 1, none⟩ = some (.int .i64 vk.lo) from HL.out.at 4 1 rfl rfl)
      have q5 := cell_regrown (show x2.cell? ⟨g23, 2, none⟩ = some (.int .i64 vk.hi) from HL.out.at 4 2 rfl rfl)
      have a1 := regrown_calls (W := x2) (fun W => inside_yes wk.lo wk.hi wd.lo wd.hi W HWI.out)
      have a2 := regrown_calls (W := x2) (fun W => inside_yes vk.lo vk.hi vd.lo vd.hi W HVI.out)
      clear hcp1 hcp2
      refine wp_region_quiet_below (by kernel_rfl) (by kernel_rfl) ?_
      repeat (go_big_quiet_step (first | (with_reducible exact a1 _ _) | (with_reducible exact a2 _ _)))
      refine wpQuiet_nil ?_
      intro wq hw'
      have hb8 : Below x2.heap.size x2 wq := by obtain ⟨⟨dq, osq⟩, hw''⟩ := hw'; rw [hw'']; exact below_regrown _ dq osq
      clear hw' q0 q1 q2 q3 q4 q5 c13 c14 c23 c24 a1 a2
      have HLn := Lib.hid (HL.out.below hb8)
      have HKNn := Lib.hid ((HKN.out.below hb8).mono hb8.size)
      clear hb8 HL HKN
      have HL := HLn
      have HKN := HKNn
      clear HLn HKNn
      generalize wq = x3 at HL HKN ⊢
      go_upto_region 25 with fail
      have q0 := cell_regrown (show x3.cell? ⟨g0, 0, none⟩ = some (.int .i64 slo) from HL.out.at 0 0 rfl rfl)
      have q1 := cell_regrown (show x3.cell? ⟨g0, 1, none⟩ = some (.int .i64 shi) from HL.out.at 0 1 rfl rfl)
      have q2 := cell_regrown (show x3.cell? ⟨g2, 0, none⟩ = some (.int .i64 wlo) from HL.out.at 2 0 rfl rfl)
      have q3 := cell_regrown (show x3.cell? ⟨g2, 1, none⟩ = some (.int .i64 whi) from HL.out.at 2 1 rfl rfl)
      have hst0 : 0 ≤ slo ∧ slo ≤ shi ∧ shi ≤ 9 := by have := HS.out; simp only [boundsB, decide_eq_true_eq] at this; exact this
      have hwt0 : 0 ≤ wlo ∧ wlo ≤ whi ∧ whi ≤ 100000000 := by have := HW.out; simp only [boundsB, decide_eq_true_eq] at this; exact this
      have hby : 0 ≤ (n : Int) + 1 ∧ (n : Int) + 1 ≤ 65535 := by omega
      have a1 := regrown_calls (W := x3) (fun W => pick_calls slo shi ((n : Int) + 1) W (by omega) hby)
      have a2 := regrown_calls (W := x3) (fun W => pick_calls wlo whi ((n : Int) + 1) W hwt0 hby)
      have ha0 := pick_in (b := (n : Int) + 1) hst0.2.1
      have hl0 := pick_in (b := (n : Int) + 1) hwt0.2.1
      have HFN := Lib.hid (HRW.out _ _ hl0 ha0)
      generalize pickOf slo shi ((n : Int) + 1) = a0 at a1 ha0 HFN
      generalize pickOf wlo whi ((n : Int) + 1) = l0 at a2 hl0 HFN
      have ha0 : 0 ≤ a0 ∧ a0 ≤ 9 := by omega
      have hl0 : 0 ≤ l0 ∧ l0 ≤ 100000000 := by omega
      clear hst0 hwt0 hby
      refine wp_region_quiet_below (by kernel_rfl) (by kernel_rfl) ?_
      repeat (go_big_quiet_step (first | (with_reducible exact a1 _ _) | (with_reducible exact a2 _ _)))
      refine wpQuiet_nil ?_
      intro wq hw'
      have hb8 : Below x3.heap.size x3 wq := by obtain ⟨⟨dq, osq⟩, hw''⟩ := hw'; rw [hw'']; exact below_regrown _ dq osq
      clear hw' q0 q1 q2 q3 a1 a2
      have HLn := Lib.hid (HL.out.below hb8)
      have HKNn := Lib.hid ((HKN.out.below hb8).mono hb8.size)
      clear hb8 HL HKN
      have HL := HLn
      have HKN := HKNn
      clear HLn HKNn
      generalize wq = x4 at HL HKN ⊢
      clear HRW HWI HVI
      go_wp2
      go_loopw [27, 28, 29] (fun av lv iv wr => ∃ (q : Nat) (a l : Int), q ≤ n ∧ av = .int .i64 a ∧ lv = .int .i64 l ∧ iv = .int .i64 q ∧ (0 ≤ a ∧ a ≤ 9) ∧ (0 ≤ l ∧ l ≤ 100000000) ∧ Hid (realWet l a ((realRain 0 es).drop q) = realWet l0 a0 (realRain 0 es)) ∧ Hid (Locs w wr [(g0, 23, [.int .i64 slo, .int .i64 shi]), (g1, 23, [.int .i64 dlo, .int .i64 dhi]), (g2, 23, [.int .i64 wlo, .int .i64 whi]), (g20, 37, [.slice (some ⟨gp1, 0, none⟩) 1 t1c, .int .i64 vd.lo, .int .i64 vd.hi, .int .i64 0, .int .i64 0, .int .i64 0, .int .i64 0, .int .i64 0, .int .i64 0, .int .i64 0, .int .i64 0, .int .i64 0, .int .i64 0]), (g23, 37, [.slice (some ⟨gp2, 0, none⟩) 1 t2c, .int .i64 vk.lo, .int .i64 vk.hi, .int .i64 0, .int .i64 0, .int .i64 0, .int .i64 0, .int .i64 0, .int .i64 0, .int .i64 0, .int .i64 0, .int .i64 0, .int .i64 0])] [([(⟨codeS, ⟨dlo, dhi⟩, wd, 0, -1, [0]⟩, fv1)], .slice (some ⟨gp1, 0, none⟩) 1 t1c), ([(⟨codeS, ⟨dlo, dhi⟩, wk, 0, -1, [0]⟩, fv2)], .slice (some ⟨gp2, 0, none⟩) 1 t2c)]) ∧ Hid (Below x4.heap.size x4 wr)) (fun _ _ iv _ => n - (intOf iv).toNat)
      case atStart => exact ⟨0, a0, l0, Nat.zero_le _, rfl, rfl, rfl, ha0, hl0, Lib.hid (by rw [List.drop_zero]), HL, Lib.hid (Below.refl _ _)⟩
      case round =>
        clear HL ha0 hl0
        obtain ⟨q, a1, l1, hq1, rfl, rfl, rfl, ha1, hl1, HEQ, HL, HB⟩ := hrel
        by_cases hq2 : q < n
        · skip
          have hqI : (q : Int) < (n : Int) := by omega
          have hq0 : (0 : Int) ≤ (q : Int) := by omega
          have hqe : q < es.length := by rw [HEL.out]; exact hq2
          obtain ⟨a3, c3, hv3, _, hks⟩ := HKN.out.slice
          injection hv3 with e1 e2 e3
          subst e1 e3
          obtain ⟨b, off, rfl, hbl, ⟨hnc, hcm⟩, hcells⟩ := hks (by omega)
          rw [HEL.out] at hnc
          obtain ⟨⟨lo, hi⟩, hd⟩ : ∃ d, d = es[q]! := ⟨_, rfl⟩
          have hb50 : 0 ≤ lo ∧ lo ≤ hi ∧ hi ≤ 50 := by have := HEB.out _ (get_in hqe); rw [← hd] at this; simp only [boundsB, decide_eq_true_eq] at this; omega
          have c0 : wr.cell? ⟨b, off + q * 2, none⟩ = some (.int .i64 lo) := (HB.out.cell (p := ⟨b, off + q * 2 + 0, none⟩) hbl).trans (hcells q hqe 0 _ (by rw [← hd]; rfl))
          have c1 : wr.cell? ⟨b, off + q * 2 + 1, none⟩ = some (.int .i64 hi) := (HB.out.cell (p := ⟨b, off + q * 2 + 1, none⟩) hbl).trans (hcells q hqe 1 _ (by rw [← hd]; rfl))
          have hdr := realRain_drop (rs := es) (i := 0) (q := q) hqe
          rw [← hd, Nat.zero_add, show ((7 * q : Nat) : Int) = 7 * (q : Int) from by omega] at hdr
          simp only at hdr
          have hp := pick_in (b := 7 * (q : Int)) hb50.2.1
          have HPK := Lib.hid (fun W => pick_calls lo hi (7 * (q : Int)) W ⟨hb50.1, hb50.2.1, by omega⟩ ⟨by omega, by omega⟩)
          generalize pickOf lo hi (7 * (q : Int)) = pr at hp hdr HPK
          have heq := HEQ.out
          rw [hdr, realWet] at heq
          have hda := dryAfter_in (d := a1) (r := pr) ha1 (by omega)
          have HAF := Lib.hid (fun W => afterRain_calls a1 pr W ha1 ⟨by omega, by omega⟩)
          generalize dryAfter a1 pr = a2 at hda heq HAF
          have hls := left_small (l := l1) (a := a2) hl1 hda
          obtain ⟨P, hP⟩ : ∃ P, P = l1 * 50 * a2 := ⟨_, rfl⟩
          rw [← hP] at hls heq
          have HE2 := Lib.hid heq
          have hyP := hP.symm
          have hql : q < l.length := by rw [← HN.out]; exact hq2
          clear hP heq hdr hd hks hcells e2 HEQ hqe hql
          obtain ⟨hp1, hp2⟩ := hp
          obtain ⟨hda1, hda2⟩ := hda
          obtain ⟨hls1, hls2⟩ := hls
          obtain ⟨hl1a, hl1b⟩ := hl1
          have htd : P.tdiv 1000 = P / 1000 := Int.tdiv_eq_ediv_of_nonneg hls1
          go_wp2_with (first
            | (go_at_call 12; refine (HPK.out _).mono ?_; rintro e w6 ⟨rfl, hb⟩; have HL := Lib.hid (HL.out.below hb); have HB := Lib.hid (HB.out.trans (hb.mono HB.out.size)); clear hb c0 c1)
            | (go_at_call 13; refine (HAF.out _).mono ?_; rintro e w7 ⟨rfl, hb⟩; have HL := Lib.hid (HL.out.below hb); have HB := Lib.hid (HB.out.trans (hb.mono HB.out.size)); clear hb))
          go_roundw
          case rel => exact ⟨q + 1, a2, l1 - P / 1000, by omega, rfl, by go_num, by go_num, ⟨hda1, hda2⟩, ⟨by omega, by omega⟩, HE2, HL, HB⟩
          case measure => simp [intOf]; omega
        · skip
          have hqn : n = q := by omega
          subst hqn
          have hlw : wk.lo ≤ l1 ∧ l1 ≤ wk.hi := by
            have h1 := HFN.out
            rw [← HEQ.out, realRain_end (by rw [HEL.out]; exact Nat.le_refl _), realWet] at h1
            exact h1
          clear HEQ HFN HB HKN
          have hlt2 : decide ((n : Int) < (n : Int)) = false := by simp
          go_upto_region 31 with fail
          clear hlt2
          obtain ⟨gq, cq, hvp, hgp, hcp1⟩ := (HL.out.stood 0 rfl).row (k := 0) rfl
          injection hvp with e1 e2 e3
          injection e1 with e1
          injection e1 with e1 e4 e5
          subst e1
          clear e2 e3 hgp
          obtain ⟨gq, cq, hvp, hgp, hcp2⟩ := (HL.out.stood 1 rfl).row (k := 0) rfl
          injection hvp with e1 e2 e3
          injection e1 with e1
          injection e1 with e1 e4 e5
          subst e1
          clear e2 e3 hgp
          have c11 := cell_regrown (show wr.cell? ⟨gp1, 1, none⟩ = some (.int .i64 dlo) from by have := hcp1 1 (by decide); simpa [rowCells, stkCells] using this)
          have c12 := cell_regrown (show wr.cell? ⟨gp1, 2, none⟩ = some (.int .i64 dhi) from by have := hcp1 2 (by decide); simpa [rowCells, stkCells] using this)
          have c23 := cell_regrown (show wr.cell? ⟨gp2, 3, none⟩ = some (.int .i64 wk.lo) from by have := hcp2 3 (by decide); simpa [rowCells, stkCells] using this)
          have c24 := cell_regrown (show wr.cell? ⟨gp2, 4, none⟩ = some (.int .i64 wk.hi) from by have := hcp2 4 (by decide); simpa [rowCells, stkCells] using this)
          have q0 := cell_regrown (show wr.cell? ⟨g20, 0, none⟩ = some (.slice (some ⟨gp1, 0, none⟩) 1 t1c) from HL.out.at 3 0 rfl rfl)
          have q1 := cell_regrown (show wr.cell? ⟨g23, 0, none⟩ = some (.slice (some ⟨gp2, 0, none⟩) 1 t2c) from HL.out.at 4 0 rfl rfl)
          have q2 := cell_regrown (show wr.cell? ⟨g1, 0, none⟩ = some (.int .i64 dlo) from HL.out.at 1 0 rfl rfl)
          have q3 := cell_regrown (show wr.cell? ⟨g1, 1, none⟩ = some (.int .i64 dhi) from HL.out.at 1 1 rfl rfl)
          have a1 := regrown_calls (W := wr) (fun W => within_yes l1 wk.lo wk.hi W hlw)
          have a2 := regrown_calls (W := wr) (fun W => stands_calls W)
          clear hcp1 hcp2 hlw
          refine wp_region_quiet_below (by kernel_rfl) (by kernel_rfl) ?_
          repeat (go_big_quiet_step (first | (with_reducible exact a1 _ _) | (with_reducible exact a2 _ _)))
          refine wpQuiet_nil ?_
          intro wq hw'
          have hb8 : Below wr.heap.size wr wq := by obtain ⟨⟨dq, osq⟩, hw''⟩ := hw'; rw [hw'']; exact below_regrown _ dq osq
          clear hw' q0 q1 q2 q3 c11 c12 c23 c24 a1 a2
          have HLn := Lib.hid (HL.out.below hb8)
          clear hb8
          go_wp2
          go_ret
          exact lawDone HLn.out.low

/-- YardRains, whatever comes in. -/
theorem rains_law (slo shi dlo dhi wlo whi : Int) (v : Value) (l : List Bd) (pv : Value) (xs : List Int) (w : World) (h : Held w.heap.size w 2 bdCells v l) (hpv : Held w.heap.size w 1 pickCells pv xs) (hxs : ∀ x ∈ xs, 0 ≤ x ∧ x ≤ 65535) : Calls Try.prog 3 #[.agg #[.int .i64 slo, .int .i64 shi], v, .agg #[.int .i64 dlo, .int .i64 dhi], .agg #[.int .i64 wlo, .int .i64 whi], pv] w (LawDone w) := by
  by_cases hall : l.length ≤ 30 ∧ boundsB slo shi 0 9 = true ∧ boundsB dlo dhi 0 100000000 = true ∧ boundsB wlo whi 0 100000000 = true
  · exact rains_real slo shi dlo dhi wlo whi v l pv xs w h hpv hxs hall.1 hall.2.1 hall.2.2.1 hall.2.2.2
  · exact rains_stands slo shi dlo dhi wlo whi v l pv xs w h hpv hall
end Go.Proofs.Ytbgojeppfhldjaa
