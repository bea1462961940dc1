/- The errors of a yard, in plain words; the document's own checks. The document's check of a deed. Deeds that lie in memory. -/
import Derived.Test.YtbgojeppfhldjaaYCode
import Derived.Test.YtbgojeppfhldjaaYOne
namespace Go.Proofs.Ytbgojeppfhldjaa
open Go Go.RowKit Go.Shelf Yd

def twoK (k : Int) : Bool := decide (k = 5 ∨ k = 6)
def limA (k : Int) : Int := if k = 1 then 100000000 else if k = 2 ∨ k = 5 then 1000 else if k = 3 then 1000 else if k = 4 ∨ k = 7 then 100000000 else -1
def limB (k : Int) : Int := if k = 1 then 100000000 else if k = 3 then 3000 else -1
def rangedB (lo hi lim : Int) : Bool := if lim < 0 then decide (lo = 0 ∧ hi = 0) else boundsB lo hi 0 lim
def noOther (s : Code) : Bool := decide (s.size = 0)
/-- The error of a deed behind a day. -/
def errDeed (d : Deed Code) (day : Int) : Int :=
  if d.kind < 1 ∨ 8 < d.kind ∨ inB d.day 0 2000 = false then 1
  else if d.day < day then 7
  else if codeB d.stack.data.toList = false ∨ (twoK d.kind = true ∧ codeB d.other.data.toList = false) then 4
  else if rangedB d.a.lo d.a.hi (limA d.kind) = false ∨ rangedB d.b.lo d.b.hi (limB d.kind) = false ∨ (twoK d.kind = false ∧ noOther d.other = false) then 1
  else 0
def errDeeds : Int → List (Deed Code) → Int
  | _, [] => 0
  | day, d :: r => if errDeed d day = 0 then errDeeds d.day r else errDeed d day
def errYard (bef aft : Int) (ds : List (Deed Code)) : Int :=
  if inB bef 0 400 = false ∨ inB aft 0 400 = false then 1 else if 40 < ds.length then 2 else errDeeds 0 ds

theorem rangedB_up {lo hi lim : Int} (h : rangedB lo hi lim = true) (hl : 0 ≤ lim) : Bd.Up ⟨lo, hi⟩ lim := by
  unfold rangedB at h
  rw [if_neg (by omega)] at h
  simpa [boundsB, Bd.Up] using h
theorem rangedB_none {lo hi lim : Int} (h : rangedB lo hi lim = true) (hl : lim < 0) : lo = 0 ∧ hi = 0 := by
  unfold rangedB at h
  rw [if_pos hl] at h
  simpa using h

/-- What a deed without an error keeps. -/
structure DeedOk (d : Deed Code) (ear : Int) : Prop where
  kind : 1 ≤ d.kind ∧ d.kind ≤ 8
  dayIn : inB d.day 0 2000 = true
  late : ear ≤ d.day
  stack : codeB d.stack.data.toList = true
  other : twoK d.kind = true → codeB d.other.data.toList = true
  a : rangedB d.a.lo d.a.hi (limA d.kind) = true
  b : rangedB d.b.lo d.b.hi (limB d.kind) = true
  none : twoK d.kind = false → noOther d.other = true
theorem deedOk_of {d : Deed Code} {day : Int} (h : errDeed d day = 0) : DeedOk d day := by
  unfold errDeed at h
  split at h; · cases h
  rename_i h1
  split at h; · cases h
  rename_i h2
  split at h; · cases h
  rename_i h3
  split at h; · cases h
  rename_i h4
  simp only [not_or, not_and, Bool.not_eq_false] at h1 h3 h4
  exact ⟨⟨by omega, by omega⟩, h1.2.2, by omega, h3.1, h3.2, h4.1, h4.2.1, h4.2.2⟩
theorem limA_le (k : Int) : limA k ≤ 100000000 := by
  unfold limA
  split <;> (try split) <;> (try split) <;> (try split) <;> omega
theorem limB_le (k : Int) : limB k ≤ 100000000 := by
  unfold limB
  split <;> (try split) <;> omega
theorem fits_of {d : Deed Code} {day : Int} (h : DeedOk d day) : Fits d := by
  have hA : d.a.Ok ∧ d.a.hi ≤ 100000000 ∧ (d.kind = 2 ∨ d.kind = 3 ∨ d.kind = 5 → d.a.hi ≤ 1000) := by
    rcases Int.lt_or_le (limA d.kind) 0 with hl | hl
    · obtain ⟨h1, h2⟩ := rangedB_none h.a hl
      exact ⟨⟨by omega, by omega⟩, by omega, fun _ => by omega⟩
    · obtain ⟨h1, h2, h3⟩ := rangedB_up h.a hl
      simp only at h1 h2 h3
      have := limA_le d.kind
      refine ⟨⟨h1, h2⟩, by omega, fun hk => ?_⟩
      have : limA d.kind = 1000 := by
        unfold limA
        rcases hk with hk | hk | hk <;> rw [hk] <;> decide
      omega
  have hB : d.b.Ok ∧ d.b.hi ≤ 100000000 ∧ (d.kind = 3 → d.b.hi ≤ 3000) := by
    rcases Int.lt_or_le (limB d.kind) 0 with hl | hl
    · obtain ⟨h1, h2⟩ := rangedB_none h.b hl
      exact ⟨⟨by omega, by omega⟩, by omega, fun _ => by omega⟩
    · obtain ⟨h1, h2, h3⟩ := rangedB_up h.b hl
      simp only at h1 h2 h3
      have := limB_le d.kind
      refine ⟨⟨h1, h2⟩, by omega, fun hk => ?_⟩
      have : limB d.kind = 3000 := by unfold limB; rw [hk]; decide
      omega
  have hd := h.dayIn
  unfold inB at hd
  exact ⟨⟨h.kind, hA.1, hB.1, hA.2.2⟩, hA.2.1, hB.2.1, hB.2.2, by simpa using hd⟩
theorem errDeeds_all : ∀ {ds : List (Deed Code)} {day : Int}, errDeeds day ds = 0 → ∀ d ∈ ds, Fits d
  | [], _, _, d, hd => by cases hd
  | x :: r, day, h, d, hd => by
    unfold errDeeds at h
    split at h
    · rename_i h0
      rcases List.mem_cons.1 hd with rfl | hd
      · exact fits_of (deedOk_of h0)
      · exact errDeeds_all h d hd
    · rename_i h0; exact absurd h h0

set_option maxHeartbeats 400000 in
theorem two_calls (k : Int) (w : World) : Calls Try.prog 42 #[.int .i64 k] w fun e w' => e = .returned (.bool (twoK k)) ∧ w = w' := by
  by_cases h1 : k = 5
  · subst h1
    go_enter Try.func42, Try.ntmps42
    go_wp2
    go_ret
    exact ⟨rfl, rfl⟩
  · have d1 : (k == 5) = false := by simpa using h1
    by_cases h2 : k = 6
    · subst h2
      clear h1
      go_enter Try.func42, Try.ntmps42
      go_wp2
      go_ret
      exact ⟨rfl, rfl⟩
    · have d2 : (k == 6) = false := by simpa using h2
      have HT := Lib.hid (show twoK k = false by simp [twoK, h1, h2])
      clear h1 h2
      go_enter Try.func42, Try.ntmps42
      go_wp2
      go_ret
      exact ⟨by rw [HT.out]; rfl, rfl⟩
set_option maxHeartbeats 1000000 in
theorem ranged_calls (lo hi lim : Int) (w : World) : Calls Try.prog 44 #[.agg #[.int .i64 lo, .int .i64 hi], .int .i64 lim] w fun e w' => e = .returned (.bool (rangedB lo hi lim)) ∧ Below w.heap.size w w' := by
  by_cases h : lim < 0
  · have d1 : decide (lim < 0) = true := by simpa using h
    by_cases h1 : lo = 0
    · subst h1
      by_cases h2 : hi = 0
      · subst h2
        have HR := Lib.hid (show rangedB 0 0 lim = true by unfold rangedB; rw [if_pos h]; simp)
        go_enter Try.func44, Try.ntmps44
        go_wp2
        go_ret
        exact ⟨by rw [HR.out]; rfl, (Below.refl _ _).alloc (Nat.le_refl _) _⟩
      · have d2 : (hi == 0) = false := by simpa using h2
        have HR := Lib.hid (show rangedB 0 hi lim = false by unfold rangedB; rw [if_pos h]; simp [h2])
        clear h2
        go_enter Try.func44, Try.ntmps44
        go_wp2
        go_ret
        exact ⟨by rw [HR.out]; rfl, (Below.refl _ _).alloc (Nat.le_refl _) _⟩
    · have d2 : (lo == 0) = false := by simpa using h1
      have HR := Lib.hid (show rangedB lo hi lim = false by unfold rangedB; rw [if_pos h]; simp [h1])
      clear h1
      go_enter Try.func44, Try.ntmps44
      go_wp2
      go_ret
      exact ⟨by rw [HR.out]; rfl, (Below.refl _ _).alloc (Nat.le_refl _) _⟩
  · have HR := Lib.hid (show rangedB lo hi lim = boundsB lo hi 0 lim by unfold rangedB; rw [if_neg h])
    have d1 : decide (lim < 0) = false := by simpa using h
    go_enter Try.func44, Try.ntmps44
    go_wp2_with (go_at_call 5; refine (bounded_calls _ _ _ _ _).mono ?_; rintro e w' ⟨rfl, rfl⟩)
    go_ret
    exact ⟨by rw [HR.out]; rfl, ((Below.refl _ _).alloc (Nat.le_refl _) _).alloc (by rw [World.size_alloc]; omega) _⟩
set_option maxHeartbeats 1000000 in
theorem limits_calls (k : Int) (w : World) (hk : 1 ≤ k ∧ k ≤ 8) : Calls Try.prog 43 #[.int .i64 k] w fun e w' => e = .returned (.tuple #[.int .i64 (limA k), .int .i64 (limB k)]) ∧ w = w' := by
  have : k = 1 ∨ k = 2 ∨ k = 3 ∨ k = 4 ∨ k = 5 ∨ k = 6 ∨ k = 7 ∨ k = 8 := by omega
  rcases this with rfl | rfl | rfl | rfl | rfl | rfl | rfl | rfl
  all_goals
    clear hk
    go_enter Try.func43, Try.ntmps43
    go_wp2
    go_ret2
    exact ⟨rfl, rfl⟩
end Go.Proofs.Ytbgojeppfhldjaa
namespace Go.Proofs.Ytbgojeppfhldjaa
open Go Go.RowKit Go.Shelf Yd

theorem noOther_empty (s : Code) : noOther s = s.toList.isEmpty := by
  unfold noOther
  rw [Go.ByteArray.toList_eq]
  cases hs : s.data.toList with
  | nil =>
    have h2 : s.size = 0 := by
      have h3 : s.size = s.data.toList.length := (Array.length_toList).symm
      rw [h3, hs]; rfl
    rw [h2]; rfl
  | cons c r =>
    have h2 : s.size = r.length + 1 := by
      have h3 : s.size = s.data.toList.length := (Array.length_toList).symm
      rw [h3, hs]; rfl
    rw [h2]; rfl

set_option maxRecDepth 100000 in
set_option maxHeartbeats 4000000 in
theorem refDeed_calls (kind day ear : Int) (code other : Code) (al ah bl bh : Int) (w : World) :
    Calls Try.prog 31 #[.agg #[.int .i64 kind, .int .i64 day, .string code, .string other, .int .i64 al, .int .i64 ah, .int .i64 bl, .int .i64 bh], .int .i64 ear] w fun e w' => e = .returned (.int .i64 (errDeed (⟨kind, day, code, other, ⟨al, ah⟩, ⟨bl, bh⟩⟩ : Deed Code) ear)) ∧ Below w.heap.size w w' := by
  have HB0 := Lib.hid ((Below.refl w.heap.size w).alloc (Nat.le_refl _) (.cells #[.int .i64 kind, .int .i64 day, .string code, .string other, .int .i64 al, .int .i64 ah, .int .i64 bl, .int .i64 bh] 57))
  have HK0 := Lib.hid (Blk.new w 57 #[.int .i64 kind, .int .i64 day, .string code, .string other, .int .i64 al, .int .i64 ah, .int .i64 bl, .int .i64 bh])
  have HZ0 := Lib.hid (show w.heap.size < (w.alloc (.cells #[.int .i64 kind, .int .i64 day, .string code, .string other, .int .i64 al, .int .i64 ah, .int .i64 bl, .int .i64 bh] 57)).heap.size by rw [World.size_alloc]; omega)
  by_cases k1 : kind < 1
  · have k11 : decide (kind < 1) = true := by simpa using k1
    have HE := Lib.hid (show errDeed (⟨kind, day, code, other, ⟨al, ah⟩, ⟨bl, bh⟩⟩ : Deed Code) ear = 1 from by unfold errDeed; simp [k1])
    go_enter Try.func31, Try.ntmps31
    go_wp2_with (first | (go_at_call 30; refine (in_calls _ _ _ _).mono ?_; rintro e w' ⟨rfl, rfl⟩) | (go_at_call 41; refine (code_calls _ _).mono ?_; rintro e w' ⟨rfl, rfl⟩) | (go_at_call 42; refine (two_calls _ _).mono ?_; rintro e w' ⟨rfl, rfl⟩) | (go_at_call 43; refine (limits_calls _ _ HKD.out).mono ?_; rintro e w' ⟨rfl, rfl⟩) | (go_at_call 44; (with_reducible refine (ranged_calls al ah _ _).mono ?_); rintro e wA ⟨rfl, hbA⟩; have HBA := Lib.hid (HB0.out.trans (hbA.mono HB0.out.size)); have q0 := (hbA.cell (p := ⟨w.heap.size, 0, none⟩) HZ0.out).trans (HK0.out.at 0 (.int .i64 kind) rfl); have q3 := (hbA.cell (p := ⟨w.heap.size, 3, none⟩) HZ0.out).trans (HK0.out.at 3 (.string other) rfl); have q6 := (hbA.cell (p := ⟨w.heap.size, 6, none⟩) HZ0.out).trans (HK0.out.at 6 (.int .i64 bl) rfl); have q7 := (hbA.cell (p := ⟨w.heap.size, 7, none⟩) HZ0.out).trans (HK0.out.at 7 (.int .i64 bh) rfl); have HKA := Lib.hid (HK0.out.below hbA); clear hbA) | (go_at_call 44; (with_reducible refine (ranged_calls bl bh _ _).mono ?_); rintro e wB ⟨rfl, hbB⟩; have HBB := Lib.hid (HBA.out.trans (hbB.mono HBA.out.size)); have q0' := (HKA.out.below hbB).at 0 (.int .i64 kind) rfl; have q3' := (HKA.out.below hbB).at 3 (.string other) rfl; clear hbB))
    go_ret
    exact ⟨by rw [HE.out]; rfl, by first | exact HBB.out | exact HBA.out | exact HB0.out⟩
  · have k11 : decide (kind < 1) = false := by simpa using k1
    by_cases k8 : 8 < kind
    · have k81 : decide (8 < kind) = true := by simpa using k8
      have HE := Lib.hid (show errDeed (⟨kind, day, code, other, ⟨al, ah⟩, ⟨bl, bh⟩⟩ : Deed Code) ear = 1 from by unfold errDeed; simp [k1, k8])
      go_enter Try.func31, Try.ntmps31
      go_wp2_with (first | (go_at_call 30; refine (in_calls _ _ _ _).mono ?_; rintro e w' ⟨rfl, rfl⟩) | (go_at_call 41; refine (code_calls _ _).mono ?_; rintro e w' ⟨rfl, rfl⟩) | (go_at_call 42; refine (two_calls _ _).mono ?_; rintro e w' ⟨rfl, rfl⟩) | (go_at_call 43; refine (limits_calls _ _ HKD.out).mono ?_; rintro e w' ⟨rfl, rfl⟩) | (go_at_call 44; (with_reducible refine (ranged_calls al ah _ _).mono ?_); rintro e wA ⟨rfl, hbA⟩; have HBA := Lib.hid (HB0.out.trans (hbA.mono HB0.out.size)); have q0 := (hbA.cell (p := ⟨w.heap.size, 0, none⟩) HZ0.out).trans (HK0.out.at 0 (.int .i64 kind) rfl); have q3 := (hbA.cell (p := ⟨w.heap.size, 3, none⟩) HZ0.out).trans (HK0.out.at 3 (.string other) rfl); have q6 := (hbA.cell (p := ⟨w.heap.size, 6, none⟩) HZ0.out).trans (HK0.out.at 6 (.int .i64 bl) rfl); have q7 := (hbA.cell (p := ⟨w.heap.size, 7, none⟩) HZ0.out).trans (HK0.out.at 7 (.int .i64 bh) rfl); have HKA := Lib.hid (HK0.out.below hbA); clear hbA) | (go_at_call 44; (with_reducible refine (ranged_calls bl bh _ _).mono ?_); rintro e wB ⟨rfl, hbB⟩; have HBB := Lib.hid (HBA.out.trans (hbB.mono HBA.out.size)); have q0' := (HKA.out.below hbB).at 0 (.int .i64 kind) rfl; have q3' := (HKA.out.below hbB).at 3 (.string other) rfl; clear hbB))
      go_ret
      exact ⟨by rw [HE.out]; rfl, by first | exact HBB.out | exact HBA.out | exact HB0.out⟩
    · have k81 : decide (8 < kind) = false := by simpa using k8
      by_cases dy : inB day 0 2000 = false
      · skip
        have HE := Lib.hid (show errDeed (⟨kind, day, code, other, ⟨al, ah⟩, ⟨bl, bh⟩⟩ : Deed Code) ear = 1 from by unfold errDeed; simp [k1, k8, dy])
        go_enter Try.func31, Try.ntmps31
        go_wp2_with (first | (go_at_call 30; refine (in_calls _ _ _ _).mono ?_; rintro e w' ⟨rfl, rfl⟩) | (go_at_call 41; refine (code_calls _ _).mono ?_; rintro e w' ⟨rfl, rfl⟩) | (go_at_call 42; refine (two_calls _ _).mono ?_; rintro e w' ⟨rfl, rfl⟩) | (go_at_call 43; refine (limits_calls _ _ HKD.out).mono ?_; rintro e w' ⟨rfl, rfl⟩) | (go_at_call 44; (with_reducible refine (ranged_calls al ah _ _).mono ?_); rintro e wA ⟨rfl, hbA⟩; have HBA := Lib.hid (HB0.out.trans (hbA.mono HB0.out.size)); have q0 := (hbA.cell (p := ⟨w.heap.size, 0, none⟩) HZ0.out).trans (HK0.out.at 0 (.int .i64 kind) rfl); have q3 := (hbA.cell (p := ⟨w.heap.size, 3, none⟩) HZ0.out).trans (HK0.out.at 3 (.string other) rfl); have q6 := (hbA.cell (p := ⟨w.heap.size, 6, none⟩) HZ0.out).trans (HK0.out.at 6 (.int .i64 bl) rfl); have q7 := (hbA.cell (p := ⟨w.heap.size, 7, none⟩) HZ0.out).trans (HK0.out.at 7 (.int .i64 bh) rfl); have HKA := Lib.hid (HK0.out.below hbA); clear hbA) | (go_at_call 44; (with_reducible refine (ranged_calls bl bh _ _).mono ?_); rintro e wB ⟨rfl, hbB⟩; have HBB := Lib.hid (HBA.out.trans (hbB.mono HBA.out.size)); have q0' := (HKA.out.below hbB).at 0 (.int .i64 kind) rfl; have q3' := (HKA.out.below hbB).at 3 (.string other) rfl; clear hbB))
        go_ret
        exact ⟨by rw [HE.out]; rfl, by first | exact HBB.out | exact HBA.out | exact HB0.out⟩
      · have dy' : inB day 0 2000 = true := by simpa using dy
        have HKD := Lib.hid (show 1 ≤ kind ∧ kind ≤ 8 by omega)
        by_cases lt : day < ear
        · have lt1 : decide (day < ear) = true := by simpa using lt
          have HE := Lib.hid (show errDeed (⟨kind, day, code, other, ⟨al, ah⟩, ⟨bl, bh⟩⟩ : Deed Code) ear = 7 from by unfold errDeed; simp [k1, k8, dy, lt])
          go_enter Try.func31, Try.ntmps31
          go_wp2_with (first | (go_at_call 30; refine (in_calls _ _ _ _).mono ?_; rintro e w' ⟨rfl, rfl⟩) | (go_at_call 41; refine (code_calls _ _).mono ?_; rintro e w' ⟨rfl, rfl⟩) | (go_at_call 42; refine (two_calls _ _).mono ?_; rintro e w' ⟨rfl, rfl⟩) | (go_at_call 43; refine (limits_calls _ _ HKD.out).mono ?_; rintro e w' ⟨rfl, rfl⟩) | (go_at_call 44; (with_reducible refine (ranged_calls al ah _ _).mono ?_); rintro e wA ⟨rfl, hbA⟩; have HBA := Lib.hid (HB0.out.trans (hbA.mono HB0.out.size)); have q0 := (hbA.cell (p := ⟨w.heap.size, 0, none⟩) HZ0.out).trans (HK0.out.at 0 (.int .i64 kind) rfl); have q3 := (hbA.cell (p := ⟨w.heap.size, 3, none⟩) HZ0.out).trans (HK0.out.at 3 (.string other) rfl); have q6 := (hbA.cell (p := ⟨w.heap.size, 6, none⟩) HZ0.out).trans (HK0.out.at 6 (.int .i64 bl) rfl); have q7 := (hbA.cell (p := ⟨w.heap.size, 7, none⟩) HZ0.out).trans (HK0.out.at 7 (.int .i64 bh) rfl); have HKA := Lib.hid (HK0.out.below hbA); clear hbA) | (go_at_call 44; (with_reducible refine (ranged_calls bl bh _ _).mono ?_); rintro e wB ⟨rfl, hbB⟩; have HBB := Lib.hid (HBA.out.trans (hbB.mono HBA.out.size)); have q0' := (HKA.out.below hbB).at 0 (.int .i64 kind) rfl; have q3' := (HKA.out.below hbB).at 3 (.string other) rfl; clear hbB))
          go_ret
          exact ⟨by rw [HE.out]; rfl, by first | exact HBB.out | exact HBA.out | exact HB0.out⟩
        · have lt1 : decide (day < ear) = false := by simpa using lt
          by_cases cs : codeB code.data.toList = false
          · skip
            have HE := Lib.hid (show errDeed (⟨kind, day, code, other, ⟨al, ah⟩, ⟨bl, bh⟩⟩ : Deed Code) ear = 4 from by unfold errDeed; simp [k1, k8, dy, lt, cs])
            go_enter Try.func31, Try.ntmps31
            go_wp2_with (first | (go_at_call 30; refine (in_calls _ _ _ _).mono ?_; rintro e w' ⟨rfl, rfl⟩) | (go_at_call 41; refine (code_calls _ _).mono ?_; rintro e w' ⟨rfl, rfl⟩) | (go_at_call 42; refine (two_calls _ _).mono ?_; rintro e w' ⟨rfl, rfl⟩) | (go_at_call 43; refine (limits_calls _ _ HKD.out).mono ?_; rintro e w' ⟨rfl, rfl⟩) | (go_at_call 44; (with_reducible refine (ranged_calls al ah _ _).mono ?_); rintro e wA ⟨rfl, hbA⟩; have HBA := Lib.hid (HB0.out.trans (hbA.mono HB0.out.size)); have q0 := (hbA.cell (p := ⟨w.heap.size, 0, none⟩) HZ0.out).trans (HK0.out.at 0 (.int .i64 kind) rfl); have q3 := (hbA.cell (p := ⟨w.heap.size, 3, none⟩) HZ0.out).trans (HK0.out.at 3 (.string other) rfl); have q6 := (hbA.cell (p := ⟨w.heap.size, 6, none⟩) HZ0.out).trans (HK0.out.at 6 (.int .i64 bl) rfl); have q7 := (hbA.cell (p := ⟨w.heap.size, 7, none⟩) HZ0.out).trans (HK0.out.at 7 (.int .i64 bh) rfl); have HKA := Lib.hid (HK0.out.below hbA); clear hbA) | (go_at_call 44; (with_reducible refine (ranged_calls bl bh _ _).mono ?_); rintro e wB ⟨rfl, hbB⟩; have HBB := Lib.hid (HBA.out.trans (hbB.mono HBA.out.size)); have q0' := (HKA.out.below hbB).at 0 (.int .i64 kind) rfl; have q3' := (HKA.out.below hbB).at 3 (.string other) rfl; clear hbB))
            go_ret
            exact ⟨by rw [HE.out]; rfl, by first | exact HBB.out | exact HBA.out | exact HB0.out⟩
          · have cs' : codeB code.data.toList = true := by simpa using cs
            by_cases tw : twoK kind = true
            · skip
              by_cases co : codeB other.data.toList = false
              · skip
                have HE := Lib.hid (show errDeed (⟨kind, day, code, other, ⟨al, ah⟩, ⟨bl, bh⟩⟩ : Deed Code) ear = 4 from by unfold errDeed; simp [k1, k8, dy, lt, cs, tw, co])
                go_enter Try.func31, Try.ntmps31
                go_wp2_with (first | (go_at_call 30; refine (in_calls _ _ _ _).mono ?_; rintro e w' ⟨rfl, rfl⟩) | (go_at_call 41; refine (code_calls _ _).mono ?_; rintro e w' ⟨rfl, rfl⟩) | (go_at_call 42; refine (two_calls _ _).mono ?_; rintro e w' ⟨rfl, rfl⟩) | (go_at_call 43; refine (limits_calls _ _ HKD.out).mono ?_; rintro e w' ⟨rfl, rfl⟩) | (go_at_call 44; (with_reducible refine (ranged_calls al ah _ _).mono ?_); rintro e wA ⟨rfl, hbA⟩; have HBA := Lib.hid (HB0.out.trans (hbA.mono HB0.out.size)); have q0 := (hbA.cell (p := ⟨w.heap.size, 0, none⟩) HZ0.out).trans (HK0.out.at 0 (.int .i64 kind) rfl); have q3 := (hbA.cell (p := ⟨w.heap.size, 3, none⟩) HZ0.out).trans (HK0.out.at 3 (.string other) rfl); have q6 := (hbA.cell (p := ⟨w.heap.size, 6, none⟩) HZ0.out).trans (HK0.out.at 6 (.int .i64 bl) rfl); have q7 := (hbA.cell (p := ⟨w.heap.size, 7, none⟩) HZ0.out).trans (HK0.out.at 7 (.int .i64 bh) rfl); have HKA := Lib.hid (HK0.out.below hbA); clear hbA) | (go_at_call 44; (with_reducible refine (ranged_calls bl bh _ _).mono ?_); rintro e wB ⟨rfl, hbB⟩; have HBB := Lib.hid (HBA.out.trans (hbB.mono HBA.out.size)); have q0' := (HKA.out.below hbB).at 0 (.int .i64 kind) rfl; have q3' := (HKA.out.below hbB).at 3 (.string other) rfl; clear hbB))
                go_ret
                exact ⟨by rw [HE.out]; rfl, by first | exact HBB.out | exact HBA.out | exact HB0.out⟩
              · have co' : codeB other.data.toList = true := by simpa using co
                by_cases ra : rangedB al ah (limA kind) = false
                · skip
                  have HE := Lib.hid (show errDeed (⟨kind, day, code, other, ⟨al, ah⟩, ⟨bl, bh⟩⟩ : Deed Code) ear = 1 from by unfold errDeed; simp [k1, k8, dy, lt, cs, tw, co, ra])
                  go_enter Try.func31, Try.ntmps31
                  go_wp2_with (first | (go_at_call 30; refine (in_calls _ _ _ _).mono ?_; rintro e w' ⟨rfl, rfl⟩) | (go_at_call 41; refine (code_calls _ _).mono ?_; rintro e w' ⟨rfl, rfl⟩) | (go_at_call 42; refine (two_calls _ _).mono ?_; rintro e w' ⟨rfl, rfl⟩) | (go_at_call 43; refine (limits_calls _ _ HKD.out).mono ?_; rintro e w' ⟨rfl, rfl⟩) | (go_at_call 44; (with_reducible refine (ranged_calls al ah _ _).mono ?_); rintro e wA ⟨rfl, hbA⟩; have HBA := Lib.hid (HB0.out.trans (hbA.mono HB0.out.size)); have q0 := (hbA.cell (p := ⟨w.heap.size, 0, none⟩) HZ0.out).trans (HK0.out.at 0 (.int .i64 kind) rfl); have q3 := (hbA.cell (p := ⟨w.heap.size, 3, none⟩) HZ0.out).trans (HK0.out.at 3 (.string other) rfl); have q6 := (hbA.cell (p := ⟨w.heap.size, 6, none⟩) HZ0.out).trans (HK0.out.at 6 (.int .i64 bl) rfl); have q7 := (hbA.cell (p := ⟨w.heap.size, 7, none⟩) HZ0.out).trans (HK0.out.at 7 (.int .i64 bh) rfl); have HKA := Lib.hid (HK0.out.below hbA); clear hbA) | (go_at_call 44; (with_reducible refine (ranged_calls bl bh _ _).mono ?_); rintro e wB ⟨rfl, hbB⟩; have HBB := Lib.hid (HBA.out.trans (hbB.mono HBA.out.size)); have q0' := (HKA.out.below hbB).at 0 (.int .i64 kind) rfl; have q3' := (HKA.out.below hbB).at 3 (.string other) rfl; clear hbB))
                  go_ret
                  exact ⟨by rw [HE.out]; rfl, by first | exact HBB.out | exact HBA.out | exact HB0.out⟩
                · have ra' : rangedB al ah (limA kind) = true := by simpa using ra
                  by_cases rb : rangedB bl bh (limB kind) = false
                  · skip
                    have HE := Lib.hid (show errDeed (⟨kind, day, code, other, ⟨al, ah⟩, ⟨bl, bh⟩⟩ : Deed Code) ear = 1 from by unfold errDeed; simp [k1, k8, dy, lt, cs, tw, co, ra, rb])
                    go_enter Try.func31, Try.ntmps31
                    go_wp2_with (first | (go_at_call 30; refine (in_calls _ _ _ _).mono ?_; rintro e w' ⟨rfl, rfl⟩) | (go_at_call 41; refine (code_calls _ _).mono ?_; rintro e w' ⟨rfl, rfl⟩) | (go_at_call 42; refine (two_calls _ _).mono ?_; rintro e w' ⟨rfl, rfl⟩) | (go_at_call 43; refine (limits_calls _ _ HKD.out).mono ?_; rintro e w' ⟨rfl, rfl⟩) | (go_at_call 44; (with_reducible refine (ranged_calls al ah _ _).mono ?_); rintro e wA ⟨rfl, hbA⟩; have HBA := Lib.hid (HB0.out.trans (hbA.mono HB0.out.size)); have q0 := (hbA.cell (p := ⟨w.heap.size, 0, none⟩) HZ0.out).trans (HK0.out.at 0 (.int .i64 kind) rfl); have q3 := (hbA.cell (p := ⟨w.heap.size, 3, none⟩) HZ0.out).trans (HK0.out.at 3 (.string other) rfl); have q6 := (hbA.cell (p := ⟨w.heap.size, 6, none⟩) HZ0.out).trans (HK0.out.at 6 (.int .i64 bl) rfl); have q7 := (hbA.cell (p := ⟨w.heap.size, 7, none⟩) HZ0.out).trans (HK0.out.at 7 (.int .i64 bh) rfl); have HKA := Lib.hid (HK0.out.below hbA); clear hbA) | (go_at_call 44; (with_reducible refine (ranged_calls bl bh _ _).mono ?_); rintro e wB ⟨rfl, hbB⟩; have HBB := Lib.hid (HBA.out.trans (hbB.mono HBA.out.size)); have q0' := (HKA.out.below hbB).at 0 (.int .i64 kind) rfl; have q3' := (HKA.out.below hbB).at 3 (.string other) rfl; clear hbB))
                    go_ret
                    exact ⟨by rw [HE.out]; rfl, by first | exact HBB.out | exact HBA.out | exact HB0.out⟩
                  · have rb' : rangedB bl bh (limB kind) = true := by simpa using rb
                    have HE := Lib.hid (show errDeed (⟨kind, day, code, other, ⟨al, ah⟩, ⟨bl, bh⟩⟩ : Deed Code) ear = 0 from by unfold errDeed; simp [k1, k8, dy, lt, cs, tw, co, ra, rb])
                    go_enter Try.func31, Try.ntmps31
                    go_wp2_with (first | (go_at_call 30; refine (in_calls _ _ _ _).mono ?_; rintro e w' ⟨rfl, rfl⟩) | (go_at_call 41; refine (code_calls _ _).mono ?_; rintro e w' ⟨rfl, rfl⟩) | (go_at_call 42; refine (two_calls _ _).mono ?_; rintro e w' ⟨rfl, rfl⟩) | (go_at_call 43; refine (limits_calls _ _ HKD.out).mono ?_; rintro e w' ⟨rfl, rfl⟩) | (go_at_call 44; (with_reducible refine (ranged_calls al ah _ _).mono ?_); rintro e wA ⟨rfl, hbA⟩; have HBA := Lib.hid (HB0.out.trans (hbA.mono HB0.out.size)); have q0 := (hbA.cell (p := ⟨w.heap.size, 0, none⟩) HZ0.out).trans (HK0.out.at 0 (.int .i64 kind) rfl); have q3 := (hbA.cell (p := ⟨w.heap.size, 3, none⟩) HZ0.out).trans (HK0.out.at 3 (.string other) rfl); have q6 := (hbA.cell (p := ⟨w.heap.size, 6, none⟩) HZ0.out).trans (HK0.out.at 6 (.int .i64 bl) rfl); have q7 := (hbA.cell (p := ⟨w.heap.size, 7, none⟩) HZ0.out).trans (HK0.out.at 7 (.int .i64 bh) rfl); have HKA := Lib.hid (HK0.out.below hbA); clear hbA) | (go_at_call 44; (with_reducible refine (ranged_calls bl bh _ _).mono ?_); rintro e wB ⟨rfl, hbB⟩; have HBB := Lib.hid (HBA.out.trans (hbB.mono HBA.out.size)); have q0' := (HKA.out.below hbB).at 0 (.int .i64 kind) rfl; have q3' := (HKA.out.below hbB).at 3 (.string other) rfl; clear hbB))
                    go_ret
                    exact ⟨by rw [HE.out]; rfl, by first | exact HBB.out | exact HBA.out | exact HB0.out⟩
            · have tw' : twoK kind = false := by simpa using tw
              by_cases ra : rangedB al ah (limA kind) = false
              · skip
                have HE := Lib.hid (show errDeed (⟨kind, day, code, other, ⟨al, ah⟩, ⟨bl, bh⟩⟩ : Deed Code) ear = 1 from by unfold errDeed; simp [k1, k8, dy, lt, cs, tw', ra])
                go_enter Try.func31, Try.ntmps31
                go_wp2_with (first | (go_at_call 30; refine (in_calls _ _ _ _).mono ?_; rintro e w' ⟨rfl, rfl⟩) | (go_at_call 41; refine (code_calls _ _).mono ?_; rintro e w' ⟨rfl, rfl⟩) | (go_at_call 42; refine (two_calls _ _).mono ?_; rintro e w' ⟨rfl, rfl⟩) | (go_at_call 43; refine (limits_calls _ _ HKD.out).mono ?_; rintro e w' ⟨rfl, rfl⟩) | (go_at_call 44; (with_reducible refine (ranged_calls al ah _ _).mono ?_); rintro e wA ⟨rfl, hbA⟩; have HBA := Lib.hid (HB0.out.trans (hbA.mono HB0.out.size)); have q0 := (hbA.cell (p := ⟨w.heap.size, 0, none⟩) HZ0.out).trans (HK0.out.at 0 (.int .i64 kind) rfl); have q3 := (hbA.cell (p := ⟨w.heap.size, 3, none⟩) HZ0.out).trans (HK0.out.at 3 (.string other) rfl); have q6 := (hbA.cell (p := ⟨w.heap.size, 6, none⟩) HZ0.out).trans (HK0.out.at 6 (.int .i64 bl) rfl); have q7 := (hbA.cell (p := ⟨w.heap.size, 7, none⟩) HZ0.out).trans (HK0.out.at 7 (.int .i64 bh) rfl); have HKA := Lib.hid (HK0.out.below hbA); clear hbA) | (go_at_call 44; (with_reducible refine (ranged_calls bl bh _ _).mono ?_); rintro e wB ⟨rfl, hbB⟩; have HBB := Lib.hid (HBA.out.trans (hbB.mono HBA.out.size)); have q0' := (HKA.out.below hbB).at 0 (.int .i64 kind) rfl; have q3' := (HKA.out.below hbB).at 3 (.string other) rfl; clear hbB))
                go_ret
                exact ⟨by rw [HE.out]; rfl, by first | exact HBB.out | exact HBA.out | exact HB0.out⟩
              · have ra' : rangedB al ah (limA kind) = true := by simpa using ra
                by_cases rb : rangedB bl bh (limB kind) = false
                · skip
                  have HE := Lib.hid (show errDeed (⟨kind, day, code, other, ⟨al, ah⟩, ⟨bl, bh⟩⟩ : Deed Code) ear = 1 from by unfold errDeed; simp [k1, k8, dy, lt, cs, tw', ra, rb])
                  go_enter Try.func31, Try.ntmps31
                  go_wp2_with (first | (go_at_call 30; refine (in_calls _ _ _ _).mono ?_; rintro e w' ⟨rfl, rfl⟩) | (go_at_call 41; refine (code_calls _ _).mono ?_; rintro e w' ⟨rfl, rfl⟩) | (go_at_call 42; refine (two_calls _ _).mono ?_; rintro e w' ⟨rfl, rfl⟩) | (go_at_call 43; refine (limits_calls _ _ HKD.out).mono ?_; rintro e w' ⟨rfl, rfl⟩) | (go_at_call 44; (with_reducible refine (ranged_calls al ah _ _).mono ?_); rintro e wA ⟨rfl, hbA⟩; have HBA := Lib.hid (HB0.out.trans (hbA.mono HB0.out.size)); have q0 := (hbA.cell (p := ⟨w.heap.size, 0, none⟩) HZ0.out).trans (HK0.out.at 0 (.int .i64 kind) rfl); have q3 := (hbA.cell (p := ⟨w.heap.size, 3, none⟩) HZ0.out).trans (HK0.out.at 3 (.string other) rfl); have q6 := (hbA.cell (p := ⟨w.heap.size, 6, none⟩) HZ0.out).trans (HK0.out.at 6 (.int .i64 bl) rfl); have q7 := (hbA.cell (p := ⟨w.heap.size, 7, none⟩) HZ0.out).trans (HK0.out.at 7 (.int .i64 bh) rfl); have HKA := Lib.hid (HK0.out.below hbA); clear hbA) | (go_at_call 44; (with_reducible refine (ranged_calls bl bh _ _).mono ?_); rintro e wB ⟨rfl, hbB⟩; have HBB := Lib.hid (HBA.out.trans (hbB.mono HBA.out.size)); have q0' := (HKA.out.below hbB).at 0 (.int .i64 kind) rfl; have q3' := (HKA.out.below hbB).at 3 (.string other) rfl; clear hbB))
                  go_ret
                  exact ⟨by rw [HE.out]; rfl, by first | exact HBB.out | exact HBA.out | exact HB0.out⟩
                · have rb' : rangedB bl bh (limB kind) = true := by simpa using rb
                  by_cases no : noOther other = false
                  · have ie : other.toList.isEmpty = false := by rw [← noOther_empty]; exact no
                    have HE := Lib.hid (show errDeed (⟨kind, day, code, other, ⟨al, ah⟩, ⟨bl, bh⟩⟩ : Deed Code) ear = 1 from by unfold errDeed; simp [k1, k8, dy, lt, cs, tw', ra, rb, no])
                    go_enter Try.func31, Try.ntmps31
                    go_wp2_with (first | (go_at_call 30; refine (in_calls _ _ _ _).mono ?_; rintro e w' ⟨rfl, rfl⟩) | (go_at_call 41; refine (code_calls _ _).mono ?_; rintro e w' ⟨rfl, rfl⟩) | (go_at_call 42; refine (two_calls _ _).mono ?_; rintro e w' ⟨rfl, rfl⟩) | (go_at_call 43; refine (limits_calls _ _ HKD.out).mono ?_; rintro e w' ⟨rfl, rfl⟩) | (go_at_call 44; (with_reducible refine (ranged_calls al ah _ _).mono ?_); rintro e wA ⟨rfl, hbA⟩; have HBA := Lib.hid (HB0.out.trans (hbA.mono HB0.out.size)); have q0 := (hbA.cell (p := ⟨w.heap.size, 0, none⟩) HZ0.out).trans (HK0.out.at 0 (.int .i64 kind) rfl); have q3 := (hbA.cell (p := ⟨w.heap.size, 3, none⟩) HZ0.out).trans (HK0.out.at 3 (.string other) rfl); have q6 := (hbA.cell (p := ⟨w.heap.size, 6, none⟩) HZ0.out).trans (HK0.out.at 6 (.int .i64 bl) rfl); have q7 := (hbA.cell (p := ⟨w.heap.size, 7, none⟩) HZ0.out).trans (HK0.out.at 7 (.int .i64 bh) rfl); have HKA := Lib.hid (HK0.out.below hbA); clear hbA) | (go_at_call 44; (with_reducible refine (ranged_calls bl bh _ _).mono ?_); rintro e wB ⟨rfl, hbB⟩; have HBB := Lib.hid (HBA.out.trans (hbB.mono HBA.out.size)); have q0' := (HKA.out.below hbB).at 0 (.int .i64 kind) rfl; have q3' := (HKA.out.below hbB).at 3 (.string other) rfl; clear hbB))
                    go_ret
                    exact ⟨by rw [HE.out]; rfl, by first | exact HBB.out | exact HBA.out | exact HB0.out⟩
                  · have ie : other.toList.isEmpty = true := by rw [← noOther_empty]; simpa using no
                    have HE := Lib.hid (show errDeed (⟨kind, day, code, other, ⟨al, ah⟩, ⟨bl, bh⟩⟩ : Deed Code) ear = 0 from by unfold errDeed; simp [k1, k8, dy, lt, cs, tw', ra, rb, no])
                    go_enter Try.func31, Try.ntmps31
                    go_wp2_with (first | (go_at_call 30; refine (in_calls _ _ _ _).mono ?_; rintro e w' ⟨rfl, rfl⟩) | (go_at_call 41; refine (code_calls _ _).mono ?_; rintro e w' ⟨rfl, rfl⟩) | (go_at_call 42; refine (two_calls _ _).mono ?_; rintro e w' ⟨rfl, rfl⟩) | (go_at_call 43; refine (limits_calls _ _ HKD.out).mono ?_; rintro e w' ⟨rfl, rfl⟩) | (go_at_call 44; (with_reducible refine (ranged_calls al ah _ _).mono ?_); rintro e wA ⟨rfl, hbA⟩; have HBA := Lib.hid (HB0.out.trans (hbA.mono HB0.out.size)); have q0 := (hbA.cell (p := ⟨w.heap.size, 0, none⟩) HZ0.out).trans (HK0.out.at 0 (.int .i64 kind) rfl); have q3 := (hbA.cell (p := ⟨w.heap.size, 3, none⟩) HZ0.out).trans (HK0.out.at 3 (.string other) rfl); have q6 := (hbA.cell (p := ⟨w.heap.size, 6, none⟩) HZ0.out).trans (HK0.out.at 6 (.int .i64 bl) rfl); have q7 := (hbA.cell (p := ⟨w.heap.size, 7, none⟩) HZ0.out).trans (HK0.out.at 7 (.int .i64 bh) rfl); have HKA := Lib.hid (HK0.out.below hbA); clear hbA) | (go_at_call 44; (with_reducible refine (ranged_calls bl bh _ _).mono ?_); rintro e wB ⟨rfl, hbB⟩; have HBB := Lib.hid (HBA.out.trans (hbB.mono HBA.out.size)); have q0' := (HKA.out.below hbB).at 0 (.int .i64 kind) rfl; have q3' := (HKA.out.below hbB).at 3 (.string other) rfl; clear hbB))
                    go_ret
                    exact ⟨by rw [HE.out]; rfl, by first | exact HBB.out | exact HBA.out | exact HB0.out⟩
end Go.Proofs.Ytbgojeppfhldjaa
namespace Go.Proofs.Ytbgojeppfhldjaa
open Go Go.RowKit Go.Shelf Yd

instance : Inhabited (Deed Code) := ⟨⟨0, 0, ⟨#[]⟩, ⟨#[]⟩, ⟨0, 0⟩, ⟨0, 0⟩⟩⟩

/-- A list held in memory below block B: k cells an element. -/
def Held {α : Type} [Inhabited α] (B : Nat) (w : World) (k : Nat) (enc : α → List Value) (v : Value) (xs : List α) : Prop :=
  ((∃ (a : Option Addr) (c : Nat), v = .slice a 0 c) ∧ xs = []) ∨
  ∃ b off c : Nat, v = .slice (some ⟨b, off, none⟩) xs.length c ∧ b < B ∧ (xs.length ≤ c ∧ xs.length ≤ 140737488355328 ∧ c ≤ 9223372036854775807) ∧
    ∀ j, j < xs.length → ∀ i u, (enc xs[j]!)[i]? = some u → w.cell? ⟨b, off + j * k + i, none⟩ = some u
theorem Held.below {α : Type} [Inhabited α] {B : Nat} {w w' : World} {k : Nat} {enc : α → List Value} {v : Value} {xs : List α} (h : Held B w k enc v xs) (hb : Below B w w') : Held B w' k enc v xs := by
  rcases h with h | ⟨b, off, c, hv, hB, hl, hc⟩
  · exact .inl h
  · exact .inr ⟨b, off, c, hv, hB, hl, fun j hj i u hu => by rw [hb.cell (p := ⟨b, off + j * k + i, none⟩) hB]; exact hc j hj i u hu⟩
theorem Held.mono {α : Type} [Inhabited α] {B B' : Nat} {w : World} {k : Nat} {enc : α → List Value} {v : Value} {xs : List α} (h : Held B w k enc v xs) (hb : B ≤ B') : Held B' w k enc v xs := by
  rcases h with h | ⟨b, off, c, hv, hB, hl, hc⟩
  · exact .inl h
  · exact .inr ⟨b, off, c, hv, by omega, hl, hc⟩

/-- A slice of so many elements, and where each of them lies. -/
theorem Held.slice {α : Type} [Inhabited α] {B : Nat} {w : World} {k : Nat} {enc : α → List Value} {v : Value} {xs : List α} (h : Held B w k enc v xs) :
    ∃ (a : Option Addr) (c : Nat), v = .slice a xs.length c ∧ xs.length ≤ 140737488355328 ∧ (0 < xs.length → ∃ b off, a = some ⟨b, off, none⟩ ∧ b < B ∧ (xs.length ≤ c ∧ c ≤ 9223372036854775807) ∧ ∀ j, j < xs.length → ∀ i u, (enc xs[j]!)[i]? = some u → w.cell? ⟨b, off + j * k + i, none⟩ = some u) := by
  rcases h with ⟨⟨a, c, rfl⟩, rfl⟩ | ⟨b, off, c, hv, hB, hl, hc⟩
  · exact ⟨a, c, rfl, by simp, fun h => by simp at h⟩
  · exact ⟨_, c, hv, hl.2.1, fun _ => ⟨b, off, rfl, hB, ⟨hl.1, hl.2.2⟩, hc⟩⟩

theorem drop_get {α : Type} [Inhabited α] {l : List α} {k : Nat} (h : k < l.length) : l.drop k = l[k]! :: l.drop (k + 1) := by
  rw [List.drop_eq_getElem_cons h, getElem!_pos l k h]
theorem get_in {α : Type} [Inhabited α] {l : List α} {k : Nat} (h : k < l.length) : l[k]! ∈ l := by
  rw [getElem!_pos l k h]; exact List.getElem_mem h
theorem errDeeds_cons (day : Int) (d : Deed Code) (r : List (Deed Code)) : errDeeds day (d :: r) = if errDeed d day = 0 then errDeeds d.day r else errDeed d day := rfl
end Go.Proofs.Ytbgojeppfhldjaa
