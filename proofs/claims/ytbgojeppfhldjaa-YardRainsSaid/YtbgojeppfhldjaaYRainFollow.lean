/- Follow at the yard whose only stack dries as the air does. -/
import Derived.Test.YtbgojeppfhldjaaYDried
namespace Go.Proofs.Ytbgojeppfhldjaa
open Go Go.RowKit Go.Shelf Yd
theorem part_upR {w x : Bd} {m : Int} (hw : w.Up m) (hx : x.Up 1000) : (w.part x).Up m := by
  unfold Bd.Up at *
  have h1 := part_nonneg (x := w.lo) (a := x.lo) hw.1 hx.1
  have h2 := part_le (x := w.lo) (y := w.hi) (a := x.lo) (b := x.hi) hw.1 hw.2.1 hx.1 hx.2.1
  have h3 := part_le_self (x := w.hi) (a := x.hi) (by omega) hx.2.2
  exact ⟨h1, h2, Int.le_trans h3 hw.2.2⟩
theorem vapours_up {m : Int} : ∀ {v w : Bd} {ds : List Bd} {a : Int}, v.Up a → w.Up m → (∀ d ∈ ds, Air d) → (vapours v w ds).Up (a + m * ds.length)
  | _, _, [], a, hv, _, _ => by simpa [vapours] using hv
  | v, w, d :: ds, a, hv, hw, hd => by
    have s1 := share_up (hd d (by simp))
    have p := part_upR hw s1
    have h := vapours_up (v := v.add (w.part (share d))) (w := w.left (share d)) (ds := ds) (a := a + m) (by unfold Bd.Up Bd.add at *; simp only at *; omega) (Yd.left_up hw s1) (fun x hx => hd x (by simp [hx]))
    rw [vapours]
    rwa [show a + m * ((d :: ds).length : Int) = a + m + m * (ds.length : Int) from by rw [List.length_cons, Int.natCast_add, Int.mul_add]; omega]
theorem rests_take {κ : Type} (c e : κ) : ∀ (i : Nat) (ds : List Bd) (k : Nat), (rests c e i ds).take k = rests c e i (ds.take k)
  | _, [], k => by simp [rests]
  | i, d :: ds, 0 => by simp [rests]
  | i, d :: ds, k + 1 => by rw [rests, List.take_succ_cons, List.take_succ_cons, rests, rests_take c e (i + 1) ds k]
theorem rests_err {ds : List Bd} : ∀ {i : Nat} {day : Int}, 0 ≤ day ∧ day ≤ (i : Int) → i + ds.length ≤ 2000 → (∀ d ∈ ds, Air d) → errDeeds day (rests codeS noCode i ds) = 0 := by
  induction ds with
  | nil => intro i day _ _ _; rfl
  | cons d ds ih =>
    intro i day h1 h2 h3
    have ha := h3 d (by simp)
    unfold Air at ha
    rw [List.length_cons] at h2
    have h0 : errDeed (⟨2, (i : Int), codeS, noCode, share d, .zero⟩ : Deed Code) day = 0 := by
      have g1 : inB (i : Int) 0 2000 = true := by simp [inB]; omega
      have g2 : codeB codeS.data.toList = true := by decide
      have g3 : rangedB (share d).lo (share d).hi (limA 2) = true := by unfold share; simp [rangedB, limA, boundsB]; omega
      have g4 : rangedB 0 0 (limB 2) = true := by decide
      have g5 : noOther noCode = true := by decide
      unfold errDeed
      simp only [g1, g2, g5, Bd.zero, g3, g4]
      rw [if_neg (by simp), if_neg (by omega), if_neg (by simp [twoK]), if_neg (by simp)]
    rw [rests, errDeeds, if_pos h0]
    exact ih (i := i + 1) (day := (i : Int)) (by omega) (by omega) (fun x hx => h3 x (by simp [hx]))
theorem dried_err {dry water : Bd} {ds : List Bd} (h1 : dry.Up 100000000) (h2 : water.Up 100000000) (h3 : ds.length ≤ 30) (h4 : ∀ d ∈ ds, Air d) : errYard 0 0 (driedDeeds codeS noCode dry water ds) = 0 := by
  have h0 : errDeed (⟨1, 0, codeS, noCode, dry, water⟩ : Deed Code) 0 = 0 := by
    have g2 : codeB codeS.data.toList = true := by decide
    have g3 : rangedB dry.lo dry.hi (limA 1) = true := by unfold Bd.Up at h1; simp [rangedB, limA, boundsB]; omega
    have g4 : rangedB water.lo water.hi (limB 1) = true := by unfold Bd.Up at h2; simp [rangedB, limB, boundsB]; omega
    have g5 : noOther noCode = true := by decide
    unfold errDeed
    simp only [g2, g5, g3, g4]
    rw [if_neg (by simp [inB]), if_neg (show ¬ ((0 : Int) < 0) from by omega), if_neg (by simp [twoK]), if_neg (by simp)]
  unfold errYard driedDeeds
  rw [if_neg (by simp [inB]), if_neg (by rw [List.length_cons, rests_len]; omega), errDeeds, if_pos h0]
  exact rests_err ⟨Int.le_refl _, show (0 : Int) ≤ ((0 : Nat) : Int) from by omega⟩ (by omega) h4
theorem dried_take (dry water : Bd) (ds : List Bd) (k : Nat) : (driedDeeds codeS noCode dry water ds).take (k + 1) = driedDeeds codeS noCode dry water (ds.take k) := by
  unfold driedDeeds
  rw [List.take_succ_cons, rests_take]
theorem dried_run (dry water : Bd) (ds : List Bd) : run 0 0 .empty 0 (driedDeeds codeS noCode dry water ds) = (⟨[⟨codeS, dry, wet water ds, 0, -1, [0]⟩], { Acc.zero with vapour := vapours .zero water ds }⟩, ds.length + 1, 0) := by
  have h := dried_follow (be := 0) (af := 0) codeS noCode dry water ds
  unfold Yd.follow at h
  rwa [List.take_of_length_le (by unfold driedDeeds; rw [List.length_cons, rests_len]; exact Nat.le_refl _)] at h
theorem dried_small {dry water : Bd} {ds : List Bd} (h1 : dry.Up 100000000) (h2 : water.Up 100000000) (h3 : ds.length ≤ 30) (h4 : ∀ d ∈ ds, Air d) (k : Nat) (s : St Code) (hk : k ≤ ds.length + 1) (hr : run 0 0 .empty 0 ((driedDeeds codeS noCode dry water ds).take k) = (s, k, 0)) : SmallStV 2000000000000000 k s := by
  cases k with
  | zero =>
    rw [List.take_zero, run] at hr
    injection hr with hr _
    rw [← hr]
    exact ⟨by simp [St.empty], by constructor <;> (unfold Bd.Up; decide)⟩
  | succ k =>
    rw [dried_take, dried_run] at hr
    injection hr with hr _
    rw [← hr]
    have h5 : ∀ d ∈ ds.take k, Air d := fun d hd => h4 d (List.mem_of_mem_take hd)
    have h6 := wet_up h2 h5
    have h7 := vapours_up (v := .zero) (a := 0) ⟨by decide, by decide, by decide⟩ h2 h5
    have h8 : (ds.take k).length ≤ 30 := by rw [List.length_take]; omega
    have hz : Bd.zero.Up 2000000000000000 := by unfold Bd.Up; decide
    refine ⟨fun x hx => ?_, ⟨?_, hz, hz, hz, hz, hz⟩⟩
    · rw [List.mem_singleton.1 hx]
      refine ⟨?_, ?_, by simp, by simp, by simp [Asc], by simp, by simp⟩
      · unfold Bd.Up at *; simp only; omega
      · unfold Bd.Up at *; simp only; omega
    · unfold Bd.Up at *; simp only; omega
/-- What Follow leaves of it. -/
def RainDone (w : World) (dry left vap : Bd) (n : Nat) (e : Ending) (w' : World) : Prop :=
  ∃ (fv tv : Value), e = .returned (.tuple #[.agg #[tv, .int .i64 vap.lo, .int .i64 vap.hi, .int .i64 0, .int .i64 0, .int .i64 0, .int .i64 0, .int .i64 0, .int .i64 0, .int .i64 0, .int .i64 0, .int .i64 0, .int .i64 0], .int .i64 n, .int .i64 0, .int .i64 0]) ∧ Below w.heap.size w w' ∧ Stands w' [(⟨codeS, dry, left, 0, -1, [0]⟩, fv)] tv
theorem rain_follow {dry water : Bd} {ds : List Bd} (h1 : dry.Up 100000000) (h2 : water.Up 100000000) (h3 : ds.length ≤ 30) (h4 : ∀ d ∈ ds, Air d) (v : Value) (w : World) (h : Held w.heap.size w 8 deedCells v (driedDeeds codeS noCode dry water ds)) :
    Calls Try.prog 9 #[.agg #[.int .i64 0, .int .i64 0, v], .int .i64 ((ds.length : Int) + 1)] w (RainDone w dry (wet water ds) (vapours .zero water ds) (ds.length + 1)) := by
  have hl : (driedDeeds codeS noCode dry water ds).length = ds.length + 1 := by unfold driedDeeds; rw [List.length_cons, rests_len]
  have hs : ∀ d ∈ driedDeeds codeS noCode dry water ds, d.stack.size ≤ maxLen ∧ d.other.size ≤ maxLen := by
    have hr : ∀ (i : Nat) (l : List Bd), ∀ d ∈ rests codeS noCode i l, d.stack.size ≤ maxLen ∧ d.other.size ≤ maxLen := by
      intro i l
      induction l generalizing i with
      | nil => intro d hd; cases hd
      | cons x l ih =>
        intro d hd
        rcases List.mem_cons.1 hd with rfl | hd
        · exact ⟨show codeS.size ≤ maxLen from by decide, show noCode.size ≤ maxLen from by decide⟩
        · exact ih _ d hd
    intro d hd
    rcases List.mem_cons.1 hd with rfl | hd
    · exact ⟨show codeS.size ≤ maxLen from by decide, show noCode.size ≤ maxLen from by decide⟩
    · exact hr _ _ d hd
  have hf := follow_gen 0 0 v _ (ds.length + 1) w h (dried_err h1 h2 h3 h4) hs (by rw [hl]; exact Nat.le_refl _) (by omega) (fun k s hk hr => dried_small h1 h2 h3 h4 k s hk hr)
  rw [Int.natCast_add] at hf
  refine hf.mono fun e w' hd => ?_
  obtain ⟨rows, tv, acc, k, f, h5, _, _, rfl, hb, hst⟩ := hd
  rw [dried_follow] at h5
  injection h5 with h5 h6
  injection h6 with h6 h7
  subst h6 h7
  unfold stOf at h5
  injection h5 with h5 h8
  subst h8
  obtain ⟨p, hp⟩ := List.length_eq_one_iff.1 (show rows.length = 1 from by have := congrArg List.length h5; simpa using this.symm)
  subst hp
  obtain ⟨x, fv⟩ := p
  have h9 : (⟨codeS, dry, wet water ds, 0, -1, [0]⟩ : Stk Code) = x := by simpa using h5
  subst h9
  exact ⟨fv, tv, rfl, hb, hst⟩
end Go.Proofs.Ytbgojeppfhldjaa
