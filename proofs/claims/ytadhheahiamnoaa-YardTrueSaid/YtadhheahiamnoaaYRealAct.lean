/- Real.do: all kinds together; what it keeps. -/
import Derived.Test.YtadhheahiamnoaaYRealDo
namespace Go.Proofs.Ytadhheahiamnoaa
open Go Go.RowKit Go.Shelf Yd

def realCells (v : Value) (r : Yd.Real Code) : List Value := [v, .int .i64 r.vapour, .int .i64 r.broth, .int .i64 r.dust, .int .i64 r.soldDry, .int .i64 r.soldWater, .int .i64 r.soaked, .int .i64 r.piledDry, .int .i64 r.piledWater]
/-- Numbers that no sum of a deed overflows. -/
structure Moderate (r : Yd.Real Code) : Prop where
  vapour : 0 ≤ r.vapour ∧ r.vapour ≤ 2000000000000000
  broth : 0 ≤ r.broth ∧ r.broth ≤ 2000000000000000
  dust : 0 ≤ r.dust ∧ r.dust ≤ 2000000000000000
  soldDry : 0 ≤ r.soldDry ∧ r.soldDry ≤ 2000000000000000
  soldWater : 0 ≤ r.soldWater ∧ r.soldWater ≤ 2000000000000000
  soaked : 0 ≤ r.soaked ∧ r.soaked ≤ 2000000000000000
  piledDry : 0 ≤ r.piledDry ∧ r.piledDry ≤ 2000000000000000
  piledWater : 0 ≤ r.piledWater ∧ r.piledWater ≤ 2000000000000000
  piles : ∀ p ∈ r.stacks, (0 ≤ p.dry ∧ p.dry ≤ 2000000000000000) ∧ (0 ≤ p.water ∧ p.water ≤ 2000000000000000)
  few : r.stacks.length ≤ 20

theorem booked_stacks (r : Yd.Real Code) (l : List (Yd.Pile Code)) (x : Yd.Pile Code) (d : Deed Code) (a b : Int) : (r.booked l x d a b).stacks = l ∧ (r.booked l x d a b).piledDry = r.piledDry ∧ (r.booked l x d a b).piledWater = r.piledWater := by
  unfold Yd.Real.booked
  split
  · exact ⟨rfl, rfl, rfl⟩
  split
  · exact ⟨rfl, rfl, rfl⟩
  split
  · exact ⟨rfl, rfl, rfl⟩
  split <;> exact ⟨rfl, rfl, rfl⟩
theorem after_few {α : Type} (l : List α) (x c : α) (kind : Int) (k o : Nat) : (after l x c kind k o).length ≤ l.length + 1 := by
  unfold after
  split
  · simp
  split
  · rw [List.length_eraseIdx]; split <;> simp <;> omega
  split
  · rw [List.length_eraseIdx]; split <;> simp <;> omega
  · simp
/-- What a deed adds at most. -/
theorem act_adds {r r' : Yd.Real Code} {d : Deed Code} {a b : Int} (h : r.act d a b = some r') :
    r'.stacks.length ≤ r.stacks.length + 1 ∧ (r'.piledDry = r.piledDry ∨ r'.piledDry = r.piledDry + a) ∧ (r'.piledWater = r.piledWater ∨ r'.piledWater = r.piledWater + b) := by
  unfold Yd.Real.act at h
  split at h
  · cases h
    exact ⟨by simp, .inr rfl, .inr rfl⟩
  · split at h
    · cases h
    · split at h
      · cases h
      split at h
      · cases h
      split at h
      · cases h
      · cases h
        obtain ⟨e1, e2, e3⟩ := booked_stacks r (after r.stacks (Yd.Pile.done ‹_› ((r.stacks[Yd.find r.stacks d.other]?).getD ‹_›) d a b) (Yd.Pile.cut ‹_› d a) d.kind (Yd.find r.stacks d.stack) (Yd.find r.stacks d.other)) ‹_› d a b
        exact ⟨by rw [e1]; exact after_few _ _ _ _ _ _, .inl e2, .inl e3⟩

set_option maxHeartbeats 1000000 in
/-- A deed does what it really does. -/
theorem do_calls (v : Value) (r : Yd.Real Code) (d : Deed Code) (one two : Int) (w : World) (h : Held w.heap.size w 3 pileCells v r.stacks) (hsv : PileSlice v r.stacks) (fd : Fits d) (hm : Moderate r) (h1 : 0 ≤ one ∧ one ≤ 65535) (h2 : 0 ≤ two ∧ two ≤ 65535) :
    Calls Try.prog 44 #[.agg (realCells v r).toArray, .agg (deedCells d).toArray, .int .u16 one, .int .u16 two] w (RealDone w (r.act d (pickOf d.a.lo d.a.hi one) (pickOf d.b.lo d.b.hi two))) := by
  obtain ⟨l, vap, bro, dus, sdr, swa, soa, pdr, pwa⟩ := r
  obtain ⟨kind, dy, code, other, ⟨al, ah⟩, ⟨bl, bh⟩⟩ := d
  obtain ⟨m1, m2, m3, m4, m5, m6, m7, m8, mp, ml⟩ := hm
  obtain ⟨⟨hk, fa, fb, ft⟩, fa8, fb8, fsoak, _⟩ := fd
  unfold Bd.Ok at fa fb
  simp only at m1 m2 m3 m4 m5 m6 m7 m8 mp ml hk fa fb ft fa8 fb8 fsoak h hsv ⊢
  have hA : 0 ≤ al ∧ al ≤ ah ∧ ah ≤ 100000000 := ⟨fa.1, fa.2, fa8⟩
  have hB : 0 ≤ bl ∧ bl ≤ bh ∧ bh ≤ 100000000 := ⟨fb.1, fb.2, fb8⟩
  exact do_any v l vap bro dus sdr swa soa pdr pwa kind dy code other al ah bl bh one two w h hsv ml hA hB h1 h2 _ _ rfl rfl ⟨m1, m2, m3, m4, m5, m6, m7, m8⟩ mp hk ft fsoak

/-- Numbers that lie in small bounds are moderate. -/
theorem moderate_of {i : Nat} {r : Yd.Real Code} {s : St Code} (h : True_ r s) (hs : SmallSt i s) (hi : i ≤ 12) (hp : 0 ≤ r.piledDry ∧ r.piledDry ≤ 100000000 * (i : Int)) (hq : 0 ≤ r.piledWater ∧ r.piledWater ≤ 100000000 * (i : Int)) (hl : r.stacks.length ≤ i) : Moderate r := by
  obtain ⟨hst, ⟨a1, a2, a3, a4, a5, a6⟩⟩ := h
  obtain ⟨ss, ⟨b1, b2, b3, b4, b5, b6⟩⟩ := hs
  have hc := cap_le hi
  unfold Bd.Up at b1 b2 b3 b4 b5 b6
  refine ⟨by omega, by omega, by omega, by omega, by omega, by omega, by omega, by omega, fun p hp => ?_, by omega⟩
  obtain ⟨j, hj⟩ := List.getElem?_of_mem hp
  have hjl : j < s.stacks.length := by rw [← hst.length_eq]; exact (List.getElem?_eq_some_iff.1 hj).1
  obtain ⟨_, hd, hw, _⟩ := hst.get hj (List.getElem?_eq_getElem hjl)
  obtain ⟨u1, u2, _⟩ := ss _ (List.getElem_mem hjl)
  unfold Bd.Up at u1 u2
  omega

/-- The deeds before one that are made without a fault, and this one. -/
theorem run_upto {be af : Int} {ds : List (Deed Code)} {K i : Nat} (hK : K ≤ ds.length) (hi : i < K) (hz : (Yd.run be af .empty 0 (ds.take K)).2.2 = 0) {s : St Code} (hr : Yd.run be af .empty 0 (ds.take i) = (s, i, 0)) :
    fault be af s ds[i]! = 0 ∧ Yd.run be af .empty 0 (ds.take (i + 1)) = (deed s ds[i]! i, i + 1, 0) := by
  have hil : i < ds.length := by omega
  have e1 : ds.take (i + 1) = ds.take i ++ [ds[i]!] := by rw [getElem!_pos ds i hil, ← List.take_append_getElem hil]
  have e2 : ds.take K = ds.take i ++ (ds[i]! :: (ds.take K).drop (i + 1)) := by
    conv => lhs; rw [← List.take_append_drop i (ds.take K)]
    rw [List.take_take, Nat.min_eq_left (by omega)]
    congr 1
    rw [List.drop_eq_getElem_cons (by rw [List.length_take]; omega), List.getElem_take, getElem!_pos ds i hil]
  have f0 : fault be af s ds[i]! = 0 := by
    rw [e2, run_append, hr] at hz
    simp only [if_true] at hz
    rw [Yd.run] at hz
    split at hz
    · assumption
    · simp only at hz
      exact hz
  refine ⟨f0, ?_⟩
  rw [e1, run_append, hr]
  simp only [if_true]
  rw [Yd.run, if_pos f0]
  rfl
/-- A true state stays true over a deed that is really done. -/
theorem true_next {be af : Int} {r r' : Yd.Real Code} {s : St Code} {d : Deed Code} {a b : Int} (h : True_ r s) (hb : Balance r) (fd : d.Fine) (ha : d.a.lo ≤ a ∧ a ≤ d.a.hi) (hb' : d.b.lo ≤ b ∧ b ≤ d.b.hi) (f0 : fault be af s d = 0) (i : Int) (hr : r.act d a b = some r') :
    True_ r' (deed s d i) ∧ Balance r' :=
  ⟨true_step h fd ha hb' f0 i hr, (balance_act hb (fun e => by
    obtain ⟨x, n, g⟩ := good_of f0 (by omega)
    rw [find_at h.stacks, find_at h.stacks]
    exact at_ne g.here (g.merge e).1 (g.merge e).2) hr).1⟩
/-- A list of piles is not touched by a store into a block that has no string. -/
theorem held_apart {w : World} {v : Value} {l : List (Yd.Pile Code)} {g : Nat} {t : TypeId} {cs : List Value} (h : Held w.heap.size w 3 pileCells v l) (hb : Blk w g t cs.toArray) (hns : ∀ u ∈ cs, ∀ s, u ≠ .string s) (vs : List Value) (o : Nat) :
    Held (w.setCells g o vs).heap.size (w.setCells g o vs) 3 pileCells v l := by
  rcases h with h | ⟨b, off, c, hv, hB, hl, hc⟩
  · exact .inl h
  · rcases Nat.eq_zero_or_pos l.length with h0 | h0
    · refine .inl ⟨⟨_, c, by rw [hv, h0]⟩, List.length_eq_zero_iff.1 h0⟩
    · have hne : b ≠ g := by
        intro e
        subst e
        have h1 := hc 0 h0 0 (.string l[0]!.code) rfl
        rw [hb.cell] at h1
        simp only [List.getElem?_toArray] at h1
        exact hns _ (mem_at h1) _ rfl
      refine .inr ⟨b, off, c, hv, by rw [size_setCells]; exact hB, hl, fun j hj i u hu => ?_⟩
      rw [← hc j hj i u hu]
      exact cell_same (heap_setCells w g hne vs o) _
end Go.Proofs.Ytadhheahiamnoaa
