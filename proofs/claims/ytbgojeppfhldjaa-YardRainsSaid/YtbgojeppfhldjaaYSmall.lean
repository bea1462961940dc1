/- The yard: numbers stay small, sources stay in order; nothing of the program. -/
import Derived.Test.YtbgojeppfhldjaaYJoin
namespace Go.Proofs.Ytbgojeppfhldjaa.Yd

/-- The greatest number of a stack or of the account after i deeds. -/
def cap (i : Nat) : Int := 100000000 * 4 ^ i
theorem cap_succ (i : Nat) : cap (i + 1) = 4 * cap i := by unfold cap; rw [Int.pow_succ]; omega
theorem cap_pos (i : Nat) : 100000000 ≤ cap i := by
  induction i with
  | zero => decide
  | succ i ih => rw [cap_succ]; omega
theorem cap_mono {i k : Nat} (h : i ≤ k) : cap i ≤ cap k := by
  induction h with
  | refl => exact Int.le_refl _
  | step _ ih => rw [Nat.succ_eq_add_one, cap_succ]; have := cap_pos ‹Nat›; omega
theorem cap_le {i : Nat} (h : i ≤ 12) : cap i ≤ 2000000000000000 := Int.le_trans (cap_mono h) (by decide)

theorem part_le_three {x b : Int} (hx : 0 ≤ x) (hb : b ≤ 3000) : x * b / 1000 ≤ 3 * x := by
  have h : x * b ≤ x * 3000 := Int.mul_le_mul_of_nonneg_left hb hx
  omega

variable {κ : Type} [DecidableEq κ]

/-- A deed's numbers, as CheckYard leaves them. -/
structure Fits (d : Deed κ) : Prop where
  fine : d.Fine
  a8 : d.a.hi ≤ 100000000
  b8 : d.b.hi ≤ 100000000
  soak : d.kind = 3 → d.b.hi ≤ 3000
  day : 0 ≤ d.day ∧ d.day ≤ 2000

/-- V: no number is greater. -/
structure SmallStkV (V : Int) (i : Nat) (x : Stk κ) : Prop where
  dry : x.dry.Up V
  water : x.water.Up V
  piled : 0 ≤ x.piled ∧ x.piled ≤ 2000
  boiled : -1 ≤ x.boiled ∧ x.boiled ≤ 2000
  asc : Asc x.src
  src : ∀ p ∈ x.src, 0 ≤ p ∧ p < (i : Int)
  some : x.src ≠ []

structure SmallAccV (V : Int) (c : Acc) : Prop where
  vapour : c.vapour.Up V
  broth : c.broth.Up V
  dust : c.dust.Up V
  soldDry : c.soldDry.Up V
  soldWater : c.soldWater.Up V
  soaked : c.soaked.Up V

structure SmallStV (V : Int) (i : Nat) (s : St κ) : Prop where
  stacks : ∀ x ∈ s.stacks, SmallStkV V i x
  acc : SmallAccV V s.acc
/-- After i deeds of any kind. -/
abbrev SmallStk (i : Nat) (x : Stk κ) : Prop := SmallStkV (cap i) i x
abbrev SmallAcc (i : Nat) (c : Acc) : Prop := SmallAccV (cap i) c
abbrev SmallSt (i : Nat) (s : St κ) : Prop := SmallStV (cap i) i s

theorem asc_len : ∀ {l : List Int} {a n : Int}, Asc l → (∀ p ∈ l, a ≤ p ∧ p < n) → (l.length : Int) ≤ max 0 (n - a)
  | [], a, n, _, _ => by simp; omega
  | x :: l, a, n, hl, h => by
    have hl' := List.pairwise_cons.1 hl
    have hx := h x (by simp)
    have := asc_len (l := l) (a := x + 1) (n := n) hl'.2 (fun p hp => ⟨by have := hl'.1 p hp; omega, (h p (by simp [hp])).2⟩)
    simp only [List.length_cons]
    omega
omit [DecidableEq κ] in
theorem SmallStkV.len {V : Int} {i : Nat} {x : Stk κ} (h : SmallStkV V i x) : x.src.length ≤ i := by
  have := asc_len h.asc h.src
  omega

theorem up_mono {b : Bd} {n m : Int} (h : b.Up n) (hn : n ≤ m) : b.Up m := ⟨h.1, h.2.1, Int.le_trans h.2.2 hn⟩
theorem up_left {n a : Bd} {V : Int} (hn : n.Up V) (ha : a.Up 1000) : (n.left a).Up V := by
  have o := ok_left ⟨hn.1, hn.2.1⟩ ha
  have h := part_nonneg (x := n.hi) (a := a.lo) (Int.le_trans hn.1 hn.2.1) ha.1
  have h2 := hn.2.2
  exact ⟨o.1, o.2, by show n.hi - n.hi * a.lo / 1000 ≤ V; omega⟩
theorem up_part {n a : Bd} {V : Int} (hn : n.Up V) (ha : a.Up 1000) : (n.part a).Up V := by
  have o := ok_part (n := n) (x := a) ⟨hn.1, hn.2.1⟩ ⟨ha.1, ha.2.1⟩
  have h := part_le_self (x := n.hi) (a := a.hi) (Int.le_trans hn.1 hn.2.1) ha.2.2
  have h2 := hn.2.2
  exact ⟨o.1, o.2, by show n.hi * a.hi / 1000 ≤ V; omega⟩
theorem up_soak {n a : Bd} {V : Int} (hn : n.Up V) (ha : a.Up 3000) : (n.part a).Up (3 * V) := by
  have o := ok_part (n := n) (x := a) ⟨hn.1, hn.2.1⟩ ⟨ha.1, ha.2.1⟩
  have h := part_le_three (x := n.hi) (b := a.hi) (Int.le_trans hn.1 hn.2.1) ha.2.2
  have h2 := hn.2.2
  exact ⟨o.1, o.2, by show n.hi * a.hi / 1000 ≤ 3 * V; omega⟩
theorem up_add {a b : Bd} {n m : Int} (ha : a.Up n) (hb : b.Up m) : (a.add b).Up (n + m) := by
  obtain ⟨h1, h2, h3⟩ := ha
  obtain ⟨h4, h5, h6⟩ := hb
  exact ⟨by show 0 ≤ a.lo + b.lo; omega, by show a.lo + b.lo ≤ a.hi + b.hi; omega, by show a.hi + b.hi ≤ n + m; omega⟩

omit [DecidableEq κ] in
theorem SmallStkV.more {i : Nat} {x : Stk κ} (h : SmallStk i x) : SmallStk (i + 1) x := by
  have hc := cap_succ i
  have hp := cap_pos i
  exact ⟨up_mono h.dry (by omega), up_mono h.water (by omega), h.piled, h.boiled, h.asc, fun p hp => by have := h.src p hp; omega, h.some⟩

omit [DecidableEq κ] in
theorem small_done {i : Nat} {x n : Stk κ} {d : Deed κ} (h : SmallStk i x) (hn : d.kind = 6 → SmallStk i n) (fd : Fits d)
    (h4 : d.kind = 4 → d.a.lo ≤ x.dry.hi) (h7 : d.kind = 7 → (x.dry.weighed x.water d.a).lo ≤ (x.dry.weighed x.water d.a).hi ∧ (x.water.weighed x.dry d.a).lo ≤ (x.water.weighed x.dry d.a).hi) : SmallStk (i + 1) (x.done n d) := by
  have hc := cap_succ i
  have hp := cap_pos i
  obtain ⟨u1, u2, u3, u4, u5, u6, u7⟩ := h
  have hs : ∀ p ∈ x.src, 0 ≤ p ∧ p < ((i + 1 : Nat) : Int) := fun p hp => by have := u6 p hp; omega
  have hu1 : x.dry.Up (cap (i + 1)) := up_mono u1 (by omega)
  have hu2 : x.water.Up (cap (i + 1)) := up_mono u2 (by omega)
  unfold Stk.done
  split; · rename_i e; exact ⟨hu1, up_mono (up_left u2 (up_of fd.fine (.inl e))) (by omega), u3, u4, u5, hs, u7⟩
  split
  · rename_i e
    exact ⟨up_mono (up_left u1 (up_of fd.fine (.inr (.inl e)))) (by omega), up_mono (up_add u2 (up_soak u1 ⟨fd.fine.b.1, fd.fine.b.2, fd.soak e⟩)) (by omega), u3, by have := fd.day; show -1 ≤ d.day ∧ d.day ≤ 2000; omega, u5, hs, u7⟩
  split
  · rename_i e
    have o := ok_scraped (n := x.dry) (a := d.a) ⟨u1.1, u1.2.1⟩ fd.fine.a (h4 e)
    refine ⟨⟨o.1, o.2, ?_⟩, hu2, u3, u4, u5, hs, u7⟩
    have h1 := u1.2.2
    have h2 := fd.fine.a.1
    show x.dry.hi - d.a.lo ≤ _
    omega
  split; · rename_i e; exact ⟨up_mono (up_left u1 (up_of fd.fine (.inr (.inr e)))) (by omega), up_mono (up_left u2 (up_of fd.fine (.inr (.inr e)))) (by omega), u3, u4, u5, hs, u7⟩
  split
  · rename_i e
    obtain ⟨v1, v2, v3, v4, v5, v6, v7⟩ := hn e
    refine ⟨up_mono (up_add u1 v1) (by omega), up_mono (up_add u2 v2) (by omega), by show 0 ≤ max _ _ ∧ max _ _ ≤ _; omega, ?_, asc_both _ _ u5 v5, fun j hj => ?_, fun e0 => u7 (List.eq_nil_iff_forall_not_mem.2 fun p hp => by have := (mem_both x.src n.src p).2 (.inl hp); rw [show both x.src n.src = [] from e0] at this; simp at this)⟩
    · show -1 ≤ lastBoil _ _ ∧ lastBoil _ _ ≤ 2000
      unfold lastBoil
      split <;> omega
    · rcases (mem_both _ _ _).mp hj with hj | hj
      · have := u6 j hj; omega
      · have := v6 j hj; omega
  split
  · rename_i e
    have w := h7 e
    obtain ⟨a1, a2, a3⟩ := u1
    obtain ⟨b1, b2, b3⟩ := u2
    refine ⟨⟨?_, w.1, ?_⟩, ⟨?_, w.2, ?_⟩, u3, u4, u5, hs, u7⟩
    · show 0 ≤ max _ _; omega
    · show min _ _ ≤ _; omega
    · show 0 ≤ max _ _; omega
    · show min _ _ ≤ _; omega
  · exact ⟨hu1, hu2, u3, u4, u5, hs, u7⟩

omit [DecidableEq κ] in
theorem small_acc {i : Nat} {c : Acc} {x : Stk κ} {d : Deed κ} (h : SmallAcc i c) (hx : SmallStk i x) (fd : Fits d) (h4 : d.kind = 4 → d.a.lo ≤ x.dry.hi) : SmallAcc (i + 1) (c.done x d) := by
  have hc := cap_succ i
  have hp := cap_pos i
  obtain ⟨c1, c2, c3, c4, c5, c6⟩ := h
  have m : ∀ {b : Bd}, b.Up (cap i) → b.Up (cap (i + 1)) := fun h => up_mono h (by omega)
  unfold Acc.done
  split; · rename_i e; exact ⟨up_mono (up_add c1 (up_part hx.water (up_of fd.fine (.inl e)))) (by omega), m c2, m c3, m c4, m c5, m c6⟩
  split; · rename_i e; exact ⟨m c1, up_mono (up_add c2 (up_part hx.dry (up_of fd.fine (.inr (.inl e))))) (by omega), m c3, m c4, m c5, up_mono (up_add c6 (up_soak hx.dry ⟨fd.fine.b.1, fd.fine.b.2, fd.soak e⟩)) (by omega)⟩
  split
  · rename_i e
    have o := ok_dust (n := x.dry) (a := d.a) fd.fine.a (h4 e)
    have h1 := hx.dry.2.2
    exact ⟨m c1, m c2, up_mono (up_add c3 (m := cap i) ⟨o.1, o.2, by show min _ _ ≤ _; omega⟩) (by omega), m c4, m c5, m c6⟩
  split; · exact ⟨m c1, m c2, m c3, up_mono (up_add c4 hx.dry) (by omega), up_mono (up_add c5 hx.water) (by omega), m c6⟩
  · exact ⟨m c1, m c2, m c3, m c4, m c5, m c6⟩

theorem small_step {be af : Int} {i : Nat} {s : St κ} {d : Deed κ} (h : SmallSt i s) (fd : Fits d) (fs : fault be af s d = 0) : SmallSt (i + 1) (deed s d i) := by
  have hc := cap_succ i
  have hp := cap_pos i
  have h' : ∀ x ∈ s.stacks, SmallStk (i + 1) x := fun x hx => (h.stacks x hx).more
  have m : ∀ {b : Bd}, b.Up (cap i) → b.Up (cap (i + 1)) := fun h => up_mono h (by omega)
  by_cases h1 : d.kind = 1
  · rw [deed_one h1]
    refine ⟨fun x hx => ?_, m h.acc.1, m h.acc.2, m h.acc.3, m h.acc.4, m h.acc.5, m h.acc.6⟩
    rcases List.mem_append.mp hx with hx | hx
    · exact h' x hx
    · rw [List.mem_singleton.mp hx]
      have a8 := fd.a8
      have b8 := fd.b8
      refine ⟨⟨fd.fine.a.1, fd.fine.a.2, by show d.a.hi ≤ _; omega⟩, ⟨fd.fine.b.1, fd.fine.b.2, by show d.b.hi ≤ _; omega⟩, fd.day, by show -1 ≤ (-1 : Int) ∧ (-1 : Int) ≤ 2000; omega, List.pairwise_singleton _ _, fun p hp => ?_, by simp [piledUp]⟩
      have : p = (i : Int) := by simpa [piledUp] using hp
      omega
  · obtain ⟨x, n, g⟩ := good_of fs h1
    rw [deed_at h1 g]
    have hx := h.stacks x (List.mem_of_getElem? g.here)
    refine ⟨mem_after h' (small_done hx (fun e => h.stacks n (List.mem_of_getElem? (g.merge e).1)) fd g.bark g.scale) (fun e => ?_), small_acc h.acc hx fd g.bark⟩
    have ud : d.a.Up 1000 := up_of fd.fine (.inr (.inr e))
    exact ⟨m (up_part hx.dry ud), m (up_part hx.water ud), hx.piled, hx.boiled, hx.asc, hx.more.src, hx.some⟩

omit [DecidableEq κ] in
theorem small_empty : SmallSt 0 (.empty : St κ) := by
  have hz : Bd.zero.Up (cap 0) := ⟨by decide, by decide, by decide⟩
  exact ⟨fun x hx => by simp [St.empty] at hx, hz, hz, hz, hz, hz, hz⟩
theorem up_most {b : Bd} {n m : Int} (h : b.Up n) (hm : n ≤ m) : b.Up m := ⟨h.1, h.2.1, Int.le_trans h.2.2 hm⟩
omit [DecidableEq κ] in
theorem SmallStV.most {V U : Int} {i : Nat} {s : St κ} (h : SmallStV V i s) (hv : V ≤ U) : SmallStV U i s :=
  ⟨fun x hx => by obtain ⟨a, b, c, d, e, f, g⟩ := h.stacks x hx; exact ⟨up_most a hv, up_most b hv, c, d, e, f, g⟩, by obtain ⟨a, b, c, d, e, f⟩ := h.acc; exact ⟨up_most a hv, up_most b hv, up_most c hv, up_most d hv, up_most e hv, up_most f hv⟩⟩
/-- One deed more. -/
theorem run_snoc {be af : Int} {ds : List (Deed κ)} {d : Deed κ} {k : Nat} {s : St κ} (h : run be af .empty 0 (ds.take k) = (s, k, 0)) (hd : ds[k]? = some d) (hf : fault be af s d = 0) : run be af .empty 0 (ds.take (k + 1)) = (deed s d k, k + 1, 0) := by
  have e : ds.take (k + 1) = ds.take k ++ [d] := by
    obtain ⟨h1, h2⟩ := List.getElem?_eq_some_iff.1 hd
    rw [← h2, ← List.take_append_getElem h1]
  rw [e, run_append, h, if_pos rfl, run, if_pos hf, run]
/-- Deeds without a fault leave what is small. -/
theorem small_run {be af : Int} : ∀ {ds : List (Deed κ)} {s t : St κ} {i k : Nat}, SmallSt i s → (∀ d ∈ ds, Fits d) → run be af s i ds = (t, k, 0) → SmallSt k t
  | [], s, t, i, k, hs, _, h => by
    rw [run] at h
    injection h with h1 h2
    injection h2 with h2 _
    subst h1 h2
    exact hs
  | d :: ds, s, t, i, k, hs, hd, h => by
    rw [run] at h
    split at h
    · rename_i hf
      exact small_run (small_step hs (hd d (by simp)) hf) (fun x hx => hd x (by simp [hx])) h
    · rename_i hf
      injection h with _ h2
      injection h2 with _ h3
      exact absurd h3 hf
end Go.Proofs.Ytbgojeppfhldjaa.Yd
