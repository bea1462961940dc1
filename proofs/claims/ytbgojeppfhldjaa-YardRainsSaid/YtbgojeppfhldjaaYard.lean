/- The yard: what its deeds do, as plain functions on lists; nothing of the program. -/
import Derived.Lib.ItoaNum
namespace Go.Proofs.Ytbgojeppfhldjaa.Yd

/-! ### Lists that agree at each place -/

inductive All2 {α β : Type} (R : α → β → Prop) : List α → List β → Prop
  | nil : All2 R [] []
  | cons {a b l m} : R a b → All2 R l m → All2 R (a :: l) (b :: m)

namespace All2
variable {α β : Type} {R : α → β → Prop}
theorem length_eq {l : List α} {m : List β} (h : All2 R l m) : l.length = m.length := by
  induction h with
  | nil => rfl
  | cons _ _ ih => simp [ih]
theorem append {l : List α} {m : List β} {l' : List α} {m' : List β} (h : All2 R l m) (h' : All2 R l' m') : All2 R (l ++ l') (m ++ m') := by
  induction h with
  | nil => exact h'
  | cons r _ ih => exact .cons r ih
theorem one {a : α} {b : β} (h : R a b) : All2 R [a] [b] := .cons h .nil
theorem set {l : List α} {m : List β} {a : α} {b : β} (h : All2 R l m) (hr : R a b) (k : Nat) : All2 R (l.set k a) (m.set k b) := by
  induction h generalizing k with
  | nil => exact .nil
  | cons r t ih =>
    cases k with
    | zero => exact .cons hr t
    | succ k => exact .cons r (ih k)
theorem erase {l : List α} {m : List β} (h : All2 R l m) (k : Nat) : All2 R (l.eraseIdx k) (m.eraseIdx k) := by
  induction h generalizing k with
  | nil => exact .nil
  | cons r t ih =>
    cases k with
    | zero => exact t
    | succ k => exact .cons r (ih k)
theorem find {l : List α} {m : List β} (h : All2 R l m) {p : α → Bool} {q : β → Bool} (hp : ∀ a b, R a b → p a = q b) : l.findIdx p = m.findIdx q := by
  induction h with
  | nil => rfl
  | cons r _ ih => simp only [List.findIdx_cons, hp _ _ r, ih]
theorem get {l : List α} {m : List β} (h : All2 R l m) {k : Nat} {a : α} {b : β} (ha : l[k]? = some a) (hb : m[k]? = some b) : R a b := by
  induction h generalizing k with
  | nil => simp at ha
  | cons r t ih =>
    cases k with
    | zero => simp at ha hb; subst ha; subst hb; exact r
    | succ k => simp at ha hb; exact ih ha hb
theorem some_of {l : List α} {m : List β} (h : All2 R l m) {k : Nat} {b : β} (hb : m[k]? = some b) : ∃ a, l[k]? = some a ∧ R a b := by
  induction h generalizing k with
  | nil => simp at hb
  | cons r t ih =>
    cases k with
    | zero => simp at hb; subst hb; exact ⟨_, rfl, r⟩
    | succ k => simp at hb; simpa using ih hb
theorem none_of {l : List α} {m : List β} (h : All2 R l m) {k : Nat} (hb : m[k]? = none) : l[k]? = none := by
  rw [List.getElem?_eq_none_iff] at hb ⊢
  rw [h.length_eq]; exact hb
theorem imp {S : α → β → Prop} {l : List α} {m : List β} (h : All2 R l m) (hi : ∀ a b, R a b → S a b) : All2 S l m := by
  induction h with
  | nil => exact .nil
  | cons r _ ih => exact .cons (hi _ _ r) ih
end All2

/-! ### Bounds -/

structure Bd where
  lo : Int
  hi : Int
deriving DecidableEq

namespace Bd
def zero : Bd := ⟨0, 0⟩
def add (a b : Bd) : Bd := ⟨a.lo + b.lo, a.hi + b.hi⟩
def part (n x : Bd) : Bd := ⟨n.lo * x.lo / 1000, n.hi * x.hi / 1000⟩
def left (n x : Bd) : Bd := ⟨n.lo - n.lo * x.hi / 1000, n.hi - n.hi * x.lo / 1000⟩
def weighed (n o s : Bd) : Bd := ⟨max n.lo (s.lo - o.hi), min n.hi (s.hi - o.lo)⟩
def scraped (n a : Bd) : Bd := ⟨max 0 (n.lo - a.hi), n.hi - a.lo⟩
def dust (n a : Bd) : Bd := ⟨a.lo, min a.hi n.hi⟩
/-- Bounds that lie in others, none of them below 0. -/
def Ok (b : Bd) : Prop := 0 ≤ b.lo ∧ b.lo ≤ b.hi
def Up (b : Bd) (n : Int) : Prop := 0 ≤ b.lo ∧ b.lo ≤ b.hi ∧ b.hi ≤ n
def In (a b : Bd) : Prop := b.lo ≤ a.lo ∧ a.hi ≤ b.hi
/-- A number in bounds. -/
def Has (n : Int) (b : Bd) : Prop := b.lo ≤ n ∧ n ≤ b.hi
end Bd

theorem part_le {x y a b : Int} (hx : 0 ≤ x) (hxy : x ≤ y) (ha : 0 ≤ a) (hab : a ≤ b) : x * a / 1000 ≤ y * b / 1000 :=
  Int.ediv_le_ediv (by decide) (Int.mul_le_mul hxy hab ha (Int.le_trans hx hxy))
theorem part_nonneg {x a : Int} (hx : 0 ≤ x) (ha : 0 ≤ a) : 0 ≤ x * a / 1000 := Int.ediv_nonneg (Int.mul_nonneg hx ha) (by decide)
theorem part_le_self {x a : Int} (hx : 0 ≤ x) (ha : a ≤ 1000) : x * a / 1000 ≤ x := by
  have h : x * a ≤ x * 1000 := Int.mul_le_mul_of_nonneg_left ha hx
  have := Int.ediv_le_ediv (c := 1000) (by decide) h
  rw [Int.mul_ediv_cancel _ (by decide)] at this
  exact this
theorem left_le_x {x y a : Int} (hxy : x ≤ y) (h1 : a ≤ 1000) : x - x * a / 1000 ≤ y - y * a / 1000 := by
  have h : y * a = x * a + (y - x) * a := by rw [← Int.add_mul]; congr 1; omega
  have h2 : (y - x) * a ≤ (y - x) * 1000 := Int.mul_le_mul_of_nonneg_left h1 (by omega)
  have h3 : y * a / 1000 ≤ (x * a + (y - x) * 1000) / 1000 := Int.ediv_le_ediv (by decide) (by omega)
  rw [Int.add_mul_ediv_right _ _ (by decide)] at h3
  omega
theorem left_le {x y a b : Int} (hy : 0 ≤ y) (hxy : x ≤ y) (h1 : a ≤ 1000) (ha : b ≤ a) (h0 : 0 ≤ b) : x - x * a / 1000 ≤ y - y * b / 1000 := by
  have h := left_le_x hxy h1
  have h2 := part_le hy (Int.le_refl y) h0 ha
  omega

theorem ok_add {a b : Bd} (ha : a.Ok) (hb : b.Ok) : (a.add b).Ok := by unfold Bd.Ok Bd.add at *; simp only; omega
theorem ok_part {n x : Bd} (hn : n.Ok) (hx : x.Ok) : (n.part x).Ok := ⟨part_nonneg hn.1 hx.1, part_le hn.1 hn.2 hx.1 hx.2⟩
theorem ok_left {n x : Bd} (hn : n.Ok) (hx : x.Up 1000) : (n.left x).Ok := by
  refine ⟨?_, left_le (Int.le_trans hn.1 hn.2) hn.2 hx.2.2 hx.2.1 hx.1⟩
  have := part_le_self hn.1 hx.2.2
  show 0 ≤ n.lo - n.lo * x.hi / 1000
  omega
theorem ok_scraped {n a : Bd} (hn : n.Ok) (ha : a.Ok) (h : a.lo ≤ n.hi) : (n.scraped a).Ok := by unfold Bd.Ok Bd.scraped at *; simp only; omega
theorem ok_dust {n a : Bd} (ha : a.Ok) (h : a.lo ≤ n.hi) : (n.dust a).Ok := by unfold Bd.Ok Bd.dust at *; simp only; omega

theorem in_refl (a : Bd) : a.In a := ⟨Int.le_refl _, Int.le_refl _⟩
theorem in_add {a b c d : Bd} (h : a.In b) (h' : c.In d) : (a.add c).In (b.add d) := by unfold Bd.In Bd.add at *; simp only; omega
theorem in_part {n m x y : Bd} (h : n.In m) (hx : x.In y) (on : n.Ok) (om : m.Ok) (ox : x.Ok) (oy : y.Ok) : (n.part x).In (m.part y) :=
  ⟨part_le om.1 h.1 oy.1 hx.1, part_le (Int.le_trans on.1 on.2) h.2 (Int.le_trans ox.1 ox.2) hx.2⟩
theorem in_left {n m x y : Bd} (h : n.In m) (hx : x.In y) (on : n.Ok) (om : m.Ok) (ox : x.Up 1000) (oy : y.Up 1000) : (n.left x).In (m.left y) := by
  unfold Bd.In Bd.left at *
  simp only
  unfold Bd.Ok Bd.Up at *
  exact ⟨left_le (by omega) h.1 oy.2.2 hx.2 (by omega), left_le (by omega) h.2 (by omega) hx.1 (by omega)⟩
theorem in_weighed {n m o p s t : Bd} (h : n.In m) (h' : o.In p) (hs : s.In t) : (n.weighed o s).In (m.weighed p t) := by unfold Bd.In Bd.weighed at *; simp only; omega
theorem in_scraped {n m a b : Bd} (h : n.In m) (ha : a.In b) : (n.scraped a).In (m.scraped b) := by unfold Bd.In Bd.scraped at *; simp only; omega
theorem in_dust {n m a b : Bd} (h : n.In m) (ha : a.In b) : (n.dust a).In (m.dust b) := by unfold Bd.In Bd.dust at *; simp only; omega

/-! ### Stacks, deeds, standings -/

structure Stk (κ : Type) where
  code : κ
  dry : Bd
  water : Bd
  piled : Int
  boiled : Int
  src : List Int

structure Deed (κ : Type) where
  kind : Int
  day : Int
  stack : κ
  other : κ
  a : Bd
  b : Bd

structure Acc where
  vapour : Bd
  broth : Bd
  dust : Bd
  soldDry : Bd
  soldWater : Bd
  soaked : Bd
deriving DecidableEq

def Acc.zero : Acc := ⟨.zero, .zero, .zero, .zero, .zero, .zero⟩

structure St (κ : Type) where
  stacks : List (Stk κ)
  acc : Acc

variable {κ : Type} [DecidableEq κ]

def St.empty : St κ := ⟨[], .zero⟩

/-- The place of a stack; the length of the list if there is none. -/
def at_ (l : List (Stk κ)) (c : κ) : Nat := l.findIdx fun x => decide (x.code = c)

/-- The numbers of two ascending lists, each once, ascending. -/
def both : List Int → List Int → List Int
  | [], m => m
  | a :: l, [] => a :: l
  | a :: l, b :: m => if a < b then a :: both l (b :: m) else if b < a then b :: both (a :: l) m else a :: both l m
termination_by l m => l.length + m.length

theorem mem_both (l m : List Int) (p : Int) : p ∈ both l m ↔ p ∈ l ∨ p ∈ m := by
  fun_induction both l m with
  | case1 m => simp
  | case2 a l => simp
  | case3 a l b m h ih => simp only [List.mem_cons, ih]; grind
  | case4 a l b m h h' ih => simp only [List.mem_cons, ih]; grind
  | case5 a l b m h h' ih =>
    have : a = b := by omega
    subst this
    simp only [List.mem_cons, ih]; grind

def lastBoil (a b : Int) : Int := if a < 0 ∨ b < 0 then -1 else max a b

/-- What a deed makes of its stack x (n: the other one). -/
def Stk.done (x n : Stk κ) (d : Deed κ) : Stk κ :=
  if d.kind = 2 then { x with water := x.water.left d.a }
  else if d.kind = 3 then { x with dry := x.dry.left d.a, water := x.water.add (x.dry.part d.b), boiled := d.day }
  else if d.kind = 4 then { x with dry := x.dry.scraped d.a }
  else if d.kind = 5 then { x with dry := x.dry.left d.a, water := x.water.left d.a }
  else if d.kind = 6 then { x with dry := x.dry.add n.dry, water := x.water.add n.water, piled := max x.piled n.piled, boiled := lastBoil x.boiled n.boiled, src := both x.src n.src }
  else if d.kind = 7 then { x with dry := x.dry.weighed x.water d.a, water := x.water.weighed x.dry d.a }
  else x
/-- What a deed books. -/
def Acc.done (c : Acc) (x : Stk κ) (d : Deed κ) : Acc :=
  if d.kind = 2 then { c with vapour := c.vapour.add (x.water.part d.a) }
  else if d.kind = 3 then { c with broth := c.broth.add (x.dry.part d.a), soaked := c.soaked.add (x.dry.part d.b) }
  else if d.kind = 4 then { c with dust := c.dust.add (x.dry.dust d.a) }
  else if d.kind = 8 then { c with soldDry := c.soldDry.add x.dry, soldWater := c.soldWater.add x.water }
  else c
/-- The stack that a split makes. -/
def Stk.cut (x : Stk κ) (d : Deed κ) : Stk κ := { x with code := d.other, dry := x.dry.part d.a, water := x.water.part d.a }
def piledUp (d : Deed κ) (i : Int) : Stk κ := ⟨d.stack, d.a, d.b, d.day, -1, [i]⟩

/-- The stacks behind a deed about the stack x at k, the other one n at o. -/
def after {α : Type} (l : List α) (x cut : α) (kind : Int) (k o : Nat) : List α :=
  if kind = 5 then (l ++ [cut]).set k x
  else if kind = 6 then (l.set k x).eraseIdx o
  else if kind = 8 then (l.set k x).eraseIdx k
  else l.set k x

/-- What is there after a deed without a fault. -/
def deed (s : St κ) (d : Deed κ) (i : Int) : St κ :=
  if d.kind = 1 then ⟨s.stacks ++ [piledUp d i], s.acc⟩
  else match s.stacks[at_ s.stacks d.stack]? with
    | none => s
    | some x =>
      let n := (s.stacks[at_ s.stacks d.other]?).getD x
      ⟨after s.stacks (x.done n d) (x.cut d) d.kind (at_ s.stacks d.stack) (at_ s.stacks d.other), s.acc.done x d⟩

/-- The first fault of a deed: 1 stack, 2 room, 3 soon, 4 bark, 5 scale. -/
def fault (before aft : Int) (s : St κ) (d : Deed κ) : Int :=
  if (decide (at_ s.stacks d.stack < s.stacks.length) = decide (d.kind = 1)) ∨ ((d.kind = 5 ∨ d.kind = 6) ∧ d.other = d.stack)
    ∨ (d.kind = 5 ∧ at_ s.stacks d.other < s.stacks.length) ∨ (d.kind = 6 ∧ ¬ at_ s.stacks d.other < s.stacks.length) then 1
  else if (d.kind = 1 ∨ d.kind = 5) ∧ 8 ≤ s.stacks.length then 2
  else match s.stacks[at_ s.stacks d.stack]? with
    | none => 0
    | some x =>
      if d.kind = 3 ∧ d.day - x.piled < before then 3
      else if (d.kind = 4 ∨ d.kind = 8) ∧ (x.boiled < 0 ∨ d.day - x.boiled < aft) then 3
      else if d.kind = 4 ∧ x.dry.hi < d.a.lo then 4
      else if d.kind = 7 ∧ ((x.dry.weighed x.water d.a).hi < (x.dry.weighed x.water d.a).lo ∨ (x.water.weighed x.dry d.a).hi < (x.water.weighed x.dry d.a).lo) then 5
      else 0

/-- The deeds one after the other from the i-th one on: what is there, how many were made, the fault. -/
def run (before aft : Int) : St κ → Nat → List (Deed κ) → St κ × Nat × Int
  | s, i, [] => (s, i, 0)
  | s, i, d :: ds => if fault before aft s d = 0 then run before aft (deed s d i) (i + 1) ds else (s, i, fault before aft s d)

/-- A deed's numbers, as its kind allows them. -/
structure Deed.Fine (d : Deed κ) : Prop where
  kind : 1 ≤ d.kind ∧ d.kind ≤ 8
  a : d.a.Ok
  b : d.b.Ok
  thousand : d.kind = 2 ∨ d.kind = 3 ∨ d.kind = 5 → d.a.hi ≤ 1000


/-! ### More deeds -/

theorem run_append (be af : Int) (es : List (Deed κ)) : ∀ (ds : List (Deed κ)) (s : St κ) (i : Nat),
    run be af s i (ds ++ es) = if (run be af s i ds).2.2 = 0 then run be af (run be af s i ds).1 (run be af s i ds).2.1 es else run be af s i ds
  | [], s, i => by simp [run]
  | d :: ds, s, i => by
    simp only [List.cons_append, run]
    split
    · exact run_append be af es ds _ _
    · rfl

theorem run_count (be af : Int) : ∀ (ds : List (Deed κ)) (s : St κ) (i : Nat),
    i ≤ (run be af s i ds).2.1 ∧ (run be af s i ds).2.1 ≤ i + ds.length ∧ ((run be af s i ds).2.2 = 0 ↔ (run be af s i ds).2.1 = i + ds.length)
  | [], s, i => by simp [run]
  | d :: ds, s, i => by
    simp only [run, List.length_cons]
    split
    · have := run_count be af ds (deed s d i) (i + 1)
      omega
    · rename_i h
      simp only [h, false_iff]
      omega

/-- What is there is what the deeds that were made leave, which have no fault. -/
theorem run_made (be af : Int) : ∀ (ds : List (Deed κ)) (s : St κ) (i : Nat),
    run be af s i (ds.take ((run be af s i ds).2.1 - i)) = ((run be af s i ds).1, (run be af s i ds).2.1, 0)
  | [], s, i => by simp [run]
  | d :: ds, s, i => by
    have hc := run_count be af ds (deed s d i) (i + 1)
    have ih := run_made be af ds (deed s d i) (i + 1)
    simp only [run]
    split
    · rename_i h
      rw [show (run be af (deed s d i) (i + 1) ds).2.1 - i = ((run be af (deed s d i) (i + 1) ds).2.1 - (i + 1)) + 1 by omega, List.take_succ_cons]
      simp only [run, h, if_true]
      exact ih
    · simp [run]

/-- The first n deeds. -/
def follow (be af : Int) (ds : List (Deed κ)) (n : Nat) : St κ × Nat × Int := run be af .empty 0 (ds.take n)

theorem follow_count (be af : Int) (ds : List (Deed κ)) {n : Nat} (hn : n ≤ ds.length) :
    (follow be af ds n).2.1 ≤ n ∧ ((follow be af ds n).2.2 = 0 ↔ (follow be af ds n).2.1 = n) := by
  have := run_count be af (ds.take n) .empty 0
  rw [List.length_take, Nat.min_eq_left hn] at this
  unfold follow
  omega

theorem follow_fault (be af : Int) (ds : List (Deed κ)) {a b : Nat} (hab : a ≤ b) (h : (follow be af ds a).2.2 ≠ 0) : follow be af ds b = follow be af ds a := by
  unfold follow at h ⊢
  obtain ⟨es, he⟩ : ∃ es, ds.take b = ds.take a ++ es := ⟨(ds.take b).drop a, by
    have := List.take_append_drop a (ds.take b)
    rw [List.take_take, Nat.min_eq_left hab] at this
    exact this.symm⟩
  rw [he, run_append, if_neg h]

theorem follow_more (be af : Int) (ds : List (Deed κ)) {a b : Nat} (hab : a ≤ b) (hb : b ≤ ds.length) (h : (follow be af ds a).2.2 = 0) : a ≤ (follow be af ds b).2.1 := by
  have ha := (follow_count be af ds (Nat.le_trans hab hb)).2.mp h
  unfold follow at h ha ⊢
  obtain ⟨es, he⟩ : ∃ es, ds.take b = ds.take a ++ es := ⟨(ds.take b).drop a, by
    have := List.take_append_drop a (ds.take b)
    rw [List.take_take, Nat.min_eq_left hab] at this
    exact this.symm⟩
  rw [he, run_append, if_pos h]
  have := run_count be af es (run be af .empty 0 (ds.take a)).1 (run be af .empty 0 (ds.take a)).2.1
  omega

/-- What is there after some deeds is what the deeds that were made leave, as a yard of their own. -/
theorem follow_made (be af : Int) (ds : List (Deed κ)) (n : Nat) :
    follow be af (ds.take (follow be af ds n).2.1) (follow be af ds n).2.1 = ((follow be af ds n).1, (follow be af ds n).2.1, 0) ∨ ds.length < n := by
  by_cases hn : n ≤ ds.length
  · left
    have h := run_made be af (ds.take n) .empty 0
    have hc := (follow_count be af ds hn).1
    rw [Nat.sub_zero] at h
    unfold follow at hc ⊢
    rw [List.take_take, Nat.min_self]
    rw [List.take_take, Nat.min_eq_left hc] at h
    exact h
  · right; omega

/-! ### What a deed without a fault may count on -/

/-- The stack x at k, the other one n at o, of a deed that makes no pile. -/
structure Good (s : St κ) (d : Deed κ) (x n : Stk κ) : Prop where
  here : s.stacks[at_ s.stacks d.stack]? = some x
  other : n = (s.stacks[at_ s.stacks d.other]?).getD x
  merge : d.kind = 6 → s.stacks[at_ s.stacks d.other]? = some n ∧ d.other ≠ d.stack
  split : d.kind = 5 → ¬ at_ s.stacks d.other < s.stacks.length
  bark : d.kind = 4 → d.a.lo ≤ x.dry.hi
  scale : d.kind = 7 → (x.dry.weighed x.water d.a).lo ≤ (x.dry.weighed x.water d.a).hi ∧ (x.water.weighed x.dry d.a).lo ≤ (x.water.weighed x.dry d.a).hi

theorem at_lt {l : List (Stk κ)} {c : κ} (h : at_ l c < l.length) : ∃ x, l[at_ l c]? = some x ∧ x.code = c := by
  refine ⟨l[at_ l c], List.getElem?_eq_getElem h, ?_⟩
  have h' : l.findIdx (fun x => decide (x.code = c)) < l.length := h
  have := List.findIdx_getElem (w := h')
  simpa [at_] using this

theorem at_some {l : List (Stk κ)} {c : κ} {x : Stk κ} (h : l[at_ l c]? = some x) : at_ l c < l.length ∧ x.code = c := by
  have hl : at_ l c < l.length := (List.getElem?_eq_some_iff.mp h).1
  obtain ⟨y, hy, hc⟩ := at_lt hl
  rw [h] at hy
  cases hy
  exact ⟨hl, hc⟩

theorem good_of {be af : Int} {s : St κ} {d : Deed κ} (h : fault be af s d = 0) (hk : d.kind ≠ 1) : ∃ x n, Good s d x n := by
  unfold fault at h
  by_cases h1 : (decide (at_ s.stacks d.stack < s.stacks.length) = decide (d.kind = 1)) ∨ ((d.kind = 5 ∨ d.kind = 6) ∧ d.other = d.stack)
    ∨ (d.kind = 5 ∧ at_ s.stacks d.other < s.stacks.length) ∨ (d.kind = 6 ∧ ¬ at_ s.stacks d.other < s.stacks.length)
  · rw [if_pos h1] at h; exact absurd h (by decide)
  rw [if_neg h1] at h
  simp only [not_or, hk, decide_false, decide_eq_false_iff_not, Classical.not_not, not_and] at h1
  obtain ⟨hs, hne, hsp, hmg⟩ := h1
  split at h
  · exact absurd h (by decide)
  obtain ⟨x, hx, _⟩ := at_lt hs
  rw [hx] at h
  simp only at h
  refine ⟨x, _, hx, rfl, ?_, ?_, ?_, ?_⟩
  · intro h6
    obtain ⟨n, hn, _⟩ := at_lt (hmg h6)
    rw [hn]
    exact ⟨rfl, hne (.inr h6)⟩
  · exact hsp
  · intro h4
    split at h; · exact absurd h (by decide)
    split at h; · exact absurd h (by decide)
    split at h; · exact absurd h (by decide)
    rename_i hb
    simp only [h4, true_and] at hb
    omega
  · intro h7
    split at h; · exact absurd h (by decide)
    split at h; · exact absurd h (by decide)
    split at h; · exact absurd h (by decide)
    split at h; · exact absurd h (by decide)
    rename_i hb
    simp only [h7, true_and, not_or] at hb
    omega

/-! ### Narrower bounds -/

structure InStk (x y : Stk κ) : Prop where
  code : x.code = y.code
  piled : x.piled = y.piled
  boiled : x.boiled = y.boiled
  src : x.src = y.src
  dry : x.dry.In y.dry
  water : x.water.In y.water
  ok : x.dry.Ok ∧ x.water.Ok ∧ y.dry.Ok ∧ y.water.Ok

structure InAcc (a b : Acc) : Prop where
  vapour : a.vapour.In b.vapour
  broth : a.broth.In b.broth
  dust : a.dust.In b.dust
  soldDry : a.soldDry.In b.soldDry
  soldWater : a.soldWater.In b.soldWater
  soaked : a.soaked.In b.soaked

structure Inside (t s : St κ) : Prop where
  stacks : All2 InStk t.stacks s.stacks
  acc : InAcc t.acc s.acc

structure Narrower (d e : Deed κ) : Prop where
  kind : d.kind = e.kind
  day : d.day = e.day
  stack : d.stack = e.stack
  other : d.other = e.other
  a : d.a.In e.a
  b : d.b.In e.b
  fine : d.Fine ∧ e.Fine

theorem All2.at_ {R : Stk κ → Stk κ → Prop} {l m : List (Stk κ)} (h : All2 R l m) (hc : ∀ a b, R a b → a.code = b.code) (c : κ) : at_ l c = at_ m c :=
  h.find fun a b r => by rw [hc a b r]

theorem all2_after {α β : Type} {R : α → β → Prop} {l : List α} {m : List β} (h : All2 R l m) {x cx : α} {y cy : β} {kind : Int} (hx : R x y) (hc : kind = 5 → R cx cy) (k o : Nat) :
    All2 R (after l x cx kind k o) (after m y cy kind k o) := by
  unfold after
  split
  · rename_i h5; exact (h.append (.one (hc h5))).set hx k
  · split
    · exact (h.set hx k).erase o
    · split
      · exact (h.set hx k).erase k
      · exact h.set hx k

omit [DecidableEq κ] in
theorem up_of {d : Deed κ} (h : d.Fine) (hk : d.kind = 2 ∨ d.kind = 3 ∨ d.kind = 5) : d.a.Up 1000 := ⟨h.a.1, h.a.2, h.thousand hk⟩

omit [DecidableEq κ] in
/-- One deed on one stack. -/
theorem in_done {x y n m : Stk κ} {d e : Deed κ} (h : InStk x y) (hn : d.kind = 6 → InStk n m) (hd : Narrower d e)
    (hb : d.kind = 4 → d.a.lo ≤ x.dry.hi ∧ e.a.lo ≤ y.dry.hi)
    (hw : d.kind = 7 → (x.dry.weighed x.water d.a).lo ≤ (x.dry.weighed x.water d.a).hi ∧ (x.water.weighed x.dry d.a).lo ≤ (x.water.weighed x.dry d.a).hi)
    (hw' : d.kind = 7 → (y.dry.weighed y.water e.a).lo ≤ (y.dry.weighed y.water e.a).hi ∧ (y.water.weighed y.dry e.a).lo ≤ (y.water.weighed y.dry e.a).hi) :
    InStk (x.done n d) (y.done m e) := by
  obtain ⟨hk, hday, _, _, ha, hbb, fd, fe⟩ := hd
  obtain ⟨c, p, bo, sr, dr, wa, o1, o2, o3, o4⟩ := h
  unfold Stk.done
  rw [← hk]
  split
  · rename_i h2
    have ud := up_of fd (.inl h2); have ue := up_of fe (.inl (hk ▸ h2))
    exact ⟨c, p, bo, sr, dr, in_left wa ha o2 o4 ud ue, o1, ok_left o2 ud, o3, ok_left o4 ue⟩
  split
  · rename_i h3
    have ud := up_of fd (.inr (.inl h3)); have ue := up_of fe (.inr (.inl (hk ▸ h3)))
    exact ⟨c, p, hday, sr, in_left dr ha o1 o3 ud ue, in_add wa (in_part dr hbb o1 o3 fd.b fe.b), ok_left o1 ud, ok_add o2 (ok_part o1 fd.b), ok_left o3 ue, ok_add o4 (ok_part o3 fe.b)⟩
  split
  · rename_i h4
    exact ⟨c, p, bo, sr, in_scraped dr ha, wa, ok_scraped o1 fd.a (hb h4).1, o2, ok_scraped o3 fe.a (hb h4).2, o4⟩
  split
  · rename_i h5
    have ud := up_of fd (.inr (.inr h5)); have ue := up_of fe (.inr (.inr (hk ▸ h5)))
    exact ⟨c, p, bo, sr, in_left dr ha o1 o3 ud ue, in_left wa ha o2 o4 ud ue, ok_left o1 ud, ok_left o2 ud, ok_left o3 ue, ok_left o4 ue⟩
  split
  · rename_i h6
    obtain ⟨_, p', bo', sr', dr', wa', o1', o2', o3', o4'⟩ := hn h6
    exact ⟨c, by show max _ _ = max _ _; rw [p, p'], by show lastBoil _ _ = lastBoil _ _; rw [bo, bo'], by show both _ _ = both _ _; rw [sr, sr'], in_add dr dr', in_add wa wa', ok_add o1 o1', ok_add o2 o2', ok_add o3 o3', ok_add o4 o4'⟩
  split
  · rename_i h7
    have w := hw h7; have w' := hw' h7
    refine ⟨c, p, bo, sr, in_weighed dr wa ha, in_weighed wa dr ha, ⟨?_, w.1⟩, ⟨?_, w.2⟩, ⟨?_, w'.1⟩, ⟨?_, w'.2⟩⟩ <;> (unfold Bd.Ok Bd.weighed at *; simp only at *; omega)
  · exact ⟨c, p, bo, sr, dr, wa, o1, o2, o3, o4⟩

omit [DecidableEq κ] in
theorem in_accDone {x y : Stk κ} {d e : Deed κ} {a b : Acc} (hab : InAcc a b) (h : InStk x y) (hd : Narrower d e) : InAcc (a.done x d) (b.done y e) := by
  obtain ⟨hk, hday, _, _, ha, hbb, fd, fe⟩ := hd
  obtain ⟨_, _, _, _, dr, wa, o1, o2, o3, o4⟩ := h
  obtain ⟨v, br, du, sd, sw, so⟩ := hab
  unfold Acc.done
  rw [← hk]
  split
  · exact ⟨in_add v (in_part wa ha o2 o4 fd.a fe.a), br, du, sd, sw, so⟩
  split
  · exact ⟨v, in_add br (in_part dr ha o1 o3 fd.a fe.a), du, sd, sw, in_add so (in_part dr hbb o1 o3 fd.b fe.b)⟩
  split
  · exact ⟨v, br, in_add du (in_dust dr ha), sd, sw, so⟩
  split
  · exact ⟨v, br, du, in_add sd dr, in_add sw wa, so⟩
  · exact ⟨v, br, du, sd, sw, so⟩

omit [DecidableEq κ] in
theorem in_cut {x y : Stk κ} {d e : Deed κ} (h : InStk x y) (hd : Narrower d e) : InStk (x.cut d) (y.cut e) := by
  obtain ⟨hk, hday, _, ho, ha, hbb, fd, fe⟩ := hd
  obtain ⟨c, p, bo, sr, dr, wa, o1, o2, o3, o4⟩ := h
  exact ⟨ho, p, bo, sr, in_part dr ha o1 o3 fd.a fe.a, in_part wa ha o2 o4 fd.a fe.a, ok_part o1 fd.a, ok_part o2 fd.a, ok_part o3 fe.a, ok_part o4 fe.a⟩

theorem deed_one {s : St κ} {d : Deed κ} {i : Int} (h : d.kind = 1) : deed s d i = ⟨s.stacks ++ [piledUp d i], s.acc⟩ := by unfold deed; rw [if_pos h]
theorem deed_at {s : St κ} {d : Deed κ} {i : Int} {x n : Stk κ} (h : d.kind ≠ 1) (g : Good s d x n) :
    deed s d i = ⟨after s.stacks (x.done n d) (x.cut d) d.kind (at_ s.stacks d.stack) (at_ s.stacks d.other), s.acc.done x d⟩ := by
  unfold deed
  rw [if_neg h, g.here]
  simp only [← g.other]

theorem narrow_step {be af be' af' : Int} {t s : St κ} {d e : Deed κ} (h : Inside t s) (hd : Narrower d e) (ft : fault be af t d = 0) (fs : fault be' af' s e = 0) (i : Int) :
    Inside (deed t d i) (deed s e i) := by
  have hk := hd.kind
  by_cases h1 : d.kind = 1
  · rw [deed_one h1, deed_one (hk ▸ h1)]
    exact ⟨h.stacks.append (.one ⟨hd.stack, hd.day, rfl, rfl, hd.a, hd.b, hd.fine.1.a, hd.fine.1.b, hd.fine.2.a, hd.fine.2.b⟩), h.acc⟩
  · obtain ⟨x, n, g⟩ := good_of ft h1
    obtain ⟨y, m, g'⟩ := good_of fs (hk ▸ h1)
    have hc : ∀ a b : Stk κ, InStk a b → a.code = b.code := fun _ _ r => r.code
    have hxy : InStk x y := h.stacks.get g.here (by rw [h.stacks.at_ hc, hd.stack]; exact g'.here)
    have hnm : d.kind = 6 → InStk n m := fun h6 => h.stacks.get (g.merge h6).1 (by rw [h.stacks.at_ hc, hd.other]; exact (g'.merge (hk ▸ h6)).1)
    rw [deed_at h1 g, deed_at (hk ▸ h1) g', h.stacks.at_ hc, h.stacks.at_ hc, hd.stack, hd.other, hk]
    refine ⟨all2_after h.stacks (in_done hxy hnm hd (fun h4 => ⟨g.bark h4, g'.bark (hk ▸ h4)⟩) g.scale (fun h7 => g'.scale (hk ▸ h7))) (fun _ => in_cut hxy hd) _ _, in_accDone h.acc hxy hd⟩

theorem narrow_run {be af be' af' : Int} : ∀ {ds es : List (Deed κ)} {t s : St κ} {i : Nat}, All2 Narrower ds es → Inside t s →
    (run be af t i ds).2.2 = 0 → (run be' af' s i es).2.2 = 0 → Inside (run be af t i ds).1 (run be' af' s i es).1
  | _, _, t, s, i, .nil, h, _, _ => h
  | _, _, t, s, i, .cons hd hds, h, ft, fs => by
    simp only [run] at ft fs ⊢
    split at ft
    · rename_i f1
      split at fs
      · rename_i f2
        rw [if_pos f1, if_pos f2]
        exact narrow_run hds (narrow_step h hd f1 f2 i) ft fs
      · exact absurd fs ‹_›
    · exact absurd ft ‹_›

/-! ### What there really is -/

structure Pile (κ : Type) where
  code : κ
  dry : Int
  water : Int

structure Real (κ : Type) where
  stacks : List (Pile κ)
  vapour : Int
  broth : Int
  dust : Int
  soldDry : Int
  soldWater : Int
  soaked : Int
  piledDry : Int
  piledWater : Int

def Real.empty : Real κ := ⟨[], 0, 0, 0, 0, 0, 0, 0, 0⟩
def find (l : List (Pile κ)) (c : κ) : Nat := l.findIdx fun x => decide (x.code = c)

def Pile.done (x n : Pile κ) (d : Deed κ) (a b : Int) : Pile κ :=
  if d.kind = 2 then { x with water := x.water - x.water * a / 1000 }
  else if d.kind = 3 then { x with water := x.water + x.dry * b / 1000, dry := x.dry - x.dry * a / 1000 }
  else if d.kind = 4 then { x with dry := x.dry - a }
  else if d.kind = 5 then { x with dry := x.dry - x.dry * a / 1000, water := x.water - x.water * a / 1000 }
  else if d.kind = 6 then { x with dry := x.dry + n.dry, water := x.water + n.water }
  else x
def Pile.cut (x : Pile κ) (d : Deed κ) (a : Int) : Pile κ := ⟨d.other, x.dry * a / 1000, x.water * a / 1000⟩
def Real.booked (r : Real κ) (l : List (Pile κ)) (x : Pile κ) (d : Deed κ) (a b : Int) : Real κ :=
  if d.kind = 2 then { r with stacks := l, vapour := r.vapour + x.water * a / 1000 }
  else if d.kind = 3 then { r with stacks := l, broth := r.broth + x.dry * a / 1000, soaked := r.soaked + x.dry * b / 1000 }
  else if d.kind = 4 then { r with stacks := l, dust := r.dust + a }
  else if d.kind = 8 then { r with stacks := l, soldDry := r.soldDry + x.dry, soldWater := r.soldWater + x.water }
  else { r with stacks := l }

/-- A deed with the real numbers a and b; none: it cannot be. -/
def Real.act (r : Real κ) (d : Deed κ) (a b : Int) : Option (Real κ) :=
  if d.kind = 1 then some { r with stacks := r.stacks ++ [⟨d.stack, a, b⟩], piledDry := r.piledDry + a, piledWater := r.piledWater + b }
  else match r.stacks[find r.stacks d.stack]? with
    | none => none
    | some x =>
      if d.kind = 4 ∧ x.dry < a then none
      else if d.kind = 6 ∧ ¬ find r.stacks d.other < r.stacks.length then none
      else if d.kind = 7 ∧ ¬ (d.a.lo ≤ x.dry + x.water ∧ x.dry + x.water ≤ d.a.hi) then none
      else
        let n := (r.stacks[find r.stacks d.other]?).getD x
        some (r.booked (after r.stacks (x.done n d a b) (x.cut d a) d.kind (find r.stacks d.stack) (find r.stacks d.other)) x d a b)

structure Lies (p : Pile κ) (x : Stk κ) : Prop where
  code : p.code = x.code
  dry : x.dry.lo ≤ p.dry ∧ p.dry ≤ x.dry.hi
  water : x.water.lo ≤ p.water ∧ p.water ≤ x.water.hi
  pos : 0 ≤ x.dry.lo ∧ 0 ≤ x.water.lo

structure LiesAcc (r : Real κ) (c : Acc) : Prop where
  vapour : c.vapour.lo ≤ r.vapour ∧ r.vapour ≤ c.vapour.hi
  broth : c.broth.lo ≤ r.broth ∧ r.broth ≤ c.broth.hi
  dust : c.dust.lo ≤ r.dust ∧ r.dust ≤ c.dust.hi
  soldDry : c.soldDry.lo ≤ r.soldDry ∧ r.soldDry ≤ c.soldDry.hi
  soldWater : c.soldWater.lo ≤ r.soldWater ∧ r.soldWater ≤ c.soldWater.hi
  soaked : c.soaked.lo ≤ r.soaked ∧ r.soaked ≤ c.soaked.hi

structure True_ (r : Real κ) (s : St κ) : Prop where
  stacks : All2 Lies r.stacks s.stacks
  acc : LiesAcc r s.acc

theorem find_at {r : List (Pile κ)} {l : List (Stk κ)} (h : All2 Lies r l) (c : κ) : find r c = at_ l c :=
  h.find fun a b t => by rw [t.code]

omit [DecidableEq κ] in
theorem lies_done {p q : Pile κ} {x n : Stk κ} {d : Deed κ} {a b : Int} (h : Lies p x) (hn : d.kind = 6 → Lies q n) (fd : d.Fine)
    (ha : d.a.lo ≤ a ∧ a ≤ d.a.hi) (hb : d.b.lo ≤ b ∧ b ≤ d.b.hi) (h4 : d.kind = 4 → a ≤ p.dry)
    (h7 : d.kind = 7 → d.a.lo ≤ p.dry + p.water ∧ p.dry + p.water ≤ d.a.hi) : Lies (p.done q d a b) (x.done n d) := by
  obtain ⟨c, dr, wa, p1, p2⟩ := h
  have fa := fd.a; have fb := fd.b; have ft := fd.thousand
  unfold Bd.Ok at fa fb
  unfold Pile.done Stk.done
  split
  · rename_i h2
    have := ft (.inl h2)
    have l1 := left_le (x := x.water.lo) (y := p.water) (a := d.a.hi) (b := a) (by omega) wa.1 this ha.2 (by omega)
    have l2 := left_le (x := p.water) (y := x.water.hi) (a := a) (b := d.a.lo) (by omega) wa.2 (by omega) ha.1 (by omega)
    have l3 := part_le_self (x := x.water.lo) (a := d.a.hi) p2 this
    exact ⟨c, dr, ⟨l1, l2⟩, p1, by show 0 ≤ x.water.lo - x.water.lo * d.a.hi / 1000; omega⟩
  split
  · rename_i h3
    have := ft (.inr (.inl h3))
    have l1 := left_le (x := x.dry.lo) (y := p.dry) (a := d.a.hi) (b := a) (by omega) dr.1 this ha.2 (by omega)
    have l2 := left_le (x := p.dry) (y := x.dry.hi) (a := a) (b := d.a.lo) (by omega) dr.2 (by omega) ha.1 (by omega)
    have l3 := part_le_self (x := x.dry.lo) (a := d.a.hi) p1 this
    have m1 := part_le (x := x.dry.lo) (y := p.dry) (a := d.b.lo) (b := b) p1 dr.1 fb.1 hb.1
    have m2 := part_le (x := p.dry) (y := x.dry.hi) (a := b) (b := d.b.hi) (by omega) dr.2 (by omega) hb.2
    have m3 := part_nonneg (x := x.dry.lo) (a := d.b.lo) p1 fb.1
    refine ⟨c, ⟨l1, l2⟩, ⟨?_, ?_⟩, ?_, ?_⟩ <;> (simp only [Bd.add, Bd.part, Bd.left]; omega)
  split
  · rename_i h4'
    have := h4 h4'
    refine ⟨c, ⟨?_, ?_⟩, wa, ?_, p2⟩ <;> (simp only [Bd.scraped]; omega)
  split
  · rename_i h5
    have := ft (.inr (.inr h5))
    have l1 := left_le (x := x.water.lo) (y := p.water) (a := d.a.hi) (b := a) (by omega) wa.1 this ha.2 (by omega)
    have l2 := left_le (x := p.water) (y := x.water.hi) (a := a) (b := d.a.lo) (by omega) wa.2 (by omega) ha.1 (by omega)
    have l3 := part_le_self (x := x.water.lo) (a := d.a.hi) p2 this
    have k1 := left_le (x := x.dry.lo) (y := p.dry) (a := d.a.hi) (b := a) (by omega) dr.1 this ha.2 (by omega)
    have k2 := left_le (x := p.dry) (y := x.dry.hi) (a := a) (b := d.a.lo) (by omega) dr.2 (by omega) ha.1 (by omega)
    have k3 := part_le_self (x := x.dry.lo) (a := d.a.hi) p1 this
    exact ⟨c, ⟨k1, k2⟩, ⟨l1, l2⟩, by show 0 ≤ x.dry.lo - x.dry.lo * d.a.hi / 1000; omega, by show 0 ≤ x.water.lo - x.water.lo * d.a.hi / 1000; omega⟩
  split
  · rename_i h6
    obtain ⟨_, dr', wa', p1', p2'⟩ := hn h6
    refine ⟨c, ⟨?_, ?_⟩, ⟨?_, ?_⟩, ?_, ?_⟩ <;> (simp only [Bd.add]; omega)
  split
  · rename_i h7'
    have := h7 h7'
    refine ⟨c, ⟨?_, ?_⟩, ⟨?_, ?_⟩, ?_, ?_⟩ <;> (simp only [Bd.weighed]; omega)
  · exact ⟨c, dr, wa, p1, p2⟩

omit [DecidableEq κ] in
theorem lies_booked {r : Real κ} {l : List (Pile κ)} {c : Acc} {p : Pile κ} {x : Stk κ} {d : Deed κ} {a b : Int} (hr : LiesAcc r c) (h : Lies p x) (fd : d.Fine)
    (ha : d.a.lo ≤ a ∧ a ≤ d.a.hi) (hb : d.b.lo ≤ b ∧ b ≤ d.b.hi) (h4 : d.kind = 4 → a ≤ p.dry) : LiesAcc (r.booked l p d a b) (c.done x d) := by
  obtain ⟨_, dr, wa, p1, p2⟩ := h
  obtain ⟨v, br, du, sd, sw, so⟩ := hr
  have fa := fd.a; have fb := fd.b
  unfold Bd.Ok at fa fb
  unfold Real.booked Acc.done
  split
  · have m1 := part_le (x := x.water.lo) (y := p.water) (a := d.a.lo) (b := a) p2 wa.1 fa.1 ha.1
    have m2 := part_le (x := p.water) (y := x.water.hi) (a := a) (b := d.a.hi) (by omega) wa.2 (by omega) ha.2
    exact ⟨by simp only [Bd.add, Bd.part]; omega, br, du, sd, sw, so⟩
  split
  · have m1 := part_le (x := x.dry.lo) (y := p.dry) (a := d.a.lo) (b := a) p1 dr.1 fa.1 ha.1
    have m2 := part_le (x := p.dry) (y := x.dry.hi) (a := a) (b := d.a.hi) (by omega) dr.2 (by omega) ha.2
    have n1 := part_le (x := x.dry.lo) (y := p.dry) (a := d.b.lo) (b := b) p1 dr.1 fb.1 hb.1
    have n2 := part_le (x := p.dry) (y := x.dry.hi) (a := b) (b := d.b.hi) (by omega) dr.2 (by omega) hb.2
    exact ⟨v, by simp only [Bd.add, Bd.part]; omega, du, sd, sw, by simp only [Bd.add, Bd.part]; omega⟩
  split
  · rename_i h4'
    have := h4 h4'
    exact ⟨v, br, by simp only [Bd.add, Bd.dust]; omega, sd, sw, so⟩
  split
  · exact ⟨v, br, du, by simp only [Bd.add]; omega, by simp only [Bd.add]; omega, so⟩
  · exact ⟨v, br, du, sd, sw, so⟩

omit [DecidableEq κ] in
theorem lies_cut {p : Pile κ} {x : Stk κ} {d : Deed κ} {a : Int} (h : Lies p x) (fd : d.Fine) (ha : d.a.lo ≤ a ∧ a ≤ d.a.hi) : Lies (p.cut d a) (x.cut d) := by
  obtain ⟨_, dr, wa, p1, p2⟩ := h
  have fa := fd.a
  unfold Bd.Ok at fa
  exact ⟨rfl, ⟨part_le p1 dr.1 fa.1 ha.1, part_le (by omega) dr.2 (by omega) ha.2⟩, ⟨part_le p2 wa.1 fa.1 ha.1, part_le (by omega) wa.2 (by omega) ha.2⟩, part_nonneg p1 fa.1, part_nonneg p2 fa.1⟩

theorem true_step {be af : Int} {r r' : Real κ} {s : St κ} {d : Deed κ} {a b : Int} (h : True_ r s) (fd : d.Fine) (ha : d.a.lo ≤ a ∧ a ≤ d.a.hi) (hb : d.b.lo ≤ b ∧ b ≤ d.b.hi)
    (fs : fault be af s d = 0) (i : Int) (hr : r.act d a b = some r') : True_ r' (deed s d i) := by
  have fa := fd.a; have fb := fd.b
  unfold Bd.Ok at fa fb
  unfold Real.act at hr
  by_cases h1 : d.kind = 1
  · rw [if_pos h1] at hr
    cases hr
    rw [deed_one h1]
    exact ⟨h.stacks.append (.one ⟨rfl, ha, hb, fa.1, fb.1⟩), h.acc.1, h.acc.2, h.acc.3, h.acc.4, h.acc.5, h.acc.6⟩
  · rw [if_neg h1] at hr
    obtain ⟨x, n, g⟩ := good_of fs h1
    rw [deed_at h1 g]
    obtain ⟨p, hp, hl⟩ := h.stacks.some_of g.here
    rw [find_at h.stacks, find_at h.stacks, hp] at hr
    simp only at hr
    split at hr; · cases hr
    rename_i h4
    split at hr; · cases hr
    split at hr; · cases hr
    rename_i h7
    cases hr
    have h4' : d.kind = 4 → a ≤ p.dry := fun e => by simp only [e, true_and] at h4; omega
    have h7' : d.kind = 7 → d.a.lo ≤ p.dry + p.water ∧ p.dry + p.water ≤ d.a.hi := fun e => by simpa only [e, true_and, Classical.not_not] using h7
    have hn : d.kind = 6 → Lies ((r.stacks[at_ s.stacks d.other]?).getD p) n := fun e => by
      obtain ⟨q, hq, hl'⟩ := h.stacks.some_of (g.merge e).1
      rw [hq]; exact hl'
    refine ⟨?_, lies_booked h.acc hl fd ha hb h4'⟩
    have hs : ∀ (l : List (Pile κ)), (r.booked l p d a b).stacks = l := by
      intro l; unfold Real.booked; repeat' split
      all_goals rfl
    rw [hs]
    exact all2_after h.stacks (lies_done hl hn fd ha hb h4' h7') (fun _ => lies_cut hl fd ha) _ _

/-! ### Nothing is lost -/

def total {α : Type} (f : α → Int) (l : List α) : Int := (l.map f).sum

theorem total_append {α : Type} (f : α → Int) (l m : List α) : total f (l ++ m) = total f l + total f m := by simp [total, List.sum_append]
theorem total_set {α : Type} (f : α → Int) : ∀ {l : List α} {k : Nat} {x : α} (y : α), l[k]? = some x → total f (l.set k y) = total f l - f x + f y
  | [], k, x, y, h => by simp at h
  | a :: l, 0, x, y, h => by simp at h; subst h; simp [total]; omega
  | a :: l, k + 1, x, y, h => by
    have := total_set f (l := l) (k := k) (x := x) y (by simpa using h)
    simp [total] at this ⊢; omega
theorem total_erase {α : Type} (f : α → Int) : ∀ {l : List α} {k : Nat} {x : α}, l[k]? = some x → total f (l.eraseIdx k) = total f l - f x
  | [], k, x, h => by simp at h
  | a :: l, 0, x, h => by simp at h; subst h; simp [total]; omega
  | a :: l, k + 1, x, h => by
    have := total_erase f (l := l) (k := k) (x := x) (by simpa using h)
    simp [total] at this ⊢; omega

structure Balance (r : Real κ) : Prop where
  dry : total Pile.dry r.stacks + r.broth + r.dust + r.soldDry = r.piledDry
  water : total Pile.water r.stacks + r.vapour + r.soldWater = r.piledWater + r.soaked

theorem total_after {α : Type} (f : α → Int) {l : List α} {x n y c : α} {kind : Int} {k o : Nat} (hk : l[k]? = some x) (ho : kind = 6 → l[o]? = some n ∧ o ≠ k) :
    total f (after l y c kind k o) = total f l - f x + f y + (if kind = 5 then f c else if kind = 6 then - f n else if kind = 8 then - f y else 0) := by
  have hl : k < l.length := (List.getElem?_eq_some_iff.mp hk).1
  unfold after
  split
  · rw [total_set f y (x := x) (by rw [List.getElem?_append_left hl]; exact hk), total_append]
    simp [total]; omega
  split
  · rename_i h6
    obtain ⟨h1, h2⟩ := ho h6
    rw [total_erase f (x := n) (by rw [List.getElem?_set_ne (Ne.symm h2)]; exact h1), total_set f y hk]
    omega
  split
  · rw [total_erase f (x := y) (by rw [List.getElem?_set_self hl]), total_set f y hk]
    omega
  · rw [total_set f y hk]; omega

theorem balance_act {r r' : Real κ} {d : Deed κ} {a b : Int} (h : Balance r) (hk : d.kind = 6 → find r.stacks d.other ≠ find r.stacks d.stack) (hr : r.act d a b = some r') :
    Balance r' ∧ r'.piledDry = r.piledDry + (if d.kind = 1 then a else 0) ∧ r'.piledWater = r.piledWater + (if d.kind = 1 then b else 0) := by
  obtain ⟨h1, h2⟩ := h
  unfold Real.act at hr
  split at hr
  · rename_i k1
    cases hr
    rw [if_pos k1, if_pos k1]
    refine ⟨⟨?_, ?_⟩, rfl, rfl⟩ <;> (simp only [total_append]; simp [total] at h1 h2 ⊢; omega)
  rename_i k1
  split at hr; · cases hr
  rename_i p hp
  split at hr; · cases hr
  split at hr; · cases hr
  rename_i k6
  split at hr; · cases hr
  cases hr
  have ho : d.kind = 6 → r.stacks[find r.stacks d.other]? = some ((r.stacks[find r.stacks d.other]?).getD p) ∧ find r.stacks d.other ≠ find r.stacks d.stack := by
    intro e
    refine ⟨?_, hk e⟩
    have : find r.stacks d.other < r.stacks.length := by simpa only [e, true_and, Classical.not_not] using k6
    rw [List.getElem?_eq_getElem this]; rfl
  generalize hq : (r.stacks[find r.stacks d.other]?).getD p = q at ho ⊢
  have td := total_after Pile.dry (y := p.done q d a b) (c := p.cut d a) (kind := d.kind) hp ho
  have tw := total_after Pile.water (y := p.done q d a b) (c := p.cut d a) (kind := d.kind) hp ho
  generalize after r.stacks (p.done q d a b) (p.cut d a) d.kind (find r.stacks d.stack) (find r.stacks d.other) = l at td tw ⊢
  rw [if_neg k1, if_neg k1]
  unfold Pile.done at td tw
  unfold Real.booked
  split
  · rename_i e; simp [e] at td tw; refine ⟨⟨?_, ?_⟩, ?_, ?_⟩ <;> simp only <;> omega
  split
  · rename_i e; simp [e] at td tw; refine ⟨⟨?_, ?_⟩, ?_, ?_⟩ <;> simp only <;> omega
  split
  · rename_i e; simp [e] at td tw; refine ⟨⟨?_, ?_⟩, ?_, ?_⟩ <;> simp only <;> omega
  split
  · rename_i e; simp [e] at td tw; refine ⟨⟨?_, ?_⟩, ?_, ?_⟩ <;> simp only <;> omega
  · rename_i e2 e3 e4 e8
    simp only [e2, e3, e4, e8, if_false] at td tw
    by_cases e5 : d.kind = 5
    · simp [e5, Pile.cut] at td tw; refine ⟨⟨?_, ?_⟩, ?_, ?_⟩ <;> simp only <;> omega
    by_cases e6 : d.kind = 6
    · simp [e6] at td tw; refine ⟨⟨?_, ?_⟩, ?_, ?_⟩ <;> simp only <;> omega
    · simp [e5, e6] at td tw; refine ⟨⟨?_, ?_⟩, ?_, ?_⟩ <;> simp only <;> omega

/-- What really happens. -/
def Real.run (ab : Nat → Int × Int) : Real κ → Nat → List (Deed κ) → Option (Real κ)
  | r, _, [] => some r
  | r, i, d :: ds => (r.act d (ab i).1 (ab i).2).bind fun r' => Real.run ab r' (i + 1) ds

def Picked (ab : Nat → Int × Int) (i : Nat) (d : Deed κ) : Prop :=
  (d.a.lo ≤ (ab i).1 ∧ (ab i).1 ≤ d.a.hi) ∧ (d.b.lo ≤ (ab i).2 ∧ (ab i).2 ≤ d.b.hi)

theorem at_ne {l : List (Stk κ)} {c e : κ} {x n : Stk κ} (h : l[at_ l c]? = some x) (h' : l[at_ l e]? = some n) (hne : e ≠ c) : at_ l e ≠ at_ l c := by
  intro he
  rw [he, h] at h'
  have h1 := (at_some h).2
  cases h'
  exact hne (by rw [← h1]; exact ((at_some (l := l) (c := e) (x := x) (by rw [he]; exact h)).2).symm)

theorem true_run {be af : Int} {ab : Nat → Int × Int} : ∀ {ds : List (Deed κ)} {r r' : Real κ} {s : St κ} {i : Nat}, True_ r s → Balance r → (∀ d ∈ ds, d.Fine) →
    (∀ j (h : j < ds.length), Picked ab (i + j) ds[j]) → (run be af s i ds).2.2 = 0 → Real.run ab r i ds = some r' → True_ r' (run be af s i ds).1 ∧ Balance r'
  | [], r, r', s, i, h, hb, _, _, _, hr => by cases hr; exact ⟨h, hb⟩
  | d :: ds, r, r', s, i, h, hb, hf, hp, hz, hr => by
    simp only [run] at hz ⊢
    split at hz
    · rename_i f0
      rw [if_pos f0]
      simp only [Real.run] at hr
      cases ha : r.act d (ab i).1 (ab i).2 with
      | none => rw [ha] at hr; cases hr
      | some r1 =>
        rw [ha] at hr
        have p0 := hp 0 (by simp)
        have h1 := true_step h (hf d (by simp)) p0.1 p0.2 f0 i ha
        have hb1 := (balance_act hb (fun e => by
          obtain ⟨x, n, g⟩ := good_of f0 (by omega)
          rw [find_at h.stacks, find_at h.stacks]
          exact at_ne g.here (g.merge e).1 (g.merge e).2) ha).1
        refine true_run h1 hb1 (fun e he => hf e (by simp [he])) (fun j hj => ?_) hz hr
        have := hp (j + 1) (by simpa using hj)
        simpa [show i + 1 + j = i + (j + 1) by omega] using this
    · exact absurd hz ‹_›

omit [DecidableEq κ] in
theorem true_empty : True_ (Real.empty : Real κ) .empty := ⟨.nil, by constructor <;> (simp only [St.empty, Acc.zero, Bd.zero, Real.empty]; omega)⟩
omit [DecidableEq κ] in
theorem balance_empty : Balance (Real.empty : Real κ) := ⟨rfl, rfl⟩

/-! ### Moisture -/

def moistLo (x : Stk κ) : Int := x.water.lo * 1000 / x.dry.hi
def moistHi (x : Stk κ) : Int := (x.water.hi * 1000 + x.dry.lo - 1) / x.dry.lo

omit [DecidableEq κ] in
theorem moist_has {p : Pile κ} {x : Stk κ} (h : Lies p x) (h0 : 0 < x.dry.lo) : moistLo x * p.dry ≤ p.water * 1000 ∧ p.water * 1000 ≤ moistHi x * p.dry := by
  obtain ⟨_, dr, wa, p1, p2⟩ := h
  constructor
  · have hq : 0 ≤ moistLo x := Int.ediv_nonneg (by omega) (by omega)
    have h1 : moistLo x * p.dry ≤ moistLo x * x.dry.hi := Int.mul_le_mul_of_nonneg_left dr.2 hq
    have h2 : moistLo x * x.dry.hi ≤ x.water.lo * 1000 := Int.ediv_mul_le _ (by omega)
    omega
  · have hq : 0 ≤ moistHi x := Int.ediv_nonneg (by omega) (by omega)
    have h1 : moistHi x * x.dry.lo ≤ moistHi x * p.dry := Int.mul_le_mul_of_nonneg_left dr.1 hq
    have h2 : x.water.hi * 1000 + x.dry.lo - 1 < (moistHi x + 1) * x.dry.lo := Int.lt_ediv_add_one_mul_self _ h0
    rw [Int.add_mul] at h2
    omega

def verdict (x : Stk κ) (m : Int) : Int := if x.water.hi * 1000 ≤ m * x.dry.lo then 1 else if m * x.dry.hi < x.water.lo * 1000 then 2 else 0

omit [DecidableEq κ] in
theorem verdict_has {p : Pile κ} {x : Stk κ} (h : Lies p x) {m : Int} (hm : 0 ≤ m) :
    (x.water.hi * 1000 ≤ m * x.dry.lo → p.water * 1000 ≤ m * p.dry) ∧ (m * x.dry.hi < x.water.lo * 1000 → m * p.dry < p.water * 1000) := by
  obtain ⟨_, dr, wa, p1, p2⟩ := h
  have h1 : m * x.dry.lo ≤ m * p.dry := Int.mul_le_mul_of_nonneg_left dr.1 hm
  have h2 : m * p.dry ≤ m * x.dry.hi := Int.mul_le_mul_of_nonneg_left dr.2 hm
  constructor <;> (intro h; omega)

omit [DecidableEq κ] in
theorem verdict_more {x : Stk κ} {m n : Int} (hmn : m ≤ n) (hx : 0 ≤ x.dry.lo ∧ x.dry.lo ≤ x.dry.hi) :
    (x.water.hi * 1000 ≤ m * x.dry.lo → x.water.hi * 1000 ≤ n * x.dry.lo) ∧ (n * x.dry.hi < x.water.lo * 1000 → m * x.dry.hi < x.water.lo * 1000) := by
  have h1 : m * x.dry.lo ≤ n * x.dry.lo := Int.mul_le_mul_of_nonneg_right hmn hx.1
  have h2 : m * x.dry.hi ≤ n * x.dry.hi := Int.mul_le_mul_of_nonneg_right hmn (by omega)
  constructor <;> (intro h; omega)

/-! ### Single numbers -/

def Bd.One (b : Bd) : Prop := b.lo = b.hi

theorem one_add {a b : Bd} (ha : a.One) (hb : b.One) : (a.add b).One := by unfold Bd.One Bd.add at *; simp only; omega
theorem one_part {a b : Bd} (ha : a.One) (hb : b.One) : (a.part b).One := by unfold Bd.One Bd.part at *; simp only [ha, hb]
theorem one_left {a b : Bd} (ha : a.One) (hb : b.One) : (a.left b).One := by unfold Bd.One Bd.left at *; simp only [ha, hb]

structure OneStk (x : Stk κ) : Prop where
  dry : x.dry.One
  water : x.water.One
structure OneAcc (a : Acc) : Prop where
  vapour : a.vapour.One
  broth : a.broth.One
  dust : a.dust.One
  soldDry : a.soldDry.One
  soldWater : a.soldWater.One
  soaked : a.soaked.One
structure OneSt (s : St κ) : Prop where
  stacks : All2 (fun x _ => OneStk x) s.stacks s.stacks
  acc : OneAcc s.acc

omit [DecidableEq κ] in
theorem one_done {x n : Stk κ} {d : Deed κ} (h : OneStk x) (hn : d.kind = 6 → OneStk n) (ha : d.a.One) (hb : d.b.One) (_px : 0 ≤ x.dry.lo)
    (h4 : d.kind = 4 → d.a.lo ≤ x.dry.hi) (h7 : d.kind = 7 → (x.dry.weighed x.water d.a).lo ≤ (x.dry.weighed x.water d.a).hi ∧ (x.water.weighed x.dry d.a).lo ≤ (x.water.weighed x.dry d.a).hi) : OneStk (x.done n d) := by
  obtain ⟨o1, o2⟩ := h
  unfold Stk.done
  split; · exact ⟨o1, one_left o2 ha⟩
  split; · exact ⟨one_left o1 ha, one_add o2 (one_part o1 hb)⟩
  split; · rename_i e; have := h4 e; exact ⟨by unfold Bd.One Bd.scraped at *; simp only; omega, o2⟩
  split; · exact ⟨one_left o1 ha, one_left o2 ha⟩
  split; · rename_i e; exact ⟨one_add o1 (hn e).1, one_add o2 (hn e).2⟩
  split; · rename_i e; have := h7 e; exact ⟨by unfold Bd.One Bd.weighed at *; simp only at *; omega, by unfold Bd.One Bd.weighed at *; simp only at *; omega⟩
  · exact ⟨o1, o2⟩

omit [DecidableEq κ] in
theorem one_acc {c : Acc} {x : Stk κ} {d : Deed κ} (hc : OneAcc c) (h : OneStk x) (ha : d.a.One) (hb : d.b.One) (h4 : d.kind = 4 → d.a.lo ≤ x.dry.hi) : OneAcc (c.done x d) := by
  obtain ⟨o1, o2⟩ := h
  obtain ⟨v, br, du, sd, sw, so⟩ := hc
  unfold Acc.done
  split; · exact ⟨one_add v (one_part o2 ha), br, du, sd, sw, so⟩
  split; · exact ⟨v, one_add br (one_part o1 ha), du, sd, sw, one_add so (one_part o1 hb)⟩
  split; · rename_i e; have := h4 e; exact ⟨v, br, one_add du (by unfold Bd.One Bd.dust at *; simp only; omega), sd, sw, so⟩
  split; · exact ⟨v, br, du, one_add sd o1, one_add sw o2, so⟩
  · exact ⟨v, br, du, sd, sw, so⟩

/-- With single numbers there is something real: the numbers themselves. -/
theorem exact_step {be af : Int} {r : Real κ} {s : St κ} {d : Deed κ} (h : True_ r s) (ho : OneSt s) (_fd : d.Fine) (ha : d.a.One) (hb : d.b.One) (fs : fault be af s d = 0) (i : Int) :
    (∃ r', r.act d d.a.lo d.b.lo = some r') ∧ OneSt (deed s d i) := by
  by_cases h1 : d.kind = 1
  · refine ⟨⟨_, by unfold Real.act; rw [if_pos h1]⟩, ?_⟩
    rw [deed_one h1]
    exact ⟨ho.stacks.append (.one ⟨ha, hb⟩), ho.acc⟩
  · obtain ⟨x, n, g⟩ := good_of fs h1
    obtain ⟨p, hp, hl⟩ := h.stacks.some_of g.here
    have ox : OneStk x := ho.stacks.get g.here g.here
    have on : d.kind = 6 → OneStk n := fun e => ho.stacks.get (g.merge e).1 (g.merge e).1
    refine ⟨?_, ?_⟩
    · unfold Real.act
      rw [if_neg h1, find_at h.stacks, find_at h.stacks, hp]
      simp only
      have e1 := ox.1; have e2 := ox.2
      obtain ⟨_, l1, l2, l3, l4⟩ := hl
      unfold Bd.One at ha hb e1 e2
      rw [if_neg (fun e => by have := g.bark e.1; omega), if_neg (fun e => by
        obtain ⟨q, hq, _⟩ := h.stacks.some_of (g.merge e.1).1
        exact e.2 (List.getElem?_eq_some_iff.mp hq).1), if_neg (fun e => e.2 (by
        have := g.scale e.1
        unfold Bd.weighed at this
        simp only at this
        omega))]
      exact ⟨_, rfl⟩
    · rw [deed_at h1 g]
      exact ⟨all2_after ho.stacks (one_done ox on ha hb hl.pos.1 g.bark g.scale) (fun _ => ⟨one_part ox.1 ha, one_part ox.2 ha⟩) _ _, one_acc ho.acc ox ha hb g.bark⟩

def piledIn (f : Deed κ → Int) (ds : List (Deed κ)) : Int := total (fun d => if d.kind = 1 then f d else 0) ds

theorem exact_run {be af : Int} : ∀ {ds : List (Deed κ)} {r : Real κ} {s : St κ} {i : Nat}, True_ r s → Balance r → OneSt s → (∀ d ∈ ds, d.Fine ∧ d.a.One ∧ d.b.One) → (run be af s i ds).2.2 = 0 →
    ∃ r', True_ r' (run be af s i ds).1 ∧ Balance r' ∧ OneSt (run be af s i ds).1 ∧ r'.piledDry = r.piledDry + piledIn (fun d => d.a.lo) ds ∧ r'.piledWater = r.piledWater + piledIn (fun d => d.b.lo) ds
  | [], r, s, i, h, hb, ho, _, _ => ⟨r, h, hb, ho, by simp [piledIn, total], by simp [piledIn, total]⟩
  | d :: ds, r, s, i, h, hb, ho, hd, hz => by
    simp only [run] at hz ⊢
    split at hz
    · rename_i f0
      rw [if_pos f0]
      have h0 := hd d (by simp)
      obtain ⟨⟨r1, ha⟩, ho1⟩ := exact_step h ho h0.1 h0.2.1 h0.2.2 f0 i
      have fa := h0.1.a; have fb := h0.1.b
      unfold Bd.Ok at fa fb
      have h1 := true_step h h0.1 ⟨by omega, by omega⟩ ⟨by omega, by omega⟩ f0 i ha
      have hb1 := balance_act hb (fun e => by
          obtain ⟨x, n, g⟩ := good_of f0 (by omega)
          rw [find_at h.stacks, find_at h.stacks]
          exact at_ne g.here (g.merge e).1 (g.merge e).2) ha
      obtain ⟨r', t1, t2, t3, t4, t5⟩ := exact_run h1 hb1.1 ho1 (fun e he => hd e (by simp [he])) hz
      refine ⟨r', t1, t2, t3, ?_, ?_⟩
      · rw [t4, hb1.2.1]; simp only [piledIn, total, List.map_cons, List.sum_cons]; omega
      · rw [t5, hb1.2.2]; simp only [piledIn, total, List.map_cons, List.sum_cons]; omega
    · exact absurd hz ‹_›

omit [DecidableEq κ] in
theorem one_empty : OneSt (St.empty : St κ) := ⟨.nil, ⟨rfl, rfl, rfl, rfl, rfl, rfl⟩⟩

omit [DecidableEq κ] in
theorem total_lies {r : List (Pile κ)} {l : List (Stk κ)} (h : All2 Lies r l) (ho : All2 (fun x _ => OneStk x) l l) :
    total Pile.dry r = total (fun x => x.dry.lo) l ∧ total Pile.water r = total (fun x => x.water.lo) l := by
  induction h with
  | nil => exact ⟨rfl, rfl⟩
  | cons hl _ ih =>
    cases ho with
    | cons o os =>
      have h1 := ih os
      have e1 := o.1; have e2 := o.2
      unfold Bd.One at e1 e2
      have := hl.dry; have := hl.water
      simp only [total, List.map_cons, List.sum_cons] at h1 ⊢
      omega

/-- All bark and all water is accounted for by what is there alone. -/
theorem exact_all {be af : Int} {ds : List (Deed κ)} (hd : ∀ d ∈ ds, d.Fine ∧ d.a.One ∧ d.b.One) (hz : (run be af .empty 0 ds).2.2 = 0) :
    let s := (run be af .empty 0 ds).1
    OneSt s ∧ total (fun x => x.dry.lo) s.stacks + s.acc.broth.lo + s.acc.dust.lo + s.acc.soldDry.lo = piledIn (fun d => d.a.lo) ds
      ∧ total (fun x => x.water.lo) s.stacks + s.acc.vapour.lo + s.acc.soldWater.lo = piledIn (fun d => d.b.lo) ds + s.acc.soaked.lo := by
  obtain ⟨r, t, b, o, p1, p2⟩ := exact_run true_empty balance_empty one_empty hd hz
  have tl := total_lies t.stacks o.stacks
  have h1 := b.1; have h2 := b.2
  have a := o.acc
  have l := t.acc
  obtain ⟨a1, a2, a3, a4, a5, a6⟩ := a
  obtain ⟨l1, l2, l3, l4, l5, l6⟩ := l
  unfold Bd.One at a1 a2 a3 a4 a5 a6
  simp only [Real.empty] at p1 p2
  refine ⟨o, ?_, ?_⟩ <;> omega

/-! ### Two deeds change places -/

/-- Deeds that rest, boil, scrape or weigh. -/
def Quiet (d : Deed κ) : Prop := d.kind = 2 ∨ d.kind = 3 ∨ d.kind = 4 ∨ d.kind = 7

omit [DecidableEq κ] in
theorem done_quiet {x n m : Stk κ} {d : Deed κ} (h : Quiet d) : x.done n d = x.done m d := by
  unfold Quiet at h
  unfold Stk.done
  repeat' split
  all_goals first | rfl | omega

omit [DecidableEq κ] in
theorem code_done (x n : Stk κ) (d : Deed κ) : (x.done n d).code = x.code := by
  unfold Stk.done
  repeat' split
  all_goals rfl

theorem at_set {l : List (Stk κ)} {k : Nat} {x y : Stk κ} (h : l[k]? = some x) (hc : y.code = x.code) (c : κ) : at_ (l.set k y) c = at_ l c := by
  induction l generalizing k with
  | nil => simp at h
  | cons a l ih =>
    cases k with
    | zero => simp at h; subst h; simp only [at_, List.set_cons_zero, List.findIdx_cons, hc]
    | succ k =>
      have := ih (k := k) (by simpa using h)
      unfold at_ at this
      simp only [at_, List.set_cons_succ, List.findIdx_cons, this]

theorem deed_quiet {s : St κ} {d : Deed κ} {x : Stk κ} (h : Quiet d) (hx : s.stacks[at_ s.stacks d.stack]? = some x) (i : Int) :
    deed s d i = ⟨s.stacks.set (at_ s.stacks d.stack) (x.done x d), s.acc.done x d⟩ := by
  have hq := h
  unfold Quiet at hq
  unfold deed
  rw [if_neg (by omega), hx]
  simp only
  unfold after
  rw [if_neg (by omega), if_neg (by omega), if_neg (by omega), done_quiet h]

theorem add_comm3 (a b c : Bd) : (a.add b).add c = (a.add c).add b := by unfold Bd.add; simp only [Bd.mk.injEq]; omega

omit [DecidableEq κ] in
theorem acc_swap (c : Acc) (x y : Stk κ) (d e : Deed κ) : (c.done x d).done y e = (c.done y e).done x d := by
  unfold Acc.done
  repeat' split
  all_goals first | rfl | (exfalso; omega) | (simp only [add_comm3]) | skip
  all_goals first | rfl | (refine ⟨?_, ?_⟩ <;> exact add_comm3 _ _ _) | exact add_comm3 _ _ _

theorem here_of {be af : Int} {s : St κ} {d : Deed κ} (h : Quiet d) (f : fault be af s d = 0) : ∃ x, s.stacks[at_ s.stacks d.stack]? = some x := by
  unfold Quiet at h
  obtain ⟨x, n, g⟩ := good_of f (by omega)
  exact ⟨x, g.here⟩

/-- A quiet deed's fault depends on its stack alone. -/
theorem fault_stack {be af : Int} {s t : St κ} {d : Deed κ} (h : Quiet d) {x : Stk κ} (hs : s.stacks[at_ s.stacks d.stack]? = some x) (ht : t.stacks[at_ t.stacks d.stack]? = some x) :
    fault be af s d = fault be af t d := by
  unfold Quiet at h
  have hs' := (at_some hs).1
  have ht' := (at_some ht).1
  unfold fault
  rw [hs, ht]
  have k1 : ¬ d.kind = 1 := by omega
  have k5 : ¬ d.kind = 5 := by omega
  have k6 : ¬ d.kind = 6 := by omega
  simp only [hs', ht', k1, k5, k6, decide_true, decide_false, Bool.true_eq_false, or_self, false_and, if_false]

theorem swap_two {be af : Int} {s : St κ} {d e : Deed κ} (hd : Quiet d) (he : Quiet e) (hne : d.stack ≠ e.stack) (i j i' j' : Int)
    (f1 : fault be af s d = 0) (f2 : fault be af (deed s d i) e = 0) :
    fault be af s e = 0 ∧ fault be af (deed s e i') d = 0 ∧ deed (deed s d i) e j = deed (deed s e i') d j' := by
  obtain ⟨x, hx⟩ := here_of hd f1
  have cx := (at_some hx).2
  obtain ⟨y, hy⟩ := here_of he f2
  have hdd := deed_quiet hd hx i
  have e1 : ∀ c, at_ (deed s d i).stacks c = at_ s.stacks c := fun c => by rw [hdd]; exact at_set hx (code_done _ _ _) c
  have hy' : s.stacks[at_ s.stacks e.stack]? = some y := by
    rw [e1, hdd] at hy
    rw [List.getElem?_set_ne] at hy
    · exact hy
    · intro hh
      have hl := (at_some hx).1
      rw [← hh] at hy
      simp only at hy
      rw [List.getElem?_set_self hl] at hy
      have h3 := (at_some (l := (deed s d i).stacks) (c := e.stack) (x := x.done x d) (by rw [e1, hdd, ← hh]; simp only; rw [List.getElem?_set_self hl])).2
      rw [code_done, cx] at h3
      exact hne h3
  have hne' : at_ s.stacks e.stack ≠ at_ s.stacks d.stack := at_ne hx hy' (Ne.symm hne)
  have hee := deed_quiet he hy' i'
  have e2 : ∀ c, at_ (deed s e i').stacks c = at_ s.stacks c := fun c => by rw [hee]; exact at_set hy' (code_done _ _ _) c
  have hx' : (deed s e i').stacks[at_ (deed s e i').stacks d.stack]? = some x := by
    rw [e2, hee]; simp only; rw [List.getElem?_set_ne hne']; exact hx
  refine ⟨?_, ?_, ?_⟩
  · rw [fault_stack he hy' hy]; exact f2
  · rw [fault_stack hd hx' hx]; exact f1
  · rw [deed_quiet he hy j, deed_quiet hd hx' j', e1, e2, hdd, hee]
    simp only [List.set_comm _ _ hne', acc_swap s.acc x y d e]

theorem run_two (be af : Int) (s : St κ) (i : Nat) (d e : Deed κ) : (run be af s i [d, e]).2.2 = 0 ↔ fault be af s d = 0 ∧ fault be af (deed s d i) e = 0 := by
  simp only [run]
  split
  · rename_i h
    split
    · rename_i h'; simp [h, h']
    · rename_i h'; simp [h, h']
  · rename_i h; simp [h]

/-- Two quiet neighbours about different stacks: all comes to the same. -/
theorem swap_run {be af : Int} {s : St κ} {ds : List (Deed κ)} {d e : Deed κ} (hd : Quiet d) (he : Quiet e) (hne : d.stack ≠ e.stack) {i : Nat}
    (h : (run be af s i (ds ++ [d, e])).2.2 = 0) : run be af s i (ds ++ [e, d]) = run be af s i (ds ++ [d, e]) := by
  rw [run_append] at h ⊢
  rw [run_append]
  by_cases h0 : (run be af s i ds).2.2 = 0
  · rw [if_pos h0] at h
    rw [if_pos h0, if_pos h0]
    generalize (run be af s i ds).1 = t at h ⊢
    generalize (run be af s i ds).2.1 = j at h ⊢
    obtain ⟨f1, f2⟩ := (run_two be af t j d e).mp h
    obtain ⟨g1, g2, hh⟩ := swap_two hd he hne j ((j + 1 : Nat) : Int) j ((j + 1 : Nat) : Int) f1 f2
    simp only [run, f1, f2, g1, g2, if_true, hh]
  · rw [if_neg h0] at h ⊢
    exact absurd h h0

/-! ### Kin -/

/-- Stacks that are alike unless their bark comes from p. -/
structure Kin (p : Int) (x y : Stk κ) : Prop where
  code : x.code = y.code
  piled : x.piled = y.piled
  boiled : x.boiled = y.boiled
  src : x.src = y.src
  same : p ∉ x.src → x.dry = y.dry ∧ x.water = y.water

/-- Deeds that are alike in all but A. -/
structure Alike (d e : Deed κ) : Prop where
  kind : d.kind = e.kind
  day : d.day = e.day
  stack : d.stack = e.stack
  other : d.other = e.other
  b : d.b = e.b

omit [DecidableEq κ] in
theorem kin_done {p : Int} {x y n m : Stk κ} {d e : Deed κ} (h : Kin p x y) (hn : d.kind = 6 → Kin p n m) (hd : Alike d e) (ha : d.a = e.a) : Kin p (x.done n d) (y.done m e) := by
  obtain ⟨hk, hday, hst, hot, hb⟩ := hd
  obtain ⟨c, pi, bo, sr, sa⟩ := h
  unfold Stk.done
  rw [← hk, ← ha, ← hb, ← hday]
  split
  · exact ⟨c, pi, bo, sr, fun hp => by obtain ⟨s1, s2⟩ := sa hp; exact ⟨s1, by rw [s2]⟩⟩
  split
  · exact ⟨c, pi, rfl, sr, fun hp => by obtain ⟨s1, s2⟩ := sa hp; exact ⟨by rw [s1], by rw [s1, s2]⟩⟩
  split
  · exact ⟨c, pi, bo, sr, fun hp => by obtain ⟨s1, s2⟩ := sa hp; exact ⟨by rw [s1], s2⟩⟩
  split
  · exact ⟨c, pi, bo, sr, fun hp => by obtain ⟨s1, s2⟩ := sa hp; exact ⟨by rw [s1], by rw [s2]⟩⟩
  split
  · rename_i h6
    obtain ⟨c', pi', bo', sr', sa'⟩ := hn h6
    refine ⟨c, by show max _ _ = max _ _; rw [pi, pi'], by show lastBoil _ _ = lastBoil _ _; rw [bo, bo'], by show both _ _ = both _ _; rw [sr, sr'], fun hp => ?_⟩
    simp only [mem_both, not_or] at hp
    obtain ⟨s1, s2⟩ := sa hp.1
    obtain ⟨t1, t2⟩ := sa' hp.2
    exact ⟨by rw [s1, t1], by rw [s2, t2]⟩
  split
  · exact ⟨c, pi, bo, sr, fun hp => by obtain ⟨s1, s2⟩ := sa hp; exact ⟨by rw [s1, s2], by rw [s1, s2]⟩⟩
  · exact ⟨c, pi, bo, sr, sa⟩

omit [DecidableEq κ] in
theorem kin_cut {p : Int} {x y : Stk κ} {d e : Deed κ} (h : Kin p x y) (hd : Alike d e) (ha : d.a = e.a) : Kin p (x.cut d) (y.cut e) := by
  obtain ⟨hk, hday, hst, hot, hb⟩ := hd
  obtain ⟨c, pi, bo, sr, sa⟩ := h
  exact ⟨hot, pi, bo, sr, fun hp => by obtain ⟨s1, s2⟩ := sa hp; unfold Stk.cut; exact ⟨by rw [s1, ha], by rw [s2, ha]⟩⟩

theorem kin_step {be af be' af' : Int} {p i : Int} {s t : St κ} {d e : Deed κ} (h : All2 (Kin p) s.stacks t.stacks) (hd : Alike d e) (ha : d.a = e.a ∨ (d.kind = 1 ∧ p = i))
    (fs : fault be af s d = 0) (ft : fault be' af' t e = 0) : All2 (Kin p) (deed s d i).stacks (deed t e i).stacks := by
  have hk := hd.kind
  by_cases h1 : d.kind = 1
  · rw [deed_one h1, deed_one (hk ▸ h1)]
    refine h.append (.one ⟨hd.stack, hd.day, rfl, rfl, fun hp => ?_⟩)
    rcases ha with ha | ha
    · exact ⟨ha, hd.b⟩
    · exact absurd (by simp [piledUp, ha.2]) hp
  · obtain ⟨x, n, g⟩ := good_of fs h1
    obtain ⟨y, m, g'⟩ := good_of ft (hk ▸ h1)
    have hc : ∀ a b : Stk κ, Kin p a b → a.code = b.code := fun _ _ r => r.code
    have hxy : Kin p x y := h.get g.here (by rw [h.at_ hc, hd.stack]; exact g'.here)
    have hnm : d.kind = 6 → Kin p n m := fun h6 => h.get (g.merge h6).1 (by rw [h.at_ hc, hd.other]; exact (g'.merge (hk ▸ h6)).1)
    have ha' : d.a = e.a := by rcases ha with ha | ha; exact ha; exact absurd ha.1 h1
    rw [deed_at h1 g, deed_at (hk ▸ h1) g', h.at_ hc, h.at_ hc, hd.stack, hd.other, hk]
    exact all2_after h (kin_done hxy hnm hd ha') (fun _ => kin_cut hxy hd ha') _ _

theorem kin_run {be af be' af' : Int} {p : Int} : ∀ {ds es : List (Deed κ)} {s t : St κ} {i : Nat}, All2 Alike ds es →
    (∀ j (h : j < ds.length) (h' : j < es.length), ds[j].a = es[j].a ∨ (ds[j].kind = 1 ∧ p = ((i + j : Nat) : Int))) → All2 (Kin p) s.stacks t.stacks →
    (run be af s i ds).2.2 = 0 → (run be' af' t i es).2.2 = 0 → All2 (Kin p) (run be af s i ds).1.stacks (run be' af' t i es).1.stacks
  | _, _, s, t, i, .nil, _, h, _, _ => h
  | d :: ds, e :: es, s, t, i, .cons hd hds, ha, h, fs, ft => by
    simp only [run] at fs ft ⊢
    split at fs
    · rename_i f1
      split at ft
      · rename_i f2
        rw [if_pos f1, if_pos f2]
        refine kin_run hds (fun j h1 h2 => ?_) (kin_step h hd (ha 0 (Nat.succ_pos _) (Nat.succ_pos _)) f1 f2) fs ft
        have := ha (j + 1) (by simpa using h1) (by simpa using h2)
        simpa [show i + 1 + j = i + (j + 1) by omega] using this
      · exact absurd ft ‹_›
    · exact absurd fs ‹_›

/-! ### Where bark comes from, and when it was piled -/

/-- The sources of a stack are piles among the first i deeds, none later than the stack's day; its numbers are what a stack's numbers can be. -/
structure Rooted (all : List (Deed κ)) (i : Nat) (x : Stk κ) : Prop where
  src : ∀ j ∈ x.src, 0 ≤ j ∧ j.toNat < i ∧ ∃ d, all[j.toNat]? = some d ∧ d.kind = 1 ∧ d.day ≤ x.piled
  dry : x.dry.Ok
  water : x.water.Ok

omit [DecidableEq κ] in
theorem Rooted.more {all : List (Deed κ)} {i k : Nat} {x : Stk κ} (h : Rooted all i x) (hik : i ≤ k) : Rooted all k x :=
  ⟨fun j hj => by obtain ⟨h1, h2, h3⟩ := h.src j hj; exact ⟨h1, by omega, h3⟩, h.dry, h.water⟩

def AllStk (P : Stk κ → Prop) (l : List (Stk κ)) : Prop := ∀ x ∈ l, P x

theorem mem_after {α : Type} {l : List α} {x c : α} {kind : Int} {k o : Nat} {P : α → Prop} (h : ∀ a ∈ l, P a) (hx : P x) (hc : kind = 5 → P c) : ∀ a ∈ after l x c kind k o, P a := by
  have hs : ∀ (m : List α) (k : Nat), (∀ a ∈ m, P a) → ∀ a ∈ m.set k x, P a := fun m k hm a ha => by
    rcases List.mem_or_eq_of_mem_set ha with h1 | h1
    · exact hm a h1
    · exact h1 ▸ hx
  unfold after
  split
  · rename_i h5
    refine hs _ _ fun a ha => ?_
    rcases List.mem_append.mp ha with h1 | h1
    · exact h a h1
    · rw [List.mem_singleton.mp h1]; exact hc h5
  split
  · exact fun a ha => hs _ _ h a (List.mem_of_mem_eraseIdx ha)
  split
  · exact fun a ha => hs _ _ h a (List.mem_of_mem_eraseIdx ha)
  · exact hs _ _ h

omit [DecidableEq κ] in
theorem rooted_done {all : List (Deed κ)} {i : Nat} {x n : Stk κ} {d : Deed κ} (h : Rooted all i x) (hn : d.kind = 6 → Rooted all i n) (fd : d.Fine)
    (h4 : d.kind = 4 → d.a.lo ≤ x.dry.hi) (h7 : d.kind = 7 → (x.dry.weighed x.water d.a).lo ≤ (x.dry.weighed x.water d.a).hi ∧ (x.water.weighed x.dry d.a).lo ≤ (x.water.weighed x.dry d.a).hi) : Rooted all i (x.done n d) := by
  obtain ⟨s, o1, o2⟩ := h
  unfold Stk.done
  split; · rename_i e; exact ⟨s, o1, ok_left o2 (up_of fd (.inl e))⟩
  split; · rename_i e; exact ⟨s, ok_left o1 (up_of fd (.inr (.inl e))), ok_add o2 (ok_part o1 fd.b)⟩
  split; · rename_i e; exact ⟨s, ok_scraped o1 fd.a (h4 e), o2⟩
  split; · rename_i e; exact ⟨s, ok_left o1 (up_of fd (.inr (.inr e))), ok_left o2 (up_of fd (.inr (.inr e)))⟩
  split
  · rename_i e
    obtain ⟨s', o1', o2'⟩ := hn e
    refine ⟨fun j hj => ?_, ok_add o1 o1', ok_add o2 o2'⟩
    rcases (mem_both _ _ _).mp hj with hj | hj
    · obtain ⟨a1, a2, d', a3, a4, a5⟩ := s j hj
      exact ⟨a1, a2, d', a3, a4, by show _ ≤ max _ _; omega⟩
    · obtain ⟨a1, a2, d', a3, a4, a5⟩ := s' j hj
      exact ⟨a1, a2, d', a3, a4, by show _ ≤ max _ _; omega⟩
  split
  · rename_i e
    have w := h7 e
    refine ⟨s, ⟨?_, w.1⟩, ⟨?_, w.2⟩⟩ <;> (unfold Bd.Ok Bd.weighed at *; simp only at *; omega)
  · exact ⟨s, o1, o2⟩

theorem rooted_step {be af : Int} {all : List (Deed κ)} {i : Nat} {s : St κ} {d : Deed κ} (h : ∀ x ∈ s.stacks, Rooted all i x) (hd : all[i]? = some d) (fd : d.Fine) (fs : fault be af s d = 0) :
    ∀ x ∈ (deed s d i).stacks, Rooted all (i + 1) x := by
  have h' : ∀ x ∈ s.stacks, Rooted all (i + 1) x := fun x hx => (h x hx).more (by omega)
  by_cases h1 : d.kind = 1
  · rw [deed_one h1]
    intro x hx
    rcases List.mem_append.mp hx with hx | hx
    · exact h' x hx
    · rw [List.mem_singleton.mp hx]
      refine ⟨fun j hj => ?_, fd.a, fd.b⟩
      have : j = (i : Int) := by simpa [piledUp] using hj
      subst this
      exact ⟨by omega, by omega, d, by simpa using hd, h1, Int.le_refl _⟩
  · obtain ⟨x, n, g⟩ := good_of fs h1
    rw [deed_at h1 g]
    have hx := h' x (List.mem_of_getElem? g.here)
    have ud : d.kind = 5 → d.a.Up 1000 := fun e => up_of fd (.inr (.inr e))
    exact mem_after h' (rooted_done hx (fun e => h' n (List.mem_of_getElem? (g.merge e).1)) fd g.bark g.scale)
      (fun _ => ⟨hx.src, ok_part hx.dry fd.a, ok_part hx.water fd.a⟩)

theorem rooted_run {be af : Int} {all : List (Deed κ)} : ∀ {ds : List (Deed κ)} {s : St κ} {i : Nat}, (∀ x ∈ s.stacks, Rooted all i x) → (∀ j (h : j < ds.length), all[i + j]? = some ds[j]) →
    (∀ d ∈ ds, d.Fine) → ∀ x ∈ (run be af s i ds).1.stacks, Rooted all (run be af s i ds).2.1 x
  | [], s, i, h, _, _ => h
  | d :: ds, s, i, h, ha, hf => by
    simp only [run]
    split
    · rename_i f0
      refine rooted_run (rooted_step h (ha 0 (Nat.succ_pos _)) (hf d (by simp)) f0) (fun j hj => ?_) (fun e he => hf e (by simp [he]))
      have := ha (j + 1) (by simpa using hj)
      simpa [show i + 1 + j = i + (j + 1) by omega] using this
    · exact h

/-! ### Rests -/

theorem fault_soon {be af be' af' : Int} (hb : be' ≤ be) (ha : af' ≤ af) (s : St κ) (d : Deed κ) :
    fault be af s d = 3 ∨ fault be' af' s d = fault be af s d := by
  unfold fault
  split; · exact .inr rfl
  split; · exact .inr rfl
  split; · exact .inr rfl
  split; · exact .inl rfl
  rename_i h3
  rw [if_neg (c := d.kind = 3 ∧ _) (by omega)]
  split; · exact .inl rfl
  rename_i h4
  rw [if_neg (c := (d.kind = 4 ∨ d.kind = 8) ∧ _) (by omega)]
  exact .inr rfl

theorem shorter_run {be af be' af' : Int} (hb : be' ≤ be) (ha : af' ≤ af) : ∀ (ds : List (Deed κ)) (s : St κ) (i : Nat),
    (run be af s i ds).2.1 ≤ (run be' af' s i ds).2.1 ∧ ((run be af s i ds).2.2 = 3 ∨ run be' af' s i ds = run be af s i ds)
  | [], s, i => ⟨Nat.le_refl _, .inr rfl⟩
  | d :: ds, s, i => by
    have hf := fault_soon hb ha s d
    simp only [run]
    by_cases f0 : fault be af s d = 0
    · rw [if_pos f0, if_pos (by omega)]
      exact shorter_run hb ha ds _ _
    · rw [if_neg f0]
      have hc := run_count be' af' ds (deed s d i) (i + 1)
      refine ⟨?_, ?_⟩
      · split
        · show i ≤ _; omega
        · exact Nat.le_refl _
      · rcases hf with hf | hf
        · exact .inl hf
        · exact .inr (by rw [if_neg (by omega), hf])

/-- A boiling, a scraping and a selling without a fault are not too soon. -/
theorem not_soon {be af : Int} {s : St κ} {d : Deed κ} {x : Stk κ} (f : fault be af s d = 0) (hx : s.stacks[at_ s.stacks d.stack]? = some x) :
    (d.kind = 3 → be ≤ d.day - x.piled) ∧ (d.kind = 4 ∨ d.kind = 8 → 0 ≤ x.boiled ∧ af ≤ d.day - x.boiled) := by
  unfold fault at f
  split at f; · exact absurd f (by decide)
  split at f; · exact absurd f (by decide)
  rw [hx] at f
  simp only at f
  split at f; · exact absurd f (by decide)
  rename_i h3
  split at f; · exact absurd f (by decide)
  rename_i h4
  refine ⟨fun e => ?_, fun e => ?_⟩ <;> omega

theorem run_fault_at {be af : Int} {s : St κ} {i : Nat} (ds : List (Deed κ)) (d : Deed κ) (h : (run be af s i (ds ++ [d])).2.2 = 0) :
    (run be af s i ds).2.2 = 0 ∧ fault be af (run be af s i ds).1 d = 0 := by
  rw [run_append] at h
  by_cases h0 : (run be af s i ds).2.2 = 0
  · rw [if_pos h0] at h
    refine ⟨h0, ?_⟩
    simp only [run] at h
    split at h
    · assumption
    · exact absurd h ‹_›
  · rw [if_neg h0] at h
    exact absurd h h0

end Go.Proofs.Ytbgojeppfhldjaa.Yd
