/- The yard's book in memory: its block, the rows of codes and stacks, the map of places. -/
import Derived.Test.YtbgojeppfhldjaaYBd
import Derived.Test.YtbgojeppfhldjaaMem
import Derived.Maps.Keyed
import Derived.StringKeys
namespace Go.Proofs.Ytbgojeppfhldjaa
open Go Go.RowKit Yd Go.Maps

abbrev Code := ByteArray
abbrev SRow := Stk Code × Value

def stkCells (x : Stk Code) (v : Value) : List Value := [.string x.code, .int .i64 x.dry.lo, .int .i64 x.dry.hi, .int .i64 x.water.lo, .int .i64 x.water.hi, .int .i64 x.piled, .int .i64 x.boiled, v]
def rowCells (p : SRow) : List Value := stkCells p.1 p.2
def rowsCells (l : List SRow) : List Value := l.flatMap rowCells
def codeCells (l : List SRow) : List Value := l.map fun p => .string p.1.code
def intCells (l : List Int) : List Value := l.map (.int .i64)
def accCells (c : Acc) : List Value := [.int .i64 c.vapour.lo, .int .i64 c.vapour.hi, .int .i64 c.broth.lo, .int .i64 c.broth.hi, .int .i64 c.dust.lo, .int .i64 c.dust.hi, .int .i64 c.soldDry.lo, .int .i64 c.soldDry.hi, .int .i64 c.soldWater.lo, .int .i64 c.soldWater.hi, .int .i64 c.soaked.lo, .int .i64 c.soaked.hi]
def bookCells (bef aft : Int) (kv tv : Value) (m : Nat) (c : Acc) (made : Int) : List Value := [.int .i64 bef, .int .i64 aft, kv, tv, .map (some m)] ++ accCells c ++ [.int .i64 made]

/-- The place of a code. -/
def ixOf (l : List SRow) (c : Code) : Option Nat := l.findIdx? fun p => decide (p.1.code = c)

def keyLit (c : Code) : Lit := .string c.data.toList

/-- Block m is a map of at most n entries that has the place of each code. -/
def Places (w : World) (m n : Nat) (ix : Code → Option Nat) : Prop :=
  ∃ D : DataW Unit, w.ownsMap Try.prog 9 (plainElem Try.prog 3) m n D ∧
    ∀ c : Code, Maps.has D (keyLit c) = (ix c).isSome ∧ ∀ i, ix c = some i → D.atKey (keyLit c) (.lit (.int .i64 0)) = .lit (.int .i64 (i : Int))

theorem lawS : Keyed Try.prog 9 := string_keyed Try.underlying9
theorem keyOfS {c : Code} (h : c.size ≤ maxLen) : keyOf Try.prog 9 (.string c) = some (keyLit c) := Go.WideMaps.keyOf_string_mk Try.underlying9 h
theorem zeroI (w : World) : (zeroValue 3).run Try.prog w = .ok (.int .i64 0) w := by kernel_rfl
theorem keyLit_inj {a b : Code} (h : keyLit a = keyLit b) : a = b := by
  have : a.data.toList = b.data.toList := by simpa [keyLit] using h
  cases a; cases b; simp_all

theorem isKeyLit (c : Code) : WideAt.IsKeyLit (keyLit c) := by unfold keyLit; exact trivial
theorem Places.same {w w' : World} {m n : Nat} {ix : Code → Option Nat} (h : Places w m n ix) (hs : w'.heap[m]? = w.heap[m]?) : Places w' m n ix := by
  obtain ⟨D, h1, h2⟩ := h
  exact ⟨D, map_same h1 hs, h2⟩
theorem Places.lt {w : World} {m n : Nat} {ix : Code → Option Nat} (h : Places w m n ix) : m < w.heap.size := by
  obtain ⟨D, h1, _⟩ := h
  exact h1.lt
theorem Places.noBlk {w : World} {m n : Nat} {ix : Code → Option Nat} (h : Places w m n ix) {t : TypeId} {cs : Array Value} (hb : Blk w m t cs) : False := by
  obtain ⟨D, h1, _⟩ := h
  exact map_block h1 hb
theorem Places.mono {w : World} {m n n' : Nat} {ix : Code → Option Nat} (h : Places w m n ix) (hn : n ≤ n') : Places w m n' ix := by
  obtain ⟨D, h1, h2⟩ := h
  exact ⟨D, h1.mono hn, h2⟩
theorem Places.ext {w : World} {m n : Nat} {ix ix' : Code → Option Nat} (h : Places w m n ix) (he : ∀ c, ix c = ix' c) : Places w m n ix' := by
  rw [← (funext he : ix = ix')]; exact h

/-- The look-up's run. -/
theorem Places.look {w : World} {m n : Nat} {ix : Code → Option Nat} (h : Places w m n ix) {c : Code} (hc : c.size ≤ maxLen) {T : TypeId} (hT : Try.prog.underlying T = some (.map 9 3)) :
    ∃ i : Int, (Instr.lookup T (.map (some m)) (.string c) true).run Try.prog w = .ok (.tuple #[.int .i64 i, .bool (ix c).isSome]) w ∧ ∀ k, ix c = some k → i = (k : Int) := by
  obtain ⟨D, h1, h2⟩ := h
  obtain ⟨v, ps, hrun, hv⟩ := h1.look_ok lawS hT (zeroI w) (plainElem_int Try.underlying3 (by decide)) (keyOfS hc)
  obtain ⟨i, rfl, hi, _⟩ := plainElem_int_inv Try.underlying3 hv
  refine ⟨i, by rw [hrun, (h2 c).1], fun k hk => ?_⟩
  have := (h2 c).2 k hk
  simp only [Prod.mk.injEq] at hi
  rw [this] at hi
  simpa using hi.1.symm
/-- .. without ok. -/
theorem Places.look1 {w : World} {m n : Nat} {ix : Code → Option Nat} (h : Places w m n ix) {c : Code} (hc : c.size ≤ maxLen) {T : TypeId} (hT : Try.prog.underlying T = some (.map 9 3)) {k : Nat} (hk : ix c = some k) :
    (Instr.lookup T (.map (some m)) (.string c) false).run Try.prog w = .ok (.int .i64 (k : Int)) w := by
  obtain ⟨D, h1, h2⟩ := h
  obtain ⟨i, hrun, hi, _⟩ := h1.lookup_int lawS hT Try.underlying3 (zeroI w) (keyOfS hc)
  rw [(h2 c).2 k hk] at hi
  rw [hrun]
  simp at hi
  rw [hi]
theorem wf_small {k : Nat} (hk : k ≤ 1000000) : (Lit.int .i64 (k : Int)).wf = true := by
  have h1 : (IntKind.i64.min : Int) = -9223372036854775808 := by decide
  have h2 : (IntKind.i64.max : Int) = 9223372036854775807 := by decide
  simp [Lit.wf]; omega
/-- The store's run. -/
theorem Places.put {w : World} {m n : Nat} {ix : Code → Option Nat} (h : Places w m n ix) {c : Code} (hc : c.size ≤ maxLen) {T : TypeId} (hT : Try.prog.underlying T = some (.map 9 3)) (hn : n < maxLen) {k : Nat} (hk : k ≤ 1000000) :
    ∃ w', (Instr.mapUpdate T (.map (some m)) (.string c) (.int .i64 (k : Int))).run Try.prog w = .ok () w' ∧ Places w' m (n + 1) (fun c' => if c' = c then some k else ix c') ∧ w.grownBy w' (some m) := by
  obtain ⟨D, h1, h2⟩ := h
  obtain ⟨w', hrun, ho, hg⟩ := h1.update (val := .int .i64 (k : Int)) (d := .lit (.int .i64 (k : Int))) (ps := []) lawS hT hn (keyOfS hc) (plainElem_int Try.underlying3 (wf_small hk))
  refine ⟨w', hrun, ⟨_, ho, fun c' => ?_⟩, hg⟩
  by_cases e : c' = c
  · subst e
    simp only [if_true]
    rw [Maps.has_put_same h1.isMap (isKeyLit _), Maps.atKey_put_same h1.isMap (isKeyLit _)]
    refine ⟨rfl, fun i hi => ?_⟩
    cases hi; rfl
  · have hne : keyLit c' ≠ keyLit c := fun h => e (keyLit_inj h)
    simp only [if_neg e]
    rw [Maps.has_put_other hne, Maps.atKey_put_other hne]
    exact h2 c'
/-- The deletion's run. -/
theorem Places.drop {w : World} {m n : Nat} {ix : Code → Option Nat} (h : Places w m n ix) {c : Code} (hc : c.size ≤ maxLen) {T : TypeId} (hT : Try.prog.underlying T = some (.map 9 3)) (ty : TypeId) :
    ∃ w', (Builtin.delete_ #[T, 9] ty #[.map (some m), .string c]).run Try.prog w = .ok (.tuple #[]) w' ∧ Places w' m n (fun c' => if c' = c then none else ix c') ∧ w.grownBy w' (some m) := by
  obtain ⟨D, h1, h2⟩ := h
  obtain ⟨w', hrun, ho, ht⟩ := h1.drop lawS hT (keyOfS hc) ty
  refine ⟨w', hrun, ⟨_, ho, fun c' => ?_⟩, ht.grown⟩
  by_cases e : c' = c
  · subst e
    simp only [if_true]
    rw [Maps.has_del_same]
    exact ⟨rfl, fun i hi => by cases hi⟩
  · have hne : keyLit c' ≠ keyLit c := fun h => e (keyLit_inj h)
    simp only [if_neg e]
    rw [Maps.has_del_other hne, Maps.atKey_del_other hne]
    exact h2 c'
theorem Places.made (w : World) : Places (w.alloc (.map #[] 0)) w.heap.size 0 (fun _ => none) :=
  ⟨.map [], World.ownsMap_made w _ _ _, fun c => ⟨rfl, fun i hi => by cases hi⟩⟩

/-- The book at B, its parts in the blocks of C. -/
structure Book (w : World) (C : Nat → Prop) (B : Nat) (bef aft : Int) (l : List SRow) (c : Acc) (made : Int) (N : Nat) (kv tv : Value) (m : Nat) : Prop where
  blk : Blk w B 76 (bookCells bef aft kv tv m c made).toArray
  keys : w.ownsRow 0 9 1 kv l.length (codeCells l)
  things : w.ownsRow 0 48 8 tv l.length (rowsCells l)
  places : Places w m N (ixOf l)
  inB : C B
  inK : ∀ g, kv.ownBlock = some g → C g
  inT : ∀ g, tv.ownBlock = some g → C g
  inM : C m
  froms : ∀ p ∈ l, w.ownsRow 0 3 1 p.2 p.1.src.length (intCells p.1.src)
  fromsLen : ∀ p ∈ l, p.1.src.length ≤ 1000
  codes : (l.map fun p => p.1.code).Nodup
  sizes : ∀ p ∈ l, p.1.code.size ≤ maxLen
  few : l.length ≤ 8
  room : N ≤ 1000000

theorem Book.same {w w' : World} {C : Nat → Prop} {B : Nat} {bef aft : Int} {l : List SRow} {c : Yd.Acc} {made : Int} {N : Nat} {kv tv : Value} {m : Nat} (h : Book w C B bef aft l c made N kv tv m)
    (hs : ∀ k, k < w.heap.size → w'.heap[k]? = w.heap[k]?) : Book w' C B bef aft l c made N kv tv m :=
  ⟨(hs B h.blk.lt).trans h.blk, row_same h.keys (fun g hg => hs g (row_lt h.keys hg)), row_same h.things (fun g hg => hs g (row_lt h.things hg)), h.places.same (hs m h.places.lt), h.inB, h.inK, h.inT, h.inM,
    fun p hp => row_same (h.froms p hp) (fun g hg => hs g (row_lt (h.froms p hp) hg)), h.fromsLen, h.codes, h.sizes, h.few, h.room⟩
theorem Book.below {w w' : World} {C : Nat → Prop} {B : Nat} {bef aft : Int} {l : List SRow} {c : Yd.Acc} {made : Int} {N : Nat} {kv tv : Value} {m : Nat} (h : Book w C B bef aft l c made N kv tv m)
    (hb : Below w.heap.size w w') : Book w' C B bef aft l c made N kv tv m := h.same hb.block
theorem Book.alloc {w : World} {C : Nat → Prop} {B : Nat} {bef aft : Int} {l : List SRow} {c : Yd.Acc} {made : Int} {N : Nat} {kv tv : Value} {m : Nat} (h : Book w C B bef aft l c made N kv tv m)
    (o : Obj) : Book (w.alloc o) C B bef aft l c made N kv tv m := h.same (fun k hk => Below.heap_alloc w o k hk)
theorem Book.wide {w : World} {C C' : Nat → Prop} {B : Nat} {bef aft : Int} {l : List SRow} {c : Yd.Acc} {made : Int} {N : Nat} {kv tv : Value} {m : Nat} (h : Book w C B bef aft l c made N kv tv m)
    (hC : ∀ k, C k → C' k) : Book w C' B bef aft l c made N kv tv m :=
  ⟨h.blk, h.keys, h.things, h.places, hC _ h.inB, fun g hg => hC _ (h.inK g hg), fun g hg => hC _ (h.inT g hg), hC _ h.inM, h.froms, h.fromsLen, h.codes, h.sizes, h.few, h.room⟩
end Go.Proofs.Ytbgojeppfhldjaa
