/- What a forest is as data, and what layer 1 asks of it: plain functions on lists and numbers; nothing of the program. -/
import Derived.Below
import Derived.RowKit
namespace Go.Proofs.YtnoofdjlocadbaaGreatDoor
open Go.RowKit

/-- A law: its seven numbers. -/
structure Law where
  age : Int
  rest : Int
  girth : Int
  f0 : Int
  f1 : Int
  f2 : Int
  heal : Int

/-- A tree; sv, wv: how its lists are held in memory. -/
structure Tree where
  code : ByteArray
  bmin : Int
  bmax : Int
  taped : Int
  gmin : Int
  gmax : Int
  wmin : Int
  wmax : Int
  sv : Value
  wv : Value
  dead : Int
  strips : List (Int × Int)
  wounds : List Int

instance : Inhabited Tree := ⟨⟨⟨#[]⟩, 0, 0, 0, 0, 0, 0, 0, .slice none 0 0, .slice none 0 0, 0, [], []⟩⟩

/-- A forest; tv: how its list of trees is held. -/
structure Forest where
  law : Law
  tv : Value
  trees : List Tree

def Law.cells (l : Law) : List Value := [.int .i64 l.age, .int .i64 l.rest, .int .i64 l.girth, .int .i64 l.f0, .int .i64 l.f1, .int .i64 l.f2, .int .i64 l.heal]
def Tree.cells (t : Tree) : List Value := [.string t.code, .int .i64 t.bmin, .int .i64 t.bmax, .int .i64 t.taped, .int .i64 t.gmin, .int .i64 t.gmax, .int .i64 t.wmin, .int .i64 t.wmax, t.sv, t.wv, .int .i64 t.dead]
def stripCells (s : Int × Int) : List Value := [.int .i64 s.1, .int .i64 s.2]
def intCells (n : Int) : List Value := [.int .i64 n]

/-- A list held in memory below block B: k cells an element. -/
def Held {α : Type} [Inhabited α] (B : Nat) (w : World) (k : Nat) (enc : α → List Value) (v : Value) (xs : List α) : Prop :=
  ((∃ (a : Option Addr) (c : Nat), v = .slice a 0 c) ∧ xs = []) ∨
  ∃ b off c : Nat, v = .slice (some ⟨b, off, none⟩) xs.length c ∧ b < B ∧ (xs.length ≤ c ∧ xs.length ≤ 140737488355328 ∧ c ≤ 9223372036854775807) ∧
    ∀ j, j < xs.length → ∀ i u, (enc xs[j]!)[i]? = some u → w.cell? ⟨b, off + j * k + i, none⟩ = some u

theorem Held.below {α : Type} [Inhabited α] {B : Nat} {w w' : World} {k : Nat} {enc : α → List Value} {v : Value} {xs : List α} (h : Held B w k enc v xs) (hb : Below B w w') : Held B w' k enc v xs := by
  rcases h with h | ⟨b, off, c, hv, hB, hl, hc⟩
  · exact .inl h
  · exact .inr ⟨b, off, c, hv, hB, hl, fun j hj i u hu => by rw [hb.cell (p := ⟨b, off + j * k + i, none⟩) hB]; exact hc j hj i u hu⟩

theorem Held.mono {α : Type} [Inhabited α] {B B' : Nat} {w : World} {k : Nat} {enc : α → List Value} {v : Value} {xs : List α} (h : Held B w k enc v xs) (hb : B ≤ B') : Held B' w k enc v xs := by
  rcases h with h | ⟨b, off, c, hv, hB, hl, hc⟩
  · exact .inl h
  · exact .inr ⟨b, off, c, hv, by omega, hl, hc⟩

/-- A tree's lists are held. -/
def TreeHeld (B : Nat) (w : World) (t : Tree) : Prop :=
  Held B w 2 stripCells t.sv t.strips ∧ Held B w 1 intCells t.wv t.wounds ∧ t.code.size ≤ 9223372036854775807

theorem TreeHeld.below {B : Nat} {w w' : World} {t : Tree} (h : TreeHeld B w t) (hb : Below B w w') : TreeHeld B w' t :=
  ⟨h.1.below hb, h.2.1.below hb, h.2.2⟩

theorem TreeHeld.mono {B B' : Nat} {w : World} {t : Tree} (h : TreeHeld B w t) (hb : B ≤ B') : TreeHeld B' w t :=
  ⟨h.1.mono hb, h.2.1.mono hb, h.2.2⟩

/-- A list of trees is held. -/
def TreesHeld (B : Nat) (w : World) (v : Value) (ts : List Tree) : Prop :=
  Held B w 11 Tree.cells v ts ∧ ∀ t ∈ ts, TreeHeld B w t

theorem TreesHeld.below {B : Nat} {w w' : World} {v : Value} {ts : List Tree} (h : TreesHeld B w v ts) (hb : Below B w w') : TreesHeld B w' v ts :=
  ⟨h.1.below hb, fun t ht => (h.2 t ht).below hb⟩

theorem TreesHeld.mono {B B' : Nat} {w : World} {v : Value} {ts : List Tree} (h : TreesHeld B w v ts) (hb : B ≤ B') : TreesHeld B' w v ts :=
  ⟨h.1.mono hb, fun t ht => (h.2 t ht).mono hb⟩

/-! ### The rules of the document, in plain words -/

def inB (n lo hi : Int) : Bool := decide (lo ≤ n ∧ n ≤ hi)
def boundsB (a b lo hi : Int) : Bool := decide (lo ≤ a ∧ a ≤ b ∧ b ≤ hi)
def capital (c : UInt8) : Bool := decide (65 ≤ c.toNat ∧ c.toNat ≤ 90)
def digit (c : UInt8) : Bool := decide (48 ≤ c.toNat ∧ c.toNat ≤ 57)
def later (c : UInt8) : Bool := capital c || digit c || decide (c.toNat = 45)
def codeB (s : List UInt8) : Bool :=
  match s with
  | [] => false
  | c :: r => decide ((c :: r).length ≤ 8) && capital c && r.all later

def sameCode (o t : Tree) : Bool := o.code.toList == t.code.toList
def lawB (l : Law) : Bool :=
  inB l.f0 0 50 && inB l.f1 0 50 && inB l.f2 0 50 && inB l.age 0 300 && inB l.rest 1 30 && inB l.girth 0 6000 && inB l.heal 0 30
def measuredB (t : Tree) : Bool :=
  boundsB t.bmin t.bmax 0 300 && inB t.taped 0 300 && boundsB t.gmin t.gmax 0 6000 && boundsB t.wmin t.wmax 0 50 && inB t.dead (-1) 300

/-- The first error of strips behind a year; 0: none. -/
def stripsErr (last : Int) : List (Int × Int) → Int
  | [] => 0
  | s :: r => if inB s.1 0 300 && inB s.2 1 15000 then (if s.1 ≤ last then 7 else stripsErr s.1 r) else 1
def woundsErr (last : Int) : List Int → Int
  | [] => 0
  | y :: r => if inB y 0 300 then (if y ≤ last then 7 else woundsErr y r) else 1
def checkStrips (l : List (Int × Int)) : Int := if l.length > 10 then 2 else stripsErr (-1) l
def checkWounds (l : List Int) : Int := if l.length > 10 then 2 else woundsErr (-1) l
/-- The first error of a tree, but for its code. -/
def treeErr (t : Tree) : Int :=
  if measuredB t then (if checkStrips t.strips = 0 then checkWounds t.wounds else checkStrips t.strips) else 1
def checkTree (earlier : List Tree) (t : Tree) : Int :=
  if codeB t.code.data.toList then (if earlier.any (fun o => sameCode o t) then 5 else treeErr t) else 4
def treesErr (earlier : List Tree) : List Tree → Int
  | [] => 0
  | t :: r => if checkTree earlier t = 0 then treesErr (earlier ++ [t]) r else checkTree earlier t
def checkForest (f : Forest) : Int :=
  if lawB f.law then (if f.trees.length > 20 then 2 else treesErr [] f.trees) else 1

/-- The first error of a question about a tree. -/
def askErr (f : Forest) (tree year height : Int) : Int :=
  if checkForest f = 0 then (if 0 ≤ tree ∧ tree < f.trees.length then (if inB year 0 300 && inB height 1 15000 then 0 else 1) else 6) else checkForest f

def girthMin (t : Tree) (year : Int) : Int :=
  if year - t.taped ≥ 0 then t.gmin + (year - t.taped) * t.wmin else max 0 (t.gmin + (year - t.taped) * t.wmax)
def girthMax (t : Tree) (year : Int) : Int :=
  if year - t.taped ≥ 0 then t.gmax + (year - t.taped) * t.wmax else max 0 (t.gmax + (year - t.taped) * t.wmin)
def stripsBefore (t : Tree) (year : Int) : Nat := (t.strips.filter fun s => decide (s.1 < year)).length
def factor (l : Law) (k : Nat) : Int := if k = 0 then l.f0 else if k = 1 then l.f1 else l.f2

/-- Verdicts: 0 unknown, 1 always, 2 never. -/
def judged (worst best : Bool) : Int := if worst then 1 else if best then 0 else 2

def ruleDead (t : Tree) (y : Int) : Bool := decide (t.dead = -1 ∨ y < t.dead)
def ruleRest (l : Law) (t : Tree) (y : Int) : Bool := !t.strips.any (fun s => decide (max (y - s.1) (s.1 - y) < l.rest))
def ruleHeal (l : Law) (t : Tree) (y : Int) : Bool := !t.wounds.any (fun w => decide (0 ≤ y - w ∧ y - w < l.heal))
def jDead (t : Tree) (y : Int) : Int := judged (ruleDead t y) (ruleDead t y)
def jAge (l : Law) (t : Tree) (y : Int) : Int := judged (decide (l.age ≤ y - t.bmax)) (decide (l.age ≤ y - t.bmin))
def jRest (l : Law) (t : Tree) (y : Int) : Int := judged (ruleRest l t y) (ruleRest l t y)
def jHeal (l : Law) (t : Tree) (y : Int) : Int := judged (ruleHeal l t y) (ruleHeal l t y)
def jGirth (l : Law) (t : Tree) (y : Int) : Int :=
  if 0 < stripsBefore t y then 1 else judged (decide (l.girth ≤ girthMin t y)) (decide (l.girth ≤ girthMax t y))
def jHeight (l : Law) (t : Tree) (y h : Int) : Int :=
  judged (decide (10 * h ≤ factor l (stripsBefore t y) * girthMin t y)) (decide (10 * h ≤ factor l (stripsBefore t y) * girthMax t y))
/-- The judgements in their order. -/
def judges (l : Law) (t : Tree) (y h : Int) : List Int := [jDead t y, jAge l t y, jRest l t y, jHeal l t y, jGirth l t y, jHeight l t y h]
/-- The place, from 1, of the first judgement that is v; 0: none. -/
def firstAt (v : Int) : List Int → Nat → Nat
  | [], _ => 0
  | x :: r, n => if x = v then n else firstAt v r (n + 1)
def verdictOf (js : List Int) : Int × Int :=
  if firstAt 2 js 1 ≠ 0 then (2, firstAt 2 js 1) else if firstAt 0 js 1 ≠ 0 then (0, firstAt 0 js 1) else (1, 0)
def verdict (l : Law) (t : Tree) (y h : Int) : Int × Int := verdictOf (judges l t y h)

end Go.Proofs.YtnoofdjlocadbaaGreatDoor
