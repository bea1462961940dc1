/- The table of rules, and the library's iterator over it. The first rule that is wanted. The first rule that is wanted: the second search. The two searches' closures: is a rule's judgement this one? The verdict of all rules. A tree that is in order: what each judgement, the girth and the verdict say of it. A question about a forest: its first error, or a tree that is in order. May a tree be stripped: the program's answer. The library's binary search, at the closure of highest. The greatest height that is good. -/
import Derived.Test.YtnoofdjlocadbaaGreatDoorHeight
import Derived.RangeFuncNested
import Derived.RangeFuncBound
import Derived.RangeFuncCalls
import Derived.RangeFuncLeaves
import Derived.RangeFuncBox
import Derived.Shelf.Abstract
import Derived.Shelf.RegionOpen
import Derived.OwnWalkIn
import Derived.TacticsInMore
import Derived.LoopNIn
import Derived.LoopIn
import Derived.Laws.EntriesVeiled
/-! The table of rules, and the library's iterator over it. -/
namespace Go.Proofs.YtnoofdjlocadbaaGreatDoor
open Go.RowKit Go.Shelf

attribute [local go_sem] Oper.semAt_some

/-- The function that judges the rule at a place. -/
def ruleFn (k : Nat) : Nat :=
  match k with
  | 0 => 91
  | 1 => 92
  | 2 => 93
  | 3 => 94
  | 4 => 95
  | _ => 96
/-- A rule's two cells. -/
def ruleVal (x : Fin 6) : Value := .func (.func (ruleFn x.val)) #[] #[]
def ruleAgg (x : Fin 6) : Value := .agg #[.int .i64 ((x.val : Int) + 1), .func (.func (ruleFn x.val)) #[] #[]]
def ruleAt (k : Nat) : Fin 6 := ⟨k % 6, Nat.mod_lt _ (by omega)⟩

/-- What has come when k rounds are over. -/
def upto {α : Type} (f : Nat → α) (k : Nat) : List α := (List.range k).map f
theorem upto_succ {α : Type} (f : Nat → α) (k : Nat) : upto f (k + 1) = upto f k ++ [f k] := by simp [upto, List.range_succ]
theorem upto_length {α : Type} (f : Nat → α) (k : Nat) : (upto f k).length = k := by simp [upto]

/-- The table's cells lie at b, off. -/
def RulesLie (n₀ : Nat) (W : World) (b off : Nat) : Prop := b < n₀ ∧ ∀ k, k < 6 → W.cell? ⟨b, off + k * 2, none⟩ = some (.int .i64 (((ruleAt k).val : Int) + 1)) ∧ W.cell? ⟨b, off + k * 2 + 1, none⟩ = some (.func (.func (ruleFn (ruleAt k).val)) #[] #[])
theorem RulesLie.below {n₀ : Nat} {A B : World} {b off : Nat} (h : RulesLie n₀ A b off) (hb : Below n₀ A B) : RulesLie n₀ B b off :=
  ⟨h.1, fun k hk => ⟨(hb.cell (p := ⟨b, off + k * 2, none⟩) h.1).trans (h.2 k hk).1, (hb.cell (p := ⟨b, off + k * 2 + 1, none⟩) h.1).trans (h.2 k hk).2⟩⟩

set_option maxRecDepth 100000 in
set_option maxHeartbeats 2000000 in
theorem values1_in (F : Fence) (n : Nat) (h7 : F.fn 97) (hro : F.round = none) (hn : 1 ≤ n) (l Bs n₀ b off cap : Nat) (J Jx : List (Fin 6) → World → Prop)
    (hY : ∀ pre x W, J pre W → pre.length < 6 → YieldAt F (n - 1) Tryz.prog l #[.agg #[.int .i64 ((x.val : Int) + 1), .func (.func (ruleFn x.val)) #[] #[]]] W fun e W' =>
      (e = .returned (.bool true) ∧ J (pre ++ [x]) W' ∧ Below n₀ W W') ∨ (e = .returned (.bool false) ∧ Jx (pre ++ [x]) W'))
    (hJ : ∀ s W o, J s W → J s (W.alloc o))
    (W : World) (hn₀ : n₀ ≤ W.heap.size) (hBs : W.cell? ⟨Bs, 0, none⟩ = some (.slice (some ⟨b, off, none⟩) 6 cap)) (hc : RulesLie n₀ W b off) (h0 : J [] W) :
    CallsIn F n Tryz.prog 97 #[.func (.yield l) #[] #[], .pointer (some ⟨Bs, 0, none⟩)] W fun e W' => (∃ v, e = .returned v) ∧
      ((∃ ys, ys = upto ruleAt 6 ∧ J ys W') ∨ (∃ pre, (∃ k, k ≤ 6 ∧ pre = upto ruleAt k) ∧ Jx pre W')) := by
  refine callsIn_of_wp Tryz.func97 rfl h7 ?_ hro
  simp only [Tryz.ntmps97, List.size_toArray, List.length_cons, List.length_nil, Nat.reduceAdd, Nat.reduceSub, Array.replicate_succ, Array.replicate_zero, List.push_toArray, List.append_toArray, List.nil_append, List.cons_append]
  gi_wp2
  gi_loopw [7] (fun i wr => ∃ k : Nat, k ≤ 6 ∧ i = .int .i64 k ∧ J (upto ruleAt k) wr ∧ Below n₀ W wr)
    (fun i _ => 6 - (intOf i).toNat)
  case atStart => exact ⟨0, Nat.zero_le _, rfl, h0, Below.refl _ _⟩
  case round =>
    obtain ⟨k, hk, rfl, hJs, hnx⟩ := hrel
    by_cases hlt : k < 6
    · obtain ⟨hc0, hc1⟩ := (hc.below hnx).2 k hlt
      have hsz : n₀ ≤ wr.heap.size := Nat.le_trans hn₀ hnx.size
      have hJa := hJ _ _ (.cells #[.int .i64 (((ruleAt k).val : Int) + 1), .func (.func (ruleFn (ruleAt k).val)) #[] #[]] 121) hJs
      obtain ⟨fn, tmps, assign, body, hy, hR⟩ := hY _ (ruleAt k) _ hJa (by rw [upto_length]; exact hlt)
      have hkz : (k : Int) < 6 := by omega
      gi_wp2
      refine hR.mono ?_
      have hnx' : Below n₀ W (wr.alloc (.cells #[.int .i64 (((ruleAt k).val : Int) + 1), .func (.func (ruleFn (ruleAt k).val)) #[] #[]] 121)) := hnx.alloc hsz _
      rintro e W3 (⟨rfl, hJ3, hk3⟩ | ⟨rfl, hJx3⟩)
      · gi_wp2
        go_roundw
        case rel => exact ⟨k + 1, by omega, by simp, by rw [upto_succ]; exact hJ3, hnx'.trans hk3⟩
        case measure => simp [intOf]; omega
      · gi_wp2
        refine bodyPost_ret (results_none rfl _ _ _) rfl ?_
        exact ⟨⟨_, rfl⟩, .inr ⟨_, ⟨k + 1, by omega, (upto_succ _ _).symm⟩, hJx3⟩⟩
    · obtain rfl : k = 6 := by omega
      gi_wp2
      go_end0
      exact ⟨⟨_, rfl⟩, .inl ⟨_, rfl, hJs⟩⟩

theorem values_stops (F : Fence) (n : Nat) (h7 : F.fn 97) (hro : F.round = none) (hn : 1 ≤ n) (Bs n₀ b off cap : Nat) (w : World) (hBs : Bs < w.heap.size) (hn₀ : n₀ ≤ w.heap.size)
    (hc : w.cell? ⟨Bs, 0, none⟩ = some (.slice (some ⟨b, off, none⟩) 6 cap)) (hI : RulesLie n₀ w b off) :
    SeqStopsK F n Tryz.prog 97 #[.pointer (some ⟨Bs, 0, none⟩)] (fun x : Fin 6 => #[Value.agg #[.int .i64 ((x.val : Int) + 1), .func (.func (ruleFn x.val)) #[] #[]]]) (Below n₀) (fun ys => ys = upto ruleAt 6) (fun pre => ∃ k, k ≤ 6 ∧ pre = upto ruleAt k) 6 w := fun l J Jx W hW hJ _ hY h0 => by
  have hc' := (hW.cell (p := ⟨Bs, 0, none⟩) hBs).trans hc
  exact values1_in F n h7 hro hn l Bs n₀ b off cap J Jx hY (fun s A o h => hJ s A _ none h (World.grownBy_alloc A o none) (by simp)) W (Nat.le_trans hn₀ hW.size) hc' (hI.below (hW.mono hn₀)) h0

set_option maxHeartbeats 1000000 in
theorem values_calls (a : Option Addr) (len cap : Nat) (w : World) :
    Calls Tryz.prog 64 #[.slice a len cap] w fun e w' => e = .returned (.func (.func 97) #[] #[.pointer (some ⟨w.heap.size, 0, none⟩)]) ∧ w' = w.alloc (.cells #[.slice a len cap] 117) := by
  go_enter Tryz.func64, Tryz.ntmps64
  go_wp2
  go_ret
  exact ⟨rfl, rfl⟩

set_option maxHeartbeats 1000000 in
theorem rules_calls (w : World) :
    Calls Tryz.prog 60 #[] w fun e w' => e = .returned (.slice (some ⟨w.heap.size, 0, none⟩) 6 6) ∧ Below w.heap.size w w' ∧ RulesLie w'.heap.size w' w.heap.size 0 := by
  go_enter Tryz.func60, Tryz.ntmps60
  go_wp2
  go_ret
  refine ⟨rfl, (Below.refl _ w).alloc (Nat.le_refl _) _, by simp, fun k hk => ?_⟩
  match k, hk with
  | 0, _ => exact ⟨by simp [ruleAt], by simp [ruleAt, ruleFn]⟩
  | 1, _ => exact ⟨by simp [ruleAt], by simp [ruleAt, ruleFn]⟩
  | 2, _ => exact ⟨by simp [ruleAt], by simp [ruleAt, ruleFn]⟩
  | 3, _ => exact ⟨by simp [ruleAt]; rfl, by simp [ruleAt, ruleFn]; rfl⟩
  | 4, _ => exact ⟨by simp [ruleAt]; rfl, by simp [ruleAt, ruleFn]; rfl⟩
  | 5, _ => exact ⟨by simp [ruleAt]; rfl, by simp [ruleAt, ruleFn]⟩
  | k + 6, h => omega
end Go.Proofs.YtnoofdjlocadbaaGreatDoor

/-! The first rule that is wanted. -/
namespace Go.Proofs.YtnoofdjlocadbaaGreatDoor
open Go.RowKit Go.Shelf

attribute [local go_sem] Oper.semAt_some

/-- A block that is known whole. -/
def Blk (w : World) (g : Nat) (t : TypeId) (cs : Array Value) : Prop := w.heap[g]? = some (.cells cs t (0, 0))

section
variable {w w' : World} {g : Nat} {t : TypeId} {cs : Array Value}
theorem Blk.lt (h : Blk w g t cs) : g < w.heap.size := by
  rcases Nat.lt_or_ge g w.heap.size with hlt | hge
  · exact hlt
  · unfold Blk at h; rw [Array.getElem?_eq_none hge] at h; cases h
theorem Blk.cell (h : Blk w g t cs) (i : Nat) : w.cell? ⟨g, i, none⟩ = cs[i]? := cell_of_row w g i cs t (0, 0) h
theorem Blk.frozen (h : Blk w g t cs) (i : Nat) : w.frozen? ⟨g, i, none⟩ = false := by
  unfold Blk at h
  simp [World.frozen?, h]
theorem Blk.new (w : World) (t : TypeId) (cs : Array Value) : Blk (w.alloc (.cells cs t)) w.heap.size t cs := heap_alloc_new w _
theorem Blk.alloc (h : Blk w g t cs) (o : Obj) : Blk (w.alloc o) g t cs := (Below.heap_alloc w o g h.lt).trans h
theorem Blk.set_ (h : Blk w g t cs) (i : Nat) (u : Value) : Blk (w.setCell ⟨g, i, none⟩ u) g t (cs.setIfInBounds i u) := by
  unfold Blk at h ⊢
  simp [World.setCell, Array.getElem?_modify, h]
theorem Blk.far (h : Blk w g t cs) {p : Addr} (hp : g ≠ p.block) (u : Value) : Blk (w.setCell p u) g t cs := (Below.heap_setCell w p u g hp).trans h
theorem Blk.below {B : Nat} (h : Blk w g t cs) (hb : Below B w w') (hg : g < B) : Blk w' g t cs := (hb.block g hg).trans h
end

theorem blk_own {β : Type} (B : Nat) (t : TypeId) (f : β → Array Value) : Own (fun s W => Blk W B t (f s)) := fun s X Y row hs hg hrow =>
  (hg.block B (Blk.lt hs) (fun e' => by
    obtain ⟨o, ho, hc⟩ := hrow B e'.symm
    rw [show X.heap[B]? = _ from hs] at ho
    cases ho
    cases hc)).trans hs

theorem Blk.putObj {w : World} {g : Nat} {t : TypeId} {cs : Array Value} (h : Blk w g t cs) {D : Nat} (hD : g ≠ D) (o : Obj) : Blk (w.putObj D o) g t cs := (World.putObj_heap_other hD).trans h

theorem results_cell_cell {P : Program} {fn : Func} {p q : Tmp} {ty t2 : TypeId} (h : fn.results = #[.cell p ty, .cell q t2]) (tmps : Array Value) (w : World) (g g2 : Nat) (t t3 : TypeId) (cs : Array Value) (d : TypeDesc) (b : Bool)
    (hp : tmps.getD p undef = .pointer (some ⟨g, 0, none⟩)) (hg : Blk w g t cs)
    (hu : P.underlying ty = some d) (hd : (match d with | .struct _ | .array _ _ => true | _ => false) = true) (hi : (P.info? ty).map (·.size) = some cs.size)
    (hq : tmps.getD q undef = .pointer (some ⟨g2, 0, none⟩)) (hg2 : Blk w g2 t3 #[.bool b]) (hu2 : P.underlying t2 = some .bool) :
    (results fn tmps).run P w = .ok (.tuple #[.agg cs, .bool b]) w := by
  have h1 := run_loadVar_row (P := P) w g t ty cs (0, 0) d hg hu hd hi
  have h2 : (loadVar t2 ⟨g2, 0, none⟩).run P w = .ok (.bool b) w := by
    have hc := hg2.cell 0
    simp at hc
    simp [loadVar, isAgg, Sem.run_bind, run_underlying hu2, Result.andThen]
    go_simp
  have hp' : tmps[p]?.getD undef = .pointer (some ⟨g, 0, none⟩) := by simpa using hp
  have hq' : tmps[q]?.getD undef = .pointer (some ⟨g2, 0, none⟩) := by simpa using hq
  simp only [results, h]
  simp [Sem.run_bind, hp', hq', asAddr, h1, h2, Result.andThen]

theorem size_rule : (Tryz.prog.info? 121).map (·.size) = some 2 := by kernel_rfl

/-- The first place at which p holds. -/
def firstPlace (p : Fin 6 → Bool) : Option (Fin 6) := (upto ruleAt 6).find? p
/-- What the search hands back. -/
def foundVal (r : Option (Fin 6)) : Value :=
  match r with
  | some x => .tuple #[.agg #[.int .i64 ((x.val : Int) + 1), .func (.func (ruleFn x.val)) #[] #[]], .bool true]
  | none => .tuple #[.agg #[.int .i64 0, .nilFunc], .bool false]

set_option maxRecDepth 100000 in
set_option maxHeartbeats 2000000 in
theorem firstOf_broken (Bs Bq b off cap : Nat) (p : Fin 6 → Bool) (w : World) (hBs : Bs < w.heap.size)
    (hc : w.cell? ⟨Bs, 0, none⟩ = some (.slice (some ⟨b, off, none⟩) 6 cap)) (hI : RulesLie w.heap.size w b off)
    (hW : ∀ (x : Fin 6) (W : World), Below w.heap.size w W → Calls Tryz.prog 61 #[.agg #[.int .i64 ((x.val : Int) + 1), .func (.func (ruleFn x.val)) #[] #[]], .pointer (some ⟨Bq, 0, none⟩)] W fun e W' => e = .returned (.bool (p x)) ∧ Below W.heap.size W W') :
    Calls Tryz.prog 63 #[.func (.func 97) #[] #[.pointer (some ⟨Bs, 0, none⟩)], .func (.func 61) #[] #[.pointer (some ⟨Bq, 0, none⟩)]] w fun e w' => e = .returned (foundVal (firstPlace p)) ∧ Below w.heap.size w w' := by
  refine (callsIn_wide (n := 6)).1 ?_
  have hro : Fence.wide.round = none := rfl
  refine callsIn_of_wp_marks Tryz.func63 rfl trivial ?_ hro
  simp only [Tryz.ntmps63, List.size_toArray, List.length_cons, List.length_nil, Nat.reduceAdd, Nat.reduceSub, Array.replicate_succ, Array.replicate_zero, List.push_toArray, List.append_toArray, List.nil_append, List.cons_append]
  gi_wp2
  have b3 := ((Blk.new w 122 #[.func (.func 61) #[] #[.pointer (some ⟨Bq, 0, none⟩)]]).alloc (.cells #[.int .i64 0, .nilFunc] 121)).alloc (.cells #[.bool false] 4)
  have b4 := (Blk.new (w.alloc (.cells #[.func (.func 61) #[] #[.pointer (some ⟨Bq, 0, none⟩)]] 122)) 121 #[.int .i64 0, .nilFunc]).alloc (.cells #[.bool false] 4)
  have b5 := Blk.new ((w.alloc (.cells #[.func (.func 61) #[] #[.pointer (some ⟨Bq, 0, none⟩)]] 122)).alloc (.cells #[.int .i64 0, .nilFunc] 121)) 4 #[.bool false]
  simp only [World.size_alloc] at b4 b5
  have hB0 : Below w.heap.size w (((w.alloc (.cells #[.func (.func 61) #[] #[.pointer (some ⟨Bq, 0, none⟩)]] 122)).alloc (.cells #[.int .i64 0, .nilFunc] 121)).alloc (.cells #[.bool false] 4)) := (((Below.refl _ w).alloc (Nat.le_refl _) _).alloc (by simp) _).alloc (by simp; omega) _
  have hsz : (((w.alloc (.cells #[.func (.func 61) #[] #[.pointer (some ⟨Bq, 0, none⟩)]] 122)).alloc (.cells #[.int .i64 0, .nilFunc] 121)).alloc (.cells #[.bool false] 4)).heap.size = w.heap.size + 3 := by simp
  obtain ⟨W0, hW0⟩ : ∃ W0, ((w.alloc (.cells #[.func (.func 61) #[] #[.pointer (some ⟨Bq, 0, none⟩)]] 122)).alloc (.cells #[.int .i64 0, .nilFunc] 121)).alloc (.cells #[.bool false] 4) = W0 := ⟨_, rfl⟩
  rw [hW0] at b3 b4 b5 hB0 hsz ⊢
  clear hW0
  refine wpIn_rangeFunc_ownH hro (by omega) (gf := 97) (lb := #[.pointer (some ⟨Bs, 0, none⟩)]) rfl trivial (enters_of Tryz.func97 (by kernel_rfl) rfl)
    (values_stops Fence.wide 5 trivial hro (by omega) Bs w.heap.size b off cap W0 (by omega) (by omega) ((hB0.cell (p := ⟨Bs, 0, none⟩) hBs).trans hc) (hI.below hB0)) belowK_t (belowK_b (by omega)) (Below.refl _ _) (fun _ => rfl)
    (fun pre W => ((Blk W w.heap.size 122 #[.func (.func 61) #[] #[.pointer (some ⟨Bq, 0, none⟩)]] ∧ Blk W (w.heap.size + 1) 121 #[.int .i64 0, .nilFunc]) ∧ Blk W (w.heap.size + 1 + 1) 4 #[.bool false]) ∧ (Below w.heap.size w W ∧ ∀ x ∈ pre, p x = false))
    (fun c pre W => (Blk W (w.heap.size + 1) 121 #[.int .i64 ((((pre.getLastD 0).val : Nat) : Int) + 1), .func (.func (ruleFn (pre.getLastD 0).val)) #[] #[]] ∧ Blk W (w.heap.size + 1 + 1) 4 #[.bool true]) ∧ (Below w.heap.size w W ∧ (c = .ret ∧ pre.find? p = some (pre.getLastD 0))))
    (OwnFrom.and (OwnFrom.and (OwnFrom.and (Own.from (blk_own _ _ _) _) (Own.from (blk_own _ _ _) _)) (Own.from (blk_own _ _ _) _)) (OwnFrom.and (ownFrom_below (Nat.le_refl _) (by omega)) (ownFrom_pure _ _)))
    (fun c => OwnFrom.and (OwnFrom.and (Own.from (blk_own _ _ (fun pre : List (Fin 6) => #[.int .i64 ((((pre.getLastD 0).val : Nat) : Int) + 1), .func (.func (ruleFn (pre.getLastD 0).val)) #[] #[]])) _) (Own.from (blk_own _ _ _) _)) (OwnFrom.and (ownFrom_below (Nat.le_refl _) (by omega)) (ownFrom_pure _ _)))
    ⟨⟨⟨b3, b4⟩, b5⟩, hB0, fun x hx => by cases hx⟩
    (fun x a' W => ∃ Bx, w.heap.size + 1 + 1 < Bx ∧ Blk W Bx 121 #[.int .i64 ((x.val : Int) + 1), .func (.func (ruleFn x.val)) #[] #[]] ∧ a' = { tmps := #[.func (.func 97) #[] #[.pointer (some ⟨Bs, 0, none⟩)], .func (.func 61) #[] #[.pointer (some ⟨Bq, 0, none⟩)], undef, .pointer (some ⟨w.heap.size, 0, none⟩), .pointer (some ⟨w.heap.size + 1, 0, none⟩), .pointer (some ⟨w.heap.size + 1 + 1, 0, none⟩), .pointer (some ⟨Bx, 0, none⟩), .func (.func 97) #[] #[.pointer (some ⟨Bs, 0, none⟩)], .agg #[.int .i64 ((x.val : Int) + 1), .func (.func (ruleFn x.val)) #[] #[]], undef, undef, undef, undef, undef], defers := [] })
    (fun x a' _ X Y row hs hg hr => by obtain ⟨Bx, h1, h2, h3⟩ := hs; exact ⟨Bx, h1, blk_own Bx _ (fun (_ : Unit) => _) () X Y row h2 hg (fun r e => (hr r e).2), h3⟩)
    ?assign ?body ?done ?stop
  case assign =>
    rintro l pre x W K ⟨⟨⟨c3, c4⟩, c5⟩, hB1, hp⟩ hK
    gi_wp2
    exact hK _ _ ((KeepsOthers.alloc _ _).from _) ((Below.refl _ W).alloc hB1.size _) ⟨⟨⟨c3.alloc _, c4.alloc _⟩, c5.alloc _⟩, hB1.alloc hB1.size _, hp⟩ ⟨W.heap.size, c5.lt, Blk.new W _ _, rfl⟩
  case body =>
    rintro l pre x a' W hl ⟨r, hr⟩ ⟨⟨⟨c3, c4⟩, c5⟩, hB1, hp⟩ ⟨Bx, hBx, bX, rfl⟩ hlt
    have d3 : W.cell? ⟨w.heap.size, 0, none⟩ = some (.func (.func 61) #[] #[.pointer (some ⟨Bq, 0, none⟩)]) := c3.cell 0
    have dx0 : W.cell? ⟨Bx, 0, none⟩ = some (.int .i64 ((x.val : Int) + 1)) := bX.cell 0
    have dx1 : W.cell? ⟨Bx, 1, none⟩ = some (.func (.func (ruleFn x.val)) #[] #[]) := bX.cell 1
    have HW := Lib.hid (hW x W hB1)
    cases hpx : p x
    · rw [hpx] at HW
      gi_wp2_with (refine ⟨trivial, ?_⟩; gi_at_call 61; refine (CallsIn.inRound l (callsIn_wide.2 HW.out)).mono ?_; rintro e w2 ⟨rfl, hw2⟩)
      have hk : KeepsFrom W0.heap.size W w2 := ⟨hw2.size, fun k o _ hk _ => (hw2.block k (Array.getElem?_eq_some_iff.1 hk).1).trans hk⟩
      exact ⟨hk, hw2.mono hB1.size, ⟨⟨c3.below hw2 c3.lt, c4.below hw2 c4.lt⟩, c5.below hw2 c5.lt⟩, hB1.trans (hw2.mono hB1.size), fun y hy => by rcases List.mem_append.1 hy with hy | hy; exact hp y hy; rw [List.mem_singleton.1 hy]; exact hpx⟩
    · rw [hpx] at HW
      gi_wp2_with (refine ⟨trivial, ?_⟩; gi_at_call 61; refine (CallsIn.inRound l (callsIn_wide.2 HW.out)).mono ?_; rintro e w2 ⟨rfl, hw2⟩; have e0 := (bX.below hw2 bX.lt).cell 0; have e1 := (bX.below hw2 bX.lt).cell 1; have e2 := (c4.below hw2 c4.lt).cell 0; have e3 := (c4.below hw2 c4.lt).cell 1; have e4 := (c4.below hw2 c4.lt).frozen 0; have e5 := (c4.below hw2 c4.lt).frozen 1; have e6 := (c5.below hw2 c5.lt).cell 0; have e7 := (c5.below hw2 c5.lt).frozen 0; simp only [List.getElem?_toArray, List.getElem?_cons_zero, List.getElem?_cons_succ] at e0 e1 e2 e3 e6)
      have hgl : (pre ++ [x]).getLastD 0 = x := by simp
      have hk : KeepsFrom W0.heap.size W w2 := ⟨hw2.size, fun k o _ hk _ => (hw2.block k (Array.getElem?_eq_some_iff.1 hk).1).trans hk⟩
      have d4 := ((((c4.below hw2 c4.lt).set_ 0 (.int .i64 ((x.val : Int) + 1))).set_ 1 (.func (.func (ruleFn x.val)) #[] #[])).far (p := ⟨w.heap.size + 1 + 1, 0, none⟩) (by simp) (.bool true))
      have d5 := ((((c5.below hw2 c5.lt).far (p := ⟨w.heap.size + 1, 0, none⟩) (by simp) (.int .i64 ((x.val : Int) + 1))).far (p := ⟨w.heap.size + 1, 1, none⟩) (by simp) (.func (.func (ruleFn x.val)) #[] #[])).set_ 0 (.bool true))
      refine ⟨hk.trans ((((KeepsOthers.setCell _ _ _).trans (KeepsOthers.setCell _ _ _)).trans (KeepsOthers.setCell _ _ _)).from _), ⟨by rw [hgl]; exact d4, d5⟩, ?_, rfl, ?_⟩
      · exact (((hB1.trans (hw2.mono hB1.size)).setCell (p := ⟨w.heap.size + 1, 0, none⟩) (by simp) _).setCell (p := ⟨w.heap.size + 1, 1, none⟩) (by simp) _).setCell (p := ⟨w.heap.size + 1 + 1, 0, none⟩) (by simp; omega) _
      · rw [hgl, List.find?_append, List.find?_eq_none.2 (fun y hy => by rw [hp y hy]; simp)]
        simp [hpx]
  case done =>
    rintro D ys W hD rfl ⟨⟨⟨c3, c4⟩, c5⟩, hB1, hp⟩ hK
    have e2 := c4.cell 0
    have e3 := c4.cell 1
    have e4 := c4.frozen 0
    have e5 := c4.frozen 1
    have e6 := c5.cell 0
    have e7 := c5.frozen 0
    simp only [List.getElem?_toArray, List.getElem?_cons_zero, List.getElem?_cons_succ] at e2 e3 e6
    have hnone : firstPlace p = none := List.find?_eq_none.2 (fun y hy => by rw [hp y hy]; simp)
    have d4 := (((c4.set_ 0 (.int .i64 0)).set_ 1 .nilFunc).far (p := ⟨w.heap.size + 1 + 1, 0, none⟩) (by simp) (.bool false))
    have d5 := (((c5.far (p := ⟨w.heap.size + 1, 0, none⟩) (by simp) (.int .i64 0)).far (p := ⟨w.heap.size + 1, 1, none⟩) (by simp) .nilFunc).set_ 0 (.bool false))
    have hB2 := ((hB1.setCell (p := ⟨w.heap.size + 1, 0, none⟩) (by simp) (.int .i64 0)).setCell (p := ⟨w.heap.size + 1, 1, none⟩) (by simp) .nilFunc).setCell (p := ⟨w.heap.size + 1 + 1, 0, none⟩) (by simp; omega) (.bool false)
    have hK2 := (Below.heap_setCell (((W.setCell ⟨w.heap.size + 1, 0, none⟩ (.int .i64 0)).setCell ⟨w.heap.size + 1, 1, none⟩ .nilFunc)) ⟨w.heap.size + 1 + 1, 0, none⟩ (.bool false) D (by simp; omega)).trans ((Below.heap_setCell (W.setCell ⟨w.heap.size + 1, 0, none⟩ (.int .i64 0)) ⟨w.heap.size + 1, 1, none⟩ .nilFunc D (by simp; omega)).trans ((Below.heap_setCell W ⟨w.heap.size + 1, 0, none⟩ (.int .i64 0) D (by simp; omega)).trans hK))
    gi_wp2
    generalize (((W.setCell ⟨w.heap.size + 1, 0, none⟩ (.int .i64 0)).setCell ⟨w.heap.size + 1, 1, none⟩ .nilFunc).setCell ⟨w.heap.size + 1 + 1, 0, none⟩ (.bool false)) = W2 at d4 d5 hB2 hK2 ⊢
    refine ⟨by simp, .inl ⟨_, _, rfl, run_takeDeferred hK2, ?_⟩⟩
    exact ⟨_, results_cell_cell rfl _ _ (w.heap.size + 1) (w.heap.size + 1 + 1) 121 4 #[.int .i64 0, .nilFunc] _ false rfl (d4.putObj (by omega) _) Tryz.underlying121 rfl size_rule rfl (d5.putObj (by omega) _) Tryz.underlying4, by rw [hnone]; rfl, hB2.trans (belowK_b (w := W0) (by omega) W2 D _ _ hD hK2 rfl rfl)⟩
  case stop =>
    rintro D c pre W hD ⟨k, hk, rfl⟩ ⟨⟨c4, c5⟩, hB1, rfl, hp⟩ hK
    have hsome : firstPlace p = some ((upto ruleAt k).getLastD 0) := by
      unfold firstPlace
      have e : upto ruleAt 6 = upto ruleAt k ++ (List.range' k (6 - k)).map ruleAt := by
        unfold upto
        rw [← List.map_append, List.range_eq_range', List.range_eq_range']
        congr 1
        have := @List.range'_append_1 0 k (6 - k)
        rw [Nat.zero_add] at this
        rw [this]
        congr 1
        omega
      rw [e, List.find?_append, hp]
      rfl
    gi_wp2
    refine ⟨by simp, .inl ⟨_, _, rfl, run_takeDeferred hK, ?_⟩⟩
    exact ⟨_, results_cell_cell rfl _ _ (w.heap.size + 1) (w.heap.size + 1 + 1) 121 4 _ _ true rfl (c4.putObj (by omega) _) Tryz.underlying121 rfl size_rule rfl (c5.putObj (by omega) _) Tryz.underlying4, by rw [hsome]; rfl, hB1.trans (belowK_b (w := W0) (by omega) W D _ _ hD hK rfl rfl)⟩
end Go.Proofs.YtnoofdjlocadbaaGreatDoor

/-! The first rule that is wanted: the second search. -/
namespace Go.Proofs.YtnoofdjlocadbaaGreatDoor
open Go.RowKit Go.Shelf

attribute [local go_sem] Oper.semAt_some

set_option maxRecDepth 100000 in
set_option maxHeartbeats 2000000 in
theorem firstOf_doubtful (Bs Bq b off cap : Nat) (p : Fin 6 → Bool) (w : World) (hBs : Bs < w.heap.size)
    (hc : w.cell? ⟨Bs, 0, none⟩ = some (.slice (some ⟨b, off, none⟩) 6 cap)) (hI : RulesLie w.heap.size w b off)
    (hW : ∀ (x : Fin 6) (W : World), Below w.heap.size w W → Calls Tryz.prog 62 #[.agg #[.int .i64 ((x.val : Int) + 1), .func (.func (ruleFn x.val)) #[] #[]], .pointer (some ⟨Bq, 0, none⟩)] W fun e W' => e = .returned (.bool (p x)) ∧ Below W.heap.size W W') :
    Calls Tryz.prog 63 #[.func (.func 97) #[] #[.pointer (some ⟨Bs, 0, none⟩)], .func (.func 62) #[] #[.pointer (some ⟨Bq, 0, none⟩)]] w fun e w' => e = .returned (foundVal (firstPlace p)) ∧ Below w.heap.size w w' := by
  refine (callsIn_wide (n := 6)).1 ?_
  have hro : Fence.wide.round = none := rfl
  refine callsIn_of_wp_marks Tryz.func63 rfl trivial ?_ hro
  simp only [Tryz.ntmps63, List.size_toArray, List.length_cons, List.length_nil, Nat.reduceAdd, Nat.reduceSub, Array.replicate_succ, Array.replicate_zero, List.push_toArray, List.append_toArray, List.nil_append, List.cons_append]
  gi_wp2
  have b3 := ((Blk.new w 122 #[.func (.func 62) #[] #[.pointer (some ⟨Bq, 0, none⟩)]]).alloc (.cells #[.int .i64 0, .nilFunc] 121)).alloc (.cells #[.bool false] 4)
  have b4 := (Blk.new (w.alloc (.cells #[.func (.func 62) #[] #[.pointer (some ⟨Bq, 0, none⟩)]] 122)) 121 #[.int .i64 0, .nilFunc]).alloc (.cells #[.bool false] 4)
  have b5 := Blk.new ((w.alloc (.cells #[.func (.func 62) #[] #[.pointer (some ⟨Bq, 0, none⟩)]] 122)).alloc (.cells #[.int .i64 0, .nilFunc] 121)) 4 #[.bool false]
  simp only [World.size_alloc] at b4 b5
  have hB0 : Below w.heap.size w (((w.alloc (.cells #[.func (.func 62) #[] #[.pointer (some ⟨Bq, 0, none⟩)]] 122)).alloc (.cells #[.int .i64 0, .nilFunc] 121)).alloc (.cells #[.bool false] 4)) := (((Below.refl _ w).alloc (Nat.le_refl _) _).alloc (by simp) _).alloc (by simp; omega) _
  have hsz : (((w.alloc (.cells #[.func (.func 62) #[] #[.pointer (some ⟨Bq, 0, none⟩)]] 122)).alloc (.cells #[.int .i64 0, .nilFunc] 121)).alloc (.cells #[.bool false] 4)).heap.size = w.heap.size + 3 := by simp
  obtain ⟨W0, hW0⟩ : ∃ W0, ((w.alloc (.cells #[.func (.func 62) #[] #[.pointer (some ⟨Bq, 0, none⟩)]] 122)).alloc (.cells #[.int .i64 0, .nilFunc] 121)).alloc (.cells #[.bool false] 4) = W0 := ⟨_, rfl⟩
  rw [hW0] at b3 b4 b5 hB0 hsz ⊢
  clear hW0
  refine wpIn_rangeFunc_ownH hro (by omega) (gf := 97) (lb := #[.pointer (some ⟨Bs, 0, none⟩)]) rfl trivial (enters_of Tryz.func97 (by kernel_rfl) rfl)
    (values_stops Fence.wide 5 trivial hro (by omega) Bs w.heap.size b off cap W0 (by omega) (by omega) ((hB0.cell (p := ⟨Bs, 0, none⟩) hBs).trans hc) (hI.below hB0)) belowK_t (belowK_b (by omega)) (Below.refl _ _) (fun _ => rfl)
    (fun pre W => ((Blk W w.heap.size 122 #[.func (.func 62) #[] #[.pointer (some ⟨Bq, 0, none⟩)]] ∧ Blk W (w.heap.size + 1) 121 #[.int .i64 0, .nilFunc]) ∧ Blk W (w.heap.size + 1 + 1) 4 #[.bool false]) ∧ (Below w.heap.size w W ∧ ∀ x ∈ pre, p x = false))
    (fun c pre W => (Blk W (w.heap.size + 1) 121 #[.int .i64 ((((pre.getLastD 0).val : Nat) : Int) + 1), .func (.func (ruleFn (pre.getLastD 0).val)) #[] #[]] ∧ Blk W (w.heap.size + 1 + 1) 4 #[.bool true]) ∧ (Below w.heap.size w W ∧ (c = .ret ∧ pre.find? p = some (pre.getLastD 0))))
    (OwnFrom.and (OwnFrom.and (OwnFrom.and (Own.from (blk_own _ _ _) _) (Own.from (blk_own _ _ _) _)) (Own.from (blk_own _ _ _) _)) (OwnFrom.and (ownFrom_below (Nat.le_refl _) (by omega)) (ownFrom_pure _ _)))
    (fun c => OwnFrom.and (OwnFrom.and (Own.from (blk_own _ _ (fun pre : List (Fin 6) => #[.int .i64 ((((pre.getLastD 0).val : Nat) : Int) + 1), .func (.func (ruleFn (pre.getLastD 0).val)) #[] #[]])) _) (Own.from (blk_own _ _ _) _)) (OwnFrom.and (ownFrom_below (Nat.le_refl _) (by omega)) (ownFrom_pure _ _)))
    ⟨⟨⟨b3, b4⟩, b5⟩, hB0, fun x hx => by cases hx⟩
    (fun x a' W => ∃ Bx, w.heap.size + 1 + 1 < Bx ∧ Blk W Bx 121 #[.int .i64 ((x.val : Int) + 1), .func (.func (ruleFn x.val)) #[] #[]] ∧ a' = { tmps := #[.func (.func 97) #[] #[.pointer (some ⟨Bs, 0, none⟩)], .func (.func 62) #[] #[.pointer (some ⟨Bq, 0, none⟩)], undef, .pointer (some ⟨w.heap.size, 0, none⟩), .pointer (some ⟨w.heap.size + 1, 0, none⟩), .pointer (some ⟨w.heap.size + 1 + 1, 0, none⟩), .pointer (some ⟨Bx, 0, none⟩), .func (.func 97) #[] #[.pointer (some ⟨Bs, 0, none⟩)], .agg #[.int .i64 ((x.val : Int) + 1), .func (.func (ruleFn x.val)) #[] #[]], undef, undef, undef, undef, undef], defers := [] })
    (fun x a' _ X Y row hs hg hr => by obtain ⟨Bx, h1, h2, h3⟩ := hs; exact ⟨Bx, h1, blk_own Bx _ (fun (_ : Unit) => _) () X Y row h2 hg (fun r e => (hr r e).2), h3⟩)
    ?assign ?body ?done ?stop
  case assign =>
    rintro l pre x W K ⟨⟨⟨c3, c4⟩, c5⟩, hB1, hp⟩ hK
    gi_wp2
    exact hK _ _ ((KeepsOthers.alloc _ _).from _) ((Below.refl _ W).alloc hB1.size _) ⟨⟨⟨c3.alloc _, c4.alloc _⟩, c5.alloc _⟩, hB1.alloc hB1.size _, hp⟩ ⟨W.heap.size, c5.lt, Blk.new W _ _, rfl⟩
  case body =>
    rintro l pre x a' W hl ⟨r, hr⟩ ⟨⟨⟨c3, c4⟩, c5⟩, hB1, hp⟩ ⟨Bx, hBx, bX, rfl⟩ hlt
    have d3 : W.cell? ⟨w.heap.size, 0, none⟩ = some (.func (.func 62) #[] #[.pointer (some ⟨Bq, 0, none⟩)]) := c3.cell 0
    have dx0 : W.cell? ⟨Bx, 0, none⟩ = some (.int .i64 ((x.val : Int) + 1)) := bX.cell 0
    have dx1 : W.cell? ⟨Bx, 1, none⟩ = some (.func (.func (ruleFn x.val)) #[] #[]) := bX.cell 1
    have HW := Lib.hid (hW x W hB1)
    cases hpx : p x
    · rw [hpx] at HW
      gi_wp2_with (refine ⟨trivial, ?_⟩; gi_at_call 62; refine (CallsIn.inRound l (callsIn_wide.2 HW.out)).mono ?_; rintro e w2 ⟨rfl, hw2⟩)
      have hk : KeepsFrom W0.heap.size W w2 := ⟨hw2.size, fun k o _ hk _ => (hw2.block k (Array.getElem?_eq_some_iff.1 hk).1).trans hk⟩
      exact ⟨hk, hw2.mono hB1.size, ⟨⟨c3.below hw2 c3.lt, c4.below hw2 c4.lt⟩, c5.below hw2 c5.lt⟩, hB1.trans (hw2.mono hB1.size), fun y hy => by rcases List.mem_append.1 hy with hy | hy; exact hp y hy; rw [List.mem_singleton.1 hy]; exact hpx⟩
    · rw [hpx] at HW
      gi_wp2_with (refine ⟨trivial, ?_⟩; gi_at_call 62; refine (CallsIn.inRound l (callsIn_wide.2 HW.out)).mono ?_; rintro e w2 ⟨rfl, hw2⟩; have e0 := (bX.below hw2 bX.lt).cell 0; have e1 := (bX.below hw2 bX.lt).cell 1; have e2 := (c4.below hw2 c4.lt).cell 0; have e3 := (c4.below hw2 c4.lt).cell 1; have e4 := (c4.below hw2 c4.lt).frozen 0; have e5 := (c4.below hw2 c4.lt).frozen 1; have e6 := (c5.below hw2 c5.lt).cell 0; have e7 := (c5.below hw2 c5.lt).frozen 0; simp only [List.getElem?_toArray, List.getElem?_cons_zero, List.getElem?_cons_succ] at e0 e1 e2 e3 e6)
      have hgl : (pre ++ [x]).getLastD 0 = x := by simp
      have hk : KeepsFrom W0.heap.size W w2 := ⟨hw2.size, fun k o _ hk _ => (hw2.block k (Array.getElem?_eq_some_iff.1 hk).1).trans hk⟩
      have d4 := ((((c4.below hw2 c4.lt).set_ 0 (.int .i64 ((x.val : Int) + 1))).set_ 1 (.func (.func (ruleFn x.val)) #[] #[])).far (p := ⟨w.heap.size + 1 + 1, 0, none⟩) (by simp) (.bool true))
      have d5 := ((((c5.below hw2 c5.lt).far (p := ⟨w.heap.size + 1, 0, none⟩) (by simp) (.int .i64 ((x.val : Int) + 1))).far (p := ⟨w.heap.size + 1, 1, none⟩) (by simp) (.func (.func (ruleFn x.val)) #[] #[])).set_ 0 (.bool true))
      refine ⟨hk.trans ((((KeepsOthers.setCell _ _ _).trans (KeepsOthers.setCell _ _ _)).trans (KeepsOthers.setCell _ _ _)).from _), ⟨by rw [hgl]; exact d4, d5⟩, ?_, rfl, ?_⟩
      · exact (((hB1.trans (hw2.mono hB1.size)).setCell (p := ⟨w.heap.size + 1, 0, none⟩) (by simp) _).setCell (p := ⟨w.heap.size + 1, 1, none⟩) (by simp) _).setCell (p := ⟨w.heap.size + 1 + 1, 0, none⟩) (by simp; omega) _
      · rw [hgl, List.find?_append, List.find?_eq_none.2 (fun y hy => by rw [hp y hy]; simp)]
        simp [hpx]
  case done =>
    rintro D ys W hD rfl ⟨⟨⟨c3, c4⟩, c5⟩, hB1, hp⟩ hK
    have e2 := c4.cell 0
    have e3 := c4.cell 1
    have e4 := c4.frozen 0
    have e5 := c4.frozen 1
    have e6 := c5.cell 0
    have e7 := c5.frozen 0
    simp only [List.getElem?_toArray, List.getElem?_cons_zero, List.getElem?_cons_succ] at e2 e3 e6
    have hnone : firstPlace p = none := List.find?_eq_none.2 (fun y hy => by rw [hp y hy]; simp)
    have d4 := (((c4.set_ 0 (.int .i64 0)).set_ 1 .nilFunc).far (p := ⟨w.heap.size + 1 + 1, 0, none⟩) (by simp) (.bool false))
    have d5 := (((c5.far (p := ⟨w.heap.size + 1, 0, none⟩) (by simp) (.int .i64 0)).far (p := ⟨w.heap.size + 1, 1, none⟩) (by simp) .nilFunc).set_ 0 (.bool false))
    have hB2 := ((hB1.setCell (p := ⟨w.heap.size + 1, 0, none⟩) (by simp) (.int .i64 0)).setCell (p := ⟨w.heap.size + 1, 1, none⟩) (by simp) .nilFunc).setCell (p := ⟨w.heap.size + 1 + 1, 0, none⟩) (by simp; omega) (.bool false)
    have hK2 := (Below.heap_setCell (((W.setCell ⟨w.heap.size + 1, 0, none⟩ (.int .i64 0)).setCell ⟨w.heap.size + 1, 1, none⟩ .nilFunc)) ⟨w.heap.size + 1 + 1, 0, none⟩ (.bool false) D (by simp; omega)).trans ((Below.heap_setCell (W.setCell ⟨w.heap.size + 1, 0, none⟩ (.int .i64 0)) ⟨w.heap.size + 1, 1, none⟩ .nilFunc D (by simp; omega)).trans ((Below.heap_setCell W ⟨w.heap.size + 1, 0, none⟩ (.int .i64 0) D (by simp; omega)).trans hK))
    gi_wp2
    generalize (((W.setCell ⟨w.heap.size + 1, 0, none⟩ (.int .i64 0)).setCell ⟨w.heap.size + 1, 1, none⟩ .nilFunc).setCell ⟨w.heap.size + 1 + 1, 0, none⟩ (.bool false)) = W2 at d4 d5 hB2 hK2 ⊢
    refine ⟨by simp, .inl ⟨_, _, rfl, run_takeDeferred hK2, ?_⟩⟩
    exact ⟨_, results_cell_cell rfl _ _ (w.heap.size + 1) (w.heap.size + 1 + 1) 121 4 #[.int .i64 0, .nilFunc] _ false rfl (d4.putObj (by omega) _) Tryz.underlying121 rfl size_rule rfl (d5.putObj (by omega) _) Tryz.underlying4, by rw [hnone]; rfl, hB2.trans (belowK_b (w := W0) (by omega) W2 D _ _ hD hK2 rfl rfl)⟩
  case stop =>
    rintro D c pre W hD ⟨k, hk, rfl⟩ ⟨⟨c4, c5⟩, hB1, rfl, hp⟩ hK
    have hsome : firstPlace p = some ((upto ruleAt k).getLastD 0) := by
      unfold firstPlace
      have e : upto ruleAt 6 = upto ruleAt k ++ (List.range' k (6 - k)).map ruleAt := by
        unfold upto
        rw [← List.map_append, List.range_eq_range', List.range_eq_range']
        congr 1
        have := @List.range'_append_1 0 k (6 - k)
        rw [Nat.zero_add] at this
        rw [this]
        congr 1
        omega
      rw [e, List.find?_append, hp]
      rfl
    gi_wp2
    refine ⟨by simp, .inl ⟨_, _, rfl, run_takeDeferred hK, ?_⟩⟩
    exact ⟨_, results_cell_cell rfl _ _ (w.heap.size + 1) (w.heap.size + 1 + 1) 121 4 _ _ true rfl (c4.putObj (by omega) _) Tryz.underlying121 rfl size_rule rfl (c5.putObj (by omega) _) Tryz.underlying4, by rw [hsome]; rfl, hB1.trans (belowK_b (w := W0) (by omega) W D _ _ hD hK rfl rfl)⟩
end Go.Proofs.YtnoofdjlocadbaaGreatDoor

/-! The two searches' closures: is a rule's judgement this one? -/
namespace Go.Proofs.YtnoofdjlocadbaaGreatDoor
open Go.RowKit Go.Shelf

/-- What the judgement at a place says, whatever world it is asked in behind w. -/
def JudgeSays (age rest girth f0 f1 f2 heal : Int) (code : ByteArray) (bmin bmax taped gmin gmax wmin wmax : Int) (sa : Option Addr) (sn sc : Nat) (wa : Option Addr) (wn wc : Nat) (dead : Int) (year height : Int) (k : Nat) (v : Int) (w : World) : Prop := ∀ W : World, Below w.heap.size w W → Calls Tryz.prog (ruleFn k) #[.agg #[.int .i64 age, .int .i64 rest, .int .i64 girth, .int .i64 f0, .int .i64 f1, .int .i64 f2, .int .i64 heal, .string code, .int .i64 bmin, .int .i64 bmax, .int .i64 taped, .int .i64 gmin, .int .i64 gmax, .int .i64 wmin, .int .i64 wmax, .slice sa sn sc, .slice wa wn wc, .int .i64 dead, .int .i64 year, .int .i64 height]] W fun e w' => e = .returned (.int .i64 v) ∧ Below W.heap.size W w'

set_option maxRecDepth 100000 in
set_option maxHeartbeats 1000000 in
theorem broken_0 (age rest girth f0 f1 f2 heal : Int) (code : ByteArray) (bmin bmax taped gmin gmax wmin wmax : Int) (sa : Option Addr) (sn sc : Nat) (wa : Option Addr) (wn wc : Nat) (dead : Int) (year height : Int) (v : Int) (w W : World) (Bq : Nat) (hB : Below w.heap.size w W) (hq : Blk W Bq 81 #[.int .i64 age, .int .i64 rest, .int .i64 girth, .int .i64 f0, .int .i64 f1, .int .i64 f2, .int .i64 heal, .string code, .int .i64 bmin, .int .i64 bmax, .int .i64 taped, .int .i64 gmin, .int .i64 gmax, .int .i64 wmin, .int .i64 wmax, .slice sa sn sc, .slice wa wn wc, .int .i64 dead, .int .i64 year, .int .i64 height]) (hJ : JudgeSays age rest girth f0 f1 f2 heal code bmin bmax taped gmin gmax wmin wmax sa sn sc wa wn wc dead year height 0 v w) :
    Calls Tryz.prog 61 #[.agg #[.int .i64 1, .func (.func 91) #[] #[]], .pointer (some ⟨Bq, 0, none⟩)] W fun e w' => e = .returned (.bool (v == 2)) ∧ Below W.heap.size W w' := by
  have HJ := Lib.hid (hJ (W.alloc (.cells #[.int .i64 1, .func (.func 91) #[] #[]] 121)) (hB.alloc hB.size _))
  have HK := Lib.hid (show _ from hq.alloc (.cells #[.int .i64 1, .func (.func 91) #[] #[]] 121))
  clear hJ hq
  go_enter Tryz.func61, Tryz.ntmps61
  go_wp2_with (first | ((with_reducible refine at_load 81 (.tmp 1) ?_); go_must (refine wpList_load_row rfl 81 (.tmp 1) rfl Bq rfl 81 #[.int .i64 age, .int .i64 rest, .int .i64 girth, .int .i64 f0, .int .i64 f1, .int .i64 f2, .int .i64 heal, .string code, .int .i64 bmin, .int .i64 bmax, .int .i64 taped, .int .i64 gmin, .int .i64 gmax, .int .i64 wmin, .int .i64 wmax, .slice sa sn sc, .slice wa wn wc, .int .i64 dead, .int .i64 year, .int .i64 height] (0, 0) _ HK.out Tryz.underlying81 rfl size_question ?_)) | (go_at_call 91; refine HJ.out.mono ?_; rintro e w1 ⟨rfl, hw1⟩))
  go_ret
  exact ⟨rfl, ((Below.refl _ W).alloc (Nat.le_refl _) _).trans (hw1.mono (by simp))⟩

set_option maxRecDepth 100000 in
set_option maxHeartbeats 1000000 in
theorem broken_1 (age rest girth f0 f1 f2 heal : Int) (code : ByteArray) (bmin bmax taped gmin gmax wmin wmax : Int) (sa : Option Addr) (sn sc : Nat) (wa : Option Addr) (wn wc : Nat) (dead : Int) (year height : Int) (v : Int) (w W : World) (Bq : Nat) (hB : Below w.heap.size w W) (hq : Blk W Bq 81 #[.int .i64 age, .int .i64 rest, .int .i64 girth, .int .i64 f0, .int .i64 f1, .int .i64 f2, .int .i64 heal, .string code, .int .i64 bmin, .int .i64 bmax, .int .i64 taped, .int .i64 gmin, .int .i64 gmax, .int .i64 wmin, .int .i64 wmax, .slice sa sn sc, .slice wa wn wc, .int .i64 dead, .int .i64 year, .int .i64 height]) (hJ : JudgeSays age rest girth f0 f1 f2 heal code bmin bmax taped gmin gmax wmin wmax sa sn sc wa wn wc dead year height 1 v w) :
    Calls Tryz.prog 61 #[.agg #[.int .i64 2, .func (.func 92) #[] #[]], .pointer (some ⟨Bq, 0, none⟩)] W fun e w' => e = .returned (.bool (v == 2)) ∧ Below W.heap.size W w' := by
  have HJ := Lib.hid (hJ (W.alloc (.cells #[.int .i64 2, .func (.func 92) #[] #[]] 121)) (hB.alloc hB.size _))
  have HK := Lib.hid (show _ from hq.alloc (.cells #[.int .i64 2, .func (.func 92) #[] #[]] 121))
  clear hJ hq
  go_enter Tryz.func61, Tryz.ntmps61
  go_wp2_with (first | ((with_reducible refine at_load 81 (.tmp 1) ?_); go_must (refine wpList_load_row rfl 81 (.tmp 1) rfl Bq rfl 81 #[.int .i64 age, .int .i64 rest, .int .i64 girth, .int .i64 f0, .int .i64 f1, .int .i64 f2, .int .i64 heal, .string code, .int .i64 bmin, .int .i64 bmax, .int .i64 taped, .int .i64 gmin, .int .i64 gmax, .int .i64 wmin, .int .i64 wmax, .slice sa sn sc, .slice wa wn wc, .int .i64 dead, .int .i64 year, .int .i64 height] (0, 0) _ HK.out Tryz.underlying81 rfl size_question ?_)) | (go_at_call 92; refine HJ.out.mono ?_; rintro e w1 ⟨rfl, hw1⟩))
  go_ret
  exact ⟨rfl, ((Below.refl _ W).alloc (Nat.le_refl _) _).trans (hw1.mono (by simp))⟩

set_option maxRecDepth 100000 in
set_option maxHeartbeats 1000000 in
theorem broken_2 (age rest girth f0 f1 f2 heal : Int) (code : ByteArray) (bmin bmax taped gmin gmax wmin wmax : Int) (sa : Option Addr) (sn sc : Nat) (wa : Option Addr) (wn wc : Nat) (dead : Int) (year height : Int) (v : Int) (w W : World) (Bq : Nat) (hB : Below w.heap.size w W) (hq : Blk W Bq 81 #[.int .i64 age, .int .i64 rest, .int .i64 girth, .int .i64 f0, .int .i64 f1, .int .i64 f2, .int .i64 heal, .string code, .int .i64 bmin, .int .i64 bmax, .int .i64 taped, .int .i64 gmin, .int .i64 gmax, .int .i64 wmin, .int .i64 wmax, .slice sa sn sc, .slice wa wn wc, .int .i64 dead, .int .i64 year, .int .i64 height]) (hJ : JudgeSays age rest girth f0 f1 f2 heal code bmin bmax taped gmin gmax wmin wmax sa sn sc wa wn wc dead year height 2 v w) :
    Calls Tryz.prog 61 #[.agg #[.int .i64 3, .func (.func 93) #[] #[]], .pointer (some ⟨Bq, 0, none⟩)] W fun e w' => e = .returned (.bool (v == 2)) ∧ Below W.heap.size W w' := by
  have HJ := Lib.hid (hJ (W.alloc (.cells #[.int .i64 3, .func (.func 93) #[] #[]] 121)) (hB.alloc hB.size _))
  have HK := Lib.hid (show _ from hq.alloc (.cells #[.int .i64 3, .func (.func 93) #[] #[]] 121))
  clear hJ hq
  go_enter Tryz.func61, Tryz.ntmps61
  go_wp2_with (first | ((with_reducible refine at_load 81 (.tmp 1) ?_); go_must (refine wpList_load_row rfl 81 (.tmp 1) rfl Bq rfl 81 #[.int .i64 age, .int .i64 rest, .int .i64 girth, .int .i64 f0, .int .i64 f1, .int .i64 f2, .int .i64 heal, .string code, .int .i64 bmin, .int .i64 bmax, .int .i64 taped, .int .i64 gmin, .int .i64 gmax, .int .i64 wmin, .int .i64 wmax, .slice sa sn sc, .slice wa wn wc, .int .i64 dead, .int .i64 year, .int .i64 height] (0, 0) _ HK.out Tryz.underlying81 rfl size_question ?_)) | (go_at_call 93; refine HJ.out.mono ?_; rintro e w1 ⟨rfl, hw1⟩))
  go_ret
  exact ⟨rfl, ((Below.refl _ W).alloc (Nat.le_refl _) _).trans (hw1.mono (by simp))⟩

set_option maxRecDepth 100000 in
set_option maxHeartbeats 1000000 in
theorem broken_3 (age rest girth f0 f1 f2 heal : Int) (code : ByteArray) (bmin bmax taped gmin gmax wmin wmax : Int) (sa : Option Addr) (sn sc : Nat) (wa : Option Addr) (wn wc : Nat) (dead : Int) (year height : Int) (v : Int) (w W : World) (Bq : Nat) (hB : Below w.heap.size w W) (hq : Blk W Bq 81 #[.int .i64 age, .int .i64 rest, .int .i64 girth, .int .i64 f0, .int .i64 f1, .int .i64 f2, .int .i64 heal, .string code, .int .i64 bmin, .int .i64 bmax, .int .i64 taped, .int .i64 gmin, .int .i64 gmax, .int .i64 wmin, .int .i64 wmax, .slice sa sn sc, .slice wa wn wc, .int .i64 dead, .int .i64 year, .int .i64 height]) (hJ : JudgeSays age rest girth f0 f1 f2 heal code bmin bmax taped gmin gmax wmin wmax sa sn sc wa wn wc dead year height 3 v w) :
    Calls Tryz.prog 61 #[.agg #[.int .i64 4, .func (.func 94) #[] #[]], .pointer (some ⟨Bq, 0, none⟩)] W fun e w' => e = .returned (.bool (v == 2)) ∧ Below W.heap.size W w' := by
  have HJ := Lib.hid (hJ (W.alloc (.cells #[.int .i64 4, .func (.func 94) #[] #[]] 121)) (hB.alloc hB.size _))
  have HK := Lib.hid (show _ from hq.alloc (.cells #[.int .i64 4, .func (.func 94) #[] #[]] 121))
  clear hJ hq
  go_enter Tryz.func61, Tryz.ntmps61
  go_wp2_with (first | ((with_reducible refine at_load 81 (.tmp 1) ?_); go_must (refine wpList_load_row rfl 81 (.tmp 1) rfl Bq rfl 81 #[.int .i64 age, .int .i64 rest, .int .i64 girth, .int .i64 f0, .int .i64 f1, .int .i64 f2, .int .i64 heal, .string code, .int .i64 bmin, .int .i64 bmax, .int .i64 taped, .int .i64 gmin, .int .i64 gmax, .int .i64 wmin, .int .i64 wmax, .slice sa sn sc, .slice wa wn wc, .int .i64 dead, .int .i64 year, .int .i64 height] (0, 0) _ HK.out Tryz.underlying81 rfl size_question ?_)) | (go_at_call 94; refine HJ.out.mono ?_; rintro e w1 ⟨rfl, hw1⟩))
  go_ret
  exact ⟨rfl, ((Below.refl _ W).alloc (Nat.le_refl _) _).trans (hw1.mono (by simp))⟩

set_option maxRecDepth 100000 in
set_option maxHeartbeats 1000000 in
theorem broken_4 (age rest girth f0 f1 f2 heal : Int) (code : ByteArray) (bmin bmax taped gmin gmax wmin wmax : Int) (sa : Option Addr) (sn sc : Nat) (wa : Option Addr) (wn wc : Nat) (dead : Int) (year height : Int) (v : Int) (w W : World) (Bq : Nat) (hB : Below w.heap.size w W) (hq : Blk W Bq 81 #[.int .i64 age, .int .i64 rest, .int .i64 girth, .int .i64 f0, .int .i64 f1, .int .i64 f2, .int .i64 heal, .string code, .int .i64 bmin, .int .i64 bmax, .int .i64 taped, .int .i64 gmin, .int .i64 gmax, .int .i64 wmin, .int .i64 wmax, .slice sa sn sc, .slice wa wn wc, .int .i64 dead, .int .i64 year, .int .i64 height]) (hJ : JudgeSays age rest girth f0 f1 f2 heal code bmin bmax taped gmin gmax wmin wmax sa sn sc wa wn wc dead year height 4 v w) :
    Calls Tryz.prog 61 #[.agg #[.int .i64 5, .func (.func 95) #[] #[]], .pointer (some ⟨Bq, 0, none⟩)] W fun e w' => e = .returned (.bool (v == 2)) ∧ Below W.heap.size W w' := by
  have HJ := Lib.hid (hJ (W.alloc (.cells #[.int .i64 5, .func (.func 95) #[] #[]] 121)) (hB.alloc hB.size _))
  have HK := Lib.hid (show _ from hq.alloc (.cells #[.int .i64 5, .func (.func 95) #[] #[]] 121))
  clear hJ hq
  go_enter Tryz.func61, Tryz.ntmps61
  go_wp2_with (first | ((with_reducible refine at_load 81 (.tmp 1) ?_); go_must (refine wpList_load_row rfl 81 (.tmp 1) rfl Bq rfl 81 #[.int .i64 age, .int .i64 rest, .int .i64 girth, .int .i64 f0, .int .i64 f1, .int .i64 f2, .int .i64 heal, .string code, .int .i64 bmin, .int .i64 bmax, .int .i64 taped, .int .i64 gmin, .int .i64 gmax, .int .i64 wmin, .int .i64 wmax, .slice sa sn sc, .slice wa wn wc, .int .i64 dead, .int .i64 year, .int .i64 height] (0, 0) _ HK.out Tryz.underlying81 rfl size_question ?_)) | (go_at_call 95; refine HJ.out.mono ?_; rintro e w1 ⟨rfl, hw1⟩))
  go_ret
  exact ⟨rfl, ((Below.refl _ W).alloc (Nat.le_refl _) _).trans (hw1.mono (by simp))⟩

set_option maxRecDepth 100000 in
set_option maxHeartbeats 1000000 in
theorem broken_5 (age rest girth f0 f1 f2 heal : Int) (code : ByteArray) (bmin bmax taped gmin gmax wmin wmax : Int) (sa : Option Addr) (sn sc : Nat) (wa : Option Addr) (wn wc : Nat) (dead : Int) (year height : Int) (v : Int) (w W : World) (Bq : Nat) (hB : Below w.heap.size w W) (hq : Blk W Bq 81 #[.int .i64 age, .int .i64 rest, .int .i64 girth, .int .i64 f0, .int .i64 f1, .int .i64 f2, .int .i64 heal, .string code, .int .i64 bmin, .int .i64 bmax, .int .i64 taped, .int .i64 gmin, .int .i64 gmax, .int .i64 wmin, .int .i64 wmax, .slice sa sn sc, .slice wa wn wc, .int .i64 dead, .int .i64 year, .int .i64 height]) (hJ : JudgeSays age rest girth f0 f1 f2 heal code bmin bmax taped gmin gmax wmin wmax sa sn sc wa wn wc dead year height 5 v w) :
    Calls Tryz.prog 61 #[.agg #[.int .i64 6, .func (.func 96) #[] #[]], .pointer (some ⟨Bq, 0, none⟩)] W fun e w' => e = .returned (.bool (v == 2)) ∧ Below W.heap.size W w' := by
  have HJ := Lib.hid (hJ (W.alloc (.cells #[.int .i64 6, .func (.func 96) #[] #[]] 121)) (hB.alloc hB.size _))
  have HK := Lib.hid (show _ from hq.alloc (.cells #[.int .i64 6, .func (.func 96) #[] #[]] 121))
  clear hJ hq
  go_enter Tryz.func61, Tryz.ntmps61
  go_wp2_with (first | ((with_reducible refine at_load 81 (.tmp 1) ?_); go_must (refine wpList_load_row rfl 81 (.tmp 1) rfl Bq rfl 81 #[.int .i64 age, .int .i64 rest, .int .i64 girth, .int .i64 f0, .int .i64 f1, .int .i64 f2, .int .i64 heal, .string code, .int .i64 bmin, .int .i64 bmax, .int .i64 taped, .int .i64 gmin, .int .i64 gmax, .int .i64 wmin, .int .i64 wmax, .slice sa sn sc, .slice wa wn wc, .int .i64 dead, .int .i64 year, .int .i64 height] (0, 0) _ HK.out Tryz.underlying81 rfl size_question ?_)) | (go_at_call 96; refine HJ.out.mono ?_; rintro e w1 ⟨rfl, hw1⟩))
  go_ret
  exact ⟨rfl, ((Below.refl _ W).alloc (Nat.le_refl _) _).trans (hw1.mono (by simp))⟩

theorem broken_calls (age rest girth f0 f1 f2 heal : Int) (code : ByteArray) (bmin bmax taped gmin gmax wmin wmax : Int) (sa : Option Addr) (sn sc : Nat) (wa : Option Addr) (wn wc : Nat) (dead : Int) (year height : Int) (vs : Nat → Int) (w W : World) (Bq : Nat) (x : Fin 6) (hB : Below w.heap.size w W) (hq : Blk W Bq 81 #[.int .i64 age, .int .i64 rest, .int .i64 girth, .int .i64 f0, .int .i64 f1, .int .i64 f2, .int .i64 heal, .string code, .int .i64 bmin, .int .i64 bmax, .int .i64 taped, .int .i64 gmin, .int .i64 gmax, .int .i64 wmin, .int .i64 wmax, .slice sa sn sc, .slice wa wn wc, .int .i64 dead, .int .i64 year, .int .i64 height]) (hJ : ∀ k, k < 6 → JudgeSays age rest girth f0 f1 f2 heal code bmin bmax taped gmin gmax wmin wmax sa sn sc wa wn wc dead year height k (vs k) w) :
    Calls Tryz.prog 61 #[.agg #[.int .i64 ((x.val : Int) + 1), .func (.func (ruleFn x.val)) #[] #[]], .pointer (some ⟨Bq, 0, none⟩)] W fun e w' => e = .returned (.bool (vs x.val == 2)) ∧ Below W.heap.size W w' :=
  match x with
  | ⟨0, _⟩ => broken_0 age rest girth f0 f1 f2 heal code bmin bmax taped gmin gmax wmin wmax sa sn sc wa wn wc dead year height (vs 0) w W Bq hB hq (hJ 0 (by omega))
  | ⟨1, _⟩ => broken_1 age rest girth f0 f1 f2 heal code bmin bmax taped gmin gmax wmin wmax sa sn sc wa wn wc dead year height (vs 1) w W Bq hB hq (hJ 1 (by omega))
  | ⟨2, _⟩ => broken_2 age rest girth f0 f1 f2 heal code bmin bmax taped gmin gmax wmin wmax sa sn sc wa wn wc dead year height (vs 2) w W Bq hB hq (hJ 2 (by omega))
  | ⟨3, _⟩ => broken_3 age rest girth f0 f1 f2 heal code bmin bmax taped gmin gmax wmin wmax sa sn sc wa wn wc dead year height (vs 3) w W Bq hB hq (hJ 3 (by omega))
  | ⟨4, _⟩ => broken_4 age rest girth f0 f1 f2 heal code bmin bmax taped gmin gmax wmin wmax sa sn sc wa wn wc dead year height (vs 4) w W Bq hB hq (hJ 4 (by omega))
  | ⟨5, _⟩ => broken_5 age rest girth f0 f1 f2 heal code bmin bmax taped gmin gmax wmin wmax sa sn sc wa wn wc dead year height (vs 5) w W Bq hB hq (hJ 5 (by omega))

set_option maxRecDepth 100000 in
set_option maxHeartbeats 1000000 in
theorem doubtful_0 (age rest girth f0 f1 f2 heal : Int) (code : ByteArray) (bmin bmax taped gmin gmax wmin wmax : Int) (sa : Option Addr) (sn sc : Nat) (wa : Option Addr) (wn wc : Nat) (dead : Int) (year height : Int) (v : Int) (w W : World) (Bq : Nat) (hB : Below w.heap.size w W) (hq : Blk W Bq 81 #[.int .i64 age, .int .i64 rest, .int .i64 girth, .int .i64 f0, .int .i64 f1, .int .i64 f2, .int .i64 heal, .string code, .int .i64 bmin, .int .i64 bmax, .int .i64 taped, .int .i64 gmin, .int .i64 gmax, .int .i64 wmin, .int .i64 wmax, .slice sa sn sc, .slice wa wn wc, .int .i64 dead, .int .i64 year, .int .i64 height]) (hJ : JudgeSays age rest girth f0 f1 f2 heal code bmin bmax taped gmin gmax wmin wmax sa sn sc wa wn wc dead year height 0 v w) :
    Calls Tryz.prog 62 #[.agg #[.int .i64 1, .func (.func 91) #[] #[]], .pointer (some ⟨Bq, 0, none⟩)] W fun e w' => e = .returned (.bool (v == 0)) ∧ Below W.heap.size W w' := by
  have HJ := Lib.hid (hJ (W.alloc (.cells #[.int .i64 1, .func (.func 91) #[] #[]] 121)) (hB.alloc hB.size _))
  have HK := Lib.hid (show _ from hq.alloc (.cells #[.int .i64 1, .func (.func 91) #[] #[]] 121))
  clear hJ hq
  go_enter Tryz.func62, Tryz.ntmps62
  go_wp2_with (first | ((with_reducible refine at_load 81 (.tmp 1) ?_); go_must (refine wpList_load_row rfl 81 (.tmp 1) rfl Bq rfl 81 #[.int .i64 age, .int .i64 rest, .int .i64 girth, .int .i64 f0, .int .i64 f1, .int .i64 f2, .int .i64 heal, .string code, .int .i64 bmin, .int .i64 bmax, .int .i64 taped, .int .i64 gmin, .int .i64 gmax, .int .i64 wmin, .int .i64 wmax, .slice sa sn sc, .slice wa wn wc, .int .i64 dead, .int .i64 year, .int .i64 height] (0, 0) _ HK.out Tryz.underlying81 rfl size_question ?_)) | (go_at_call 91; refine HJ.out.mono ?_; rintro e w1 ⟨rfl, hw1⟩))
  go_ret
  exact ⟨rfl, ((Below.refl _ W).alloc (Nat.le_refl _) _).trans (hw1.mono (by simp))⟩

set_option maxRecDepth 100000 in
set_option maxHeartbeats 1000000 in
theorem doubtful_1 (age rest girth f0 f1 f2 heal : Int) (code : ByteArray) (bmin bmax taped gmin gmax wmin wmax : Int) (sa : Option Addr) (sn sc : Nat) (wa : Option Addr) (wn wc : Nat) (dead : Int) (year height : Int) (v : Int) (w W : World) (Bq : Nat) (hB : Below w.heap.size w W) (hq : Blk W Bq 81 #[.int .i64 age, .int .i64 rest, .int .i64 girth, .int .i64 f0, .int .i64 f1, .int .i64 f2, .int .i64 heal, .string code, .int .i64 bmin, .int .i64 bmax, .int .i64 taped, .int .i64 gmin, .int .i64 gmax, .int .i64 wmin, .int .i64 wmax, .slice sa sn sc, .slice wa wn wc, .int .i64 dead, .int .i64 year, .int .i64 height]) (hJ : JudgeSays age rest girth f0 f1 f2 heal code bmin bmax taped gmin gmax wmin wmax sa sn sc wa wn wc dead year height 1 v w) :
    Calls Tryz.prog 62 #[.agg #[.int .i64 2, .func (.func 92) #[] #[]], .pointer (some ⟨Bq, 0, none⟩)] W fun e w' => e = .returned (.bool (v == 0)) ∧ Below W.heap.size W w' := by
  have HJ := Lib.hid (hJ (W.alloc (.cells #[.int .i64 2, .func (.func 92) #[] #[]] 121)) (hB.alloc hB.size _))
  have HK := Lib.hid (show _ from hq.alloc (.cells #[.int .i64 2, .func (.func 92) #[] #[]] 121))
  clear hJ hq
  go_enter Tryz.func62, Tryz.ntmps62
  go_wp2_with (first | ((with_reducible refine at_load 81 (.tmp 1) ?_); go_must (refine wpList_load_row rfl 81 (.tmp 1) rfl Bq rfl 81 #[.int .i64 age, .int .i64 rest, .int .i64 girth, .int .i64 f0, .int .i64 f1, .int .i64 f2, .int .i64 heal, .string code, .int .i64 bmin, .int .i64 bmax, .int .i64 taped, .int .i64 gmin, .int .i64 gmax, .int .i64 wmin, .int .i64 wmax, .slice sa sn sc, .slice wa wn wc, .int .i64 dead, .int .i64 year, .int .i64 height] (0, 0) _ HK.out Tryz.underlying81 rfl size_question ?_)) | (go_at_call 92; refine HJ.out.mono ?_; rintro e w1 ⟨rfl, hw1⟩))
  go_ret
  exact ⟨rfl, ((Below.refl _ W).alloc (Nat.le_refl _) _).trans (hw1.mono (by simp))⟩

set_option maxRecDepth 100000 in
set_option maxHeartbeats 1000000 in
theorem doubtful_2 (age rest girth f0 f1 f2 heal : Int) (code : ByteArray) (bmin bmax taped gmin gmax wmin wmax : Int) (sa : Option Addr) (sn sc : Nat) (wa : Option Addr) (wn wc : Nat) (dead : Int) (year height : Int) (v : Int) (w W : World) (Bq : Nat) (hB : Below w.heap.size w W) (hq : Blk W Bq 81 #[.int .i64 age, .int .i64 rest, .int .i64 girth, .int .i64 f0, .int .i64 f1, .int .i64 f2, .int .i64 heal, .string code, .int .i64 bmin, .int .i64 bmax, .int .i64 taped, .int .i64 gmin, .int .i64 gmax, .int .i64 wmin, .int .i64 wmax, .slice sa sn sc, .slice wa wn wc, .int .i64 dead, .int .i64 year, .int .i64 height]) (hJ : JudgeSays age rest girth f0 f1 f2 heal code bmin bmax taped gmin gmax wmin wmax sa sn sc wa wn wc dead year height 2 v w) :
    Calls Tryz.prog 62 #[.agg #[.int .i64 3, .func (.func 93) #[] #[]], .pointer (some ⟨Bq, 0, none⟩)] W fun e w' => e = .returned (.bool (v == 0)) ∧ Below W.heap.size W w' := by
  have HJ := Lib.hid (hJ (W.alloc (.cells #[.int .i64 3, .func (.func 93) #[] #[]] 121)) (hB.alloc hB.size _))
  have HK := Lib.hid (show _ from hq.alloc (.cells #[.int .i64 3, .func (.func 93) #[] #[]] 121))
  clear hJ hq
  go_enter Tryz.func62, Tryz.ntmps62
  go_wp2_with (first | ((with_reducible refine at_load 81 (.tmp 1) ?_); go_must (refine wpList_load_row rfl 81 (.tmp 1) rfl Bq rfl 81 #[.int .i64 age, .int .i64 rest, .int .i64 girth, .int .i64 f0, .int .i64 f1, .int .i64 f2, .int .i64 heal, .string code, .int .i64 bmin, .int .i64 bmax, .int .i64 taped, .int .i64 gmin, .int .i64 gmax, .int .i64 wmin, .int .i64 wmax, .slice sa sn sc, .slice wa wn wc, .int .i64 dead, .int .i64 year, .int .i64 height] (0, 0) _ HK.out Tryz.underlying81 rfl size_question ?_)) | (go_at_call 93; refine HJ.out.mono ?_; rintro e w1 ⟨rfl, hw1⟩))
  go_ret
  exact ⟨rfl, ((Below.refl _ W).alloc (Nat.le_refl _) _).trans (hw1.mono (by simp))⟩

set_option maxRecDepth 100000 in
set_option maxHeartbeats 1000000 in
theorem doubtful_3 (age rest girth f0 f1 f2 heal : Int) (code : ByteArray) (bmin bmax taped gmin gmax wmin wmax : Int) (sa : Option Addr) (sn sc : Nat) (wa : Option Addr) (wn wc : Nat) (dead : Int) (year height : Int) (v : Int) (w W : World) (Bq : Nat) (hB : Below w.heap.size w W) (hq : Blk W Bq 81 #[.int .i64 age, .int .i64 rest, .int .i64 girth, .int .i64 f0, .int .i64 f1, .int .i64 f2, .int .i64 heal, .string code, .int .i64 bmin, .int .i64 bmax, .int .i64 taped, .int .i64 gmin, .int .i64 gmax, .int .i64 wmin, .int .i64 wmax, .slice sa sn sc, .slice wa wn wc, .int .i64 dead, .int .i64 year, .int .i64 height]) (hJ : JudgeSays age rest girth f0 f1 f2 heal code bmin bmax taped gmin gmax wmin wmax sa sn sc wa wn wc dead year height 3 v w) :
    Calls Tryz.prog 62 #[.agg #[.int .i64 4, .func (.func 94) #[] #[]], .pointer (some ⟨Bq, 0, none⟩)] W fun e w' => e = .returned (.bool (v == 0)) ∧ Below W.heap.size W w' := by
  have HJ := Lib.hid (hJ (W.alloc (.cells #[.int .i64 4, .func (.func 94) #[] #[]] 121)) (hB.alloc hB.size _))
  have HK := Lib.hid (show _ from hq.alloc (.cells #[.int .i64 4, .func (.func 94) #[] #[]] 121))
  clear hJ hq
  go_enter Tryz.func62, Tryz.ntmps62
  go_wp2_with (first | ((with_reducible refine at_load 81 (.tmp 1) ?_); go_must (refine wpList_load_row rfl 81 (.tmp 1) rfl Bq rfl 81 #[.int .i64 age, .int .i64 rest, .int .i64 girth, .int .i64 f0, .int .i64 f1, .int .i64 f2, .int .i64 heal, .string code, .int .i64 bmin, .int .i64 bmax, .int .i64 taped, .int .i64 gmin, .int .i64 gmax, .int .i64 wmin, .int .i64 wmax, .slice sa sn sc, .slice wa wn wc, .int .i64 dead, .int .i64 year, .int .i64 height] (0, 0) _ HK.out Tryz.underlying81 rfl size_question ?_)) | (go_at_call 94; refine HJ.out.mono ?_; rintro e w1 ⟨rfl, hw1⟩))
  go_ret
  exact ⟨rfl, ((Below.refl _ W).alloc (Nat.le_refl _) _).trans (hw1.mono (by simp))⟩

set_option maxRecDepth 100000 in
set_option maxHeartbeats 1000000 in
theorem doubtful_4 (age rest girth f0 f1 f2 heal : Int) (code : ByteArray) (bmin bmax taped gmin gmax wmin wmax : Int) (sa : Option Addr) (sn sc : Nat) (wa : Option Addr) (wn wc : Nat) (dead : Int) (year height : Int) (v : Int) (w W : World) (Bq : Nat) (hB : Below w.heap.size w W) (hq : Blk W Bq 81 #[.int .i64 age, .int .i64 rest, .int .i64 girth, .int .i64 f0, .int .i64 f1, .int .i64 f2, .int .i64 heal, .string code, .int .i64 bmin, .int .i64 bmax, .int .i64 taped, .int .i64 gmin, .int .i64 gmax, .int .i64 wmin, .int .i64 wmax, .slice sa sn sc, .slice wa wn wc, .int .i64 dead, .int .i64 year, .int .i64 height]) (hJ : JudgeSays age rest girth f0 f1 f2 heal code bmin bmax taped gmin gmax wmin wmax sa sn sc wa wn wc dead year height 4 v w) :
    Calls Tryz.prog 62 #[.agg #[.int .i64 5, .func (.func 95) #[] #[]], .pointer (some ⟨Bq, 0, none⟩)] W fun e w' => e = .returned (.bool (v == 0)) ∧ Below W.heap.size W w' := by
  have HJ := Lib.hid (hJ (W.alloc (.cells #[.int .i64 5, .func (.func 95) #[] #[]] 121)) (hB.alloc hB.size _))
  have HK := Lib.hid (show _ from hq.alloc (.cells #[.int .i64 5, .func (.func 95) #[] #[]] 121))
  clear hJ hq
  go_enter Tryz.func62, Tryz.ntmps62
  go_wp2_with (first | ((with_reducible refine at_load 81 (.tmp 1) ?_); go_must (refine wpList_load_row rfl 81 (.tmp 1) rfl Bq rfl 81 #[.int .i64 age, .int .i64 rest, .int .i64 girth, .int .i64 f0, .int .i64 f1, .int .i64 f2, .int .i64 heal, .string code, .int .i64 bmin, .int .i64 bmax, .int .i64 taped, .int .i64 gmin, .int .i64 gmax, .int .i64 wmin, .int .i64 wmax, .slice sa sn sc, .slice wa wn wc, .int .i64 dead, .int .i64 year, .int .i64 height] (0, 0) _ HK.out Tryz.underlying81 rfl size_question ?_)) | (go_at_call 95; refine HJ.out.mono ?_; rintro e w1 ⟨rfl, hw1⟩))
  go_ret
  exact ⟨rfl, ((Below.refl _ W).alloc (Nat.le_refl _) _).trans (hw1.mono (by simp))⟩

set_option maxRecDepth 100000 in
set_option maxHeartbeats 1000000 in
theorem doubtful_5 (age rest girth f0 f1 f2 heal : Int) (code : ByteArray) (bmin bmax taped gmin gmax wmin wmax : Int) (sa : Option Addr) (sn sc : Nat) (wa : Option Addr) (wn wc : Nat) (dead : Int) (year height : Int) (v : Int) (w W : World) (Bq : Nat) (hB : Below w.heap.size w W) (hq : Blk W Bq 81 #[.int .i64 age, .int .i64 rest, .int .i64 girth, .int .i64 f0, .int .i64 f1, .int .i64 f2, .int .i64 heal, .string code, .int .i64 bmin, .int .i64 bmax, .int .i64 taped, .int .i64 gmin, .int .i64 gmax, .int .i64 wmin, .int .i64 wmax, .slice sa sn sc, .slice wa wn wc, .int .i64 dead, .int .i64 year, .int .i64 height]) (hJ : JudgeSays age rest girth f0 f1 f2 heal code bmin bmax taped gmin gmax wmin wmax sa sn sc wa wn wc dead year height 5 v w) :
    Calls Tryz.prog 62 #[.agg #[.int .i64 6, .func (.func 96) #[] #[]], .pointer (some ⟨Bq, 0, none⟩)] W fun e w' => e = .returned (.bool (v == 0)) ∧ Below W.heap.size W w' := by
  have HJ := Lib.hid (hJ (W.alloc (.cells #[.int .i64 6, .func (.func 96) #[] #[]] 121)) (hB.alloc hB.size _))
  have HK := Lib.hid (show _ from hq.alloc (.cells #[.int .i64 6, .func (.func 96) #[] #[]] 121))
  clear hJ hq
  go_enter Tryz.func62, Tryz.ntmps62
  go_wp2_with (first | ((with_reducible refine at_load 81 (.tmp 1) ?_); go_must (refine wpList_load_row rfl 81 (.tmp 1) rfl Bq rfl 81 #[.int .i64 age, .int .i64 rest, .int .i64 girth, .int .i64 f0, .int .i64 f1, .int .i64 f2, .int .i64 heal, .string code, .int .i64 bmin, .int .i64 bmax, .int .i64 taped, .int .i64 gmin, .int .i64 gmax, .int .i64 wmin, .int .i64 wmax, .slice sa sn sc, .slice wa wn wc, .int .i64 dead, .int .i64 year, .int .i64 height] (0, 0) _ HK.out Tryz.underlying81 rfl size_question ?_)) | (go_at_call 96; refine HJ.out.mono ?_; rintro e w1 ⟨rfl, hw1⟩))
  go_ret
  exact ⟨rfl, ((Below.refl _ W).alloc (Nat.le_refl _) _).trans (hw1.mono (by simp))⟩

theorem doubtful_calls (age rest girth f0 f1 f2 heal : Int) (code : ByteArray) (bmin bmax taped gmin gmax wmin wmax : Int) (sa : Option Addr) (sn sc : Nat) (wa : Option Addr) (wn wc : Nat) (dead : Int) (year height : Int) (vs : Nat → Int) (w W : World) (Bq : Nat) (x : Fin 6) (hB : Below w.heap.size w W) (hq : Blk W Bq 81 #[.int .i64 age, .int .i64 rest, .int .i64 girth, .int .i64 f0, .int .i64 f1, .int .i64 f2, .int .i64 heal, .string code, .int .i64 bmin, .int .i64 bmax, .int .i64 taped, .int .i64 gmin, .int .i64 gmax, .int .i64 wmin, .int .i64 wmax, .slice sa sn sc, .slice wa wn wc, .int .i64 dead, .int .i64 year, .int .i64 height]) (hJ : ∀ k, k < 6 → JudgeSays age rest girth f0 f1 f2 heal code bmin bmax taped gmin gmax wmin wmax sa sn sc wa wn wc dead year height k (vs k) w) :
    Calls Tryz.prog 62 #[.agg #[.int .i64 ((x.val : Int) + 1), .func (.func (ruleFn x.val)) #[] #[]], .pointer (some ⟨Bq, 0, none⟩)] W fun e w' => e = .returned (.bool (vs x.val == 0)) ∧ Below W.heap.size W w' :=
  match x with
  | ⟨0, _⟩ => doubtful_0 age rest girth f0 f1 f2 heal code bmin bmax taped gmin gmax wmin wmax sa sn sc wa wn wc dead year height (vs 0) w W Bq hB hq (hJ 0 (by omega))
  | ⟨1, _⟩ => doubtful_1 age rest girth f0 f1 f2 heal code bmin bmax taped gmin gmax wmin wmax sa sn sc wa wn wc dead year height (vs 1) w W Bq hB hq (hJ 1 (by omega))
  | ⟨2, _⟩ => doubtful_2 age rest girth f0 f1 f2 heal code bmin bmax taped gmin gmax wmin wmax sa sn sc wa wn wc dead year height (vs 2) w W Bq hB hq (hJ 2 (by omega))
  | ⟨3, _⟩ => doubtful_3 age rest girth f0 f1 f2 heal code bmin bmax taped gmin gmax wmin wmax sa sn sc wa wn wc dead year height (vs 3) w W Bq hB hq (hJ 3 (by omega))
  | ⟨4, _⟩ => doubtful_4 age rest girth f0 f1 f2 heal code bmin bmax taped gmin gmax wmin wmax sa sn sc wa wn wc dead year height (vs 4) w W Bq hB hq (hJ 4 (by omega))
  | ⟨5, _⟩ => doubtful_5 age rest girth f0 f1 f2 heal code bmin bmax taped gmin gmax wmin wmax sa sn sc wa wn wc dead year height (vs 5) w W Bq hB hq (hJ 5 (by omega))

end Go.Proofs.YtnoofdjlocadbaaGreatDoor

/-! The verdict of all rules. -/
namespace Go.Proofs.YtnoofdjlocadbaaGreatDoor
open Go.RowKit Go.Shelf

theorem RulesLie.mono {n m : Nat} {w : World} {b off : Nat} (h : RulesLie n w b off) (hm : n ≤ m) : RulesLie m w b off := ⟨Nat.lt_of_lt_of_le h.1 hm, h.2⟩

set_option maxRecDepth 100000 in
set_option maxHeartbeats 2000000 in
theorem verdict_broken (age rest girth f0 f1 f2 heal : Int) (code : ByteArray) (bmin bmax taped gmin gmax wmin wmax : Int) (sa : Option Addr) (sn sc : Nat) (wa : Option Addr) (wn wc : Nat) (dead : Int) (year height : Int) (vs : Nat → Int) (w : World) (x : Fin 6) (hJ : ∀ k, k < 6 → JudgeSays age rest girth f0 f1 f2 heal code bmin bmax taped gmin gmax wmin wmax sa sn sc wa wn wc dead year height k (vs k) w) (hx : firstPlace (fun x => vs x.val == 2) = some x) :
    Calls Tryz.prog 34 #[.agg #[.int .i64 age, .int .i64 rest, .int .i64 girth, .int .i64 f0, .int .i64 f1, .int .i64 f2, .int .i64 heal, .string code, .int .i64 bmin, .int .i64 bmax, .int .i64 taped, .int .i64 gmin, .int .i64 gmax, .int .i64 wmin, .int .i64 wmax, .slice sa sn sc, .slice wa wn wc, .int .i64 dead, .int .i64 year, .int .i64 height]] w fun e w' => e = .returned (.tuple #[.int .i64 2, .int .i64 ((x.val : Int) + 1)]) ∧ Below w.heap.size w w' := by
  have HJ := Lib.hid hJ; clear hJ
  go_enter Tryz.func34, Tryz.ntmps34
  go_wp2_with fail
  refine (rules_calls _).mono ?_
  rintro e w2 ⟨rfl, hw2, hR2⟩
  have hB2 : Below w.heap.size w w2 := ((Below.refl _ w).alloc (Nat.le_refl _) _).trans (hw2.mono (by simp))
  have HQ2 := Lib.hid (show Blk w2 w.heap.size 81 #[.int .i64 age, .int .i64 rest, .int .i64 girth, .int .i64 f0, .int .i64 f1, .int .i64 f2, .int .i64 heal, .string code, .int .i64 bmin, .int .i64 bmax, .int .i64 taped, .int .i64 gmin, .int .i64 gmax, .int .i64 wmin, .int .i64 wmax, .slice sa sn sc, .slice wa wn wc, .int .i64 dead, .int .i64 year, .int .i64 height] from (Blk.new w _ _).below hw2 (by simp))
  simp only [World.size_alloc] at hR2
  have HR2 := Lib.hid hR2
  clear hR2 hw2
  go_wp2_with fail
  refine (values_calls _ _ _ _).mono ?_
  rintro e w3 ⟨rfl, hw⟩
  have hB3 : Below w.heap.size w w3 := by rw [hw]; exact hB2.alloc hB2.size _
  have HQ3 := Lib.hid (show Blk w3 w.heap.size 81 #[.int .i64 age, .int .i64 rest, .int .i64 girth, .int .i64 f0, .int .i64 f1, .int .i64 f2, .int .i64 heal, .string code, .int .i64 bmin, .int .i64 bmax, .int .i64 taped, .int .i64 gmin, .int .i64 gmax, .int .i64 wmin, .int .i64 wmax, .slice sa sn sc, .slice wa wn wc, .int .i64 dead, .int .i64 year, .int .i64 height] from by rw [hw]; exact HQ2.out.alloc _)
  have hz3 : w2.heap.size < w3.heap.size := by rw [hw]; simp
  have hc3 : w3.cell? ⟨w2.heap.size, 0, none⟩ = some (.slice (some ⟨w.heap.size + 1, 0, none⟩) 6 6) := by rw [hw]; exact (Blk.new w2 _ _).cell 0
  have HR3 := Lib.hid (show RulesLie w3.heap.size w3 (w.heap.size + 1) 0 from by rw [hw]; exact (HR2.out.below ((Below.refl _ w2).alloc (Nat.le_refl _) _)).mono (by simp))
  clear hw
  have hf := firstOf_broken w2.heap.size w.heap.size (w.heap.size + 1) 0 6 (fun x => vs x.val == 2) w3 hz3 hc3 HR3.out
    (fun x W hW => broken_calls age rest girth f0 f1 f2 heal code bmin bmax taped gmin gmax wmin wmax sa sn sc wa wn wc dead year height vs w W w.heap.size x (hB3.trans (hW.mono hB3.size)) (HQ3.out.below hW (Blk.lt HQ3.out)) HJ.out)
  clear hc3
  rw [hx] at hf
  simp only [foundVal] at hf
  have HF := Lib.hid hf; clear hf hx
  go_wp2_with fail
  refine HF.out.mono ?_
  rintro e w4 ⟨rfl, hw⟩
  clear HF
  have hB4 : Below w.heap.size w w4 := hB3.trans (hw.mono hB3.size)
  have HQ4 := Lib.hid (HQ3.out.below hw (Blk.lt HQ3.out))
  have HR4 := Lib.hid ((HR3.out.below hw).mono hw.size)
  clear hw
  go_wp2
  go_quiet (fail)
  go_wp2
  go_ret2
  exact ⟨rfl, below_drewN (hB4.alloc hB4.size _) _⟩

set_option maxRecDepth 100000 in
set_option maxHeartbeats 2000000 in
theorem verdict_doubtful (age rest girth f0 f1 f2 heal : Int) (code : ByteArray) (bmin bmax taped gmin gmax wmin wmax : Int) (sa : Option Addr) (sn sc : Nat) (wa : Option Addr) (wn wc : Nat) (dead : Int) (year height : Int) (vs : Nat → Int) (w : World) (x : Fin 6) (hJ : ∀ k, k < 6 → JudgeSays age rest girth f0 f1 f2 heal code bmin bmax taped gmin gmax wmin wmax sa sn sc wa wn wc dead year height k (vs k) w) (hx : firstPlace (fun x => vs x.val == 2) = none) (hy : firstPlace (fun x => vs x.val == 0) = some x) :
    Calls Tryz.prog 34 #[.agg #[.int .i64 age, .int .i64 rest, .int .i64 girth, .int .i64 f0, .int .i64 f1, .int .i64 f2, .int .i64 heal, .string code, .int .i64 bmin, .int .i64 bmax, .int .i64 taped, .int .i64 gmin, .int .i64 gmax, .int .i64 wmin, .int .i64 wmax, .slice sa sn sc, .slice wa wn wc, .int .i64 dead, .int .i64 year, .int .i64 height]] w fun e w' => e = .returned (.tuple #[.int .i64 0, .int .i64 ((x.val : Int) + 1)]) ∧ Below w.heap.size w w' := by
  have HJ := Lib.hid hJ; clear hJ
  go_enter Tryz.func34, Tryz.ntmps34
  go_wp2_with fail
  refine (rules_calls _).mono ?_
  rintro e w2 ⟨rfl, hw2, hR2⟩
  have hB2 : Below w.heap.size w w2 := ((Below.refl _ w).alloc (Nat.le_refl _) _).trans (hw2.mono (by simp))
  have HQ2 := Lib.hid (show Blk w2 w.heap.size 81 #[.int .i64 age, .int .i64 rest, .int .i64 girth, .int .i64 f0, .int .i64 f1, .int .i64 f2, .int .i64 heal, .string code, .int .i64 bmin, .int .i64 bmax, .int .i64 taped, .int .i64 gmin, .int .i64 gmax, .int .i64 wmin, .int .i64 wmax, .slice sa sn sc, .slice wa wn wc, .int .i64 dead, .int .i64 year, .int .i64 height] from (Blk.new w _ _).below hw2 (by simp))
  simp only [World.size_alloc] at hR2
  have HR2 := Lib.hid hR2
  clear hR2 hw2
  go_wp2_with fail
  refine (values_calls _ _ _ _).mono ?_
  rintro e w3 ⟨rfl, hw⟩
  have hB3 : Below w.heap.size w w3 := by rw [hw]; exact hB2.alloc hB2.size _
  have HQ3 := Lib.hid (show Blk w3 w.heap.size 81 #[.int .i64 age, .int .i64 rest, .int .i64 girth, .int .i64 f0, .int .i64 f1, .int .i64 f2, .int .i64 heal, .string code, .int .i64 bmin, .int .i64 bmax, .int .i64 taped, .int .i64 gmin, .int .i64 gmax, .int .i64 wmin, .int .i64 wmax, .slice sa sn sc, .slice wa wn wc, .int .i64 dead, .int .i64 year, .int .i64 height] from by rw [hw]; exact HQ2.out.alloc _)
  have hz3 : w2.heap.size < w3.heap.size := by rw [hw]; simp
  have hc3 : w3.cell? ⟨w2.heap.size, 0, none⟩ = some (.slice (some ⟨w.heap.size + 1, 0, none⟩) 6 6) := by rw [hw]; exact (Blk.new w2 _ _).cell 0
  have HR3 := Lib.hid (show RulesLie w3.heap.size w3 (w.heap.size + 1) 0 from by rw [hw]; exact (HR2.out.below ((Below.refl _ w2).alloc (Nat.le_refl _) _)).mono (by simp))
  clear hw
  have hf := firstOf_broken w2.heap.size w.heap.size (w.heap.size + 1) 0 6 (fun x => vs x.val == 2) w3 hz3 hc3 HR3.out
    (fun x W hW => broken_calls age rest girth f0 f1 f2 heal code bmin bmax taped gmin gmax wmin wmax sa sn sc wa wn wc dead year height vs w W w.heap.size x (hB3.trans (hW.mono hB3.size)) (HQ3.out.below hW (Blk.lt HQ3.out)) HJ.out)
  clear hc3
  rw [hx] at hf
  simp only [foundVal] at hf
  have HF := Lib.hid hf; clear hf hx
  go_wp2_with fail
  refine HF.out.mono ?_
  rintro e w4 ⟨rfl, hw⟩
  clear HF
  have hB4 : Below w.heap.size w w4 := hB3.trans (hw.mono hB3.size)
  have HQ4 := Lib.hid (HQ3.out.below hw (Blk.lt HQ3.out))
  have HR4 := Lib.hid ((HR3.out.below hw).mono hw.size)
  clear hw
  go_wp2_with fail
  have hB5 := hB4.alloc hB4.size (.cells #[.int .i64 0, .nilFunc] 121)
  have HQ5 := Lib.hid (Blk.alloc HQ4.out (.cells #[.int .i64 0, .nilFunc] 121))
  have HR5 := Lib.hid ((HR4.out.below ((Below.refl _ w4).alloc (Nat.le_refl _) (.cells #[.int .i64 0, .nilFunc] 121))).mono ((Below.refl w4.heap.size w4).alloc (Nat.le_refl _) (.cells #[.int .i64 0, .nilFunc] 121)).size)
  clear HQ4 HR4
  generalize w4.alloc (.cells #[.int .i64 0, .nilFunc] 121) = w5 at hB5 HQ5 HR5 ⊢
  go_wp2_with fail
  refine (values_calls _ _ _ _).mono ?_
  rintro e w6 ⟨rfl, hw⟩
  have hB6 : Below w.heap.size w w6 := by rw [hw]; exact hB5.alloc hB5.size _
  have HQ6 := Lib.hid (show Blk w6 w.heap.size 81 #[.int .i64 age, .int .i64 rest, .int .i64 girth, .int .i64 f0, .int .i64 f1, .int .i64 f2, .int .i64 heal, .string code, .int .i64 bmin, .int .i64 bmax, .int .i64 taped, .int .i64 gmin, .int .i64 gmax, .int .i64 wmin, .int .i64 wmax, .slice sa sn sc, .slice wa wn wc, .int .i64 dead, .int .i64 year, .int .i64 height] from by rw [hw]; exact HQ5.out.alloc _)
  have hz6 : w5.heap.size < w6.heap.size := by rw [hw]; simp
  have hc6 : w6.cell? ⟨w5.heap.size, 0, none⟩ = some (.slice (some ⟨w.heap.size + 1, 0, none⟩) 6 6) := by rw [hw]; exact (Blk.new w5 _ _).cell 0
  have HR6 := Lib.hid (show RulesLie w6.heap.size w6 (w.heap.size + 1) 0 from by rw [hw]; exact (HR5.out.below ((Below.refl _ w5).alloc (Nat.le_refl _) _)).mono (by simp))
  clear hw
  have hf := firstOf_doubtful w5.heap.size w.heap.size (w.heap.size + 1) 0 6 (fun x => vs x.val == 0) w6 hz6 hc6 HR6.out
    (fun x W hW => doubtful_calls age rest girth f0 f1 f2 heal code bmin bmax taped gmin gmax wmin wmax sa sn sc wa wn wc dead year height vs w W w.heap.size x (hB6.trans (hW.mono hB6.size)) (HQ6.out.below hW (Blk.lt HQ6.out)) HJ.out)
  clear hc6
  rw [hy] at hf
  simp only [foundVal] at hf
  have HF := Lib.hid hf; clear hf hy
  go_wp2_with fail
  refine HF.out.mono ?_
  rintro e w7 ⟨rfl, hw⟩
  clear HF
  have hB7 : Below w.heap.size w w7 := hB6.trans (hw.mono hB6.size)
  have HQ7 := Lib.hid (HQ6.out.below hw (Blk.lt HQ6.out))
  have HR7 := Lib.hid ((HR6.out.below hw).mono hw.size)
  clear hw
  go_wp2
  go_quiet (fail)
  go_wp2
  go_ret2
  exact ⟨rfl, below_drewN (hB7.alloc hB7.size _) _⟩

set_option maxRecDepth 100000 in
set_option maxHeartbeats 2000000 in
theorem verdict_always (age rest girth f0 f1 f2 heal : Int) (code : ByteArray) (bmin bmax taped gmin gmax wmin wmax : Int) (sa : Option Addr) (sn sc : Nat) (wa : Option Addr) (wn wc : Nat) (dead : Int) (year height : Int) (vs : Nat → Int) (w : World) (hJ : ∀ k, k < 6 → JudgeSays age rest girth f0 f1 f2 heal code bmin bmax taped gmin gmax wmin wmax sa sn sc wa wn wc dead year height k (vs k) w) (hx : firstPlace (fun x => vs x.val == 2) = none) (hy : firstPlace (fun x => vs x.val == 0) = none) :
    Calls Tryz.prog 34 #[.agg #[.int .i64 age, .int .i64 rest, .int .i64 girth, .int .i64 f0, .int .i64 f1, .int .i64 f2, .int .i64 heal, .string code, .int .i64 bmin, .int .i64 bmax, .int .i64 taped, .int .i64 gmin, .int .i64 gmax, .int .i64 wmin, .int .i64 wmax, .slice sa sn sc, .slice wa wn wc, .int .i64 dead, .int .i64 year, .int .i64 height]] w fun e w' => e = .returned (.tuple #[.int .i64 1, .int .i64 0]) ∧ Below w.heap.size w w' := by
  have HJ := Lib.hid hJ; clear hJ
  go_enter Tryz.func34, Tryz.ntmps34
  go_wp2_with fail
  refine (rules_calls _).mono ?_
  rintro e w2 ⟨rfl, hw2, hR2⟩
  have hB2 : Below w.heap.size w w2 := ((Below.refl _ w).alloc (Nat.le_refl _) _).trans (hw2.mono (by simp))
  have HQ2 := Lib.hid (show Blk w2 w.heap.size 81 #[.int .i64 age, .int .i64 rest, .int .i64 girth, .int .i64 f0, .int .i64 f1, .int .i64 f2, .int .i64 heal, .string code, .int .i64 bmin, .int .i64 bmax, .int .i64 taped, .int .i64 gmin, .int .i64 gmax, .int .i64 wmin, .int .i64 wmax, .slice sa sn sc, .slice wa wn wc, .int .i64 dead, .int .i64 year, .int .i64 height] from (Blk.new w _ _).below hw2 (by simp))
  simp only [World.size_alloc] at hR2
  have HR2 := Lib.hid hR2
  clear hR2 hw2
  go_wp2_with fail
  refine (values_calls _ _ _ _).mono ?_
  rintro e w3 ⟨rfl, hw⟩
  have hB3 : Below w.heap.size w w3 := by rw [hw]; exact hB2.alloc hB2.size _
  have HQ3 := Lib.hid (show Blk w3 w.heap.size 81 #[.int .i64 age, .int .i64 rest, .int .i64 girth, .int .i64 f0, .int .i64 f1, .int .i64 f2, .int .i64 heal, .string code, .int .i64 bmin, .int .i64 bmax, .int .i64 taped, .int .i64 gmin, .int .i64 gmax, .int .i64 wmin, .int .i64 wmax, .slice sa sn sc, .slice wa wn wc, .int .i64 dead, .int .i64 year, .int .i64 height] from by rw [hw]; exact HQ2.out.alloc _)
  have hz3 : w2.heap.size < w3.heap.size := by rw [hw]; simp
  have hc3 : w3.cell? ⟨w2.heap.size, 0, none⟩ = some (.slice (some ⟨w.heap.size + 1, 0, none⟩) 6 6) := by rw [hw]; exact (Blk.new w2 _ _).cell 0
  have HR3 := Lib.hid (show RulesLie w3.heap.size w3 (w.heap.size + 1) 0 from by rw [hw]; exact (HR2.out.below ((Below.refl _ w2).alloc (Nat.le_refl _) _)).mono (by simp))
  clear hw
  have hf := firstOf_broken w2.heap.size w.heap.size (w.heap.size + 1) 0 6 (fun x => vs x.val == 2) w3 hz3 hc3 HR3.out
    (fun x W hW => broken_calls age rest girth f0 f1 f2 heal code bmin bmax taped gmin gmax wmin wmax sa sn sc wa wn wc dead year height vs w W w.heap.size x (hB3.trans (hW.mono hB3.size)) (HQ3.out.below hW (Blk.lt HQ3.out)) HJ.out)
  clear hc3
  rw [hx] at hf
  simp only [foundVal] at hf
  have HF := Lib.hid hf; clear hf hx
  go_wp2_with fail
  refine HF.out.mono ?_
  rintro e w4 ⟨rfl, hw⟩
  clear HF
  have hB4 : Below w.heap.size w w4 := hB3.trans (hw.mono hB3.size)
  have HQ4 := Lib.hid (HQ3.out.below hw (Blk.lt HQ3.out))
  have HR4 := Lib.hid ((HR3.out.below hw).mono hw.size)
  clear hw
  go_wp2_with fail
  have hB5 := hB4.alloc hB4.size (.cells #[.int .i64 0, .nilFunc] 121)
  have HQ5 := Lib.hid (Blk.alloc HQ4.out (.cells #[.int .i64 0, .nilFunc] 121))
  have HR5 := Lib.hid ((HR4.out.below ((Below.refl _ w4).alloc (Nat.le_refl _) (.cells #[.int .i64 0, .nilFunc] 121))).mono ((Below.refl w4.heap.size w4).alloc (Nat.le_refl _) (.cells #[.int .i64 0, .nilFunc] 121)).size)
  clear HQ4 HR4
  generalize w4.alloc (.cells #[.int .i64 0, .nilFunc] 121) = w5 at hB5 HQ5 HR5 ⊢
  go_wp2_with fail
  refine (values_calls _ _ _ _).mono ?_
  rintro e w6 ⟨rfl, hw⟩
  have hB6 : Below w.heap.size w w6 := by rw [hw]; exact hB5.alloc hB5.size _
  have HQ6 := Lib.hid (show Blk w6 w.heap.size 81 #[.int .i64 age, .int .i64 rest, .int .i64 girth, .int .i64 f0, .int .i64 f1, .int .i64 f2, .int .i64 heal, .string code, .int .i64 bmin, .int .i64 bmax, .int .i64 taped, .int .i64 gmin, .int .i64 gmax, .int .i64 wmin, .int .i64 wmax, .slice sa sn sc, .slice wa wn wc, .int .i64 dead, .int .i64 year, .int .i64 height] from by rw [hw]; exact HQ5.out.alloc _)
  have hz6 : w5.heap.size < w6.heap.size := by rw [hw]; simp
  have hc6 : w6.cell? ⟨w5.heap.size, 0, none⟩ = some (.slice (some ⟨w.heap.size + 1, 0, none⟩) 6 6) := by rw [hw]; exact (Blk.new w5 _ _).cell 0
  have HR6 := Lib.hid (show RulesLie w6.heap.size w6 (w.heap.size + 1) 0 from by rw [hw]; exact (HR5.out.below ((Below.refl _ w5).alloc (Nat.le_refl _) _)).mono (by simp))
  clear hw
  have hf := firstOf_doubtful w5.heap.size w.heap.size (w.heap.size + 1) 0 6 (fun x => vs x.val == 0) w6 hz6 hc6 HR6.out
    (fun x W hW => doubtful_calls age rest girth f0 f1 f2 heal code bmin bmax taped gmin gmax wmin wmax sa sn sc wa wn wc dead year height vs w W w.heap.size x (hB6.trans (hW.mono hB6.size)) (HQ6.out.below hW (Blk.lt HQ6.out)) HJ.out)
  clear hc6
  rw [hy] at hf
  simp only [foundVal] at hf
  have HF := Lib.hid hf; clear hf hy
  go_wp2_with fail
  refine HF.out.mono ?_
  rintro e w7 ⟨rfl, hw⟩
  clear HF
  have hB7 : Below w.heap.size w w7 := hB6.trans (hw.mono hB6.size)
  have HQ7 := Lib.hid (HQ6.out.below hw (Blk.lt HQ6.out))
  have HR7 := Lib.hid ((HR6.out.below hw).mono hw.size)
  clear hw
  go_wp2
  go_ret2
  exact ⟨rfl, hB7.alloc hB7.size _⟩

/-- The verdict that judgements make. -/
def verdictV (vs : Nat → Int) : Int × Int :=
  match firstPlace (fun x => vs x.val == 2) with
  | some x => (2, (x.val : Int) + 1)
  | none =>
    match firstPlace (fun x => vs x.val == 0) with
    | some x => (0, (x.val : Int) + 1)
    | none => (1, 0)

theorem verdict_calls (age rest girth f0 f1 f2 heal : Int) (code : ByteArray) (bmin bmax taped gmin gmax wmin wmax : Int) (sa : Option Addr) (sn sc : Nat) (wa : Option Addr) (wn wc : Nat) (dead : Int) (year height : Int) (vs : Nat → Int) (w : World) (hJ : ∀ k, k < 6 → JudgeSays age rest girth f0 f1 f2 heal code bmin bmax taped gmin gmax wmin wmax sa sn sc wa wn wc dead year height k (vs k) w) :
    Calls Tryz.prog 34 #[.agg #[.int .i64 age, .int .i64 rest, .int .i64 girth, .int .i64 f0, .int .i64 f1, .int .i64 f2, .int .i64 heal, .string code, .int .i64 bmin, .int .i64 bmax, .int .i64 taped, .int .i64 gmin, .int .i64 gmax, .int .i64 wmin, .int .i64 wmax, .slice sa sn sc, .slice wa wn wc, .int .i64 dead, .int .i64 year, .int .i64 height]] w fun e w' => e = .returned (.tuple #[.int .i64 (verdictV vs).1, .int .i64 (verdictV vs).2]) ∧ Below w.heap.size w w' := by
  unfold verdictV
  cases hx : firstPlace (fun x => vs x.val == 2) with
  | some x => exact verdict_broken age rest girth f0 f1 f2 heal code bmin bmax taped gmin gmax wmin wmax sa sn sc wa wn wc dead year height vs w x hJ hx
  | none =>
    cases hy : firstPlace (fun x => vs x.val == 0) with
    | some x => exact verdict_doubtful age rest girth f0 f1 f2 heal code bmin bmax taped gmin gmax wmin wmax sa sn sc wa wn wc dead year height vs w x hJ hx hy
    | none => exact verdict_always age rest girth f0 f1 f2 heal code bmin bmax taped gmin gmax wmin wmax sa sn sc wa wn wc dead year height vs w hJ hx hy
end Go.Proofs.YtnoofdjlocadbaaGreatDoor

/-! A tree that is in order: what each judgement, the girth and the verdict say of it. -/
namespace Go.Proofs.YtnoofdjlocadbaaGreatDoor
open Go.RowKit Go.Shelf

/-- The cells of a question. -/
def qCells (l : Law) (t : Tree) (y h : Int) : Array Value := #[.int .i64 l.age, .int .i64 l.rest, .int .i64 l.girth, .int .i64 l.f0, .int .i64 l.f1, .int .i64 l.f2, .int .i64 l.heal, .string t.code, .int .i64 t.bmin, .int .i64 t.bmax, .int .i64 t.taped, .int .i64 t.gmin, .int .i64 t.gmax, .int .i64 t.wmin, .int .i64 t.wmax, t.sv, t.wv, .int .i64 t.dead, .int .i64 y, .int .i64 h]

/-- The law's factors are in their ranges. -/
def LawFine (l : Law) : Prop := (0 ≤ l.f0 ∧ l.f0 ≤ 50) ∧ (0 ≤ l.f1 ∧ l.f1 ≤ 50) ∧ (0 ≤ l.f2 ∧ l.f2 ≤ 50)
/-- A tree's numbers are in their ranges. -/
def TreeFine (t : Tree) : Prop :=
  (0 ≤ t.bmin ∧ t.bmin ≤ t.bmax ∧ t.bmax ≤ 300) ∧ (0 ≤ t.taped ∧ t.taped ≤ 300) ∧ (0 ≤ t.gmin ∧ t.gmin ≤ t.gmax ∧ t.gmax ≤ 6000) ∧ (0 ≤ t.wmin ∧ t.wmin ≤ t.wmax ∧ t.wmax ≤ 50) ∧
  (∀ s ∈ t.strips, 0 ≤ s.1 ∧ s.1 ≤ 300) ∧ (∀ x ∈ t.wounds, 0 ≤ x ∧ x ≤ 300)

/-- The judgements, by their place. -/
def jv (l : Law) (t : Tree) (y h : Int) (k : Nat) : Int :=
  match k with
  | 0 => judged (decide (t.dead = -1 ∨ y < t.dead)) (decide (t.dead = -1 ∨ y < t.dead))
  | 1 => judged (decide (l.age ≤ y - t.bmax)) (decide (l.age ≤ y - t.bmin))
  | 2 => judged (!t.strips.any (nearB y l.rest)) (!t.strips.any (nearB y l.rest))
  | 3 => judged (!t.wounds.any (freshB y l.heal)) (!t.wounds.any (freshB y l.heal))
  | 4 => if 0 < countBefore t.strips y then 1 else judged (decide (l.girth ≤ girthMin t y)) (decide (l.girth ≤ girthMax t y))
  | _ => judged (decide (10 * h ≤ factor l (countBefore t.strips y) * girthMin t y)) (decide (10 * h ≤ factor l (countBefore t.strips y) * girthMax t y))

theorem girth_bounds (t : Tree) (y : Int) (ht : TreeFine t) (hy0 : 0 ≤ y) (hy1 : y ≤ 300) : 0 ≤ girthMin t y ∧ girthMin t y ≤ girthMax t y ∧ girthMax t y ≤ 21000 := by
  obtain ⟨_, ⟨t0, t1⟩, ⟨g0, g1, g2⟩, ⟨w0, w1, w2⟩, _, _⟩ := ht
  unfold girthMin girthMax
  by_cases h : y - t.taped ≥ 0
  · rw [if_pos h, if_pos h]
    have a := mul_bounds (a := y - t.taped) (b := t.wmin) (A := 300) (B := 50) (by omega) (by omega) (by omega) (by omega)
    have b := mul_bounds (a := y - t.taped) (b := t.wmax) (A := 300) (B := 50) (by omega) (by omega) (by omega) (by omega)
    have c := Int.mul_le_mul_of_nonneg_left w1 h
    omega
  · rw [if_neg h, if_neg h]
    have a := mul_bounds_neg (a := y - t.taped) (b := t.wmin) (A := 300) (B := 50) (by omega) (by omega) (by omega) (by omega)
    have b := mul_bounds_neg (a := y - t.taped) (b := t.wmax) (A := 300) (B := 50) (by omega) (by omega) (by omega) (by omega)
    have c := Int.mul_le_mul_of_nonpos_left (show y - t.taped ≤ 0 by omega) w1
    omega

theorem girth_says (l : Law) (t : Tree) (y h : Int) (w : World) (ht : TreeFine t) (hH : TreeHeld w.heap.size w t) (hy0 : 0 ≤ y) (hy1 : y ≤ 300) (W : World) :
    Calls Tryz.prog 119 #[.agg (qCells l t y h)] W fun e w' => e = .returned (.agg #[.int .i64 (girthMin t y), .int .i64 (girthMax t y)]) ∧ Below W.heap.size W w' := by
  obtain ⟨sa, sn, sc, hs⟩ := hH.1.slice
  obtain ⟨wa, wn, wc, hw⟩ := hH.2.1.slice
  obtain ⟨⟨b0, b1, b2⟩, ⟨t0, t1⟩, ⟨g0, g1, g2⟩, ⟨w0, w1, w2⟩, _, _⟩ := ht
  unfold qCells girthMin girthMax
  rw [hs, hw]
  by_cases hc : y - t.taped ≥ 0
  · rw [if_pos hc, if_pos hc]
    exact girth_after l.age l.rest l.girth l.f0 l.f1 l.f2 l.heal t.code t.bmin t.bmax t.taped t.gmin t.gmax t.wmin t.wmax sa sn sc wa wn wc t.dead y h W hy0 hy1 t0 t1 (by omega) g0 g1 g2 w0 w1 w2
  · rw [if_neg hc, if_neg hc]
    exact girth_before l.age l.rest l.girth l.f0 l.f1 l.f2 l.heal t.code t.bmin t.bmax t.taped t.gmin t.gmax t.wmin t.wmax sa sn sc wa wn wc t.dead y h W hy0 hy1 t0 t1 (by omega) g0 g1 g2 w0 w1 w2

theorem factor_bounds (l : Law) (hl : LawFine l) (n : Nat) : 0 ≤ factor l n ∧ factor l n ≤ 50 := by
  obtain ⟨a, b, c⟩ := hl
  unfold factor
  split
  · exact a
  · split
    · exact b
    · exact c

theorem judges_say (l : Law) (t : Tree) (y h : Int) (w : World) (hl : LawFine l) (ht : TreeFine t) (hH : TreeHeld w.heap.size w t) (hy0 : 0 ≤ y) (hy1 : y ≤ 300) (hh0 : 1 ≤ h) (hh1 : h ≤ 15000) (k : Nat) (hk : k < 6) (W : World) (hW : Below w.heap.size w W) :
    Calls Tryz.prog (ruleFn k) #[.agg (qCells l t y h)] W fun e w' => e = .returned (.int .i64 (jv l t y h k)) ∧ Below W.heap.size W w' := by
  have hg : ∀ W, Calls Tryz.prog 119 #[.agg (qCells l t y h)] W fun e w' => e = .returned (.agg #[.int .i64 (girthMin t y), .int .i64 (girthMax t y)]) ∧ Below W.heap.size W w' := girth_says l t y h w ht hH hy0 hy1
  obtain ⟨gb0, gb1, gb2⟩ := girth_bounds t y ht hy0 hy1
  obtain ⟨fb0, fb1⟩ := factor_bounds l hl (countBefore t.strips y)
  have p := mul_bounds (a := factor l (countBefore t.strips y)) (b := girthMin t y) (A := 50) (B := 21000) fb0 fb1 gb0 (by omega)
  have q := mul_bounds (a := factor l (countBefore t.strips y)) (b := girthMax t y) (A := 50) (B := 21000) fb0 fb1 (by omega) gb2
  have hHW : TreeHeld W.heap.size W t := (hH.below hW).mono hW.size
  obtain ⟨⟨b0, b1, b2⟩, ⟨t0, t1⟩, ⟨g0, g1, g2⟩, ⟨w0, w1, w2⟩, hs, hw⟩ := ht
  obtain ⟨sa, sn, sc, es⟩ := hH.1.slice
  obtain ⟨wa, wn, wc, ew⟩ := hH.2.1.slice
  have hS := hHW.1
  have hWd := hHW.2.1
  have hcnt : ∀ V, Below W.heap.size W V → Calls Tryz.prog 118 #[.agg (qCells l t y h)] V fun e w' => e = .returned (.int .i64 (countBefore t.strips y : Nat)) ∧ Below V.heap.size V w' := fun V hV => by
    unfold qCells
    rw [es] at hS ⊢
    rw [ew]
    exact stripsBefore_calls l.age l.rest l.girth l.f0 l.f1 l.f2 l.heal t.code t.bmin t.bmax t.taped t.gmin t.gmax t.wmin t.wmax sa sn sc wa wn wc t.dead y h t.strips W.heap.size V hV.size (hS.below hV)
  unfold qCells at hg hcnt ⊢
  rw [es, ew] at hg hcnt ⊢
  rw [es] at hS
  rw [ew] at hWd
  match k, hk with
  | 0, _ => exact judgeDead_calls l.age l.rest l.girth l.f0 l.f1 l.f2 l.heal t.code t.bmin t.bmax t.taped t.gmin t.gmax t.wmin t.wmax sa sn sc wa wn wc t.dead y h W
  | 1, _ => exact judgeAge_calls l.age l.rest l.girth l.f0 l.f1 l.f2 l.heal t.code t.bmin t.bmax t.taped t.gmin t.gmax t.wmin t.wmax sa sn sc wa wn wc t.dead y h W hy0 hy1 b0 (by omega) (by omega) b2
  | 2, _ => exact judgeRest_calls l.age l.rest l.girth l.f0 l.f1 l.f2 l.heal t.code t.bmin t.bmax t.taped t.gmin t.gmax t.wmin t.wmax sa sn sc wa wn wc t.dead y h t.strips W hy0 hy1 hs hS
  | 3, _ => exact judgeHeal_calls l.age l.rest l.girth l.f0 l.f1 l.f2 l.heal t.code t.bmin t.bmax t.taped t.gmin t.gmax t.wmin t.wmax sa sn sc wa wn wc t.dead y h t.wounds W hy0 hy1 hw hWd
  | 4, _ =>
    show Calls _ _ _ _ fun e w' => e = .returned (.int .i64 (if 0 < countBefore t.strips y then 1 else _)) ∧ _
    by_cases hn : 0 < countBefore t.strips y
    · rw [if_pos hn]
      exact judgeGirth_stripped l.age l.rest l.girth l.f0 l.f1 l.f2 l.heal t.code t.bmin t.bmax t.taped t.gmin t.gmax t.wmin t.wmax sa sn sc wa wn wc t.dead y h _ W hn hcnt
    · rw [if_neg hn]
      have h0 : countBefore t.strips y = 0 := by omega
      rw [h0] at hcnt
      exact judgeGirth_first l.age l.rest l.girth l.f0 l.f1 l.f2 l.heal t.code t.bmin t.bmax t.taped t.gmin t.gmax t.wmin t.wmax sa sn sc wa wn wc t.dead y h _ _ W hcnt hg
  | 5, _ =>
    show Calls _ _ _ _ fun e w' => e = .returned (.int .i64 (judged (decide (10 * h ≤ factor l (countBefore t.strips y) * girthMin t y)) (decide (10 * h ≤ factor l (countBefore t.strips y) * girthMax t y)))) ∧ _
    generalize countBefore t.strips y = n at p q hcnt
    match n with
    | 0 => exact judgeHeight_none l.age l.rest l.girth l.f0 l.f1 l.f2 l.heal t.code t.bmin t.bmax t.taped t.gmin t.gmax t.wmin t.wmax sa sn sc wa wn wc t.dead y h _ _ W hh0 hh1 p.1 (Int.le_trans p.2 (by omega)) q.1 (Int.le_trans q.2 (by omega)) hcnt hg
    | 1 => exact judgeHeight_one l.age l.rest l.girth l.f0 l.f1 l.f2 l.heal t.code t.bmin t.bmax t.taped t.gmin t.gmax t.wmin t.wmax sa sn sc wa wn wc t.dead y h _ _ W hh0 hh1 p.1 (Int.le_trans p.2 (by omega)) q.1 (Int.le_trans q.2 (by omega)) hcnt hg
    | 2 => exact judgeHeight_two l.age l.rest l.girth l.f0 l.f1 l.f2 l.heal t.code t.bmin t.bmax t.taped t.gmin t.gmax t.wmin t.wmax sa sn sc wa wn wc t.dead y h _ _ W hh0 hh1 p.1 (Int.le_trans p.2 (by omega)) q.1 (Int.le_trans q.2 (by omega)) hcnt hg
    | n + 3 => exact judgeHeight_more l.age l.rest l.girth l.f0 l.f1 l.f2 l.heal t.code t.bmin t.bmax t.taped t.gmin t.gmax t.wmin t.wmax sa sn sc wa wn wc t.dead y h (n + 3) _ _ W (by omega) hh0 hh1 p.1 (Int.le_trans p.2 (by omega)) q.1 (Int.le_trans q.2 (by omega)) hcnt hg

/-- The verdict on a tree. -/
def verdictOn (l : Law) (t : Tree) (y h : Int) : Int × Int := verdictV (jv l t y h)

theorem verdict_says (l : Law) (t : Tree) (y h : Int) (w : World) (hl : LawFine l) (ht : TreeFine t) (hH : TreeHeld w.heap.size w t) (hy0 : 0 ≤ y) (hy1 : y ≤ 300) (hh0 : 1 ≤ h) (hh1 : h ≤ 15000) :
    Calls Tryz.prog 34 #[.agg (qCells l t y h)] w fun e w' => e = .returned (.tuple #[.int .i64 (verdictOn l t y h).1, .int .i64 (verdictOn l t y h).2]) ∧ Below w.heap.size w w' := by
  have hJ := judges_say l t y h w hl ht hH hy0 hy1 hh0 hh1
  obtain ⟨sa, sn, sc, es⟩ := hH.1.slice
  obtain ⟨wa, wn, wc, ew⟩ := hH.2.1.slice
  unfold qCells at hJ ⊢
  rw [es, ew] at hJ ⊢
  exact verdict_calls l.age l.rest l.girth l.f0 l.f1 l.f2 l.heal t.code t.bmin t.bmax t.taped t.gmin t.gmax t.wmin t.wmax sa sn sc wa wn wc t.dead y h (jv l t y h) w hJ
end Go.Proofs.YtnoofdjlocadbaaGreatDoor

/-! A question about a forest: its first error, or a tree that is in order. -/
namespace Go.Proofs.YtnoofdjlocadbaaGreatDoor
open Go.RowKit Go.Shelf

theorem inB_iff {n a b : Int} : inB n a b = true ↔ a ≤ n ∧ n ≤ b := by simp [inB]
theorem boundsB_iff {x y a b : Int} : boundsB x y a b = true ↔ a ≤ x ∧ x ≤ y ∧ y ≤ b := by simp [boundsB]

theorem lawB_fine (l : Law) (h : lawB l = true) : LawFine l ∧ (0 ≤ l.age ∧ l.age ≤ 300) ∧ (1 ≤ l.rest ∧ l.rest ≤ 30) ∧ (0 ≤ l.girth ∧ l.girth ≤ 6000) ∧ (0 ≤ l.heal ∧ l.heal ≤ 30) := by
  simp only [lawB, Bool.and_eq_true, inB_iff] at h
  obtain ⟨⟨⟨⟨⟨⟨a, b⟩, c⟩, d⟩, e⟩, g⟩, i⟩ := h
  exact ⟨⟨a, b, c⟩, d, e, g, i⟩

theorem stripsErr_fine : ∀ (xs : List (Int × Int)) (l : Int), stripsErr l xs = 0 → ∀ s ∈ xs, (0 ≤ s.1 ∧ s.1 ≤ 300) ∧ (1 ≤ s.2 ∧ s.2 ≤ 15000)
  | [], _, _, s, hs => by cases hs
  | x :: r, l, h, s, hs => by
    simp only [stripsErr] at h
    split at h
    · rename_i hx
      simp only [Bool.and_eq_true, inB_iff] at hx
      split at h
      · cases h
      · rcases List.mem_cons.1 hs with rfl | hs
        · exact hx
        · exact stripsErr_fine r x.1 h s hs
    · cases h

theorem woundsErr_fine : ∀ (xs : List Int) (l : Int), woundsErr l xs = 0 → ∀ s ∈ xs, 0 ≤ s ∧ s ≤ 300
  | [], _, _, s, hs => by cases hs
  | x :: r, l, h, s, hs => by
    simp only [woundsErr] at h
    split at h
    · rename_i hx
      simp only [inB_iff] at hx
      split at h
      · cases h
      · rcases List.mem_cons.1 hs with rfl | hs
        · exact hx
        · exact woundsErr_fine r x h s hs
    · cases h

theorem treeErr_fine (t : Tree) (h : treeErr t = 0) : TreeFine t := by
  unfold treeErr at h
  split at h
  · rename_i hm
    simp only [measuredB, Bool.and_eq_true, inB_iff, boundsB_iff] at hm
    obtain ⟨⟨⟨⟨a, b⟩, c⟩, d⟩, _⟩ := hm
    split at h
    · rename_i hs
      refine ⟨a, b, c, d, ?_, ?_⟩
      · unfold checkStrips at hs
        split at hs
        · cases hs
        · exact fun s hx => (stripsErr_fine _ _ hs s hx).1
      · unfold checkWounds at h
        split at h
        · cases h
        · exact woundsErr_fine _ _ h
    · exact absurd h (by assumption)
  · cases h

theorem treesErr_fine : ∀ (ts es : List Tree), treesErr es ts = 0 → ∀ t ∈ ts, TreeFine t
  | [], _, _, t, ht => by cases ht
  | x :: r, es, h, t, ht => by
    simp only [treesErr] at h
    split at h
    · rename_i hx
      rcases List.mem_cons.1 ht with rfl | ht
      · unfold checkTree at hx
        split at hx
        · split at hx
          · cases hx
          · exact treeErr_fine _ hx
        · cases hx
      · exact treesErr_fine r _ h t ht
    · exact absurd h (by assumption)

theorem checkForest_fine (f : Forest) (h : checkForest f = 0) : lawB f.law = true ∧ f.trees.length ≤ 20 ∧ ∀ t ∈ f.trees, TreeFine t := by
  unfold checkForest at h
  split at h
  · rename_i hl
    split at h
    · cases h
    · exact ⟨hl, by omega, treesErr_fine _ _ h⟩
  · cases h

/-- A question without an error. -/
structure Asked (f : Forest) (tree year height : Int) (w : World) : Prop where
  forest : checkForest f = 0
  law : LawFine f.law
  tree0 : 0 ≤ tree
  tree1 : tree < f.trees.length
  fine : TreeFine f.trees[tree.toNat]!
  held : TreeHeld w.heap.size w f.trees[tree.toNat]!
  year0 : 0 ≤ year
  year1 : year ≤ 300
  height0 : 1 ≤ height
  height1 : height ≤ 15000

theorem asked_of (f : Forest) (tree year height : Int) (w : World) (h : TreesHeld w.heap.size w f.tv f.trees) (he : askErr f tree year height = 0) : Asked f tree year height w := by
  unfold askErr at he
  split at he
  · rename_i hf
    split at he
    · rename_i ht
      split at he
      · rename_i hy
        simp only [Bool.and_eq_true, inB_iff] at hy
        obtain ⟨hl, _, hts⟩ := checkForest_fine f hf
        have hm : f.trees[tree.toNat]! ∈ f.trees := by rw [getElem!_pos f.trees tree.toNat (by omega)]; exact List.getElem_mem _
        exact ⟨hf, (lawB_fine _ hl).1, ht.1, ht.2, hts _ hm, h.2 _ hm, hy.1.1, hy.1.2, hy.2.1, hy.2.2⟩
      · cases he
    · cases he
  · exact absurd he (by assumption)

theorem Held.len {α : Type} [Inhabited α] {B : Nat} {w : World} {k : Nat} {enc : α → List Value} {v : Value} {xs : List α} (h : Held B w k enc v xs) : ∃ (a : Option Addr) (c : Nat), v = .slice a xs.length c := by
  rcases h with ⟨⟨a, c, h⟩, h2⟩ | ⟨b, off, c, h, _⟩
  · exact ⟨a, c, by rw [h, h2]; rfl⟩
  · exact ⟨_, _, h⟩

theorem ask_no (f : Forest) (tree year height : Int) (w : World) (h : TreesHeld w.heap.size w f.tv f.trees) (he : ¬ askErr f tree year height = 0) :
    Calls Tryz.prog 33 #[.agg f.cells.toArray, .int .i64 tree, .int .i64 year, .int .i64 height] w fun e w' => e = .returned (.tuple #[.agg noQuestion, .int .i64 (askErr f tree year height)]) ∧ Below w.heap.size w w' := by
  have hF : ∀ W, Below w.heap.size w W → Calls Tryz.prog 18 #[.agg f.cells.toArray] W fun e w' => e = .returned (.int .i64 (checkForest f)) ∧ Below W.heap.size W w' := fun W hW => checkForest_calls f W ((h.below hW).mono hW.size)
  obtain ⟨a, c, ev⟩ := h.1.len
  unfold askErr at he ⊢
  simp only [Forest.cells] at hF ⊢
  rw [ev] at hF ⊢
  by_cases hf : checkForest f = 0
  · rw [if_pos hf] at he ⊢
    rw [hf] at hF
    by_cases ht : 0 ≤ tree ∧ tree < f.trees.length
    · rw [if_pos ht] at he ⊢
      by_cases hy : (inB year 0 300 && inB height 1 15000) = true
      · rw [if_pos hy] at he; exact absurd rfl he
      · rw [if_neg hy]
        cases h3 : inB year 0 300
        · exact ask_year _ _ _ _ _ _ _ a _ c tree year height w ht.1 ht.2 h3 hF
        · exact ask_height _ _ _ _ _ _ _ a _ c tree year height w ht.1 ht.2 h3 (by cases h4 : inB height 1 15000; rfl; exact absurd (by rw [h3, h4]; rfl) hy) hF
    · rw [if_neg ht]
      by_cases h0 : 0 ≤ tree
      · exact ask_above _ _ _ _ _ _ _ a _ c tree year height w h0 (by omega) hF
      · exact ask_below _ _ _ _ _ _ _ a _ c tree year height w (by omega) hF
  · rw [if_neg hf]
    exact ask_forest _ _ _ _ _ _ _ a _ c tree year height w (checkForest f) (by simpa using hf) hF

theorem ask_yes (f : Forest) (tree year height : Int) (w : World) (h : TreesHeld w.heap.size w f.tv f.trees) (he : askErr f tree year height = 0) :
    Calls Tryz.prog 33 #[.agg f.cells.toArray, .int .i64 tree, .int .i64 year, .int .i64 height] w fun e w' => e = .returned (.tuple #[.agg (qCells f.law f.trees[tree.toNat]! year height), .int .i64 0]) ∧ Below w.heap.size w w' := by
  have hA := asked_of f tree year height w h he
  have hF : ∀ W, Below w.heap.size w W → Calls Tryz.prog 18 #[.agg f.cells.toArray] W fun e w' => e = .returned (.int .i64 0) ∧ Below W.heap.size W w' := fun W hW => by
    have := checkForest_calls f W ((h.below hW).mono hW.size)
    rwa [hA.forest] at this
  obtain ⟨_, hlen, _⟩ := checkForest_fine f hA.forest
  obtain ⟨k, rfl⟩ := Int.eq_ofNat_of_zero_le hA.tree0
  have hk : k < f.trees.length := by have := hA.tree1; omega
  have hH := hA.held
  have hyB : inB year 0 300 = true := inB_iff.2 ⟨hA.year0, hA.year1⟩
  have hhB : inB height 1 15000 = true := inB_iff.2 ⟨hA.height0, hA.height1⟩
  rw [Int.toNat_natCast] at hH ⊢
  rcases h.1 with ⟨_, h2⟩ | ⟨b, off, c, ev, hb, hcap, hc⟩
  · rw [h2] at hk; cases hk
  · have cs := hc k hk
    generalize f.trees[k]! = x at cs hH
    simp only [Forest.cells] at hF ⊢
    rw [ev] at hF ⊢
    obtain ⟨sa, sn, sc, es⟩ := hH.1.slice
    obtain ⟨wa, wn, wc, ew⟩ := hH.2.1.slice
    unfold qCells
    rw [es, ew]
    refine ask_ok _ _ _ _ _ _ _ b off f.trees.length c k year height x.code x.bmin x.bmax x.taped x.gmin x.gmax x.wmin x.wmax sa sn sc wa wn wc x.dead w hb hk hlen hyB hhB (cs 0 _ rfl) (cs 1 _ rfl) (cs 2 _ rfl) (cs 3 _ rfl) (cs 4 _ rfl) (cs 5 _ rfl) (cs 6 _ rfl) (cs 7 _ rfl) ?_ ?_ (cs 10 _ rfl) hF
    · rw [← es]; exact cs 8 _ rfl
    · rw [← ew]; exact cs 9 _ rfl
end Go.Proofs.YtnoofdjlocadbaaGreatDoor

/-! May a tree be stripped: the program's answer. -/
namespace Go.Proofs.YtnoofdjlocadbaaGreatDoor
open Go.RowKit Go.Shelf

theorem qCells_ones (l : Law) (t : Tree) (y h : Int) (hs : ∃ (a : Option Addr) (n c : Nat), t.sv = .slice a n c) (hw : ∃ (a : Option Addr) (n c : Nat), t.wv = .slice a n c) : (qCells l t y h).all (·.oneCell') = true := by
  obtain ⟨a, n, c, e⟩ := hs
  obtain ⟨a2, n2, c2, e2⟩ := hw
  simp [qCells, Value.oneCell', e, e2]

/-- What May answers. -/
def mayOf (f : Forest) (tree year height : Int) : Int × Int × Int :=
  if askErr f tree year height = 0 then ((verdictOn f.law f.trees[tree.toNat]! year height).1, (verdictOn f.law f.trees[tree.toNat]! year height).2, 0) else (0, 0, askErr f tree year height)

set_option maxRecDepth 100000 in
set_option maxHeartbeats 1000000 in
theorem may_no (f : Forest) (tree year height : Int) (w : World) (h : TreesHeld w.heap.size w f.tv f.trees) (he : ¬ askErr f tree year height = 0) :
    Calls Tryz.prog 15 #[.agg f.cells.toArray, .int .i64 tree, .int .i64 year, .int .i64 height] w fun e w' => e = .returned (.tuple #[.int .i64 0, .int .i64 0, .int .i64 (askErr f tree year height)]) ∧ Below w.heap.size w w' := by
  have hA := ask_no f tree year height (w.alloc (.cells f.cells.toArray 27)) ((h.below ((Below.refl _ w).alloc (Nat.le_refl _) _)).mono (by simp)) he
  have hne : (askErr f tree year height != 0) = true := by simpa using he
  obtain ⟨a, c, ev⟩ := h.1.len
  clear h he
  generalize askErr f tree year height = r at hA hne ⊢
  simp only [Forest.cells] at hA ⊢
  rw [ev] at hA ⊢
  clear ev
  have HA := Lib.hid hA; clear hA
  go_enter Tryz.func15, Tryz.ntmps15
  go_wp2_with (first | (go_at_call 33; refine HA.out.mono ?_; rintro e w1 ⟨rfl, hw1⟩; have hB1 := ((Below.refl _ w).alloc (Nat.le_refl _) _).trans (hw1.mono (by simp)); clear hw1) | ((with_reducible refine at_store 81 (.tmp 11) (.tmp 21) ?_); go_must (refine wpList_store_row rfl 81 (.tmp 11) (.tmp 21) rfl w1.heap.size (noQuestion) rfl rfl 81 #[.int .i64 0, .int .i64 0, .int .i64 0, .int .i64 0, .int .i64 0, .int .i64 0, .int .i64 0, .string ⟨#[]⟩, .int .i64 0, .int .i64 0, .int .i64 0, .int .i64 0, .int .i64 0, .int .i64 0, .int .i64 0, .slice none 0 0, .slice none 0 0, .int .i64 0, .int .i64 0, .int .i64 0] (heap_alloc_new w1 _) size_question rfl none_cells ?_); have hB2 := below_setRow (hB1.alloc hB1.size (.cells #[.int .i64 0, .int .i64 0, .int .i64 0, .int .i64 0, .int .i64 0, .int .i64 0, .int .i64 0, .string ⟨#[]⟩, .int .i64 0, .int .i64 0, .int .i64 0, .int .i64 0, .int .i64 0, .int .i64 0, .int .i64 0, .slice none 0 0, .slice none 0 0, .int .i64 0, .int .i64 0, .int .i64 0] 81)) hB1.size (noQuestion); have HQ2 := Lib.hid (setRow_heap (w1.alloc (.cells #[.int .i64 0, .int .i64 0, .int .i64 0, .int .i64 0, .int .i64 0, .int .i64 0, .int .i64 0, .string ⟨#[]⟩, .int .i64 0, .int .i64 0, .int .i64 0, .int .i64 0, .int .i64 0, .int .i64 0, .int .i64 0, .slice none 0 0, .slice none 0 0, .int .i64 0, .int .i64 0, .int .i64 0] 81)) w1.heap.size _ (noQuestion) _ _ (heap_alloc_new w1 _)); generalize (w1.alloc (.cells #[.int .i64 0, .int .i64 0, .int .i64 0, .int .i64 0, .int .i64 0, .int .i64 0, .int .i64 0, .string ⟨#[]⟩, .int .i64 0, .int .i64 0, .int .i64 0, .int .i64 0, .int .i64 0, .int .i64 0, .int .i64 0, .slice none 0 0, .slice none 0 0, .int .i64 0, .int .i64 0, .int .i64 0] 81)).setRow w1.heap.size (noQuestion) = w2 at hB2 HQ2 ⊢))
  go_ret3
  exact ⟨rfl, hB2⟩

set_option maxRecDepth 100000 in
set_option maxHeartbeats 1000000 in
theorem may_yes (f : Forest) (tree year height : Int) (w : World) (h : TreesHeld w.heap.size w f.tv f.trees) (he : askErr f tree year height = 0) :
    Calls Tryz.prog 15 #[.agg f.cells.toArray, .int .i64 tree, .int .i64 year, .int .i64 height] w fun e w' => e = .returned (.tuple #[.int .i64 (verdictOn f.law f.trees[tree.toNat]! year height).1, .int .i64 (verdictOn f.law f.trees[tree.toNat]! year height).2, .int .i64 0]) ∧ Below w.heap.size w w' := by
  have hA := ask_yes f tree year height (w.alloc (.cells f.cells.toArray 27)) ((h.below ((Below.refl _ w).alloc (Nat.le_refl _) _)).mono (by simp)) he
  have hk := asked_of f tree year height w h he
  have hV : ∀ W, Below w.heap.size w W → Calls Tryz.prog 34 #[.agg (qCells f.law f.trees[tree.toNat]! year height)] W fun e w' => e = .returned (.tuple #[.int .i64 (verdictOn f.law f.trees[tree.toNat]! year height).1, .int .i64 (verdictOn f.law f.trees[tree.toNat]! year height).2]) ∧ Below W.heap.size W w' := fun W hW =>
    verdict_says _ _ _ _ W hk.law hk.fine ((hk.held.below hW).mono hW.size) hk.year0 hk.year1 hk.height0 hk.height1
  have hO := qCells_ones f.law f.trees[tree.toNat]! year height hk.held.1.slice hk.held.2.1.slice
  obtain ⟨a, c, ev⟩ := h.1.len
  clear h he hk
  generalize verdictOn f.law f.trees[tree.toNat]! year height = v at hV ⊢
  generalize hq : qCells f.law f.trees[tree.toNat]! year height = q at hA hV hO
  have hs : q.size = 20 := by rw [← hq]; rfl
  clear hq
  simp only [Forest.cells] at hA ⊢
  rw [ev] at hA ⊢
  clear ev
  have HA := Lib.hid hA; clear hA
  have HV := Lib.hid hV; clear hV
  have HO := Lib.hid hO; clear hO
  have HS := Lib.hid (show (Tryz.prog.info? 81).map (·.size) = some q.size from by rw [hs]; exact size_question)
  have HS2 := Lib.hid (show (#[.int .i64 0, .int .i64 0, .int .i64 0, .int .i64 0, .int .i64 0, .int .i64 0, .int .i64 0, .string ⟨#[]⟩, .int .i64 0, .int .i64 0, .int .i64 0, .int .i64 0, .int .i64 0, .int .i64 0, .int .i64 0, .slice none 0 0, .slice none 0 0, .int .i64 0, .int .i64 0, .int .i64 0] : Array Value).size = q.size from by rw [hs]; rfl)
  clear hs
  go_enter Tryz.func15, Tryz.ntmps15
  go_wp2_with (first | (go_at_call 33; refine HA.out.mono ?_; rintro e w1 ⟨rfl, hw1⟩; have hB1 := ((Below.refl _ w).alloc (Nat.le_refl _) _).trans (hw1.mono (by simp)); clear hw1) | ((with_reducible refine at_store 81 (.tmp 11) (.tmp 21) ?_); go_must (refine wpList_store_row rfl 81 (.tmp 11) (.tmp 21) rfl w1.heap.size (q) rfl rfl 81 #[.int .i64 0, .int .i64 0, .int .i64 0, .int .i64 0, .int .i64 0, .int .i64 0, .int .i64 0, .string ⟨#[]⟩, .int .i64 0, .int .i64 0, .int .i64 0, .int .i64 0, .int .i64 0, .int .i64 0, .int .i64 0, .slice none 0 0, .slice none 0 0, .int .i64 0, .int .i64 0, .int .i64 0] (heap_alloc_new w1 _) HS.out HS2.out HO.out ?_); have hB2 := below_setRow (hB1.alloc hB1.size (.cells #[.int .i64 0, .int .i64 0, .int .i64 0, .int .i64 0, .int .i64 0, .int .i64 0, .int .i64 0, .string ⟨#[]⟩, .int .i64 0, .int .i64 0, .int .i64 0, .int .i64 0, .int .i64 0, .int .i64 0, .int .i64 0, .slice none 0 0, .slice none 0 0, .int .i64 0, .int .i64 0, .int .i64 0] 81)) hB1.size (q); have HQ2 := Lib.hid (setRow_heap (w1.alloc (.cells #[.int .i64 0, .int .i64 0, .int .i64 0, .int .i64 0, .int .i64 0, .int .i64 0, .int .i64 0, .string ⟨#[]⟩, .int .i64 0, .int .i64 0, .int .i64 0, .int .i64 0, .int .i64 0, .int .i64 0, .int .i64 0, .slice none 0 0, .slice none 0 0, .int .i64 0, .int .i64 0, .int .i64 0] 81)) w1.heap.size _ (q) _ _ (heap_alloc_new w1 _)); generalize (w1.alloc (.cells #[.int .i64 0, .int .i64 0, .int .i64 0, .int .i64 0, .int .i64 0, .int .i64 0, .int .i64 0, .string ⟨#[]⟩, .int .i64 0, .int .i64 0, .int .i64 0, .int .i64 0, .int .i64 0, .int .i64 0, .int .i64 0, .slice none 0 0, .slice none 0 0, .int .i64 0, .int .i64 0, .int .i64 0] 81)).setRow w1.heap.size (q) = w2 at hB2 HQ2 ⊢) | ((with_reducible refine at_load 81 (.tmp 11) ?_); go_must (refine wpList_load_row rfl 81 (.tmp 11) rfl w1.heap.size rfl 81 (q) (0, 0) _ HQ2.out Tryz.underlying81 rfl HS.out ?_)) | (go_at_call 34; refine (HV.out _ hB2).mono ?_; rintro e w3 ⟨rfl, hw3⟩))
  go_ret3
  exact ⟨rfl, hB2.trans (hw3.mono hB2.size)⟩

theorem may_calls (f : Forest) (tree year height : Int) (w : World) (h : TreesHeld w.heap.size w f.tv f.trees) :
    Calls Tryz.prog 15 #[.agg f.cells.toArray, .int .i64 tree, .int .i64 year, .int .i64 height] w fun e w' => e = .returned (.tuple #[.int .i64 (mayOf f tree year height).1, .int .i64 (mayOf f tree year height).2.1, .int .i64 (mayOf f tree year height).2.2]) ∧ Below w.heap.size w w' := by
  unfold mayOf
  by_cases he : askErr f tree year height = 0
  · rw [if_pos he]; exact may_yes f tree year height w h he
  · rw [if_neg he]; exact may_no f tree year height w h he
end Go.Proofs.YtnoofdjlocadbaaGreatDoor

/-! The library's binary search, at the closure of highest. -/
namespace Go.Proofs.YtnoofdjlocadbaaGreatDoor
open Go.RowKit Go.Shelf

/-- What a search says: a place r with a false answer before it and a true one at it. -/
def SomeSearch (n : Nat) (p : Nat → Bool) (Inv : World → Prop) (e : Ending) (w' : World) : Prop :=
  ∃ r : Nat, e = .returned (.int .i64 r) ∧ Hid (r ≤ n ∧ (r = 0 ∨ p (r - 1) = false) ∧ (r = n ∨ p r = true)) ∧ Inv w'

set_option maxRecDepth 100000 in
set_option maxHeartbeats 1000000 in
theorem search_calls (n : Nat) (hn : n ≤ 15000) (p : Nat → Bool) (Inv : World → Prop) (Bq Bg : Nat) (w : World) (h0 : Inv w)
    (hf : ∀ (k : Nat) (W : World), k < n → Inv W → Calls Tryz.prog 66 #[.int .i64 (k : Nat), .pointer (some ⟨Bq, 0, none⟩), .pointer (some ⟨Bg, 0, none⟩)] W fun e W' => e = .returned (.bool (p k)) ∧ Inv W') :
    Calls Tryz.prog 65 #[.int .i64 n, .func (.func 66) #[] #[.pointer (some ⟨Bq, 0, none⟩), .pointer (some ⟨Bg, 0, none⟩)]] w (SomeSearch n p Inv) := by
  have HF := Lib.hid hf; clear hf
  have H0 := Lib.hid h0; clear h0
  have hn' : (n : Int) ≤ 15000 := by omega
  go_enter Tryz.func65, Tryz.ntmps65
  go_wp2
  go_loopw [5, 6] (fun a b wr => ∃ (i j : Nat), i ≤ j ∧ j ≤ n ∧ a = .int .i64 i ∧ b = .int .i64 j ∧ Hid ((i = 0 ∨ p (i - 1) = false) ∧ (j = n ∨ p j = true)) ∧ Hid (Inv wr)) (fun a b _ => (intOf b).toNat - (intOf a).toNat)
  case atStart => exact ⟨0, n, by omega, by omega, rfl, rfl, Lib.hid ⟨.inl rfl, .inl rfl⟩, H0⟩
  case round =>
    clear H0
    obtain ⟨i, j, hij, hj, rfl, rfl, HR, HI⟩ := hrel
    by_cases hlt : i < j
    · have hlt' : (i : Int) < (j : Int) := by omega
      have hj' : (j : Int) ≤ 15000 := by omega
      go_wp2_with fail
      obtain ⟨m, hm⟩ : ∃ m : Nat, ((i : Int) + (j : Int)) / 2 = (m : Int) := ⟨(i + j) / 2, by omega⟩
      have hm1 : i ≤ m := by omega
      have hm2 : m < j := by omega
      rw [hm]
      clear hm
      have HC := Lib.hid (HF.out m wr (by omega) HI.out)
      cases hp : p m
      · rw [hp] at HC
        refine HC.out.mono ?_
        rintro e w2 ⟨rfl, hI⟩
        have HI2 := Lib.hid hI; clear hI
        have HS := Lib.hid (show (m + 1 = 0 ∨ p (m + 1 - 1) = false) ∧ (j = n ∨ p j = true) from ⟨.inr hp, HR.out.2⟩)
        clear hp
        go_wp2
        exact ⟨⟨m + 1, j, by omega, by omega, by go_num, rfl, HS, HI2⟩, by simp [intOf]; omega⟩
      · rw [hp] at HC
        refine HC.out.mono ?_
        rintro e w2 ⟨rfl, hI⟩
        have HI2 := Lib.hid hI; clear hI
        have HS := Lib.hid (show (i = 0 ∨ p (i - 1) = false) ∧ (m = n ∨ p m = true) from ⟨HR.out.1, .inr hp⟩)
        clear hp
        go_wp2
        exact ⟨⟨i, m, by omega, by omega, rfl, rfl, HS, HI2⟩, by simp [intOf]; omega⟩
    · have hge : (j : Int) ≤ (i : Int) := by omega
      obtain rfl : i = j := by omega
      go_wp2
      go_ret
      exact ⟨i, rfl, Lib.hid ⟨hj, HR.out⟩, HI.out⟩

set_option maxHeartbeats 400000 in
theorem isAlways_calls (v : Int) (w : World) :
    Calls Tryz.prog 36 #[.int .i64 v] w fun e w' => e = .returned (.bool (v == 1)) ∧ w = w' := by
  go_enter Tryz.func36, Tryz.ntmps36
  go_wp2
  go_ret
  exact ⟨rfl, rfl⟩

set_option maxHeartbeats 400000 in
theorem isPossible_calls (v : Int) (w : World) :
    Calls Tryz.prog 37 #[.int .i64 v] w fun e w' => e = .returned (.bool (v != 2)) ∧ w = w' := by
  go_enter Tryz.func37, Tryz.ntmps37
  go_wp2
  go_ret
  exact ⟨rfl, rfl⟩

set_option maxRecDepth 100000 in
set_option maxHeartbeats 1000000 in
theorem closure_isAlways (l : Law) (t : Tree) (y h : Int) (i Bq Bg : Nat) (w0 W : World) (hi : i < 15000) (hl : LawFine l) (ht : TreeFine t) (hH : TreeHeld w0.heap.size w0 t) (hy0 : 0 ≤ y) (hy1 : y ≤ 300)
    (hW : Below w0.heap.size w0 W) (hq0 : w0.heap.size ≤ Bq) (hqg : Bq < Bg) (hq : Blk W Bq 81 (qCells l t y h)) (hg : Blk W Bg 87 #[.func (.func 36) #[] #[]]) :
    Calls Tryz.prog 66 #[.int .i64 (i : Nat), .pointer (some ⟨Bq, 0, none⟩), .pointer (some ⟨Bg, 0, none⟩)] W fun e W' => e = .returned (.bool (!((verdictOn l t y ((i : Int) + 1)).1 == 1))) ∧ Below w0.heap.size w0 W' ∧ Blk W' Bq 81 (qCells l t y ((i : Int) + 1)) ∧ Blk W' Bg 87 #[.func (.func 36) #[] #[]] := by
  have c19 := hq.cell 19
  have f19 := hq.frozen 19
  simp only [qCells, List.getElem?_toArray, List.getElem?_cons_zero, List.getElem?_cons_succ] at c19
  have hq2 := hq.set_ 19 (.int .i64 ((i : Int) + 1))
  rw [show (qCells l t y h).setIfInBounds 19 (.int .i64 ((i : Int) + 1)) = qCells l t y ((i : Int) + 1) from rfl] at hq2
  have HQ2 := Lib.hid hq2
  have hg2 : Blk (W.setCell ⟨Bq, 19, none⟩ (.int .i64 ((i : Int) + 1))) Bg _ _ := hg.far (by simp; omega) _
  have hW2 : Below w0.heap.size w0 (W.setCell ⟨Bq, 19, none⟩ (.int .i64 ((i : Int) + 1))) := hW.setCell (p := ⟨Bq, 19, none⟩) hq0 _
  have HV := Lib.hid (verdict_says l t y ((i : Int) + 1) _ hl ht ((hH.below hW2).mono hW2.size) hy0 hy1 (by omega) (by omega))
  clear hq hq2
  have hi' : (i : Int) < 15000 := by omega
  generalize verdictOn l t y ((i : Int) + 1) = v at HV ⊢
  have HG2 := Lib.hid hg2; clear hg2 hg
  go_enter Tryz.func66, Tryz.ntmps66
  go_wp2_with (first | ((with_reducible refine at_load 81 (.tmp 1) ?_); go_must (refine wpList_load_row rfl 81 (.tmp 1) rfl Bq rfl 81 (qCells l t y ((i : Int) + 1)) (0, 0) _ HQ2.out Tryz.underlying81 rfl size_question ?_)) | (go_at_call 34; refine HV.out.mono ?_; rintro e w3 ⟨rfl, hw3⟩; have hg3 := Blk.below HG2.out hw3 (Blk.lt HG2.out); have d3 := Blk.cell hg3 0; simp only [List.getElem?_toArray, List.getElem?_cons_zero] at d3) | (go_at_call 36; refine (isAlways_calls _ _).mono ?_; rintro e w' ⟨rfl, rfl⟩))
  go_ret
  exact ⟨rfl, hW2.trans (hw3.mono hW2.size), Blk.below HQ2.out hw3 (Blk.lt HQ2.out), hg3⟩

set_option maxRecDepth 100000 in
set_option maxHeartbeats 1000000 in
theorem closure_isPossible (l : Law) (t : Tree) (y h : Int) (i Bq Bg : Nat) (w0 W : World) (hi : i < 15000) (hl : LawFine l) (ht : TreeFine t) (hH : TreeHeld w0.heap.size w0 t) (hy0 : 0 ≤ y) (hy1 : y ≤ 300)
    (hW : Below w0.heap.size w0 W) (hq0 : w0.heap.size ≤ Bq) (hqg : Bq < Bg) (hq : Blk W Bq 81 (qCells l t y h)) (hg : Blk W Bg 87 #[.func (.func 37) #[] #[]]) :
    Calls Tryz.prog 66 #[.int .i64 (i : Nat), .pointer (some ⟨Bq, 0, none⟩), .pointer (some ⟨Bg, 0, none⟩)] W fun e W' => e = .returned (.bool (!((verdictOn l t y ((i : Int) + 1)).1 != 2))) ∧ Below w0.heap.size w0 W' ∧ Blk W' Bq 81 (qCells l t y ((i : Int) + 1)) ∧ Blk W' Bg 87 #[.func (.func 37) #[] #[]] := by
  have c19 := hq.cell 19
  have f19 := hq.frozen 19
  simp only [qCells, List.getElem?_toArray, List.getElem?_cons_zero, List.getElem?_cons_succ] at c19
  have hq2 := hq.set_ 19 (.int .i64 ((i : Int) + 1))
  rw [show (qCells l t y h).setIfInBounds 19 (.int .i64 ((i : Int) + 1)) = qCells l t y ((i : Int) + 1) from rfl] at hq2
  have HQ2 := Lib.hid hq2
  have hg2 : Blk (W.setCell ⟨Bq, 19, none⟩ (.int .i64 ((i : Int) + 1))) Bg _ _ := hg.far (by simp; omega) _
  have hW2 : Below w0.heap.size w0 (W.setCell ⟨Bq, 19, none⟩ (.int .i64 ((i : Int) + 1))) := hW.setCell (p := ⟨Bq, 19, none⟩) hq0 _
  have HV := Lib.hid (verdict_says l t y ((i : Int) + 1) _ hl ht ((hH.below hW2).mono hW2.size) hy0 hy1 (by omega) (by omega))
  clear hq hq2
  have hi' : (i : Int) < 15000 := by omega
  generalize verdictOn l t y ((i : Int) + 1) = v at HV ⊢
  have HG2 := Lib.hid hg2; clear hg2 hg
  go_enter Tryz.func66, Tryz.ntmps66
  go_wp2_with (first | ((with_reducible refine at_load 81 (.tmp 1) ?_); go_must (refine wpList_load_row rfl 81 (.tmp 1) rfl Bq rfl 81 (qCells l t y ((i : Int) + 1)) (0, 0) _ HQ2.out Tryz.underlying81 rfl size_question ?_)) | (go_at_call 34; refine HV.out.mono ?_; rintro e w3 ⟨rfl, hw3⟩; have hg3 := Blk.below HG2.out hw3 (Blk.lt HG2.out); have d3 := Blk.cell hg3 0; simp only [List.getElem?_toArray, List.getElem?_cons_zero] at d3) | (go_at_call 37; refine (isPossible_calls _ _).mono ?_; rintro e w' ⟨rfl, rfl⟩))
  go_ret
  exact ⟨rfl, hW2.trans (hw3.mono hW2.size), Blk.below HQ2.out hw3 (Blk.lt HQ2.out), hg3⟩
end Go.Proofs.YtnoofdjlocadbaaGreatDoor

/-! The greatest height that is good. -/
namespace Go.Proofs.YtnoofdjlocadbaaGreatDoor
open Go.RowKit Go.Shelf

set_option maxRecDepth 100000 in
set_option maxHeartbeats 1000000 in
theorem highest_isAlways (l : Law) (t : Tree) (y h : Int) (w : World) (hl : LawFine l) (ht : TreeFine t) (hH : TreeHeld w.heap.size w t) (hy0 : 0 ≤ y) (hy1 : y ≤ 300) :
    Calls Tryz.prog 35 #[.agg (qCells l t y h), .func (.func 36) #[] #[]] w (SomeSearch 15000 (fun k => !((verdictOn l t y ((k : Int) + 1)).1 == 1)) (Below w.heap.size w)) := by
  have hS := search_calls 15000 (by omega) (fun k => !((verdictOn l t y ((k : Int) + 1)).1 == 1)) (fun W => Below w.heap.size w W ∧ (∃ h' : Int, Blk W w.heap.size 81 (qCells l t y h')) ∧ Blk W (w.heap.size + 1) 87 #[.func (.func 36) #[] #[]])
    w.heap.size (w.heap.size + 1) ((w.alloc (.cells (qCells l t y h) 81)).alloc (.cells #[.func (.func 36) #[] #[]] 87))
    ⟨((Below.refl _ w).alloc (Nat.le_refl _) _).alloc (by simp) _, ⟨h, (Blk.new w _ _).alloc _⟩, by have := Blk.new (w.alloc (.cells (qCells l t y h) 81)) 87 #[.func (.func 36) #[] #[]]; rwa [World.size_alloc] at this⟩
    (fun k W hk ⟨h1, ⟨h', h2⟩, h3⟩ => (closure_isAlways l t y h' k w.heap.size (w.heap.size + 1) w W hk hl ht hH hy0 hy1 h1 (Nat.le_refl _) (by omega) h2 h3).mono fun _ _ ⟨he, a, b, c⟩ => ⟨he, a, ⟨_, b⟩, c⟩)
  clear hH
  generalize (fun k : Nat => !((verdictOn l t y ((k : Int) + 1)).1 == 1)) = p at hS ⊢
  generalize qCells l t y h = q at hS ⊢
  have HS := Lib.hid hS; clear hS
  go_enter Tryz.func35, Tryz.ntmps35
  go_wp2_with fail
  refine HS.out.mono ?_
  rintro e w2 ⟨r, rfl, hr, hI, _, _⟩
  go_wp2
  go_ret
  exact ⟨r, rfl, hr, hI⟩

set_option maxRecDepth 100000 in
set_option maxHeartbeats 1000000 in
theorem highest_isPossible (l : Law) (t : Tree) (y h : Int) (w : World) (hl : LawFine l) (ht : TreeFine t) (hH : TreeHeld w.heap.size w t) (hy0 : 0 ≤ y) (hy1 : y ≤ 300) :
    Calls Tryz.prog 35 #[.agg (qCells l t y h), .func (.func 37) #[] #[]] w (SomeSearch 15000 (fun k => !((verdictOn l t y ((k : Int) + 1)).1 != 2)) (Below w.heap.size w)) := by
  have hS := search_calls 15000 (by omega) (fun k => !((verdictOn l t y ((k : Int) + 1)).1 != 2)) (fun W => Below w.heap.size w W ∧ (∃ h' : Int, Blk W w.heap.size 81 (qCells l t y h')) ∧ Blk W (w.heap.size + 1) 87 #[.func (.func 37) #[] #[]])
    w.heap.size (w.heap.size + 1) ((w.alloc (.cells (qCells l t y h) 81)).alloc (.cells #[.func (.func 37) #[] #[]] 87))
    ⟨((Below.refl _ w).alloc (Nat.le_refl _) _).alloc (by simp) _, ⟨h, (Blk.new w _ _).alloc _⟩, by have := Blk.new (w.alloc (.cells (qCells l t y h) 81)) 87 #[.func (.func 37) #[] #[]]; rwa [World.size_alloc] at this⟩
    (fun k W hk ⟨h1, ⟨h', h2⟩, h3⟩ => (closure_isPossible l t y h' k w.heap.size (w.heap.size + 1) w W hk hl ht hH hy0 hy1 h1 (Nat.le_refl _) (by omega) h2 h3).mono fun _ _ ⟨he, a, b, c⟩ => ⟨he, a, ⟨_, b⟩, c⟩)
  clear hH
  generalize (fun k : Nat => !((verdictOn l t y ((k : Int) + 1)).1 != 2)) = p at hS ⊢
  generalize qCells l t y h = q at hS ⊢
  have HS := Lib.hid hS; clear hS
  go_enter Tryz.func35, Tryz.ntmps35
  go_wp2_with fail
  refine HS.out.mono ?_
  rintro e w2 ⟨r, rfl, hr, hI, _, _⟩
  go_wp2
  go_ret
  exact ⟨r, rfl, hr, hI⟩
end Go.Proofs.YtnoofdjlocadbaaGreatDoor
