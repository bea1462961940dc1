/- Two ascending lists, joined. -/
import Derived.Test.YtbgojeppfhldjaaYOrder
import Derived.Test.YtbgojeppfhldjaaYClone
import Derived.Shelf.Abstract
namespace Go.Proofs.Ytbgojeppfhldjaa
open Go Go.RowKit Go.Shelf Yd

section nth
variable {F : Fence} {n : Nat} {P : Program}
/-- An iterator that hands out (encs 0), .. (encs (N - 1)) to rounds that all go on; it may make memory between them. -/
def SeqGrow (F : Fence) (n : Nat) (P : Program) (gf : Nat) (lb : Array Value) (encs : Nat → Array Value) (Kp : World → World → Prop) (N : Nat) (w : World) : Prop :=
  ∀ (l : Nat) (J : Nat → World → Prop) (W : World), Below w.heap.size w W → (∀ k X Y, J k X → Below X.heap.size X Y → J k Y) →
    (∀ k W1, k < N → J k W1 → YieldAt F (n - 1) P l (encs k) W1 fun e W' => e = .returned (.bool true) ∧ J (k + 1) W' ∧ Kp W1 W') →
    J 0 W → CallsIn F n P gf (#[.func (.yield l) #[] #[]] ++ lb) W fun e W' => (∃ v, e = .returned v) ∧ J N W'

theorem wpIn_rangeFunc_grow {g : Operand} {ps : Array Tmp} {assign body : Go.Code} {Q : Exit → Act → World → Prop} {a : Act} {w : World} (hro : F.round = none) (h1 : 1 ≤ n) {gf : Nat} {lb : Array Value}
    (hg : a.eval g = .func (.func gf) #[] lb) (hFg : F.fn gf) (eg : ∀ args w, (callFunc gf args).run P w = .ok (.enter gf args) w) {encs : Nat → Array Value} {Kp : World → World → Prop} {N : Nat} {w0 : World}
    (hseq : SeqGrow F (n - 1) P gf lb encs Kp N w0) (hKt : ∀ {A B C : World}, Kp A B → Kp B C → Kp A C)
    (hKb : ∀ (W : World) (l : Nat) (o' : Obj), w.heap.size ≤ l → Kp W (W.putObj l o')) (hb0 : Below w0.heap.size w0 w) (hps : ∀ k, (encs k).size = ps.size)
    (I : Nat → World → Prop) (hI : OwnFrom w.heap.size I) (h0 : I 0 w) (a₁ : Nat → Act)
    (hassign : ∀ (l k : Nat) (W : World) (K : Act → World → Prop), K (a₁ k) W →
      assign.wpIn (F.inRound l) (n - 1 - 1) P (Exit.then K (fun _ _ _ => False)) { tmps := (ps.zip (encs k)).foldl (fun t (p, v) => t.setIfInBounds p v) a.tmps, defers := [] } W)
    (hbody : ∀ (l k : Nat) (W : World), k < N → I k W → body.wpIn (F.inRound l) (n - 1 - 1) P (nthPost w.heap.size Kp (I (k + 1)) W) (a₁ k) W)
    (hdone : ∀ (D : Nat) (W : World), w.heap.size ≤ D → I N W → W.heap[D]? = some (.deferred (some [])) → Q .normal { a with defers := { target := .collected D, args := #[] } :: a.defers } W) :
    (Go.Code.rangeFunc g ps assign body).wpIn F n P Q a w := by
  refine wpIn_rangeFunc (fun fn hfn => ?_)
  let r : LoopState → Loop := fun s => { state := s, pending := none, fn, tmps := a.tmps, params := ps, assign, body, defers := w.heap.size }
  let B : World → Prop := fun W => W.heap[w.heap.size]? = some (.deferred (some []))
  let L : LoopState → World → Prop := fun s W => W.heap[w.heap.size + 1]? = some (.loop (r s))
  have turn : ∀ (s s' : LoopState) (k : Nat) (W : World), I k W → B W → L s W → I k (W.putObj (w.heap.size + 1) (.loop (r s'))) ∧ B (W.putObj (w.heap.size + 1) (.loop (r s'))) ∧ L s' (W.putObj (w.heap.size + 1) (.loop (r s'))) := fun s s' k W hi hb hl =>
    ⟨hI.putObj _ hi (by omega) hl rfl, (World.putObj_heap_other (by omega)).trans hb, World.putObj_heap_same (Array.getElem?_eq_some_iff.1 hl).1⟩
  have z1 : (w.alloc (.deferred (some []))).heap.size = w.heap.size + 1 := World.size_alloc _ _
  have i1 : I 0 ((w.alloc (.deferred (some []))).alloc (.loop (r .ready))) := hI.alloc _ (hI.alloc _ h0)
  have b1 : B ((w.alloc (.deferred (some []))).alloc (.loop (r .ready))) := (Below.heap_alloc _ _ _ (by omega)).trans (World.alloc_heap_new w _)
  have l1 : L .ready ((w.alloc (.deferred (some []))).alloc (.loop (r .ready))) := by
    have := World.alloc_heap_new (w.alloc (.deferred (some []))) (.loop (r .ready))
    rwa [z1] at this
  have u1 : Below w0.heap.size w0 ((w.alloc (.deferred (some []))).alloc (.loop (r .ready))) := (hb0.alloc hb0.size _).alloc (by have := hb0.size; omega) _
  refine ⟨w.heap.size + 1, [{ target := .collected w.heap.size, args := #[] }], (w.alloc (.deferred (some []))).alloc (.loop (r .ready)), { target := .fn (.func gf) lb, args := #[.func (.yield (w.heap.size + 1)) #[] #[]] }, (w.alloc (.deferred (some []))).alloc (.loop (r .ready)), gf,
    #[.func (.yield (w.heap.size + 1)) #[] #[]] ++ lb, (w.alloc (.deferred (some []))).alloc (.loop (r .ready)), ?_, ?_, ?_, ?_, fun _ => h1, ?_⟩
  · rw [hro]
    exact run_enterLoop_outer _ _ _ _ _
  · simp only [resolve, hg]
    simp [go_sem]
  · intro f' hf'
    simp [Target.leads] at hf'
    exact hf' ▸ hFg
  · simp [invoke, go_sem, eg]
  have lt_of : ∀ {W : World} {k : Nat} {o : Obj}, W.heap[k]? = some o → k < W.heap.size := fun h => (Array.getElem?_eq_some_iff.1 h).1
  refine (hseq (w.heap.size + 1) (fun k W => I k W ∧ B W ∧ L .ready W) _ u1 ?_ ?_ ⟨i1, b1, l1⟩).mono ?_
  · rintro k X Y ⟨hi, hb, hl⟩ hXY
    exact ⟨hI k X Y none hi (below_grown hXY none) (fun r e => by cases e), (hXY.block _ (lt_of hb)).trans hb, (hXY.block _ (lt_of hl)).trans hl⟩
  · rintro k W hk ⟨hi, hb, hl⟩
    refine ⟨fn, _, assign, body, run_yield hl (hps k), roundIn_of_wpIn hfn (hassign _ k W _ ⟨_, run_beginRound hl rfl, ?_⟩)⟩
    obtain ⟨hi2, hb2, hl2⟩ := turn .ready .busy k W hi hb hl
    refine wpIn_mono (hbody _ k _ hk hi2) ?_
    rintro e a3 W3 hp
    cases e with
    | normal =>
      obtain ⟨hk3, hkp3, hi3⟩ := hp
      have hb3 : B W3 := hk3.same _ _ (Nat.le_refl _) hb2 rfl
      have hl3 : L .busy W3 := hk3.same _ _ (by omega) hl2 rfl
      exact ⟨_, _, run_endRound none hl3, rfl, turn .busy .ready _ W3 hi3 hb3 hl3, hKt (hKt (hKb _ _ _ (by omega)) hkp3) (hKb _ _ _ (by omega))⟩
    | _ => exact hp.elim
  · rintro e W2 ⟨⟨v, rfl⟩, hi, hb, hl⟩
    obtain ⟨hi4, hb4, _⟩ := turn .ready .exhausted N W2 hi hb hl
    exact ⟨none, _, run_endLoop hl (by simp [r]), hdone _ _ (Nat.le_refl _) hi4 hb4⟩
end nth

/-- What is kept of two blocks. -/
def Kept2 (ga gb : Nat) (W W' : World) : Prop := KeptAt ga W W' ∧ KeptAt gb W W'

/-- The iterator of inOrder, as a loop wants it. -/
theorem order_seq (n : Nat) (hn : 1 ≤ n) (Ba Bb ga gb ca cb : Nat) (xs ys : List Int) (w : World) (hsa : xs.length ≤ 1000) (hsb : ys.length ≤ 1000)
    (ha : Blk w Ba 46 #[.slice (some ⟨ga, 0, none⟩) xs.length ca]) (hb : Blk w Bb 46 #[.slice (some ⟨gb, 0, none⟩) ys.length cb])
    (ra : Rem w ga gb ga 0 ca xs) (rb : Rem w ga gb gb 0 cb ys) (hga : ga < w.heap.size) (hgb : gb < w.heap.size) :
    SeqGrow Fence.wide n Try.prog 88 #[.pointer (some ⟨Ba, 0, none⟩), .pointer (some ⟨Bb, 0, none⟩)] (fun k => #[.int .i64 ((mg xs ys).getD k 0)]) (Kept2 ga gb) (mg xs ys).length w := by
  intro l J W hW hJd hY hJ
  refine inOrder_in n hn l Ba Bb ga gb 0 0 ca cb xs ys J hsa hsb (fun k x W1 hx hJk => ?_) W (ha.below hW) (hb.below hW) (ra.kept (hW.block _ hga) (hW.block _ hgb)) (rb.kept (hW.block _ hga) (hW.block _ hgb)) hJ hJd
  have hk : k < (mg xs ys).length := (List.getElem?_eq_some_iff.1 hx).1
  have e : (mg xs ys).getD k 0 = x := by rw [List.getD_eq_getElem?_getD, hx]; rfl
  have := hY k W1 hk hJk
  simp only [e] at this
  exact this

attribute [local go_sem] Oper.semAt_some

/-- What is there after k elements. -/
structure Jn (w : World) (Lb Ba Bb ga gb ca cb na nb : Nat) (acc : List Int) (W : World) : Prop where
  row : ∃ v, Blk W Lb 46 #[v] ∧ W.ownsRow w.heap.size 3 1 v acc.length (intCells acc)
  ba : Blk W Ba 46 #[.slice (some ⟨ga, 0, none⟩) na ca]
  bb : Blk W Bb 46 #[.slice (some ⟨gb, 0, none⟩) nb cb]
  bel : Below w.heap.size w W

/-- The list joined, in a block of the call's own. -/
def JoinDone (w : World) (zs : List Int) (e : Ending) (w' : World) : Prop :=
  ∃ v, e = .returned v ∧ Below w.heap.size w w' ∧ w'.ownsRow w.heap.size 3 1 v zs.length (intCells zs)

theorem dd_len (acc : List Int) (x : Int) : (dd acc x).length ≤ acc.length + 1 := by unfold dd; split <;> simp
theorem take_fold (M : List Int) {k : Nat} (hk : k < M.length) : (M.take (k + 1)).foldl dd [] = dd ((M.take k).foldl dd []) (M.getD k 0) := by
  rw [List.take_succ_eq_append_getElem hk, List.foldl_append]
  simp [List.getD_eq_getElem?_getD, List.getElem?_eq_getElem hk]
theorem fold_len (M : List Int) : ∀ k, ((M.take k).foldl dd []).length ≤ k := by
  intro k
  induction k with
  | zero => simp
  | succ k ih =>
    rcases Nat.lt_or_ge k M.length with h | h
    · rw [take_fold M h]
      exact Nat.le_trans (dd_len _ _) (by omega)
    · rw [List.take_of_length_le (by omega)]
      rw [List.take_of_length_le (by omega)] at ih
      omega

set_option maxHeartbeats 1000000 in
theorem inOrder_calls (a1 a2 : Option Addr) (n1 n2 c1 c2 : Nat) (w : World) :
    Calls Try.prog 85 #[.slice a1 n1 c1, .slice a2 n2 c2] w fun e w' =>
      e = .returned (.func (.func 88) #[] #[.pointer (some ⟨w.heap.size, 0, none⟩), .pointer (some ⟨w.heap.size + 1, 0, none⟩)]) ∧ w' = (w.alloc (.cells #[.slice a1 n1 c1] 46)).alloc (.cells #[.slice a2 n2 c2] 46) := by
  have hmf : ∀ (fn : Fn) (first cap : Array Value) (w : World), (Instr.makeFunc fn first cap).run Try.prog w = .ok (.func fn first cap) w := fun _ _ _ _ => rfl
  go_enter Try.func85, Try.ntmps85
  go_wp2
  go_ret
  exact ⟨rfl, rfl⟩

theorem Jn.grown {w W W' : World} {Lb Ba Bb ga gb ca cb na nb : Nat} {acc : List Int} (h : Jn w Lb Ba Bb ga gb ca cb na nb acc W) {row : Option Nat} (hg : W.grownBy W' row) (hr : ∀ r, row = some r → w.heap.size ≤ r ∧ ∃ o : Obj, W.heap[r]? = some o ∧ o.isCells = false) : Jn w Lb Ba Bb ga gb ca cb na nb acc W' := by
  have no : ∀ {g : Nat} {t : TypeId} {cs : Array Value}, Blk W g t cs → some g ≠ row := fun hb e => by
    obtain ⟨_, o, ho, hc⟩ := hr _ e.symm
    unfold Blk at hb
    rw [hb] at ho
    cases ho
    simp [Obj.isCells] at hc
  obtain ⟨v, hv, hw⟩ := h.row
  refine ⟨⟨v, hv.grown hg (no hv), row_same hw (fun g hgo => hg.block g (row_lt hw hgo) ?_)⟩, h.ba.grown hg (no h.ba), h.bb.grown hg (no h.bb), ?_⟩
  · obtain ⟨cs, hb⟩ := row_type hw hgo
    exact no hb
  · exact h.bel.grown hg h.bel.size (fun r e => (hr r e).1)

theorem row_len {w : World} {base : Nat} {e : TypeId} {size k : Nat} {a : Option Addr} {n c : Nat} {xs : List Value} (h : w.ownsRow base e size (.slice a n c) k xs) : n = k := by
  rcases h.2 with ⟨h1, h0⟩ | ⟨g, cap, cur, h1, _⟩
  · cases h1; omega
  · cases h1; rfl
/-- A round that appends. -/
theorem join_end {w W : World} {Lb Ba Bb ga gb ca cb na nb : Nat} {acc : List Int} (h : Jn w Lb Ba Bb ga gb ca cb na nb acc W) {v : Value} (hv : Blk W Lb 46 #[v]) (hw : W.ownsRow w.heap.size 3 1 v acc.length (intCells acc)) (x : Int)
    (hLb : w.heap.size ≤ Lb) (hBa : Ba ≠ Lb) (hBb : Bb ≠ Lb) (hga : ga < w.heap.size) (hgb : gb < w.heap.size) (v' : Value) (w' : World) (ho : w'.ownsRow w.heap.size 3 1 v' (acc.length + 1) (intCells acc ++ [.int .i64 x])) (hg : (W.alloc (.cells #[.int .i64 x] 3)).grownBy w' v.ownBlock) (B : Nat) :
    Blk w' Lb 46 #[v] ∧ KeepsFrom B W (w'.setCell ⟨Lb, 0, none⟩ v') ∧ Kept2 ga gb W (w'.setCell ⟨Lb, 0, none⟩ v') ∧ Jn w Lb Ba Bb ga gb ca cb na nb (acc ++ [x]) (w'.setCell ⟨Lb, 0, none⟩ v') := by
  have hwa := hw.alloc (.cells #[.int .i64 x] 3)
  have no : ∀ {g : Nat} {t : TypeId} {cs : Array Value}, Blk W g t cs → t ≠ 3 → some g ≠ v.ownBlock := fun hb ht => hb.notRow hw ht
  have hva : Blk w' Lb 46 #[v] := (hv.alloc _).grown hg (no hv (by decide))
  have hbelow : Below w.heap.size w w' := (h.bel.alloc h.bel.size _).grown hg (by rw [World.size_alloc]; have := h.bel.size; omega) (fun r e => (hw.lt r e).1)
  have hold : ∀ k, k < w.heap.size → (w'.setCell ⟨Lb, 0, none⟩ v').heap[k]? = W.heap[k]? := fun k hk =>
    (Below.heap_setCell w' ⟨Lb, 0, none⟩ v' k (by show k ≠ Lb; omega)).trans ((hbelow.block k hk).trans (h.bel.block k hk).symm)
  refine ⟨hva, ?_, ⟨hold ga hga, hold gb hgb⟩, ⟨v', hva.set_ 0 v', ?_⟩, ?_, ?_, ?_⟩
  · refine KeepsFrom.trans ((KeepsOthers.alloc W (.cells #[.int .i64 x] 3)).from B) (KeepsFrom.trans ((KeepsOthers.of_grownBy hg (fun j o e ho => ?_)).from B) ((KeepsOthers.setCell _ _ _).from B))
    obtain ⟨cs, hb⟩ := row_type hwa e
    unfold Blk at hb
    rw [hb] at ho
    cases ho
    rfl
  · have e : (acc ++ [x]).length = acc.length + 1 := by simp
    have e2 : intCells (acc ++ [x]) = intCells acc ++ [.int .i64 x] := by simp [intCells]
    rw [e, e2]
    exact row_setCell ho hva (by decide) 0 v'
  · exact ((h.ba.alloc _).grown hg (no h.ba (by decide))).far (p := ⟨Lb, 0, none⟩) hBa v'
  · exact ((h.bb.alloc _).grown hg (no h.bb (by decide))).far (p := ⟨Lb, 0, none⟩) hBb v'
  · exact hbelow.setCell (p := ⟨Lb, 0, none⟩) hLb v'

set_option maxRecDepth 100000 in
set_option maxHeartbeats 2000000 in
theorem joined_calls {w : World} {v1 v2 : Value} {xs ys : List Int} (h1 : w.ownsRow 0 3 1 v1 xs.length (intCells xs)) (h2 : w.ownsRow 0 3 1 v2 ys.length (intCells ys)) (hx0 : 0 < xs.length) (hy0 : 0 < ys.length) (hx1 : xs.length ≤ 1000) (hy1 : ys.length ≤ 1000) (ax : Asc xs) (ay : Asc ys) :
    Calls Try.prog 80 #[v1, v2] w (JoinDone w (both xs ys)) := by
  obtain ⟨ga, ca, cur1, rfl, hb1, hc1, hm1, hs1, ht1⟩ := row_block h1 hx0
  obtain ⟨gb, cb, cur2, rfl, hb2, hc2, hm2, hs2, ht2⟩ := row_block h2 hy0
  have hga := hb1.lt
  have hgb := hb2.lt
  have HRA := Lib.hid (show Rem w ga gb ga 0 ca xs from ⟨.inl rfl, hc1, by unfold maxLen at hm1; omega, fun j x hj => by
    rw [Nat.zero_add, hb1.cell, ← Array.getElem?_toList]
    have hl := (List.getElem?_eq_some_iff.1 hj).1
    have : (cur1.toList.take (xs.length * 1))[j]? = some (.int .i64 x) := by rw [ht1]; simp [intCells, hj]
    rw [List.getElem?_take, if_pos (by omega)] at this
    exact this⟩)
  have HRB := Lib.hid (show Rem w ga gb gb 0 cb ys from ⟨.inr rfl, hc2, by unfold maxLen at hm2; omega, fun j x hj => by
    rw [Nat.zero_add, hb2.cell, ← Array.getElem?_toList]
    have hl := (List.getElem?_eq_some_iff.1 hj).1
    have : (cur2.toList.take (ys.length * 1))[j]? = some (.int .i64 x) := by rw [ht2]; simp [intCells, hj]
    rw [List.getElem?_take, if_pos (by omega)] at this
    exact this⟩)
  have hmf : ∀ (fn : Fn) (first cap : Array Value) (w : World), (Instr.makeFunc fn first cap).run Try.prog w = .ok (.func fn first cap) w := fun _ _ _ _ => rfl
  clear h1 h2 hb1 hb2 hc1 hc2 hm1 hm2 hs1 hs2 ht1 ht2
  refine (callsIn_wide (n := 6)).1 ?_
  have hro : Fence.wide.round = none := rfl
  refine callsIn_of_wp_marks Try.func80 rfl trivial ?_ hro
  simp only [Try.ntmps80, List.size_toArray, List.length_cons, List.length_nil, Nat.reduceAdd, Nat.reduceSub, Array.replicate_succ, Array.replicate_zero, List.push_toArray, List.append_toArray, List.nil_append, List.cons_append]
  gi_wp2_with (refine ⟨trivial, ?_⟩; gi_at_call 85; refine (callsIn_wide.2 (inOrder_calls _ _ _ _ _ _ _)).mono ?_; rintro e w' ⟨rfl, rfl⟩)
  have k0 := ((Blk.new w 46 #[.slice none 0 0]).alloc (.cells #[.slice (some ⟨ga, 0, none⟩) xs.length ca] 46)).alloc (.cells #[.slice (some ⟨gb, 0, none⟩) ys.length cb] 46)
  have k1 := (Blk.new' (w := w.alloc (.cells #[.slice none 0 0] 46)) (g := w.heap.size + 1) (World.size_alloc _ _) 46 #[.slice (some ⟨ga, 0, none⟩) xs.length ca]).alloc (.cells #[.slice (some ⟨gb, 0, none⟩) ys.length cb] 46)
  have k2 := Blk.new' (w := (w.alloc (.cells #[.slice none 0 0] 46)).alloc (.cells #[.slice (some ⟨ga, 0, none⟩) xs.length ca] 46)) (g := w.heap.size + 1 + 1) (by simp only [World.size_alloc]) 46 #[.slice (some ⟨gb, 0, none⟩) ys.length cb]
  have bB : Below w.heap.size w (((w.alloc (.cells #[.slice none 0 0] 46)).alloc (.cells #[.slice (some ⟨ga, 0, none⟩) xs.length ca] 46)).alloc (.cells #[.slice (some ⟨gb, 0, none⟩) ys.length cb] 46)) := by
    refine Below.alloc (Below.alloc (Below.alloc (Below.refl _ _) ?_ _) ?_ _) ?_ _ <;> (try simp only [World.size_alloc]) <;> omega
  have hz : (((w.alloc (.cells #[.slice none 0 0] 46)).alloc (.cells #[.slice (some ⟨ga, 0, none⟩) xs.length ca] 46)).alloc (.cells #[.slice (some ⟨gb, 0, none⟩) ys.length cb] 46)).heap.size = w.heap.size + 3 := by simp only [World.size_alloc]
  generalize (((w.alloc (.cells #[.slice none 0 0] 46)).alloc (.cells #[.slice (some ⟨ga, 0, none⟩) xs.length ca] 46)).alloc (.cells #[.slice (some ⟨gb, 0, none⟩) ys.length cb] 46)) = w3 at bB k0 k1 k2 hz ⊢
  have hJ0 : Jn w w.heap.size (w.heap.size + 1) (w.heap.size + 1 + 1) ga gb ca cb xs.length ys.length [] w3 := ⟨⟨_, k0, rfl, .inl ⟨rfl, rfl⟩⟩, k1, k2, bB⟩
  have r3 : Rem w3 ga gb ga 0 ca xs := HRA.out.kept (bB.block ga hga) (bB.block gb hgb)
  have s3 : Rem w3 ga gb gb 0 cb ys := HRB.out.kept (bB.block ga hga) (bB.block gb hgb)
  refine wpIn_rangeFunc_grow hro (by omega) (gf := 88) (lb := #[.pointer (some ⟨w.heap.size + 1, 0, none⟩), .pointer (some ⟨w.heap.size + 1 + 1, 0, none⟩)]) rfl trivial (enters_of Try.func88 (by kernel_rfl) rfl)
    (order_seq 5 (by omega) (w.heap.size + 1) (w.heap.size + 1 + 1) ga gb ca cb xs ys w3 hx1 hy1 k1 k2 r3 s3 (by omega) (by omega)) (fun h k => ⟨Eq.trans k.1 h.1, Eq.trans k.2 h.2⟩) (fun W l o' hl => ⟨World.putObj_heap_other (by omega), World.putObj_heap_other (by omega)⟩) (Below.refl _ _) (fun _ => rfl)
    (fun k W => Jn w w.heap.size (w.heap.size + 1) (w.heap.size + 1 + 1) ga gb ca cb xs.length ys.length (((mg xs ys).take k).foldl dd []) W)
    (fun k A B row hs hg hr => hs.grown hg (fun r e => ⟨by have := (hr r e).1; omega, (hr r e).2⟩)) hJ0
    (fun k => { tmps := #[.slice (some ⟨ga, 0, none⟩) xs.length ca, .slice (some ⟨gb, 0, none⟩) ys.length cb, undef, undef, .pointer (some ⟨w.heap.size, 0, none⟩), .int .i64 ((mg xs ys).getD k 0), .slice (some ⟨ga, 0, none⟩) xs.length ca, .slice (some ⟨gb, 0, none⟩) ys.length cb, .func (.func 88) #[] #[.pointer (some ⟨w.heap.size + 1, 0, none⟩), .pointer (some ⟨w.heap.size + 1 + 1, 0, none⟩)], .int .i64 ((mg xs ys).getD k 0), undef, undef, undef, undef, undef, undef, undef, undef, undef, undef, undef, undef, undef, undef, undef, undef, undef, undef], defers := [] }) ?assign ?body ?done
  case assign =>
    intro l k W K hK
    generalize (mg xs ys).getD k 0 = x at hK ⊢
    gi_wp2
    exact hK
  case body =>
    intro l k W hk hS
    rw [take_fold _ hk]
    have hlen := fold_len (mg xs ys) k
    have hml := mg_length xs ys
    generalize (mg xs ys).getD k 0 = x at hS ⊢
    generalize ((mg xs ys).take k).foldl dd [] = acc at hS hlen ⊢
    obtain ⟨v, hv, hw⟩ := hS.row
    have HWA := Lib.hid (hw.alloc (.cells #[.int .i64 x] 3))
    have cL := hv.at 0 _ rfl
    have fL := hv.frozen 0
    have HSS := Lib.hid hS
    obtain ⟨i1, hi1, hi1a, hi1b, hi1c⟩ := info_parts info_int
    have HI1 := Lib.hid hi1
    have HI1a := Lib.hid hi1a
    have HI1b := Lib.hid hi1b
    have HI1c := Lib.hid hi1c
    have HA := Lib.hid (show acc.length + 1 ≤ maxLen ∧ (acc.length + 1) * 8 ≤ 140737488355328 ∧ w.heap.size ≤ (W.alloc (.cells #[.int .i64 x] 3)).heap.size from by
      have := hS.bel.size
      rw [World.size_alloc]
      unfold maxLen
      omega)
    have HL2 := Lib.hid (show acc.length ≤ 2000 by omega)
    have hzW : w.heap.size < W.heap.size := hv.lt
    have HEND := Lib.hid (fun (v' : Value) (w' : World) (hown' : w'.ownsRow w.heap.size 3 1 v' (acc.length + 1) (intCells acc ++ [.int .i64 x])) (hg' : (W.alloc (.cells #[.int .i64 x] 3)).grownBy w' v.ownBlock) =>
      join_end (w := w) (W := W) hS hv hw x (Nat.le_refl _) (by omega) (by omega) hga hgb v' w' hown' hg' w3.heap.size)
    clear hS hi1 hi1a hi1b hi1c hlen hml hk
    obtain rfl | ⟨pre, z, rfl⟩ : acc = [] ∨ ∃ pre z, acc = pre ++ [z] := by
      rcases List.eq_nil_or_concat acc with h | ⟨pre, z, h⟩
      · exact .inl h
      · exact .inr ⟨pre, z, by rw [h, List.concat_eq_append]⟩
    · obtain ⟨va, vn, vc, rfl⟩ := row_slice hw
      obtain rfl : vn = 0 := row_len hw
      have HDD := Lib.hid (show dd [] x = [] ++ [x] from rfl)
      clear hv hw
      gi_wp2_with (gi_at_builtin; refine wpListIn_append_own _ rfl _ _ 46 rfl w.heap.size 3 i1 (.int .i64 0) 1 8 Try.underlying46 HI1.out HI1a.out HI1b.out HI1c.out rfl (by decide) _ _ _ rfl HWA.out ⟨W.heap.size, 0, none⟩ 1 1 [.int .i64 x] rfl rfl (World.news_of_block (heap_alloc_new W _)) (by simp [Value.oneCell']) HA.out.1 HA.out.2.1 HA.out.2.2 ?_; intro v' w1 hown' hgrow _; obtain ⟨va', vn', vc', rfl⟩ := row_slice hown'; have HE := Lib.hid (HEND.out _ w1 hown' hgrow); have cL1 := HE.out.1.at 0 _ rfl; have fL1 := HE.out.1.frozen 0; clear hown' hgrow)
      rw [HDD.out]
      first | exact HE.out.2 | (have hh := HE.out.2; rw [hz] at hh; exact hh)
    · obtain ⟨g, cap, cur, rfl, hb, hc, hm, hs, ht⟩ := row_block hw (by simp)
      obtain ⟨n2, hn2⟩ : ∃ n, n = (pre ++ [z]).length := ⟨_, rfl⟩
      have hq : n2 = pre.length + 1 := by rw [hn2]; simp
      have cz : W.cell? ⟨g, pre.length, none⟩ = some (.int .i64 z) := by
        rw [hb.cell, ← Array.getElem?_toList]
        have : (cur.toList.take ((pre ++ [z]).length * 1))[pre.length]? = some (.int .i64 z) := by rw [ht]; simp [intCells]
        rw [List.getElem?_take, if_pos (by simp)] at this
        exact this
      obtain ⟨q, hqe⟩ : ∃ q, q = pre.length := ⟨_, rfl⟩
      rw [← hqe] at hq cz
      have HN2 := Lib.hid hn2
      have HLAST := Lib.hid (show (pre ++ [z]).getLast? = some z by simp)
      have hqb : n2 ≤ 2000000 := by have h2 := HL2.out; rw [← hn2] at h2; omega
      rw [← hn2] at cL HA HWA HEND
      have w0 : ((n2 : Int) == 0) = false := by simp; omega
      have w1 : IntKind.i64.wrap ((n2 : Int) - 1) = (q : Int) := by rw [IntKind.wrap_i64]; omega
      have w2 : wrap64 ((n2 : Int) - 1) = (q : Int) := by unfold wrap64; omega
      have w3' : (n2 : Int) - 1 = (q : Int) := by omega
      have w4 : q < n2 := by omega
      have w6 : (q : Int) < (n2 : Int) := by omega
      have w7 : ¬ ((n2 : Int) ≤ (q : Int)) := by omega
      have w8 : ¬ (n2 ≤ q) := by omega
      have w9 : (0 : Int) ≤ (q : Int) := by omega
      have w13 : ((n2 : Int) - 1).toNat = q := by omega
      clear hqe hv hw hb hc hm hs ht hn2 hq
      by_cases hzx : z = x
      · have d1 : (z == x) = true := by simpa using hzx
        have d2 : (z != x) = false := by simpa using hzx
        have HDD := Lib.hid (show dd (pre ++ [z]) x = pre ++ [z] by unfold dd; rw [if_pos (by rw [HLAST.out, hzx])])
        clear hzx
        gi_wp2
        rw [HDD.out]
        exact ⟨KeepsFrom.refl _ _, ⟨rfl, rfl⟩, HSS.out⟩
      · have d1 : (z == x) = false := by simpa using hzx
        have d2 : (z != x) = true := by simpa using hzx
        have HDD := Lib.hid (show dd (pre ++ [z]) x = (pre ++ [z]) ++ [x] by unfold dd; rw [if_neg (by rw [HLAST.out]; simpa using hzx)])
        clear hzx
        gi_wp2_with (gi_at_builtin; refine wpListIn_append_own _ rfl _ _ 46 rfl w.heap.size 3 i1 (.int .i64 0) 1 8 Try.underlying46 HI1.out HI1a.out HI1b.out HI1c.out rfl (by decide) _ _ _ rfl HWA.out ⟨W.heap.size, 0, none⟩ 1 1 [.int .i64 x] rfl rfl (World.news_of_block (heap_alloc_new W _)) (by simp [Value.oneCell']) HA.out.1 HA.out.2.1 HA.out.2.2 ?_; intro v' w1 hown' hgrow _; obtain ⟨va', vn', vc', rfl⟩ := row_slice hown'; have HE := Lib.hid (HEND.out _ w1 hown' hgrow); have cL1 := HE.out.1.at 0 _ rfl; have fL1 := HE.out.1.frozen 0; clear hown' hgrow)
        rw [HDD.out]
        first | exact HE.out.2 | (have hh := HE.out.2; rw [hz] at hh; exact hh)
  case done =>
    rintro D2 W hD hS hK
    have ht : ((mg xs ys).take (mg xs ys).length).foldl dd [] = both xs ys := by rw [List.take_length]; exact fold_mg ax ay
    rw [ht] at hS
    obtain ⟨v, hv, hw⟩ := hS.row
    obtain ⟨va, vn, vc, rfl⟩ := row_slice hw
    have cL := hv.at 0 _ rfl
    have fL := hv.frozen 0
    have HV := Lib.hid hv
    have HW := Lib.hid hw
    have HB := Lib.hid hS.bel
    clear hv hw hS
    have hDn : D2 ≠ w.heap.size := by omega
    gi_wp2
    have hv2 : Blk (W.setCell ⟨w.heap.size, 0, none⟩ (.slice va vn vc)) w.heap.size 46 #[.slice va vn vc] := HV.out.set_ 0 (.slice va vn vc)
    have hK2 : (W.setCell ⟨w.heap.size, 0, none⟩ (.slice va vn vc)).heap[D2]? = some (.deferred (some [])) := (Below.heap_setCell W ⟨w.heap.size, 0, none⟩ _ D2 hDn).trans hK
    have hw2 := row_setCell HW.out HV.out (by decide) 0 (.slice va vn vc)
    have hb2 := HB.out.setCell (p := ⟨w.heap.size, 0, none⟩) (Nat.le_refl _) (.slice va vn vc)
    generalize W.setCell ⟨w.heap.size, 0, none⟩ (.slice va vn vc) = W2 at hv2 hK2 hw2 hb2 ⊢
    refine ⟨by simp, .inl ⟨_, _, rfl, run_takeDeferred hK2, ?_⟩⟩
    have hv3 : Blk (W2.putObj D2 (.deferred none)) w.heap.size 46 #[.slice va vn vc] := (World.putObj_heap_other (Ne.symm hDn)).trans hv2
    have c3 := hv3.at 0 _ rfl
    have hne : ∀ g, (Value.slice va vn vc).ownBlock = some g → g ≠ D2 := fun g hg e => by
      obtain ⟨cs, hb⟩ := row_type hw2 hg
      subst e
      unfold Blk at hb
      rw [hb] at hK2
      cases hK2
    refine ⟨.slice va vn vc, ?_, ?_⟩
    · simp [results, Try.results80, go_sem, c3]
    · exact ⟨_, rfl, hb2.grown (grownBy_putObj' W2 D2 (.deferred none)) (by have := hb2.size; omega) (fun r e => by cases e; omega), row_same hw2 (fun g hg => World.putObj_heap_other (hne g hg))⟩
end Go.Proofs.Ytbgojeppfhldjaa
