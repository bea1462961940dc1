/- A loop over an iterator whose k-th round is known: what is handed to a round is told by the number of rounds before it. -/
import Derived.Test.YtajbflepjpgnbaaBack
namespace Go.Proofs.Ytajbflepjpgnbaa
open Go.RowKit Go.Shelf Go.Maps

/-- A round that falls off its end, and how. -/
def nthPost (B : Nat) (Kp : World → World → Prop) (I : World → Prop) (W : World) : Exit → Act → World → Prop
  | .normal, _, W' => KeepsFrom B W W' ∧ Kp W W' ∧ I W'
  | _, _, _ => False

/-- An iterator that hands out (encs 0), (encs 1), .. (encs (N - 1)), to rounds that all go on. -/
def SeqNth (F : Fence) (n : Nat) (P : Program) (gf : Nat) (lb : Array Value) (encs : Nat → Array Value) (Kp : World → World → Prop) (N : Nat) (w : World) : Prop :=
  ∀ (l : Nat) (J : Nat → World → Prop) (W : World), Below w.heap.size w W →
    (∀ k W1, k < N → J k W1 → YieldAt F (n - 1) P l (encs k) W1 fun e W' => e = .returned (.bool true) ∧ J (k + 1) W' ∧ Kp W1 W') →
    J 0 W → CallsIn F n P gf (#[.func (.yield l) #[] #[]] ++ lb) W fun e W' => (∃ v, e = .returned v) ∧ J N W'

variable {F : Fence} {n : Nat} {P : Program}

theorem wpIn_rangeFunc_nth {g : Operand} {ps : Array Tmp} {assign body : Code} {Q : Exit → Act → World → Prop} {a : Act} {w : World} (hro : F.round = none) (h1 : 1 ≤ n) {gf : Nat} {lb : Array Value}
    (hg : a.eval g = .func (.func gf) #[] lb) (hFg : F.fn gf) (eg : ∀ args w, (callFunc gf args).run P w = .ok (.enter gf args) w) {encs : Nat → Array Value} {Kp : World → World → Prop} {N : Nat} {w0 : World}
    (hseq : SeqNth F (n - 1) P gf lb encs Kp N w0) (hKt : ∀ {A B C : World}, Kp A B → Kp B C → Kp A C)
    (hKb : ∀ (W : World) (l : Nat) (o' : Obj), w.heap.size ≤ l → Kp W (W.putObj l o')) (hb0 : Below w0.heap.size w0 w) (hps : ∀ k, (encs k).size = ps.size)
    (I : Nat → World → Prop) (hI : OwnFrom w.heap.size I) (h0 : I 0 w) (a₁ : Nat → Act)
    (hassign : ∀ (l k : Nat) (W : World) (K : Act → World → Prop), K (a₁ k) W →
      assign.wpIn (F.inRound l) (n - 1 - 1) P (Exit.then K (fun _ _ _ => False)) { tmps := (ps.zip (encs k)).foldl (fun t (p, v) => t.setIfInBounds p v) a.tmps, defers := [] } W)
    (hbody : ∀ (l k : Nat) (W : World), k < N → I k W → body.wpIn (F.inRound l) (n - 1 - 1) P (nthPost w.heap.size Kp (I (k + 1)) W) (a₁ k) W)
    (hdone : ∀ (D : Nat) (W : World), w.heap.size ≤ D → I N W → W.heap[D]? = some (.deferred (some [])) → Q .normal { a with defers := { target := .collected D, args := #[] } :: a.defers } W) :
    (Code.rangeFunc g ps assign body).wpIn F n P Q a w := by
  refine wpIn_rangeFunc (fun fn hfn => ?_)
  let r : LoopState → Loop := fun s => { state := s, pending := none, fn, tmps := a.tmps, params := ps, assign, body, defers := w.heap.size }
  let B : World → Prop := fun W => W.heap[w.heap.size]? = some (.deferred (some []))
  let L : LoopState → World → Prop := fun s W => W.heap[w.heap.size + 1]? = some (.loop (r s))
  have turn : ∀ (s s' : LoopState) (k : Nat) (W : World), I k W → B W → L s W → I k (W.putObj (w.heap.size + 1) (.loop (r s'))) ∧ B (W.putObj (w.heap.size + 1) (.loop (r s'))) ∧ L s' (W.putObj (w.heap.size + 1) (.loop (r s'))) := fun s s' k W hi hb hl =>
    ⟨hI.putObj _ hi (by omega) hl rfl, (World.putObj_heap_other (by omega)).trans hb, World.putObj_heap_same (Array.getElem?_eq_some_iff.1 hl).1⟩
  have z1 : (w.alloc (.deferred (some []))).heap.size = w.heap.size + 1 := World.size_alloc _ _
  have i1 : I 0 ((w.alloc (.deferred (some []))).alloc (.loop (r .ready))) := hI.alloc _ (hI.alloc _ h0)
  have b1 : B ((w.alloc (.deferred (some []))).alloc (.loop (r .ready))) := (Below.heap_alloc _ _ _ (by omega)).trans (World.alloc_heap_new w _)
  have l1 : L .ready ((w.alloc (.deferred (some []))).alloc (.loop (r .ready))) := by
    have := World.alloc_heap_new (w.alloc (.deferred (some []))) (.loop (r .ready))
    rwa [z1] at this
  have u1 : Below w0.heap.size w0 ((w.alloc (.deferred (some []))).alloc (.loop (r .ready))) := (hb0.alloc hb0.size _).alloc (by have := hb0.size; omega) _
  refine ⟨w.heap.size + 1, [{ target := .collected w.heap.size, args := #[] }], (w.alloc (.deferred (some []))).alloc (.loop (r .ready)), { target := .fn (.func gf) lb, args := #[.func (.yield (w.heap.size + 1)) #[] #[]] }, (w.alloc (.deferred (some []))).alloc (.loop (r .ready)), gf,
    #[.func (.yield (w.heap.size + 1)) #[] #[]] ++ lb, (w.alloc (.deferred (some []))).alloc (.loop (r .ready)), ?_, ?_, ?_, ?_, fun _ => h1, ?_⟩
  · rw [hro]
    exact run_enterLoop_outer _ _ _ _ _
  · simp only [resolve, hg]
    simp [go_sem]
  · intro f' hf'
    simp [Target.leads] at hf'
    exact hf' ▸ hFg
  · simp [invoke, go_sem, eg]
  refine (hseq (w.heap.size + 1) (fun k W => I k W ∧ B W ∧ L .ready W) _ u1 ?_ ⟨i1, b1, l1⟩).mono ?_
  · rintro k W hk ⟨hi, hb, hl⟩
    refine ⟨fn, _, assign, body, run_yield hl (hps k), roundIn_of_wpIn hfn (hassign _ k W _ ⟨_, run_beginRound hl rfl, ?_⟩)⟩
    obtain ⟨hi2, hb2, hl2⟩ := turn .ready .busy k W hi hb hl
    refine wpIn_mono (hbody _ k _ hk hi2) ?_
    rintro e a3 W3 hp
    cases e with
    | normal =>
      obtain ⟨hk3, hkp3, hi3⟩ := hp
      have hb3 : B W3 := hk3.same _ _ (Nat.le_refl _) hb2 rfl
      have hl3 : L .busy W3 := hk3.same _ _ (by omega) hl2 rfl
      exact ⟨_, _, run_endRound none hl3, rfl, turn .busy .ready _ W3 hi3 hb3 hl3, hKt (hKt (hKb _ _ _ (by omega)) hkp3) (hKb _ _ _ (by omega))⟩
    | _ => exact hp.elim
  · rintro e W2 ⟨⟨v, rfl⟩, hi, hb, hl⟩
    obtain ⟨hi4, hb4, _⟩ := turn .ready .exhausted N W2 hi hb hl
    exact ⟨none, _, run_endLoop hl (by simp [r]), hdone _ _ (Nat.le_refl _) hi4 hb4⟩
end Go.Proofs.Ytajbflepjpgnbaa
