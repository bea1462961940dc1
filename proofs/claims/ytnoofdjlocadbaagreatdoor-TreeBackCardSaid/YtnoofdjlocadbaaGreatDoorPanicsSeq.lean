/- A loop over an iterator whose rounds may panic, each round's arguments known by its number: a law of my own. -/
import Derived.Test.YtnoofdjlocadbaaGreatDoorPanics
namespace Go.Proofs.YtnoofdjlocadbaaGreatDoor
open Go Go.RowKit

variable {F : Fence} {n : Nat} {P : Program}

/-- How a round ends that may panic. -/
def mayEnd (B : Nat) (Kp : World → World → Prop) (I : World → Prop) (Ip : List PanicEntry → World → Prop) (W : World) : Exit → Act → World → Prop
  | .normal, _, W' => KeepsFrom B W W' ∧ Kp W W' ∧ I W'
  | .panic ch, a, W' => a.defers = [] ∧ KeepsFrom B W W' ∧ Ip ch W'
  | _, _, _ => False

/-- An iterator with N rounds, the k-th one's arguments as 'Has k' says; a round's panic goes through it. -/
def SeqMay (F : Fence) (n : Nat) (P : Program) (gf : Nat) (lb : Array Value) (Has : Nat → Array Value → World → Prop) (Kp : World → World → Prop) (N : Nat) (w0 : World) : Prop :=
  ∀ (l : Nat) (J : Nat → World → Prop) (Jp : List PanicEntry → World → Prop) (W : World), Below w0.heap.size w0 W →
    (∀ k A B, J k A → Below A.heap.size A B → J k B) →
    (∀ k args W1, k < N → J k W1 → Has k args W1 → YieldAt F (n - 1) P l args W1 fun e W' => (e = .returned (.bool true) ∧ J (k + 1) W' ∧ Kp W1 W') ∨ ∃ ch, e = .panicked ch ∧ Jp ch W') →
    J 0 W → CallsIn F n P gf (#[.func (.yield l) #[] #[]] ++ lb) W fun e W' => ((∃ v, e = .returned v) ∧ J N W') ∨ ∃ ch, e = .panicked ch ∧ Jp ch W'

theorem grown_below {A B : World} (h : Below A.heap.size A B) : A.grownBy B none := ⟨h.os, h.tape, h.output, h.size, fun k hk _ => h.block k hk⟩

theorem own_below {β : Type} {B : Nat} {I : β → World → Prop} (h : OwnFrom B I) {s : β} {X Y : World} (hs : I s X) (hb : Below X.heap.size X Y) : I s Y :=
  h s X Y none hs (grown_below hb) (fun r e => by cases e)

theorem wpFor_rangeFunc_may {f : FuncId} {g : Operand} {ps : Array Tmp} {assign body : Code} {Q : Exit → Act → World → Prop} {a : Act} {w : World} (hFf : F.fn f) (hfx : ∃ fn, P.funcs[f]? = some fn)
    (hro : F.round = none) (h1 : 1 ≤ n) {gf : Nat} {lb : Array Value} (hg : a.eval g = .func (.func gf) #[] lb) (hFg : F.fn gf) (eg : ∀ args w, (callFunc gf args).run P w = .ok (.enter gf args) w)
    {Has : Nat → Array Value → World → Prop} {Kp : World → World → Prop} {N : Nat} {w0 : World} (hseq : SeqMay F (n - 1) P gf lb Has Kp N w0) (hKt : ∀ {A B C : World}, Kp A B → Kp B C → Kp A C)
    (hKb : ∀ (W : World) (l : Nat) (o' : Obj), w.heap.size ≤ l → Kp W (W.putObj l o')) (hb0 : Below w0.heap.size w0 w) (hps : ∀ k args W, Has k args W → args.size = ps.size)
    (hHas : ∀ k args, OwnFrom w.heap.size (fun (_ : Unit) W => Has k args W))
    (I : Nat → World → Prop) (Ip : List PanicEntry → World → Prop) (hI : OwnFrom w.heap.size I) (h0 : I 0 w) (a₁ : Nat → Array Value → Act)
    (hassign : ∀ (l k : Nat) (args : Array Value) (W : World) (K : Act → World → Prop), Has k args W → K (a₁ k args) W →
      assign.wpIn (F.inRound l) (n - 1 - 1) P (Exit.then K (fun _ _ _ => False)) { tmps := (ps.zip args).foldl (fun t (p, v) => t.setIfInBounds p v) a.tmps, defers := [] } W)
    (hbody : ∀ (l k : Nat) (args : Array Value) (W : World), k < N → I k W → Has k args W → body.wpIn (F.inRound l) (n - 1 - 1) P (mayEnd w.heap.size Kp (I (k + 1)) Ip W) (a₁ k args) W)
    (hdone : ∀ (D : Nat) (W : World), w.heap.size ≤ D → I N W → W.heap[D]? = some (.deferred (some [])) → Q .normal { a with defers := { target := .collected D, args := #[] } :: a.defers } W)
    (hpanic : ∀ (D : Nat) (ch : List PanicEntry) (W : World), w.heap.size ≤ D → Ip ch W → W.heap[D]? = some (.deferred (some [])) → Q (.panic ch) { a with defers := { target := .collected D, args := #[] } :: a.defers } W) :
    wpFor F n P f (Code.rangeFunc g ps assign body) Q a w := by
  let r : LoopState → Loop := fun s => { state := s, pending := none, fn := f, tmps := a.tmps, params := ps, assign, body, defers := w.heap.size }
  let B : World → Prop := fun W => W.heap[w.heap.size]? = some (.deferred (some []))
  let L : LoopState → World → Prop := fun s W => W.heap[w.heap.size + 1]? = some (.loop (r s))
  have turn : ∀ (s s' : LoopState) (k : Nat) (W : World), I k W → B W → L s W → I k (W.putObj (w.heap.size + 1) (.loop (r s'))) ∧ B (W.putObj (w.heap.size + 1) (.loop (r s'))) ∧ L s' (W.putObj (w.heap.size + 1) (.loop (r s'))) := fun s s' k W hi hb hl =>
    ⟨hI.putObj _ hi (by omega) hl rfl, (World.putObj_heap_other (by omega)).trans hb, World.putObj_heap_same (Array.getElem?_eq_some_iff.1 hl).1⟩
  have z1 : (w.alloc (.deferred (some []))).heap.size = w.heap.size + 1 := World.size_alloc _ _
  have i1 : I 0 ((w.alloc (.deferred (some []))).alloc (.loop (r .ready))) := hI.alloc _ (hI.alloc _ h0)
  have b1 : B ((w.alloc (.deferred (some []))).alloc (.loop (r .ready))) := (Below.heap_alloc _ _ _ (by omega)).trans (World.alloc_heap_new w _)
  have l1 : L .ready ((w.alloc (.deferred (some []))).alloc (.loop (r .ready))) := by
    have := World.alloc_heap_new (w.alloc (.deferred (some []))) (.loop (r .ready))
    rwa [z1] at this
  have u1 : Below w0.heap.size w0 ((w.alloc (.deferred (some []))).alloc (.loop (r .ready))) := (hb0.alloc hb0.size _).alloc (by have := hb0.size; omega) _
  refine wpFor_rangeFunc hFf (l := w.heap.size + 1) (mark := [{ target := .collected w.heap.size, args := #[] }]) (w₁ := (w.alloc (.deferred (some []))).alloc (.loop (r .ready)))
    (d := { target := .fn (.func gf) lb, args := #[.func (.yield (w.heap.size + 1)) #[] #[]] }) (w₁' := (w.alloc (.deferred (some []))).alloc (.loop (r .ready))) (gf := gf)
    (args := #[.func (.yield (w.heap.size + 1)) #[] #[]] ++ lb) (w₂ := (w.alloc (.deferred (some []))).alloc (.loop (r .ready))) ?_ ?_ ?_ ?_ (fun _ => h1) ?_
  · rw [hro]
    exact run_enterLoop_outer _ _ _ _ _
  · simp only [resolve, hg]
    simp [go_sem]
  · intro f' hf'
    simp [Target.leads] at hf'
    exact hf' ▸ hFg
  · simp [invoke, go_sem, eg]
  refine (hseq (w.heap.size + 1) (fun k W => I k W ∧ B W ∧ L .ready W) (fun ch W => Ip ch W ∧ B W) _ u1 ?_ ?_ ⟨i1, b1, l1⟩).mono ?_
  · rintro k X Y ⟨hi, hb, hl⟩ hxy
    exact ⟨own_below hI hi hxy, (hxy.block _ (Array.getElem?_eq_some_iff.1 hb).1).trans hb, (hxy.block _ (Array.getElem?_eq_some_iff.1 hl).1).trans hl⟩
  · rintro k args W hk ⟨hi, hb, hl⟩ hh
    refine ⟨f, _, assign, body, run_yield hl (hps k args W hh), roundIn_may hFf hfx (hassign _ k args W _ hh ⟨_, run_beginRound hl rfl, ?_⟩)⟩
    obtain ⟨hi2, hb2, hl2⟩ := turn .ready .busy k W hi hb hl
    have hh2 : Has k args (W.putObj (w.heap.size + 1) (.loop (r .busy))) := (hHas k args).putObj (s := ()) _ hh (by omega) hl rfl
    refine wpIn_mono (hbody _ k args _ hk hi2 hh2) ?_
    rintro e a3 W3 hp
    cases e with
    | normal =>
      obtain ⟨hk3, hkp3, hi3⟩ := hp
      have hb3 : B W3 := hk3.same _ _ (Nat.le_refl _) hb2 rfl
      have hl3 : L .busy W3 := hk3.same _ _ (by omega) hl2 rfl
      exact ⟨_, _, run_endRound none hl3, .inl ⟨rfl, turn .busy .ready _ W3 hi3 hb3 hl3, hKt (hKt (hKb _ _ _ (by omega)) hkp3) (hKb _ _ _ (by omega))⟩⟩
    | panic ch =>
      obtain ⟨hd3, hk3, hi3⟩ := hp
      exact ⟨hd3, .inr ⟨ch, rfl, hi3, hk3.same _ _ (Nat.le_refl _) hb2 rfl⟩⟩
    | _ => exact hp.elim
  · rintro e W2 (⟨⟨v, rfl⟩, hi, hb, hl⟩ | ⟨ch, rfl, hi, hb⟩)
    · obtain ⟨hi4, hb4, _⟩ := turn .ready .exhausted N W2 hi hb hl
      exact ⟨none, _, run_endLoop hl (by simp [r]), hdone _ _ (Nat.le_refl _) hi4 hb4⟩
    · exact hpanic _ ch W2 (Nat.le_refl _) hi hb
end Go.Proofs.YtnoofdjlocadbaaGreatDoor
