/- A range over a function whose rounds may panic, in a function that defers: laws of my own. They speak of the frames of one function (the loop's record names it), so that its number is known to exist. -/
import Derived.RangeFuncNested
import Derived.RangeFuncLeaves
import Derived.Recover
namespace Go.Proofs.YtnoofdjlocadbaaGreatDoor
open Go Go.RowKit

variable {F : Fence} {n : Nat} {P : Program}

/-- What is asked at a round's end, where the round may panic. -/
def mayPost (P : Program) (l : Nat) (R : Ending → World → Prop) : Exit → Act → World → Prop
  | .panic chain, a, w => a.defers = [] ∧ R (.panicked chain) w
  | e, a, w => roundPost P l R e a w

/-- A round's contract out of its body's walk; a panic leaves the round as it leaves a function. -/
theorem roundIn_may {l : Nat} {f : FuncId} {tmps : Array Value} {assign body : Code} {w : World} {R : Ending → World → Prop} (hF : F.fn f) (hf : ∃ fn, P.funcs[f]? = some fn)
    (h : assign.wpIn (F.inRound l) n P (Exit.then (fun a₁ w₁ => ∃ w₂, (Instr.beginRound l).run P w₁ = .ok () w₂ ∧ body.wpIn (F.inRound l) n P (mayPost P l R) a₁ w₂) (fun _ _ _ => False))
      { tmps := tmps, defers := [] } w) : RoundIn F n P l f tmps assign body w R := by
  refine ⟨hF, fun c cs hr => ?_⟩
  obtain ⟨b, hb⟩ : ∃ b : Frame, b = { (default : Frame) with fn := f, kind := .normal, roundOf := some l } := ⟨_, rfl⟩
  have hfn : b.fn = f := by rw [hb]
  have hro : b.roundOf = some l := by rw [hb]
  have hkd : b.kind = .normal := by rw [hb]
  have hb0 : Frame.round l f tmps assign body .normal = b.atR { tmps := tmps, defers := [] } [.code assign, .beginRound, .code body] := by
    rw [hb]; simp [Frame.round, Frame.atR]
  have hr' : (F.inRound l).room ((c :: cs).length + 1 + n) := hr
  have hF' : (F.inRound l).fn b.fn := by rw [hfn]; exact hF
  obtain ⟨e, a₁, w₁, hq, harr⟩ := h b [.beginRound, .code body] (c :: cs) hro hF' hr'
  rw [← hb0] at harr
  cases e with
  | normal =>
    obtain ⟨w₂, hbr, hbody⟩ := hq
    have s1 : StepsIn (Machine.fenced P (F.inRound l)) P (lone (b.atR a₁ [.beginRound, .code body]) (c :: cs) w₁) (lone (b.atR a₁ [.code body]) (c :: cs) w₂) :=
      .one (fenced_calm (fr := b.atR a₁ [.beginRound, .code body]) hF' hr' rfl) (stepR_beginRound hro hbr)
    obtain ⟨e₂, a₂, w₃, hq₂, harr₂⟩ := hbody b [] (c :: cs) hro hF' hr'
    have go : ∀ {m : Machine}, StepsIn (Machine.fenced P (F.inRound l)) P (lone (b.atR a₁ [.code body]) (c :: cs) w₂) m → StepsIn (Machine.fenced P (F.inRound l)) P (lone (Frame.round l f tmps assign body .normal) (c :: cs) w) m :=
      fun hs => (StepsIn.trans harr s1).trans hs
    cases e₂ with
    | normal =>
      obtain ⟨v, w₄, hend, hR⟩ := hq₂
      exact ⟨.returned v, w₄, hR, go (StepsIn.trans harr₂ (.one (fenced_calm (fr := b.atR a₂ []) hF' hr' rfl) (stepR_round_end hro hkd hend)))⟩
    | ret =>
      obtain ⟨v, w₄, hend, hR⟩ := hq₂
      obtain ⟨k₁, hs⟩ := harr₂.2 (by rw [hro]; rfl)
      exact ⟨.returned v, w₄, hR, go (StepsIn.trans hs (.one (fenced_calm (fr := b.atR a₂ (.code .ret :: k₁)) hF' hr' rfl) (stepR_round_ret hro hkd hend)))⟩
    | exit id =>
      obtain ⟨v, w₄, hend, hR⟩ := hq₂
      obtain ⟨k₁, hk, hs⟩ := harr₂.2 (by rw [hro]; rfl) rfl
      exact ⟨.returned v, w₄, hR, go (StepsIn.trans hs (.one (fenced_calm (fr := b.atR a₂ (.code (.exit id) :: k₁)) hF' hr' rfl) (stepR_round_exit hro hkd hk hend)))⟩
    | goto t =>
      obtain ⟨v, w₄, hend, hR⟩ := hq₂
      obtain ⟨k₁, hk, hs⟩ := harr₂.2 (by rw [hro]; rfl) rfl
      exact ⟨.returned v, w₄, hR, go (StepsIn.trans hs (.one (fenced_calm (fr := b.atR a₂ (.code (.goto t) :: k₁)) hF' hr' rfl) (stepR_round_goto hro hkd hk hend)))⟩
    | panic chain =>
      obtain ⟨hd, hR⟩ := hq₂
      obtain ⟨todo, hs⟩ := harr₂
      have hl : ({ b.atR a₂ todo with mode := .panicking chain } : Frame).leaving P w₃ (.panicked chain) := ⟨rfl, hd, by obtain ⟨fn, h'⟩ := hf; exact ⟨fn, by rw [← hfn] at h'; exact h'⟩⟩
      exact ⟨.panicked chain, w₃, hR, go (StepsIn.trans hs (.one (fenced_leaving (F := F.inRound l) hF' hr' hl) (step_leave_panicked hl)))⟩
    | outgrown => exact hq₂.elim
  | exit id => exact hq.elim
  | goto t => exact hq.elim
  | ret => exact hq.elim
  | panic chain => exact hq.elim
  | outgrown => exact hq.elim

/-- 'wpIn' for the frames of the function f alone. -/
def wpFor (F : Fence) (n : Nat) (P : Program) (f : FuncId) (c : Code) (Q : Exit → Act → World → Prop) (a : Act) (w : World) : Prop :=
  ∀ (b : Frame) (k : List Item) (cs : List Frame), b.roundOf = F.round → b.fn = f → F.room (cs.length + 1 + n) →
    ∃ e a' w', Q e a' w' ∧ ArrivesIn (Machine.fenced P F) P (lone (b.atR a (.code c :: k)) cs w) b k cs e a' w'

section
variable {f : FuncId} {a : Act} {w : World} {Q : Exit → Act → World → Prop}

theorem wpFor_of {c : Code} (hF : F.fn f) (h : c.wpIn F n P Q a w) : wpFor F n P f c Q a w := fun b k cs hro hb hr => h b k cs hro (hb ▸ hF) hr

theorem wpFor_mono {c : Code} {Q' : Exit → Act → World → Prop} (h : wpFor F n P f c Q a w) (hq : ∀ e a w, Q e a w → Q' e a w) : wpFor F n P f c Q' a w :=
  fun b k cs hro hb hr => let ⟨e, a', w', q, r⟩ := h b k cs hro hb hr; ⟨e, a', w', hq _ _ _ q, r⟩

theorem wpFor_seq {x y : Code} (hF : F.fn f) (h : wpFor F n P f x (Exit.then (wpFor F n P f y Q) Q) a w) : wpFor F n P f (Code.seq x y) Q a w := by
  intro b k cs hro hb hr
  have h0 : (lone (b.atR a (.code (.seq x y) :: k)) cs w).fenced P F := fenced_calm (hb ▸ hF) hr rfl
  obtain ⟨e, a₁, w₁, hq, harr⟩ := h b (.code y :: k) cs hro hb hr
  by_cases hn : e = .normal
  · subst hn
    obtain ⟨e₂, a₂, w₂, hq₂, harr₂⟩ := hq b k cs hro hb hr
    exact ⟨e₂, a₂, w₂, hq₂, .of_steps (.head h0 stepR_seq harr) harr₂⟩
  · refine ⟨e, a₁, w₁, ?_, .of_steps (.one h0 stepR_seq) (.pass (x := .code y) rfl (fun _ _ => .inl hn) harr)⟩
    cases e <;> first | exact hq | exact absurd rfl hn

/-- The statement 'for .. := range g' in the function f. -/
theorem wpFor_rangeFunc {g : Operand} {ps : Array Tmp} {assign body : Code} (hFf : F.fn f) {l : Nat} {mark : List Deferred} {w₁ : World} {d : Deferred} {w₁' : World} {gf : FuncId} {args : Array Value} {w₂ : World}
    (he : (Instr.enterLoop f a.tmps ps assign body F.round).run P w = .ok (l, mark) w₁) (hres : (resolve a.eval (rangeCall g l) 0).run P w₁ = .ok d w₁')
    (hlead : ∀ f', Target.leads P w₁' d.target d.args = some f' → F.fn f') (hinv : (invoke d.target d.args).run P w₁' = .ok (.enter gf args) w₂)
    (hn : F.depth.isSome = true → 1 ≤ n) (hcall : CallsIn F (n - 1) P gf args w₂ (rangePost F n P l Q { a with defers := mark ++ a.defers })) :
    wpFor F n P f (Code.rangeFunc g ps assign body) Q a w := by
  intro b k cs hro hb hr
  have hFb : F.fn b.fn := hb ▸ hFf
  rw [← hro, ← hb] at he
  have h0 : (lone (b.atR a (.code (.rangeFunc g ps assign body) :: k)) cs w).fenced P F := by
    refine fenced_lone (.inl hFb) (fun f' hf' => hlead f' ?_) (Fence.room_le hr (by omega))
    have hev := Frame.eval_atR b a (.code (.rangeFunc g ps assign body) :: k)
    simp only [Frame.atR] at hev
    simp only [Frame.about, Frame.atR, he, hev, hres] at hf'
    exact hf'
  have henter := stepR_rangeFunc (P := P) (b := b) (a := a) (k := k) (cs := cs) (w := w) he hres hinv
  have hroom : F.room ((b.atR { a with defers := mark ++ a.defers } (.inRangeFunc l :: k) :: cs).length + 1 + (n - 1)) := Fence.room_enter hr hn
  obtain ⟨hF, hcall⟩ := hcall
  obtain ⟨e, w₃, fr, hR, hsteps, hfn, hleave⟩ := hcall (b.atR { a with defers := mark ++ a.defers } (.inRangeFunc l :: k) :: cs) hroom
  cases e with
  | outgrown =>
    obtain ⟨a₀, w₀, hq⟩ := hR
    exact ⟨.outgrown, a₀, w₀, hq, .inr (Outgrown.of_steps (.one henter) hsteps)⟩
  | returned v =>
    have hl : (lone fr (b.atR { a with defers := mark ++ a.defers } (.inRangeFunc l :: k) :: cs) w₃).fenced P F := fenced_leaving (hfn ▸ hF) hroom hleave
    obtain ⟨jump, w₄, hend, hj⟩ := hR
    have sback : StepsIn (Machine.fenced P F) P (lone (b.atR a (.code (.rangeFunc g ps assign body) :: k)) cs w) (lone (b.atR { a with defers := mark ++ a.defers } ((jump.map Item.code).toList ++ k)) cs w₄) := by
      refine .head h0 henter (StepsIn.trans hsteps (.head hl ?_ (.one (fenced_calm (fr := b.atR { a with defers := mark ++ a.defers } (.endRangeFunc l :: k)) hFb hr rfl) (stepR_endRangeFunc hend))))
      rw [← finish_atR_inRangeFunc l v]; exact step_leave_returned hleave
    cases jump with
    | none => exact ⟨.normal, _, w₄, hj, sback⟩
    | some c =>
      obtain ⟨e', a'', w₅, hq, harr⟩ := hj b k cs hro hFb hr
      exact ⟨e', a'', w₅, hq, .of_steps sback harr⟩
  | panicked chain =>
    have hl : (lone fr (b.atR { a with defers := mark ++ a.defers } (.inRangeFunc l :: k) :: cs) w₃).fenced P F := fenced_leaving (hfn ▸ hF) hroom hleave
    refine ⟨.panic chain, _, w₃, hR, .inRangeFunc l :: k, .head h0 henter (StepsIn.trans hsteps (.one hl ?_))⟩
    rw [← Frame.raise_atR]; exact step_leave_panicked hleave

/-- A function's contract from its body, where that is walked for its own frames. -/
theorem callsIn_of_for {fn : Func} {c : Code} {args : Array Value} {R : Ending → World → Prop} (hf : P.funcs[f]? = some fn) (hb : fn.body = some c) (hF : F.fn f)
    (h : wpFor F n P f c (bodyPostM F n P fn R) { tmps := args ++ Array.replicate (fn.ntmps - args.size) undef, defers := [] } w) (hro : F.round = none) : CallsIn F n P f args w R := by
  refine ⟨hF, fun cs hr => ?_⟩
  obtain ⟨b, hbb⟩ : ∃ b : Frame, b = { (default : Frame) with fn := f, kind := .normal, roundOf := none } := ⟨_, rfl⟩
  have hfn : b.fn = f := by rw [hbb]
  have hkd : b.kind = .normal := by rw [hbb]
  have hrn : b.roundOf = none := by rw [hbb]
  have hFb : F.fn b.fn := hfn ▸ hF
  have hfb : P.funcs[b.fn]? = some fn := hfn ▸ hf
  have henter : Frame.enter P f args .normal = b.atR { tmps := args ++ Array.replicate (fn.ntmps - args.size) undef, defers := [] } [.code c] := by
    rw [hbb]; simp [Frame.enter, Frame.atR, hf, hb]
  obtain ⟨e, a', w', hq, harr⟩ := h b [] cs (hrn.trans hro.symm) hfn hr
  rw [← henter] at harr
  have out : ∀ (u : FrameMode) (fr : Frame), fr.mode = u → fr.defers = a'.defers → fr.tmps = a'.tmps → fr.fn = b.fn → fr.kind = .normal → LeavesInM F n P fn a'.tmps R a'.defers u w' →
      StepsIn (Machine.fenced P F) P (lone (Frame.enter P f args .normal) cs w) (lone fr cs w') →
      ∃ e w' fr, R e w' ∧ ComesIn (Machine.fenced P F) P (lone (Frame.enter P f args .normal) cs w) (lone fr cs w') e ∧ fr.fn = f ∧ fr.leaving P w' e := by
    intro u fr h1 h2 h3 h4 h5 h6 h7
    obtain ⟨e', w'', fr', hR, hs, hfn', hl⟩ := leaves_stepsInM a'.defers u w' fr cs h1 h2 h3 (by rw [h4]; exact hfb) h5 (by rw [h4]; exact hFb) hr h6
    exact ⟨e', w'', fr', hR, ComesIn.of_steps h7 hs, by rw [hfn', h4, hfn], hl⟩
  cases e with
  | normal => exact out .returning { b.atR a' [] with mode := .returning } rfl rfl rfl rfl hkd hq (StepsIn.trans harr (.one (fenced_calm (fr := b.atR a' []) hFb hr rfl) (stepR_end hrn)))
  | ret =>
    obtain ⟨todo, hs₀⟩ := harr.1 hrn
    exact out .returning { b.atR a' todo with mode := .returning } rfl rfl rfl rfl hkd hq hs₀
  | panic chain =>
    obtain ⟨todo, hs₀⟩ := harr
    exact out (.panicking chain) { b.atR a' todo with mode := .panicking chain } rfl rfl rfl rfl hkd hq hs₀
  | exit id => exact hq.elim
  | goto l => exact hq.elim
  | outgrown => exact ⟨.outgrown, w', b, hq, harr.resolve_left (by rw [hkd]; simp), hfn, trivial⟩
end
end Go.Proofs.YtnoofdjlocadbaaGreatDoor
