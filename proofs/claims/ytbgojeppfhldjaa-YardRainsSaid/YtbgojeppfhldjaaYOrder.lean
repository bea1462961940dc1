/- What inOrder's iterator yields. -/
import Derived.Test.YtbgojeppfhldjaaYJoin
namespace Go.Proofs.Ytbgojeppfhldjaa
open Go Go.RowKit Yd

attribute [local go_sem] Oper.semAt_some

open Go.Sort in
/-- A region that only reads, in a fence. -/
theorem region_quiet_w {P : Program} {Q : Exit → Act → World → Prop} (m : Nat) {id : Nat} {l : List Oper} {a : Act} {w : World} (hm : P.follows .mixedOrders = true) (hL : Region.lexB .any l.toArray = true) (hd : ∀ (i : Nat) (o : Oper), l.toArray[i]? = some o → ∀ c, o.op ≠ .defer c) (hq : ¬ LetsOut Q)
    (h : wpQuiet P l.toArray (fun w' => ∃ p : Regrown, w' = grow (redrawn w p.d) p.os) (fun a' => ∀ w', (∃ p : Regrown, w' = grow (redrawn w p.d) p.os) → Q .normal a' w') l a) : (Code.region id l.toArray true).wpIn Fence.wide m P Q a w := by
  refine region_w m hm hd hq ?_
  simp only [Region.lexB, Bool.and_eq_true] at hL
  have hx := wpAnyQ_lex (P := P) (C := fun w' => ∃ p : Regrown, w' = grow (redrawn w p.d) p.os) (md := .any) hL.1 l 0 (Array.replicate l.toArray.size false) a (by simp) (by simpa using hL.2) h
  have := wpAny_of_quiet (Q := fun a' => ∀ w', (∃ p : Regrown, w' = grow (redrawn w p.d) p.os) → Q .normal a' w') (fun _ w' hw' h => h w' hw') _ _ _ _ ⟨⟨w.drawn + 1, #[]⟩, by rw [grow_empty]⟩ hx
  rw [List.size_toArray]
  exact this

/-- What is left of a list: a slice's elements, in one of two blocks. -/
structure Rem (W : World) (ga gb : Nat) (g o c : Nat) (L : List Int) : Prop where
  here : g = ga ∨ g = gb
  cap : L.length ≤ c
  big : c ≤ 9223372036854775807
  cells : ∀ j x, L[j]? = some x → W.cell? ⟨g, o + j, none⟩ = some (.int .i64 x)
theorem Rem.kept {W W' : World} {ga gb g o c : Nat} {L : List Int} (h : Rem W ga gb g o c L) (ha : KeptAt ga W W') (hb : KeptAt gb W W') : Rem W' ga gb g o c L :=
  ⟨h.here, h.cap, h.big, fun j x hj => by
    rw [← h.cells j x hj]
    rcases h.here with rfl | rfl
    · exact cell_same ha _
    · exact cell_same hb _⟩

theorem drop_next {M t : List Int} {v : Int} {k : Nat} (h : v :: t = M.drop k) : M[k]? = some v ∧ t = M.drop (k + 1) ∧ k < M.length := by
  have hk : k < M.length := by
    rcases Nat.lt_or_ge k M.length with h1 | h1
    · exact h1
    · rw [List.drop_of_length_le h1] at h; cases h
  rw [List.drop_eq_getElem_cons hk] at h
  cases h
  exact ⟨List.getElem?_eq_getElem hk, rfl, hk⟩
theorem Rem.tail {W : World} {ga gb g o c : Nat} {x : Int} {L : List Int} (h : Rem W ga gb g o c (x :: L)) (_hc : ¬ c = 1) : Rem W ga gb g (o + 1) (c - 1) L :=
  ⟨h.here, by have := h.cap; simp at this; omega, by have := h.big; omega, fun j y hj => by
    have := h.cells (j + 1) y (by simpa using hj)
    rwa [show o + 1 + j = o + (j + 1) by omega]⟩
theorem Rem.tail1 {W : World} {ga gb g o : Nat} {x : Int} {L : List Int} (h : Rem W ga gb g o 1 (x :: L)) : Rem W ga gb g o 0 L := by
  have h1 := h.cap
  simp at h1
  subst h1
  exact ⟨h.here, Nat.le_refl _, by omega, fun j y hj => by simp at hj⟩

def lenOf : Value → Nat
  | .slice _ n _ => n
  | _ => 0

set_option maxRecDepth 100000 in
set_option maxHeartbeats 2000000 in
theorem inOrder_in (n : Nat) (hn : 1 ≤ n) (l Ba Bb ga gb na nb ca cb : Nat) (xs0 ys0 : List Int) (J : Nat → World → Prop) (hsa : xs0.length ≤ 1000) (hsb : ys0.length ≤ 1000)
    (hY : ∀ k x W, (mg xs0 ys0)[k]? = some x → J k W → YieldAt Fence.wide (n - 1) Try.prog l #[.int .i64 x] W fun e W' => e = .returned (.bool true) ∧ J (k + 1) W' ∧ KeptAt ga W W' ∧ KeptAt gb W W')
    (W : World) (ha : Blk W Ba 46 #[.slice (some ⟨ga, na, none⟩) xs0.length ca]) (hb : Blk W Bb 46 #[.slice (some ⟨gb, nb, none⟩) ys0.length cb])
    (ra : Rem W ga gb ga na ca xs0) (rb : Rem W ga gb gb nb cb ys0) (hJ : J 0 W) (hJd : ∀ k X Y, J k X → Below X.heap.size X Y → J k Y) :
    CallsIn Fence.wide n Try.prog 88 #[.func (.yield l) #[] #[], .pointer (some ⟨Ba, 0, none⟩), .pointer (some ⟨Bb, 0, none⟩)] W fun e W' => (∃ v, e = .returned v) ∧ J (mg xs0 ys0).length W' := by
  have hro : Fence.wide.round = none := rfl
  have hmix : Try.prog.follows .mixedOrders = true := by kernel_rfl
  have ka := cell_regrown (ha.at 0 (.slice (some ⟨ga, na, none⟩) xs0.length ca) rfl)
  have kb := cell_regrown (hb.at 0 (.slice (some ⟨gb, nb, none⟩) ys0.length cb) rfl)
  have HY := Lib.hid hY
  have RA := Lib.hid ra
  have RB := Lib.hid rb
  have HJD := Lib.hid hJd
  have HSA := Lib.hid hsa
  have HSB := Lib.hid hsb
  clear hY ra rb hJd ha hb hsa hsb
  refine callsIn_of_wp Try.func88 rfl trivial ?_ hro
  simp only [Try.ntmps88, List.size_toArray, List.length_cons, List.length_nil, Nat.reduceAdd, Nat.reduceSub, Array.replicate_succ, Array.replicate_zero, List.push_toArray, List.append_toArray, List.nil_append, List.cons_append]
  gi_wp2
  refine region_quiet_w _ hmix (by kernel_rfl) (no_defer (by rfl)) (fun ⟨_, _, h⟩ => by rcases h with ⟨⟨_, h⟩, _⟩; cases h) ?_
  repeat (go_big_quiet_step (fail))
  refine wpQuiet_nil ?_
  intro w8 hw'
  have hb8 : Below W.heap.size W w8 := by obtain ⟨⟨dq, osq⟩, hw''⟩ := hw'; rw [hw'']; exact below_regrown W dq osq
  clear hw' ka kb
  have hJ8 := HJD.out 0 W w8 hJ hb8
  have hsz := hb8.size
  have ra8 : Rem w8 ga gb ga na ca xs0 := ⟨RA.out.here, RA.out.cap, RA.out.big, fun j x hj => (hb8.cell (block_lt_of_cell (RA.out.cells j x hj))).trans (RA.out.cells j x hj)⟩
  have rb8 : Rem w8 ga gb gb nb cb ys0 := ⟨RB.out.here, RB.out.cap, RB.out.big, fun j x hj => (hb8.cell (block_lt_of_cell (RB.out.cells j x hj))).trans (RB.out.cells j x hj)⟩
  have HR8 := Lib.hid (show _ ∧ _ from ⟨ra8, rb8⟩)
  clear ra8 rb8 hJ hb8 hsz RA RB
  gi_wp2
  gi_loopw [4, 5] (fun u v wr => ∃ (k g1 o1 c1 g2 o2 c2 : Nat) (L1 L2 : List Int), u = .slice (some ⟨g1, o1, none⟩) L1.length c1 ∧ v = .slice (some ⟨g2, o2, none⟩) L2.length c2 ∧ Hid (Rem wr ga gb g1 o1 c1 L1 ∧ Rem wr ga gb g2 o2 c2 L2 ∧ mg L1 L2 = (mg xs0 ys0).drop k ∧ L1.length + L2.length ≤ 2000 ∧ k ≤ (mg xs0 ys0).length) ∧ J k wr)
    (fun u v _ => lenOf u + lenOf v)
  case atStart => exact ⟨0, ga, na, ca, gb, nb, cb, xs0, ys0, rfl, rfl, ⟨HR8.out.1, HR8.out.2, rfl, by have := HSA.out; have := HSB.out; omega, Nat.zero_le _⟩, hJ8⟩
  case round =>
    obtain ⟨k, g1, o1, c1, g2, o2, c2, L1, L2, rfl, rfl, HI, hJk⟩ := hrel
    cases L1 with
    | nil =>
      cases L2 with
      | nil =>
        have hk : k = (mg xs0 ys0).length := by
          have h1 := HI.out.2.2.1
          have h2 := HI.out.2.2.2.2
          rw [mg] at h1
          have h3 := congrArg List.length h1
          rw [List.length_drop, List.length_nil] at h3
          omega
        have HK := Lib.hid hk
        clear hk HI
        simp only [List.length_nil]
        gi_wp2
        go_end0
        exact ⟨⟨_, rfl⟩, by rw [← HK.out]; exact hJk⟩
      | cons y m' =>
        by_cases hc : c2 = 1
        · subst hc
          have hr1 := HI.out.1
          have hr2 := HI.out.2.1
          obtain ⟨hM, hdr, hkl⟩ := drop_next (show y :: mg m' [] = (mg xs0 ys0).drop k by rw [← HI.out.2.2.1]; conv => rhs; rw [mg])
          have hsum := HI.out.2.2.2.1
          simp only [List.length_cons, List.length_nil] at hsum
          have cy := hr2.cells 0 y rfl
          rw [Nat.add_zero] at cy
          have hcy := cell_regrown cy
          have hb2 := hr2.cap
          have hg2 := hr2.big
          simp only [List.length_cons] at hb2
          have HR1 := Lib.hid hr1
          have HR2 := Lib.hid hr2
          have HM := Lib.hid hM
          have HDR := Lib.hid hdr
          have HKL := Lib.hid hkl
          clear hr1 hr2 hM hdr hkl HI
          simp only [List.length_cons, List.length_nil]
          have hl2 : ∃ n2, n2 = m'.length := ⟨_, rfl⟩
          obtain ⟨n2, hn2⟩ := hl2
          rw [← hn2] at hsum hb2 ⊢
          have HN2 := Lib.hid hn2
          clear hn2
          have z2 : decide ((0 : Int) < (n2 : Int) + 1) = true := by first | (simp; done) | (simp; omega)
          have z2' : decide ((0 : Int) < ((n2 + 1 : Nat) : Int)) = true := by first | (simp; done) | (simp; omega)
          gi_wp2
          refine region_quiet_w _ hmix (by kernel_rfl) (no_defer (by rfl)) (fun ⟨_, _, h⟩ => by rcases h with ⟨⟨_, h⟩, _⟩; cases h) ?_
          repeat (go_big_quiet_step (fail))
          refine wpQuiet_nil ?_
          intro w9 hw'
          have hb9 : Below wr.heap.size wr w9 := by obtain ⟨⟨dq, osq⟩, hw''⟩ := hw'; rw [hw'']; exact below_regrown wr dq osq
          have c9 := (hb9.cell (block_lt_of_cell cy)).trans cy
          obtain ⟨fn, tmps, assign, body, hy, hR⟩ := HY.out k y w9 HM.out (HJD.out k wr w9 hJk hb9)
          have HR19 : Hid (Rem w9 ga gb g1 o1 c1 ([])) := Lib.hid ⟨HR1.out.here, HR1.out.cap, HR1.out.big, fun j z hj => (hb9.cell (block_lt_of_cell (HR1.out.cells j z hj))).trans (HR1.out.cells j z hj)⟩
          have HR29 : Hid (Rem w9 ga gb g2 o2 1 (y :: m')) := Lib.hid ⟨HR2.out.here, HR2.out.cap, HR2.out.big, fun j z hj => (hb9.cell (block_lt_of_cell (HR2.out.cells j z hj))).trans (HR2.out.cells j z hj)⟩
          clear hw' hb9 hJk HR1 HR2 cy hcy
          gi_wp2
          refine hR.mono ?_
          rintro e W3 ⟨rfl, hJ3, hka, hkb⟩
          have HR13 := Lib.hid (HR19.out.kept hka hkb)
          have HR23 := Lib.hid (HR29.out.kept hka hkb)
          clear hka hkb
          gi_wp2
          go_roundw
          case rel => exact ⟨k + 1, g2, o2, 0, g1, o1, c1, m', [], by have h := HN2.out; simp only [Value.slice.injEq, true_and, and_true]; omega, rfl, Lib.hid ⟨(HR23.out.tail1), HR13.out, HDR.out, by simp only [List.length_nil]; have := HN2.out; omega, HKL.out⟩, hJ3⟩
          case measure => simp only [lenOf]; omega
        · have hr1 := HI.out.1
          have hr2 := HI.out.2.1
          obtain ⟨hM, hdr, hkl⟩ := drop_next (show y :: mg m' [] = (mg xs0 ys0).drop k by rw [← HI.out.2.2.1]; conv => rhs; rw [mg])
          have hsum := HI.out.2.2.2.1
          simp only [List.length_cons, List.length_nil] at hsum
          have cy := hr2.cells 0 y rfl
          rw [Nat.add_zero] at cy
          have hcy := cell_regrown cy
          have hb2 := hr2.cap
          have hg2 := hr2.big
          simp only [List.length_cons] at hb2
          have HR1 := Lib.hid hr1
          have HR2 := Lib.hid hr2
          have HM := Lib.hid hM
          have HDR := Lib.hid hdr
          have HKL := Lib.hid hkl
          clear hr1 hr2 hM hdr hkl HI
          simp only [List.length_cons, List.length_nil]
          have hl2 : ∃ n2, n2 = m'.length := ⟨_, rfl⟩
          obtain ⟨n2, hn2⟩ := hl2
          rw [← hn2] at hsum hb2 ⊢
          have HN2 := Lib.hid hn2
          clear hn2
          have z2 : decide ((0 : Int) < (n2 : Int) + 1) = true := by first | (simp; done) | (simp; omega)
          have z2' : decide ((0 : Int) < ((n2 + 1 : Nat) : Int)) = true := by first | (simp; done) | (simp; omega)
          gi_wp2
          refine region_quiet_w _ hmix (by kernel_rfl) (no_defer (by rfl)) (fun ⟨_, _, h⟩ => by rcases h with ⟨⟨_, h⟩, _⟩; cases h) ?_
          repeat (go_big_quiet_step (fail))
          refine wpQuiet_nil ?_
          intro w9 hw'
          have hb9 : Below wr.heap.size wr w9 := by obtain ⟨⟨dq, osq⟩, hw''⟩ := hw'; rw [hw'']; exact below_regrown wr dq osq
          have c9 := (hb9.cell (block_lt_of_cell cy)).trans cy
          obtain ⟨fn, tmps, assign, body, hy, hR⟩ := HY.out k y w9 HM.out (HJD.out k wr w9 hJk hb9)
          have HR19 : Hid (Rem w9 ga gb g1 o1 c1 ([])) := Lib.hid ⟨HR1.out.here, HR1.out.cap, HR1.out.big, fun j z hj => (hb9.cell (block_lt_of_cell (HR1.out.cells j z hj))).trans (HR1.out.cells j z hj)⟩
          have HR29 : Hid (Rem w9 ga gb g2 o2 c2 (y :: m')) := Lib.hid ⟨HR2.out.here, HR2.out.cap, HR2.out.big, fun j z hj => (hb9.cell (block_lt_of_cell (HR2.out.cells j z hj))).trans (HR2.out.cells j z hj)⟩
          clear hw' hb9 hJk HR1 HR2 cy hcy
          gi_wp2
          refine hR.mono ?_
          rintro e W3 ⟨rfl, hJ3, hka, hkb⟩
          have HR13 := Lib.hid (HR19.out.kept hka hkb)
          have HR23 := Lib.hid (HR29.out.kept hka hkb)
          clear hka hkb
          gi_wp2
          go_roundw
          case rel => exact ⟨k + 1, g2, o2 + 1, c2 - 1, g1, o1, c1, m', [], by have h := HN2.out; simp only [Value.slice.injEq, true_and, and_true]; omega, rfl, Lib.hid ⟨(HR23.out.tail hc), HR13.out, HDR.out, by simp only [List.length_nil]; have := HN2.out; omega, HKL.out⟩, hJ3⟩
          case measure => simp only [lenOf]; omega
    | cons x l' =>
      cases L2 with
      | nil =>
        by_cases hc : c1 = 1
        · subst hc
          have hr1 := HI.out.1
          have hr2 := HI.out.2.1
          obtain ⟨hM, hdr, hkl⟩ := drop_next (show x :: mg l' [] = (mg xs0 ys0).drop k by rw [← HI.out.2.2.1]; conv => rhs; rw [mg])
          have hsum := HI.out.2.2.2.1
          simp only [List.length_cons, List.length_nil] at hsum
          have cx := hr1.cells 0 x rfl
          rw [Nat.add_zero] at cx
          have hcx := cell_regrown cx
          have hb1 := hr1.cap
          have hg1 := hr1.big
          simp only [List.length_cons] at hb1
          have HR1 := Lib.hid hr1
          have HR2 := Lib.hid hr2
          have HM := Lib.hid hM
          have HDR := Lib.hid hdr
          have HKL := Lib.hid hkl
          clear hr1 hr2 hM hdr hkl HI
          simp only [List.length_cons, List.length_nil]
          have hl1 : ∃ n1, n1 = l'.length := ⟨_, rfl⟩
          obtain ⟨n1, hn1⟩ := hl1
          rw [← hn1] at hsum hb1 ⊢
          have HN1 := Lib.hid hn1
          clear hn1
          have z1 : (((n1 : Int) + 1) == 0) = false := by first | (simp; done) | (simp; omega)
          have z1' : (((n1 + 1 : Nat) : Int) == 0) = false := by first | (simp; done) | (simp; omega)
          gi_wp2
          refine region_quiet_w _ hmix (by kernel_rfl) (no_defer (by rfl)) (fun ⟨_, _, h⟩ => by rcases h with ⟨⟨_, h⟩, _⟩; cases h) ?_
          repeat (go_big_quiet_step (fail))
          refine wpQuiet_nil ?_
          intro w9 hw'
          have hb9 : Below wr.heap.size wr w9 := by obtain ⟨⟨dq, osq⟩, hw''⟩ := hw'; rw [hw'']; exact below_regrown wr dq osq
          have c9 := (hb9.cell (block_lt_of_cell cx)).trans cx
          obtain ⟨fn, tmps, assign, body, hy, hR⟩ := HY.out k x w9 HM.out (HJD.out k wr w9 hJk hb9)
          have HR19 : Hid (Rem w9 ga gb g1 o1 1 (x :: l')) := Lib.hid ⟨HR1.out.here, HR1.out.cap, HR1.out.big, fun j z hj => (hb9.cell (block_lt_of_cell (HR1.out.cells j z hj))).trans (HR1.out.cells j z hj)⟩
          have HR29 : Hid (Rem w9 ga gb g2 o2 c2 ([])) := Lib.hid ⟨HR2.out.here, HR2.out.cap, HR2.out.big, fun j z hj => (hb9.cell (block_lt_of_cell (HR2.out.cells j z hj))).trans (HR2.out.cells j z hj)⟩
          clear hw' hb9 hJk HR1 HR2 cx hcx
          gi_wp2
          refine hR.mono ?_
          rintro e W3 ⟨rfl, hJ3, hka, hkb⟩
          have HR13 := Lib.hid (HR19.out.kept hka hkb)
          have HR23 := Lib.hid (HR29.out.kept hka hkb)
          clear hka hkb
          gi_wp2
          go_roundw
          case rel => exact ⟨k + 1, g1, o1, 0, g2, o2, c2, l', [], by have h := HN1.out; simp only [Value.slice.injEq, true_and, and_true]; omega, rfl, Lib.hid ⟨(HR13.out.tail1), HR23.out, HDR.out, by simp only [List.length_nil]; have := HN1.out; omega, HKL.out⟩, hJ3⟩
          case measure => simp only [lenOf]; omega
        · have hr1 := HI.out.1
          have hr2 := HI.out.2.1
          obtain ⟨hM, hdr, hkl⟩ := drop_next (show x :: mg l' [] = (mg xs0 ys0).drop k by rw [← HI.out.2.2.1]; conv => rhs; rw [mg])
          have hsum := HI.out.2.2.2.1
          simp only [List.length_cons, List.length_nil] at hsum
          have cx := hr1.cells 0 x rfl
          rw [Nat.add_zero] at cx
          have hcx := cell_regrown cx
          have hb1 := hr1.cap
          have hg1 := hr1.big
          simp only [List.length_cons] at hb1
          have HR1 := Lib.hid hr1
          have HR2 := Lib.hid hr2
          have HM := Lib.hid hM
          have HDR := Lib.hid hdr
          have HKL := Lib.hid hkl
          clear hr1 hr2 hM hdr hkl HI
          simp only [List.length_cons, List.length_nil]
          have hl1 : ∃ n1, n1 = l'.length := ⟨_, rfl⟩
          obtain ⟨n1, hn1⟩ := hl1
          rw [← hn1] at hsum hb1 ⊢
          have HN1 := Lib.hid hn1
          clear hn1
          have z1 : (((n1 : Int) + 1) == 0) = false := by first | (simp; done) | (simp; omega)
          have z1' : (((n1 + 1 : Nat) : Int) == 0) = false := by first | (simp; done) | (simp; omega)
          gi_wp2
          refine region_quiet_w _ hmix (by kernel_rfl) (no_defer (by rfl)) (fun ⟨_, _, h⟩ => by rcases h with ⟨⟨_, h⟩, _⟩; cases h) ?_
          repeat (go_big_quiet_step (fail))
          refine wpQuiet_nil ?_
          intro w9 hw'
          have hb9 : Below wr.heap.size wr w9 := by obtain ⟨⟨dq, osq⟩, hw''⟩ := hw'; rw [hw'']; exact below_regrown wr dq osq
          have c9 := (hb9.cell (block_lt_of_cell cx)).trans cx
          obtain ⟨fn, tmps, assign, body, hy, hR⟩ := HY.out k x w9 HM.out (HJD.out k wr w9 hJk hb9)
          have HR19 : Hid (Rem w9 ga gb g1 o1 c1 (x :: l')) := Lib.hid ⟨HR1.out.here, HR1.out.cap, HR1.out.big, fun j z hj => (hb9.cell (block_lt_of_cell (HR1.out.cells j z hj))).trans (HR1.out.cells j z hj)⟩
          have HR29 : Hid (Rem w9 ga gb g2 o2 c2 ([])) := Lib.hid ⟨HR2.out.here, HR2.out.cap, HR2.out.big, fun j z hj => (hb9.cell (block_lt_of_cell (HR2.out.cells j z hj))).trans (HR2.out.cells j z hj)⟩
          clear hw' hb9 hJk HR1 HR2 cx hcx
          gi_wp2
          refine hR.mono ?_
          rintro e W3 ⟨rfl, hJ3, hka, hkb⟩
          have HR13 := Lib.hid (HR19.out.kept hka hkb)
          have HR23 := Lib.hid (HR29.out.kept hka hkb)
          clear hka hkb
          gi_wp2
          go_roundw
          case rel => exact ⟨k + 1, g1, o1 + 1, c1 - 1, g2, o2, c2, l', [], by have h := HN1.out; simp only [Value.slice.injEq, true_and, and_true]; omega, rfl, Lib.hid ⟨(HR13.out.tail hc), HR23.out, HDR.out, by simp only [List.length_nil]; have := HN1.out; omega, HKL.out⟩, hJ3⟩
          case measure => simp only [lenOf]; omega
      | cons y m' =>
        by_cases hyx : y < x
        · by_cases hc : c2 = 1
          · subst hc
            have hr1 := HI.out.1
            have hr2 := HI.out.2.1
            obtain ⟨hM, hdr, hkl⟩ := drop_next (show y :: mg m' (x :: l') = (mg xs0 ys0).drop k by rw [← HI.out.2.2.1]; conv => rhs; rw [mg, if_pos hyx])
            have hsum := HI.out.2.2.2.1
            simp only [List.length_cons] at hsum
            have cx := hr1.cells 0 x rfl
            rw [Nat.add_zero] at cx
            have hcx := cell_regrown cx
            have hb1 := hr1.cap
            have hg1 := hr1.big
            simp only [List.length_cons] at hb1
            have cy := hr2.cells 0 y rfl
            rw [Nat.add_zero] at cy
            have hcy := cell_regrown cy
            have hb2 := hr2.cap
            have hg2 := hr2.big
            simp only [List.length_cons] at hb2
            have HR1 := Lib.hid hr1
            have HR2 := Lib.hid hr2
            have HM := Lib.hid hM
            have HDR := Lib.hid hdr
            have HKL := Lib.hid hkl
            clear hr1 hr2 hM hdr hkl HI
            simp only [List.length_cons]
            have hl1 : ∃ n1, n1 = l'.length := ⟨_, rfl⟩
            obtain ⟨n1, hn1⟩ := hl1
            rw [← hn1] at hsum hb1 ⊢
            have HN1 := Lib.hid hn1
            clear hn1
            have z1 : (((n1 : Int) + 1) == 0) = false := by first | (simp; done) | (simp; omega)
            have z1' : (((n1 + 1 : Nat) : Int) == 0) = false := by first | (simp; done) | (simp; omega)
            have hl2 : ∃ n2, n2 = m'.length := ⟨_, rfl⟩
            obtain ⟨n2, hn2⟩ := hl2
            rw [← hn2] at hsum hb2 ⊢
            have HN2 := Lib.hid hn2
            clear hn2
            have z2 : decide ((0 : Int) < (n2 : Int) + 1) = true := by first | (simp; done) | (simp; omega)
            have z2' : decide ((0 : Int) < ((n2 + 1 : Nat) : Int)) = true := by first | (simp; done) | (simp; omega)
            have z3 : decide (y < x) = true := by simpa using hyx
            clear hyx
            gi_wp2
            refine region_quiet_w _ hmix (by kernel_rfl) (no_defer (by rfl)) (fun ⟨_, _, h⟩ => by rcases h with ⟨⟨_, h⟩, _⟩; cases h) ?_
            repeat (go_big_quiet_step (fail))
            refine wpQuiet_nil ?_
            intro w9 hw'
            have hb9 : Below wr.heap.size wr w9 := by obtain ⟨⟨dq, osq⟩, hw''⟩ := hw'; rw [hw'']; exact below_regrown wr dq osq
            have c9 := (hb9.cell (block_lt_of_cell cy)).trans cy
            obtain ⟨fn, tmps, assign, body, hy, hR⟩ := HY.out k y w9 HM.out (HJD.out k wr w9 hJk hb9)
            have HR19 : Hid (Rem w9 ga gb g1 o1 c1 (x :: l')) := Lib.hid ⟨HR1.out.here, HR1.out.cap, HR1.out.big, fun j z hj => (hb9.cell (block_lt_of_cell (HR1.out.cells j z hj))).trans (HR1.out.cells j z hj)⟩
            have HR29 : Hid (Rem w9 ga gb g2 o2 1 (y :: m')) := Lib.hid ⟨HR2.out.here, HR2.out.cap, HR2.out.big, fun j z hj => (hb9.cell (block_lt_of_cell (HR2.out.cells j z hj))).trans (HR2.out.cells j z hj)⟩
            clear hw' hb9 hJk HR1 HR2 cx hcx cy hcy
            gi_wp2
            refine hR.mono ?_
            rintro e W3 ⟨rfl, hJ3, hka, hkb⟩
            have HR13 := Lib.hid (HR19.out.kept hka hkb)
            have HR23 := Lib.hid (HR29.out.kept hka hkb)
            clear hka hkb
            gi_wp2
            go_roundw
            case rel => exact ⟨k + 1, g2, o2, 0, g1, o1, c1, m', x :: l', by have h := HN2.out; simp only [Value.slice.injEq, true_and, and_true]; omega, by have h := HN1.out; simp only [Value.slice.injEq, true_and, and_true, List.length_cons]; omega, Lib.hid ⟨(HR23.out.tail1), HR13.out, HDR.out, by simp only [List.length_cons]; have := HN2.out; have := HN1.out; omega, HKL.out⟩, hJ3⟩
            case measure => simp only [lenOf]; omega
          · have hr1 := HI.out.1
            have hr2 := HI.out.2.1
            obtain ⟨hM, hdr, hkl⟩ := drop_next (show y :: mg m' (x :: l') = (mg xs0 ys0).drop k by rw [← HI.out.2.2.1]; conv => rhs; rw [mg, if_pos hyx])
            have hsum := HI.out.2.2.2.1
            simp only [List.length_cons] at hsum
            have cx := hr1.cells 0 x rfl
            rw [Nat.add_zero] at cx
            have hcx := cell_regrown cx
            have hb1 := hr1.cap
            have hg1 := hr1.big
            simp only [List.length_cons] at hb1
            have cy := hr2.cells 0 y rfl
            rw [Nat.add_zero] at cy
            have hcy := cell_regrown cy
            have hb2 := hr2.cap
            have hg2 := hr2.big
            simp only [List.length_cons] at hb2
            have HR1 := Lib.hid hr1
            have HR2 := Lib.hid hr2
            have HM := Lib.hid hM
            have HDR := Lib.hid hdr
            have HKL := Lib.hid hkl
            clear hr1 hr2 hM hdr hkl HI
            simp only [List.length_cons]
            have hl1 : ∃ n1, n1 = l'.length := ⟨_, rfl⟩
            obtain ⟨n1, hn1⟩ := hl1
            rw [← hn1] at hsum hb1 ⊢
            have HN1 := Lib.hid hn1
            clear hn1
            have z1 : (((n1 : Int) + 1) == 0) = false := by first | (simp; done) | (simp; omega)
            have z1' : (((n1 + 1 : Nat) : Int) == 0) = false := by first | (simp; done) | (simp; omega)
            have hl2 : ∃ n2, n2 = m'.length := ⟨_, rfl⟩
            obtain ⟨n2, hn2⟩ := hl2
            rw [← hn2] at hsum hb2 ⊢
            have HN2 := Lib.hid hn2
            clear hn2
            have z2 : decide ((0 : Int) < (n2 : Int) + 1) = true := by first | (simp; done) | (simp; omega)
            have z2' : decide ((0 : Int) < ((n2 + 1 : Nat) : Int)) = true := by first | (simp; done) | (simp; omega)
            have z3 : decide (y < x) = true := by simpa using hyx
            clear hyx
            gi_wp2
            refine region_quiet_w _ hmix (by kernel_rfl) (no_defer (by rfl)) (fun ⟨_, _, h⟩ => by rcases h with ⟨⟨_, h⟩, _⟩; cases h) ?_
            repeat (go_big_quiet_step (fail))
            refine wpQuiet_nil ?_
            intro w9 hw'
            have hb9 : Below wr.heap.size wr w9 := by obtain ⟨⟨dq, osq⟩, hw''⟩ := hw'; rw [hw'']; exact below_regrown wr dq osq
            have c9 := (hb9.cell (block_lt_of_cell cy)).trans cy
            obtain ⟨fn, tmps, assign, body, hy, hR⟩ := HY.out k y w9 HM.out (HJD.out k wr w9 hJk hb9)
            have HR19 : Hid (Rem w9 ga gb g1 o1 c1 (x :: l')) := Lib.hid ⟨HR1.out.here, HR1.out.cap, HR1.out.big, fun j z hj => (hb9.cell (block_lt_of_cell (HR1.out.cells j z hj))).trans (HR1.out.cells j z hj)⟩
            have HR29 : Hid (Rem w9 ga gb g2 o2 c2 (y :: m')) := Lib.hid ⟨HR2.out.here, HR2.out.cap, HR2.out.big, fun j z hj => (hb9.cell (block_lt_of_cell (HR2.out.cells j z hj))).trans (HR2.out.cells j z hj)⟩
            clear hw' hb9 hJk HR1 HR2 cx hcx cy hcy
            gi_wp2
            refine hR.mono ?_
            rintro e W3 ⟨rfl, hJ3, hka, hkb⟩
            have HR13 := Lib.hid (HR19.out.kept hka hkb)
            have HR23 := Lib.hid (HR29.out.kept hka hkb)
            clear hka hkb
            gi_wp2
            go_roundw
            case rel => exact ⟨k + 1, g2, o2 + 1, c2 - 1, g1, o1, c1, m', x :: l', by have h := HN2.out; simp only [Value.slice.injEq, true_and, and_true]; omega, by have h := HN1.out; simp only [Value.slice.injEq, true_and, and_true, List.length_cons]; omega, Lib.hid ⟨(HR23.out.tail hc), HR13.out, HDR.out, by simp only [List.length_cons]; have := HN2.out; have := HN1.out; omega, HKL.out⟩, hJ3⟩
            case measure => simp only [lenOf]; omega
        · by_cases hc : c1 = 1
          · subst hc
            have hr1 := HI.out.1
            have hr2 := HI.out.2.1
            obtain ⟨hM, hdr, hkl⟩ := drop_next (show x :: mg l' (y :: m') = (mg xs0 ys0).drop k by rw [← HI.out.2.2.1]; conv => rhs; rw [mg, if_neg hyx])
            have hsum := HI.out.2.2.2.1
            simp only [List.length_cons] at hsum
            have cx := hr1.cells 0 x rfl
            rw [Nat.add_zero] at cx
            have hcx := cell_regrown cx
            have hb1 := hr1.cap
            have hg1 := hr1.big
            simp only [List.length_cons] at hb1
            have cy := hr2.cells 0 y rfl
            rw [Nat.add_zero] at cy
            have hcy := cell_regrown cy
            have hb2 := hr2.cap
            have hg2 := hr2.big
            simp only [List.length_cons] at hb2
            have HR1 := Lib.hid hr1
            have HR2 := Lib.hid hr2
            have HM := Lib.hid hM
            have HDR := Lib.hid hdr
            have HKL := Lib.hid hkl
            clear hr1 hr2 hM hdr hkl HI
            simp only [List.length_cons]
            have hl1 : ∃ n1, n1 = l'.length := ⟨_, rfl⟩
            obtain ⟨n1, hn1⟩ := hl1
            rw [← hn1] at hsum hb1 ⊢
            have HN1 := Lib.hid hn1
            clear hn1
            have z1 : (((n1 : Int) + 1) == 0) = false := by first | (simp; done) | (simp; omega)
            have z1' : (((n1 + 1 : Nat) : Int) == 0) = false := by first | (simp; done) | (simp; omega)
            have hl2 : ∃ n2, n2 = m'.length := ⟨_, rfl⟩
            obtain ⟨n2, hn2⟩ := hl2
            rw [← hn2] at hsum hb2 ⊢
            have HN2 := Lib.hid hn2
            clear hn2
            have z2 : decide ((0 : Int) < (n2 : Int) + 1) = true := by first | (simp; done) | (simp; omega)
            have z2' : decide ((0 : Int) < ((n2 + 1 : Nat) : Int)) = true := by first | (simp; done) | (simp; omega)
            have z3 : decide (y < x) = false := by simpa using hyx
            clear hyx
            gi_wp2
            refine region_quiet_w _ hmix (by kernel_rfl) (no_defer (by rfl)) (fun ⟨_, _, h⟩ => by rcases h with ⟨⟨_, h⟩, _⟩; cases h) ?_
            repeat (go_big_quiet_step (fail))
            refine wpQuiet_nil ?_
            intro w9 hw'
            have hb9 : Below wr.heap.size wr w9 := by obtain ⟨⟨dq, osq⟩, hw''⟩ := hw'; rw [hw'']; exact below_regrown wr dq osq
            have c9 := (hb9.cell (block_lt_of_cell cx)).trans cx
            obtain ⟨fn, tmps, assign, body, hy, hR⟩ := HY.out k x w9 HM.out (HJD.out k wr w9 hJk hb9)
            have HR19 : Hid (Rem w9 ga gb g1 o1 1 (x :: l')) := Lib.hid ⟨HR1.out.here, HR1.out.cap, HR1.out.big, fun j z hj => (hb9.cell (block_lt_of_cell (HR1.out.cells j z hj))).trans (HR1.out.cells j z hj)⟩
            have HR29 : Hid (Rem w9 ga gb g2 o2 c2 (y :: m')) := Lib.hid ⟨HR2.out.here, HR2.out.cap, HR2.out.big, fun j z hj => (hb9.cell (block_lt_of_cell (HR2.out.cells j z hj))).trans (HR2.out.cells j z hj)⟩
            clear hw' hb9 hJk HR1 HR2 cx hcx cy hcy
            gi_wp2
            refine hR.mono ?_
            rintro e W3 ⟨rfl, hJ3, hka, hkb⟩
            have HR13 := Lib.hid (HR19.out.kept hka hkb)
            have HR23 := Lib.hid (HR29.out.kept hka hkb)
            clear hka hkb
            gi_wp2
            go_roundw
            case rel => exact ⟨k + 1, g1, o1, 0, g2, o2, c2, l', y :: m', by have h := HN1.out; simp only [Value.slice.injEq, true_and, and_true]; omega, by have h := HN2.out; simp only [Value.slice.injEq, true_and, and_true, List.length_cons]; omega, Lib.hid ⟨(HR13.out.tail1), HR23.out, HDR.out, by simp only [List.length_cons]; have := HN1.out; have := HN2.out; omega, HKL.out⟩, hJ3⟩
            case measure => simp only [lenOf]; omega
          · have hr1 := HI.out.1
            have hr2 := HI.out.2.1
            obtain ⟨hM, hdr, hkl⟩ := drop_next (show x :: mg l' (y :: m') = (mg xs0 ys0).drop k by rw [← HI.out.2.2.1]; conv => rhs; rw [mg, if_neg hyx])
            have hsum := HI.out.2.2.2.1
            simp only [List.length_cons] at hsum
            have cx := hr1.cells 0 x rfl
            rw [Nat.add_zero] at cx
            have hcx := cell_regrown cx
            have hb1 := hr1.cap
            have hg1 := hr1.big
            simp only [List.length_cons] at hb1
            have cy := hr2.cells 0 y rfl
            rw [Nat.add_zero] at cy
            have hcy := cell_regrown cy
            have hb2 := hr2.cap
            have hg2 := hr2.big
            simp only [List.length_cons] at hb2
            have HR1 := Lib.hid hr1
            have HR2 := Lib.hid hr2
            have HM := Lib.hid hM
            have HDR := Lib.hid hdr
            have HKL := Lib.hid hkl
            clear hr1 hr2 hM hdr hkl HI
            simp only [List.length_cons]
            have hl1 : ∃ n1, n1 = l'.length := ⟨_, rfl⟩
            obtain ⟨n1, hn1⟩ := hl1
            rw [← hn1] at hsum hb1 ⊢
            have HN1 := Lib.hid hn1
            clear hn1
            have z1 : (((n1 : Int) + 1) == 0) = false := by first | (simp; done) | (simp; omega)
            have z1' : (((n1 + 1 : Nat) : Int) == 0) = false := by first | (simp; done) | (simp; omega)
            have hl2 : ∃ n2, n2 = m'.length := ⟨_, rfl⟩
            obtain ⟨n2, hn2⟩ := hl2
            rw [← hn2] at hsum hb2 ⊢
            have HN2 := Lib.hid hn2
            clear hn2
            have z2 : decide ((0 : Int) < (n2 : Int) + 1) = true := by first | (simp; done) | (simp; omega)
            have z2' : decide ((0 : Int) < ((n2 + 1 : Nat) : Int)) = true := by first | (simp; done) | (simp; omega)
            have z3 : decide (y < x) = false := by simpa using hyx
            clear hyx
            gi_wp2
            refine region_quiet_w _ hmix (by kernel_rfl) (no_defer (by rfl)) (fun ⟨_, _, h⟩ => by rcases h with ⟨⟨_, h⟩, _⟩; cases h) ?_
            repeat (go_big_quiet_step (fail))
            refine wpQuiet_nil ?_
            intro w9 hw'
            have hb9 : Below wr.heap.size wr w9 := by obtain ⟨⟨dq, osq⟩, hw''⟩ := hw'; rw [hw'']; exact below_regrown wr dq osq
            have c9 := (hb9.cell (block_lt_of_cell cx)).trans cx
            obtain ⟨fn, tmps, assign, body, hy, hR⟩ := HY.out k x w9 HM.out (HJD.out k wr w9 hJk hb9)
            have HR19 : Hid (Rem w9 ga gb g1 o1 c1 (x :: l')) := Lib.hid ⟨HR1.out.here, HR1.out.cap, HR1.out.big, fun j z hj => (hb9.cell (block_lt_of_cell (HR1.out.cells j z hj))).trans (HR1.out.cells j z hj)⟩
            have HR29 : Hid (Rem w9 ga gb g2 o2 c2 (y :: m')) := Lib.hid ⟨HR2.out.here, HR2.out.cap, HR2.out.big, fun j z hj => (hb9.cell (block_lt_of_cell (HR2.out.cells j z hj))).trans (HR2.out.cells j z hj)⟩
            clear hw' hb9 hJk HR1 HR2 cx hcx cy hcy
            gi_wp2
            refine hR.mono ?_
            rintro e W3 ⟨rfl, hJ3, hka, hkb⟩
            have HR13 := Lib.hid (HR19.out.kept hka hkb)
            have HR23 := Lib.hid (HR29.out.kept hka hkb)
            clear hka hkb
            gi_wp2
            go_roundw
            case rel => exact ⟨k + 1, g1, o1 + 1, c1 - 1, g2, o2, c2, l', y :: m', by have h := HN1.out; simp only [Value.slice.injEq, true_and, and_true]; omega, by have h := HN2.out; simp only [Value.slice.injEq, true_and, and_true, List.length_cons]; omega, Lib.hid ⟨(HR13.out.tail hc), HR23.out, HDR.out, by simp only [List.length_cons]; have := HN1.out; have := HN2.out; omega, HKL.out⟩, hJ3⟩
            case measure => simp only [lenOf]; omega
end Go.Proofs.Ytbgojeppfhldjaa
