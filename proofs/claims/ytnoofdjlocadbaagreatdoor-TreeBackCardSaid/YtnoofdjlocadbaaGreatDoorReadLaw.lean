/- The reader's law line. -/
import Derived.Test.YtnoofdjlocadbaaGreatDoorReaderWords
import Derived.StillTailTactics
import Derived.Deep.MidRow
namespace Go.Proofs.YtnoofdjlocadbaaGreatDoor
open Go Go.RowKit Go.Lib Go.Deep

theorem there_of {w : World} {B n : Nat} {cs : Array Value} {T : TypeId} (h : w.heap[B]? = some (.cells cs T (0, 0))) (hn : n ≤ cs.size) : w.there B 0 n := by
  intro j hj
  have hj' : j < cs.size := by omega
  constructor
  · unfold World.cell?
    rw [show (⟨B, 0 + j, none⟩ : Addr).block = B from rfl, h]
    simp [hj']
  · unfold World.frozen?
    rw [show (⟨B, 0 + j, none⟩ : Addr).block = B from rfl, h]
    simp

/-- How a law line is read. -/
def LawRead (B : Nat) (ln : Int) (last : List UInt8) (fs : List (List UInt8)) (w : World) (e : Ending) (w' : World) : Prop :=
      (∃ n0 n1 n2 n3 n4 n5 n6 W, last = [] ∧ numbersL fs = some [n0, n1, n2, n3, n4, n5, n6] ∧ e = .returned (.tuple #[]) ∧ Below w.heap.size w W ∧
        w' = W.setCells B 0 [.int .i64 n0, .int .i64 n1, .int .i64 n2, .int .i64 n3, .int .i64 n4, .int .i64 n5, .int .i64 n6]) ∨
      (¬ (last = [] ∧ ∃ ns, numbersL fs = some ns ∧ ns.length = 7) ∧ e = .panicked (lineChain ln) ∧ Below w.heap.size w w')

theorem law_size : (Tryz.prog.info? 24).map (·.size) = some 7 := by kernel_rfl

set_option maxRecDepth 100000 in
set_option maxHeartbeats 2000000 in
theorem readLaw_calls (B : Nat) (ln : Int) (last : List UInt8) (fs : List (List UInt8)) (p off c : Nat) (hfl : ∀ f ∈ fs, f.length < 1000000000) (hn : fs.length < 1000000000) (w : World) (hL : Libs w)
    (cs : Array Value) (hcs : cs.size = 10) (hBk : w.heap[B]? = some (.cells cs 105 (0, 0))) (h8 : cs[8]? = some (.int .i64 ln)) (h9 : cs[9]? = some (.string (str last)))
    (hc : ∀ j f, fs[j]? = some f → w.cell? ⟨p, off + j, none⟩ = some (.string (str f))) :
    Calls Tryz.prog 48 #[.pointer (some ⟨B, 0, none⟩), .slice (some ⟨p, off, none⟩) fs.length c] w fun e w' =>
LawRead B ln last fs w e w' := by
  have k8 : w.cell? ⟨B, 8, none⟩ = some (.int .i64 ln) := by unfold World.cell?; rw [hBk]; exact h8
  have k9 : w.cell? ⟨B, 9, none⟩ = some (.string (str last)) := by unfold World.cell?; rw [hBk]; exact h9
  have hbl := block_lt_of_cell k8
  have hb0 : Below w.heap.size w (w.alloc (.cells #[.string ⟨#[]⟩] 9)) := (Below.refl _ w).alloc (Nat.le_refl _) _
  have HA := Lib.hid (needAfter_calls B ln last [[]] w.heap.size 0 1 (by decide) (w.alloc (.cells #[.string ⟨#[]⟩] 9)) ((hb0.cell hbl).trans k8) ((hb0.cell (p := ⟨B, 9, none⟩) hbl).trans k9) (by
    intro j f hj
    cases j with
    | succ j => simp at hj
    | zero =>
      simp at hj
      subst hj
      exact one_at w 9 (.string ⟨#[]⟩) 0 _ rfl))
  have HN := Lib.hid (readNumbers_calls B ln fs p off c 7 hfl hn (w.alloc (.cells #[.string ⟨#[]⟩] 9)) (hL.below hb0) ((hb0.cell hbl).trans k8) (fun j f hj => (hb0.cell (block_lt_of_cell (hc j f hj))).trans (hc j f hj)))
  clear hc hL hfl
  go_enter Tryz.func48, Tryz.ntmps48
  go_wp2_with (first
    | (go_at_call 83; refine HA.out.mono ?_; rintro e w' ⟨rfl, ⟨hm, rfl⟩ | ⟨hm, rfl⟩⟩)
    | (go_at_call 84; refine HN.out.mono ?_; rintro e w2 ⟨hb2, h⟩; rcases h with ⟨ns, v, hns, hlen, hrow, rfl⟩ | ⟨hbad, rfl⟩))
  · have hv : ∃ g cap, v = .slice (some ⟨g, 0, none⟩) 7 cap := by
      rcases hrow.2 with ⟨_, h1⟩ | ⟨g, cap, cur, h1, _⟩
      · omega
      · exact ⟨g, cap, h1⟩
    obtain ⟨g, cap, rfl⟩ := hv
    obtain ⟨n0, n1, n2, n3, n4, n5, n6, rfl⟩ : ∃ n0 n1 n2 n3 n4 n5 n6, ns = [n0, n1, n2, n3, n4, n5, n6] := by
      match ns, hlen with
      | [n0, n1, n2, n3, n4, n5, n6], _ => exact ⟨n0, n1, n2, n3, n4, n5, n6, rfl⟩
    have c0 : w2.cell? ⟨g, 0, none⟩ = some (.int .i64 n0) := World.ownsRow.cellAt hrow 0 (by decide)
    have c1 : w2.cell? ⟨g, 1, none⟩ = some (.int .i64 n1) := World.ownsRow.cellAt hrow 1 (by decide)
    have c2 : w2.cell? ⟨g, 2, none⟩ = some (.int .i64 n2) := World.ownsRow.cellAt hrow 2 (by decide)
    have c3 : w2.cell? ⟨g, 3, none⟩ = some (.int .i64 n3) := World.ownsRow.cellAt hrow 3 (by decide)
    have c4 : w2.cell? ⟨g, 4, none⟩ = some (.int .i64 n4) := World.ownsRow.cellAt hrow 4 (by decide)
    have c5 : w2.cell? ⟨g, 5, none⟩ = some (.int .i64 n5) := World.ownsRow.cellAt hrow 5 (by decide)
    have c6 : w2.cell? ⟨g, 6, none⟩ = some (.int .i64 n6) := World.ownsRow.cellAt hrow 6 (by decide)
    clear hrow
    have hb02 : Below w.heap.size w w2 := hb0.trans (hb2.mono hb0.size)
    have hB2 : w2.heap[B]? = some (.cells cs 105 (0, 0)) := (hb02.block B hbl).trans hBk
    have hl0 : last = [] := by simpa using hm
    have HNS := Lib.hid hns
    have HL0 := Lib.hid hl0
    clear hns hl0 hm hlen
    go_still_tail 27, (by kernel_rfl)
    change wpList _ _ _ _ _ w2.drew
    replace hB2 : w2.drew.heap[B]? = some (.cells cs 105 (0, 0)) := hB2
    replace hb02 : Below w.heap.size w w2.drew := hb02.trans ⟨rfl, rfl, rfl, Nat.le_refl _, fun _ _ => rfl⟩
    generalize w2.drew = wd at hB2 hb02 ⊢
    refine wpList_store_mid rfl 24 (.tmp 37) (.tmp 34) rfl B 0 #[.int .i64 n0, .int .i64 n1, .int .i64 n2, .int .i64 n3, .int .i64 n4, .int .i64 n5, .int .i64 n6] rfl rfl (there_of hB2 (by rw [hcs]; show 7 ≤ 10; decide)) law_size (by simp [Value.oneCell']) ?_
    change wpList _ _ _ _ _ (wd.setCells B 0 [.int .i64 n0, .int .i64 n1, .int .i64 n2, .int .i64 n3, .int .i64 n4, .int .i64 n5, .int .i64 n6])
    generalize hw3 : wd.setCells B 0 [.int .i64 n0, .int .i64 n1, .int .i64 n2, .int .i64 n3, .int .i64 n4, .int .i64 n5, .int .i64 n6] = w3
    go_wp2
    go_end0
    unfold LawRead
    exact .inl ⟨n0, n1, n2, n3, n4, n5, n6, wd, HL0.out, HNS.out, rfl, hb02, hw3.symm⟩
  · refine ⟨rfl, Or.inr ⟨?_, rfl, hb0.trans (hb2.mono hb0.size)⟩⟩
    rintro ⟨_, ms, h1, h2⟩
    exact hbad ms h1 h2
  · refine ⟨rfl, Or.inr ⟨?_, rfl, hb0⟩⟩
    rintro ⟨h1, _⟩
    exact hm (by rw [h1]; simp)
end Go.Proofs.YtnoofdjlocadbaaGreatDoor
