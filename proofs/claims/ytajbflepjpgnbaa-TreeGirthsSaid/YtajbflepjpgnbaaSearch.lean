/- The library's binary search, at the closure of highest. -/
import Derived.Test.YtajbflepjpgnbaaMay
namespace Go.Proofs.Ytajbflepjpgnbaa
open Go.RowKit Go.Shelf

/-- What a search says: a place r with a false answer before it and a true one at it. -/
def SomeSearch (n : Nat) (p : Nat → Bool) (Inv : World → Prop) (e : Ending) (w' : World) : Prop :=
  ∃ r : Nat, e = .returned (.int .i64 r) ∧ Hid (r ≤ n ∧ (r = 0 ∨ p (r - 1) = false) ∧ (r = n ∨ p r = true)) ∧ Inv w'

set_option maxRecDepth 100000 in
set_option maxHeartbeats 1000000 in
theorem search_calls (n : Nat) (hn : n ≤ 15000) (p : Nat → Bool) (Inv : World → Prop) (Bq Bg : Nat) (w : World) (h0 : Inv w)
    (hf : ∀ (k : Nat) (W : World), k < n → Inv W → Calls Try.prog 71 #[.int .i64 (k : Nat), .pointer (some ⟨Bq, 0, none⟩), .pointer (some ⟨Bg, 0, none⟩)] W fun e W' => e = .returned (.bool (p k)) ∧ Inv W') :
    Calls Try.prog 70 #[.int .i64 n, .func (.func 71) #[] #[.pointer (some ⟨Bq, 0, none⟩), .pointer (some ⟨Bg, 0, none⟩)]] w (SomeSearch n p Inv) := by
  have HF := Lib.hid hf; clear hf
  have H0 := Lib.hid h0; clear h0
  have hn' : (n : Int) ≤ 15000 := by omega
  go_enter Try.func70, Try.ntmps70
  go_wp2
  go_loopw [5, 6] (fun a b wr => ∃ (i j : Nat), i ≤ j ∧ j ≤ n ∧ a = .int .i64 i ∧ b = .int .i64 j ∧ Hid ((i = 0 ∨ p (i - 1) = false) ∧ (j = n ∨ p j = true)) ∧ Hid (Inv wr)) (fun a b _ => (intOf b).toNat - (intOf a).toNat)
  case atStart => exact ⟨0, n, by omega, by omega, rfl, rfl, Lib.hid ⟨.inl rfl, .inl rfl⟩, H0⟩
  case round =>
    clear H0
    obtain ⟨i, j, hij, hj, rfl, rfl, HR, HI⟩ := hrel
    by_cases hlt : i < j
    · have hlt' : (i : Int) < (j : Int) := by omega
      have hj' : (j : Int) ≤ 15000 := by omega
      go_wp2_with fail
      obtain ⟨m, hm⟩ : ∃ m : Nat, ((i : Int) + (j : Int)) / 2 = (m : Int) := ⟨(i + j) / 2, by omega⟩
      have hm1 : i ≤ m := by omega
      have hm2 : m < j := by omega
      rw [hm]
      clear hm
      have HC := Lib.hid (HF.out m wr (by omega) HI.out)
      cases hp : p m
      · rw [hp] at HC
        refine HC.out.mono ?_
        rintro e w2 ⟨rfl, hI⟩
        have HI2 := Lib.hid hI; clear hI
        have HS := Lib.hid (show (m + 1 = 0 ∨ p (m + 1 - 1) = false) ∧ (j = n ∨ p j = true) from ⟨.inr hp, HR.out.2⟩)
        clear hp
        go_wp2
        exact ⟨⟨m + 1, j, by omega, by omega, by go_num, rfl, HS, HI2⟩, by simp [intOf]; omega⟩
      · rw [hp] at HC
        refine HC.out.mono ?_
        rintro e w2 ⟨rfl, hI⟩
        have HI2 := Lib.hid hI; clear hI
        have HS := Lib.hid (show (i = 0 ∨ p (i - 1) = false) ∧ (m = n ∨ p m = true) from ⟨HR.out.1, .inr hp⟩)
        clear hp
        go_wp2
        exact ⟨⟨i, m, by omega, by omega, rfl, rfl, HS, HI2⟩, by simp [intOf]; omega⟩
    · have hge : (j : Int) ≤ (i : Int) := by omega
      obtain rfl : i = j := by omega
      go_wp2
      go_ret
      exact ⟨i, rfl, Lib.hid ⟨hj, HR.out⟩, HI.out⟩

set_option maxHeartbeats 400000 in
theorem isAlways_calls (v : Int) (w : World) :
    Calls Try.prog 46 #[.int .i64 v] w fun e w' => e = .returned (.bool (v == 1)) ∧ w = w' := by
  go_enter Try.func46, Try.ntmps46
  go_wp2
  go_ret
  exact ⟨rfl, rfl⟩

set_option maxHeartbeats 400000 in
theorem isPossible_calls (v : Int) (w : World) :
    Calls Try.prog 47 #[.int .i64 v] w fun e w' => e = .returned (.bool (v != 2)) ∧ w = w' := by
  go_enter Try.func47, Try.ntmps47
  go_wp2
  go_ret
  exact ⟨rfl, rfl⟩

set_option maxRecDepth 100000 in
set_option maxHeartbeats 1000000 in
theorem closure_isAlways (l : Law) (t : Tree) (y h : Int) (i Bq Bg : Nat) (w0 W : World) (hi : i < 15000) (hl : LawFine l) (ht : TreeFine t) (hH : TreeHeld w0.heap.size w0 t) (hy0 : 0 ≤ y) (hy1 : y ≤ 300)
    (hW : Below w0.heap.size w0 W) (hq0 : w0.heap.size ≤ Bq) (hqg : Bq < Bg) (hq : Blk W Bq 74 (qCells l t y h)) (hg : Blk W Bg 89 #[.func (.func 46) #[] #[]]) :
    Calls Try.prog 71 #[.int .i64 (i : Nat), .pointer (some ⟨Bq, 0, none⟩), .pointer (some ⟨Bg, 0, none⟩)] W fun e W' => e = .returned (.bool (!((verdictOn l t y ((i : Int) + 1)).1 == 1))) ∧ Below w0.heap.size w0 W' ∧ Blk W' Bq 74 (qCells l t y ((i : Int) + 1)) ∧ Blk W' Bg 89 #[.func (.func 46) #[] #[]] := by
  have c19 := hq.cell 19
  have f19 := hq.frozen 19
  simp only [qCells, List.getElem?_toArray, List.getElem?_cons_zero, List.getElem?_cons_succ] at c19
  have hq2 := hq.set_ 19 (.int .i64 ((i : Int) + 1))
  rw [show (qCells l t y h).setIfInBounds 19 (.int .i64 ((i : Int) + 1)) = qCells l t y ((i : Int) + 1) from rfl] at hq2
  have HQ2 := Lib.hid hq2
  have hg2 : Blk (W.setCell ⟨Bq, 19, none⟩ (.int .i64 ((i : Int) + 1))) Bg _ _ := hg.far (by simp; omega) _
  have hW2 : Below w0.heap.size w0 (W.setCell ⟨Bq, 19, none⟩ (.int .i64 ((i : Int) + 1))) := hW.setCell (p := ⟨Bq, 19, none⟩) hq0 _
  have HV := Lib.hid (verdict_says l t y ((i : Int) + 1) _ hl ht ((hH.below hW2).mono hW2.size) hy0 hy1 (by omega) (by omega))
  clear hq hq2
  have hi' : (i : Int) < 15000 := by omega
  generalize verdictOn l t y ((i : Int) + 1) = v at HV ⊢
  have HG2 := Lib.hid hg2; clear hg2 hg
  go_enter Try.func71, Try.ntmps71
  go_wp2_with (first | ((with_reducible refine at_load 74 (.tmp 1) ?_); go_must (refine wpList_load_row rfl 74 (.tmp 1) rfl Bq rfl 74 (qCells l t y ((i : Int) + 1)) (0, 0) _ HQ2.out Try.underlying74 rfl size_question ?_)) | (go_at_call 43; refine HV.out.mono ?_; rintro e w3 ⟨rfl, hw3⟩; have hg3 := Blk.below HG2.out hw3 (Blk.lt HG2.out); have d3 := Blk.cell hg3 0; simp only [List.getElem?_toArray, List.getElem?_cons_zero] at d3) | (go_at_call 46; refine (isAlways_calls _ _).mono ?_; rintro e w' ⟨rfl, rfl⟩))
  go_ret
  exact ⟨rfl, hW2.trans (hw3.mono hW2.size), Blk.below HQ2.out hw3 (Blk.lt HQ2.out), hg3⟩

set_option maxRecDepth 100000 in
set_option maxHeartbeats 1000000 in
theorem closure_isPossible (l : Law) (t : Tree) (y h : Int) (i Bq Bg : Nat) (w0 W : World) (hi : i < 15000) (hl : LawFine l) (ht : TreeFine t) (hH : TreeHeld w0.heap.size w0 t) (hy0 : 0 ≤ y) (hy1 : y ≤ 300)
    (hW : Below w0.heap.size w0 W) (hq0 : w0.heap.size ≤ Bq) (hqg : Bq < Bg) (hq : Blk W Bq 74 (qCells l t y h)) (hg : Blk W Bg 89 #[.func (.func 47) #[] #[]]) :
    Calls Try.prog 71 #[.int .i64 (i : Nat), .pointer (some ⟨Bq, 0, none⟩), .pointer (some ⟨Bg, 0, none⟩)] W fun e W' => e = .returned (.bool (!((verdictOn l t y ((i : Int) + 1)).1 != 2))) ∧ Below w0.heap.size w0 W' ∧ Blk W' Bq 74 (qCells l t y ((i : Int) + 1)) ∧ Blk W' Bg 89 #[.func (.func 47) #[] #[]] := by
  have c19 := hq.cell 19
  have f19 := hq.frozen 19
  simp only [qCells, List.getElem?_toArray, List.getElem?_cons_zero, List.getElem?_cons_succ] at c19
  have hq2 := hq.set_ 19 (.int .i64 ((i : Int) + 1))
  rw [show (qCells l t y h).setIfInBounds 19 (.int .i64 ((i : Int) + 1)) = qCells l t y ((i : Int) + 1) from rfl] at hq2
  have HQ2 := Lib.hid hq2
  have hg2 : Blk (W.setCell ⟨Bq, 19, none⟩ (.int .i64 ((i : Int) + 1))) Bg _ _ := hg.far (by simp; omega) _
  have hW2 : Below w0.heap.size w0 (W.setCell ⟨Bq, 19, none⟩ (.int .i64 ((i : Int) + 1))) := hW.setCell (p := ⟨Bq, 19, none⟩) hq0 _
  have HV := Lib.hid (verdict_says l t y ((i : Int) + 1) _ hl ht ((hH.below hW2).mono hW2.size) hy0 hy1 (by omega) (by omega))
  clear hq hq2
  have hi' : (i : Int) < 15000 := by omega
  generalize verdictOn l t y ((i : Int) + 1) = v at HV ⊢
  have HG2 := Lib.hid hg2; clear hg2 hg
  go_enter Try.func71, Try.ntmps71
  go_wp2_with (first | ((with_reducible refine at_load 74 (.tmp 1) ?_); go_must (refine wpList_load_row rfl 74 (.tmp 1) rfl Bq rfl 74 (qCells l t y ((i : Int) + 1)) (0, 0) _ HQ2.out Try.underlying74 rfl size_question ?_)) | (go_at_call 43; refine HV.out.mono ?_; rintro e w3 ⟨rfl, hw3⟩; have hg3 := Blk.below HG2.out hw3 (Blk.lt HG2.out); have d3 := Blk.cell hg3 0; simp only [List.getElem?_toArray, List.getElem?_cons_zero] at d3) | (go_at_call 47; refine (isPossible_calls _ _).mono ?_; rintro e w' ⟨rfl, rfl⟩))
  go_ret
  exact ⟨rfl, hW2.trans (hw3.mono hW2.size), Blk.below HQ2.out hw3 (Blk.lt HQ2.out), hg3⟩
end Go.Proofs.Ytajbflepjpgnbaa
