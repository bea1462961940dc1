/- The first error of a tree. -/
import Derived.Test.YtajbflepjpgnbaaMeasured
namespace Go.Proofs.Ytajbflepjpgnbaa
open Go.RowKit

theorem bcell {W w1 : World} (hb : Below W.heap.size W w1) : (∀ b o, b < W.heap.size → w1.cell? ⟨b, o, none⟩ = W.cell? ⟨b, o, none⟩) ∧ (∀ b o, b < W.heap.size → w1.frozen? ⟨b, o, none⟩ = W.frozen? ⟨b, o, none⟩) :=
  ⟨fun b o h => hb.cell (p := ⟨b, o, none⟩) h, fun b o h => hb.frozen (p := ⟨b, o, none⟩) h⟩

set_option maxRecDepth 100000 in
set_option maxHeartbeats 2000000 in
theorem checkTree_calls (t : Tree) (b off c : Nat) (es : List Tree) (w : World) (hb : b < w.heap.size) (hl : es.length ≤ 9223372036854775807) (ht : TreeHeld w.heap.size w t)
    (hc : ∀ j, j < es.length → ∀ i u, (Tree.cells es[j]!)[i]? = some u → w.cell? ⟨b, off + j * 11 + i, none⟩ = some u) :
    Calls Try.prog 39 #[.agg t.cells.toArray, .slice (some ⟨b, off, none⟩) es.length c] w fun e w' => e = .returned (.int .i64 (checkTree es t)) ∧ Below w.heap.size w w' := by
  have hI := isCode_calls t.code (w.alloc (.cells t.cells.toArray 53)) ht.2.2
  have hC := containsTree t w.heap.size b off c es (w.alloc (.cells t.cells.toArray 53)) (by simp) (by simp; omega) hl (by simp [Tree.cells])
    (fun j hj i u hu => by rw [((Below.refl _ w).alloc (Nat.le_refl _) _).cell (p := ⟨b, off + j * 11 + i, none⟩) hb]; exact hc j hj i u hu)
  have hM := fun W => isMeasured_calls t W
  have hS : ∀ W, Below w.heap.size w W → Calls Try.prog 61 #[t.sv] W fun e w' => e = .returned (.int .i64 (checkStrips t.strips)) ∧ Below W.heap.size W w' := fun W h => checkStrips_calls ((ht.1.below h).mono h.size)
  have hW : ∀ W, Below w.heap.size w W → Calls Try.prog 62 #[t.wv] W fun e w' => e = .returned (.int .i64 (checkWounds t.wounds)) ∧ W = w' := fun W h => (checkWounds_calls (ht.2.1.below h)).mono fun _ _ ⟨h1, h2⟩ => ⟨h1, h2⟩
  have hBx : ∀ W, Below (w.alloc (.cells t.cells.toArray 53)).heap.size (w.alloc (.cells t.cells.toArray 53)) W → Below w.heap.size w W := fun W h => ((Below.refl _ w).alloc (Nat.le_refl _) _).trans (h.mono (by simp))
  clear hc ht
  have hR : checkTree es t = checkTree es t := rfl
  generalize hr : checkTree es t = r
  clear hR
  unfold checkTree treeErr at hr
  generalize es.any (fun o => sameCode o t) = q at hr hC
  generalize checkStrips t.strips = n at hr hS
  generalize checkWounds t.wounds = m at hr hW
  generalize measuredB t = d at hr hM
  generalize codeB t.code.data.toList = k at hr hI
  have HI := Lib.hid hI; clear hI
  have HC := Lib.hid hC; clear hC
  have HM := Lib.hid hM; clear hM
  have HS := Lib.hid hS; clear hS
  have HW := Lib.hid hW; clear hW
  have HB := Lib.hid hBx; clear hBx
  have hlen : (es.length : Int) ≤ 9223372036854775807 := by omega
  clear hl
  obtain ⟨code, bmin, bmax, taped, gmin, gmax, wmin, wmax, sv, wv, dead, strips, wounds⟩ := t
  simp only [Tree.cells] at HI HC HM HS HW HB ⊢
  cases k
  · have HR := Lib.hid (show r = 4 from by rw [← hr]; rfl)
    clear hr
    go_enter Try.func39, Try.ntmps39
    go_wp2_with (first | (go_at_call 57; refine HI.out.mono ?_; rintro e w' ⟨rfl, rfl⟩))
    go_ret
    exact ⟨by rw [HR.out]; rfl, (Below.refl _ w).alloc (Nat.le_refl _) _⟩
  cases q
  · cases d
    · have HR := Lib.hid (show r = 1 from by rw [← hr]; rfl)
      clear hr
      go_enter Try.func39, Try.ntmps39
      go_wp2_with (first | (go_at_call 57; refine HI.out.mono ?_; rintro e w' ⟨rfl, rfl⟩) | (go_at_call 58; refine HC.out.mono ?_; rintro e w2 ⟨rfl, hw2⟩; have hB2 := HB.out _ hw2; obtain ⟨hc2, hf2⟩ := bcell hw2; have hz2 : w.heap.size < w2.heap.size := by (have := hw2.size; simp at this; omega)) | (go_at_call 60; refine (HM.out _).mono ?_; rintro e w3 ⟨rfl, hw3⟩; have hB3 := hB2.trans (hw3.mono hB2.size); obtain ⟨hc3, hf3⟩ := bcell hw3; have hz3 : w.heap.size < w3.heap.size := Nat.lt_of_lt_of_le hz2 hw3.size))
      go_ret
      exact ⟨by rw [HR.out]; rfl, hB3⟩
    by_cases hn : n = 0
    · subst hn
      have HR := Lib.hid (show r = m from by rw [← hr]; rfl)
      clear hr
      go_enter Try.func39, Try.ntmps39
      go_wp2_with (first | (go_at_call 57; refine HI.out.mono ?_; rintro e w' ⟨rfl, rfl⟩) | (go_at_call 58; refine HC.out.mono ?_; rintro e w2 ⟨rfl, hw2⟩; have hB2 := HB.out _ hw2; obtain ⟨hc2, hf2⟩ := bcell hw2; have hz2 : w.heap.size < w2.heap.size := by (have := hw2.size; simp at this; omega)) | (go_at_call 60; refine (HM.out _).mono ?_; rintro e w3 ⟨rfl, hw3⟩; have hB3 := hB2.trans (hw3.mono hB2.size); obtain ⟨hc3, hf3⟩ := bcell hw3; have hz3 : w.heap.size < w3.heap.size := Nat.lt_of_lt_of_le hz2 hw3.size) | (go_at_call 61; refine (HS.out _ hB3).mono ?_; rintro e w4 ⟨rfl, hw4⟩; have hB4 := hB3.trans (hw4.mono hB3.size); obtain ⟨hc4, hf4⟩ := bcell hw4; have hz4 : w.heap.size < w4.heap.size := Nat.lt_of_lt_of_le hz3 hw4.size) | (go_at_call 62; refine (HW.out _ hB4).mono ?_; rintro e w5 ⟨rfl, rfl⟩))
      go_ret
      exact ⟨by rw [HR.out]; rfl, hB4⟩
    · have hnb : (n != 0) = true := by simp [hn]
      have HR := Lib.hid (show r = n from by rw [← hr]; simp [hn])
      clear hr hn
      go_enter Try.func39, Try.ntmps39
      go_wp2_with (first | (go_at_call 57; refine HI.out.mono ?_; rintro e w' ⟨rfl, rfl⟩) | (go_at_call 58; refine HC.out.mono ?_; rintro e w2 ⟨rfl, hw2⟩; have hB2 := HB.out _ hw2; obtain ⟨hc2, hf2⟩ := bcell hw2; have hz2 : w.heap.size < w2.heap.size := by (have := hw2.size; simp at this; omega)) | (go_at_call 60; refine (HM.out _).mono ?_; rintro e w3 ⟨rfl, hw3⟩; have hB3 := hB2.trans (hw3.mono hB2.size); obtain ⟨hc3, hf3⟩ := bcell hw3; have hz3 : w.heap.size < w3.heap.size := Nat.lt_of_lt_of_le hz2 hw3.size) | (go_at_call 61; refine (HS.out _ hB3).mono ?_; rintro e w4 ⟨rfl, hw4⟩; have hB4 := hB3.trans (hw4.mono hB3.size); obtain ⟨hc4, hf4⟩ := bcell hw4; have hz4 : w.heap.size < w4.heap.size := Nat.lt_of_lt_of_le hz3 hw4.size))
      go_ret
      exact ⟨by rw [HR.out]; rfl, hB4⟩
  · have HR := Lib.hid (show r = 5 from by rw [← hr]; rfl)
    clear hr
    go_enter Try.func39, Try.ntmps39
    go_wp2_with (first | (go_at_call 57; refine HI.out.mono ?_; rintro e w' ⟨rfl, rfl⟩) | (go_at_call 58; refine HC.out.mono ?_; rintro e w2 ⟨rfl, hw2⟩; have hB2 := HB.out _ hw2; obtain ⟨hc2, hf2⟩ := bcell hw2; have hz2 : w.heap.size < w2.heap.size := by (have := hw2.size; simp at this; omega)))
    go_ret
    exact ⟨by rw [HR.out]; rfl, hB2⟩
end Go.Proofs.Ytajbflepjpgnbaa
