/- Rows of years, split at a year: plain numbers. -/
import Derived.Test.YtdpockkfmdkbhaaDates
namespace Go.Proofs.Ytdpockkfmdkbhaa
open Go.RowKit Go.Shelf Go.Maps

theorem dates_ok {rest : Int} {ds : List Int} {lo hi : Int} (h : datesErr rest ds lo hi = 0) : datesN rest ds lo hi = rowsOf rest ds lo hi ∧ (datesE rest ds lo hi = 0 ∨ datesE rest ds lo hi = 9 ∧ rowsOf rest ds lo hi = 0) := by
  unfold datesN datesE
  rw [if_pos h]
  by_cases hz : rowsOf rest ds lo hi = 0
  · rw [if_pos hz, if_neg (by decide), hz]; exact ⟨rfl, .inr ⟨rfl, rfl⟩⟩
  · rw [if_neg hz, if_pos rfl]; exact ⟨rfl, .inl rfl⟩
theorem dates_bad {rest : Int} {ds : List Int} {lo hi : Int} (h : datesErr rest ds lo hi ≠ 0) : datesN rest ds lo hi = 0 ∧ datesE rest ds lo hi ≠ 0 ∧ datesL rest ds lo hi = [] := by
  have hE : datesE rest ds lo hi = datesErr rest ds lo hi := by unfold datesE; rw [if_neg h]
  refine ⟨by unfold datesN; rw [hE, if_neg h], by rw [hE]; exact h, by unfold datesL; rw [hE, if_neg h]⟩
/-- What is asked of the numbers. -/
theorem dates_of {rest : Int} {ds : List Int} {lo hi : Int} (hr : 1 ≤ rest ∧ rest ≤ 30) (hb : 0 ≤ lo ∧ lo ≤ hi ∧ hi ≤ 300) (hl : ds.length ≤ 10) (hd : ∀ d ∈ ds, -1 ≤ d ∧ d ≤ 9) : datesErr rest ds lo hi = 0 := by
  unfold datesErr
  have h1 : inB rest 1 30 = true := by simp [inB]; omega
  have h2 : boundsB lo hi 0 300 = true := by simp [boundsB]; omega
  simp [h1, h2, digits_all.2 hd]
  omega
/-- From an index on, or from its year on. -/
theorem rows_from (rest lo hi : Int) (ds : List Int) (k : Nat) (h0 : 0 ≤ lo) (hk : lo + k ≤ hi) : rowsOf rest ds (lo + k) hi = bk lo rest.toNat (hi - lo + 1).toNat ds k := by
  obtain ⟨m, rfl⟩ : ∃ m : Nat, lo = (m : Int) := ⟨lo.toNat, by omega⟩
  unfold rowsOf
  have e1 : ((m : Int) + (k : Int)) = ((m + k : Nat) : Int) := by omega
  rw [e1, bk_abs, bk_abs]
  congr 1; omega
theorem rows_step (rest lo hi d : Int) (s : List Int) (k : Nat) (h : lo + k ≤ hi) : bk lo rest.toNat (hi - lo + 1).toNat (d :: s) k = bk lo rest.toNat (hi - lo + 1).toNat (d :: s) (k + 1) + (if fitsB (lo + k) d = true then bk lo rest.toNat (hi - lo + 1).toNat s (k + rest.toNat) else 0) :=
  bk_step lo rest.toNat _ d s k (by omega)
theorem rows_late (rest lo hi : Int) (s : List Int) (k : Nat) (hr : 0 ≤ rest) (h : hi < lo + k + rest) : bk lo rest.toNat (hi - lo + 1).toNat s (k + rest.toNat) = if s = [] then 1 else 0 := by
  cases s with
  | nil => rfl
  | cons e s => rw [bk_end _ _ _ _ _ _ (by omega)]; rfl
theorem rows_small (rest lo hi : Int) (ds : List Int) (k : Nat) (hr : 1 ≤ rest) (hl : ds.length ≤ 10) (h0 : 0 ≤ lo) (hhi : hi ≤ 300) : bk lo rest.toNat (hi - lo + 1).toNat ds k ≤ 2000000000000000000 :=
  bk_small lo rest.toNat _ (by omega) ds hl (by omega) k
end Go.Proofs.Ytdpockkfmdkbhaa
