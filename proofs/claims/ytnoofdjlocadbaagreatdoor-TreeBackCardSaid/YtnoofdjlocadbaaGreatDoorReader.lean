/- The reader's numbers and words: as many numbers as are asked for, or a panic with the line's number. -/
import Derived.Test.YtnoofdjlocadbaaGreatDoorNumbersCalls
import Derived.Test.YtnoofdjlocadbaaGreatDoorNeed
namespace Go.Proofs.YtnoofdjlocadbaaGreatDoor
open Go Go.RowKit Go.Lib

theorem row_slice {w : World} {base size : Nat} {e : TypeId} {v : Value} {n : Nat} {xs : List Value} (h : w.ownsRow base e size v n xs) : ∃ a cap, v = .slice a n cap := by
  rcases h.2 with ⟨h0, rfl⟩ | ⟨g, cap, cur, h1, _⟩
  · exact ⟨_, _, h0⟩
  · exact ⟨_, _, h1⟩

theorem len_ints (a : Option Addr) (n c : Nat) (w : World) : (Builtin.len_ #[43] 3 #[.slice a n c]).run Tryz.prog w = .ok (.int .i64 (n : Int)) w := by
  simp [Builtin.len_, go_sem, run_underlying Tryz.underlying43]

/-- The panic of a line. -/
def lineChain (ln : Int) : List PanicEntry := [{ v := .iface 98 (.int .i64 ln), recovered := false }]

set_option maxRecDepth 100000 in
set_option maxHeartbeats 1000000 in
theorem readNumbers_calls (B : Nat) (ln : Int) (fs : List (List UInt8)) (p off c many : Nat) (hfl : ∀ f ∈ fs, f.length < 1000000000) (hn : fs.length < 1000000000) (w : World) (hL : Libs w)
    (hB : w.cell? ⟨B, 8, none⟩ = some (.int .i64 ln)) (hc : ∀ j f, fs[j]? = some f → w.cell? ⟨p, off + j, none⟩ = some (.string (str f))) :
    Calls Tryz.prog 84 #[.pointer (some ⟨B, 0, none⟩), .slice (some ⟨p, off, none⟩) fs.length c, .int .i64 many] w fun e w' => Below w.heap.size w w' ∧
      ((∃ ns v, numbersL fs = some ns ∧ ns.length = many ∧ w'.ownsRow w.heap.size 3 1 v many (ns.map (Value.int .i64)) ∧ e = .returned v) ∨ ((∀ ns, numbersL fs = some ns → ns.length ≠ many) ∧ e = .panicked (lineChain ln))) := by
  have HN := Lib.hid (numbers_calls fs p off c hfl hn w hL hc)
  clear hc hL hfl
  have hli := len_ints
  go_enter Tryz.func84, Tryz.ntmps84
  go_wp2_with (go_at_call 108; refine HN.out.mono ?_; rintro e w1 ⟨hb1, h⟩; have hB1 : w1.cell? ⟨B, 8, none⟩ = some (.int .i64 ln) := (hb1.cell (block_lt_of_cell hB)).trans hB; rcases h with ⟨ns, v, hns, hlen, hrow, rfl⟩ | ⟨hns, rfl⟩)
  · generalize hfn : fs.length = n at hn hlen hrow ⊢
    have hv : (n = 0 ∧ v = .slice none 0 0) ∨ ∃ g cap, v = .slice (some ⟨g, 0, none⟩) n cap := by
      rcases hrow.2 with ⟨h0, h1⟩ | ⟨g, cap, cur, h1, _⟩
      · exact .inl ⟨h1, h0⟩
      · exact .inr ⟨g, cap, h1⟩
    by_cases hm : n = many
    · subst hm
      have HR := Lib.hid hrow
      clear hrow
      rcases hv with ⟨rfl, rfl⟩ | ⟨g, cap, rfl⟩
      all_goals go_wp2_with fail
      all_goals (simp only [hli, Result.andThen, Oper.upon_value, Act.put, List.setIfInBounds_toArray, List.set_cons_succ, List.set_cons_zero]; go_at_K)
      all_goals go_wp2_with (go_at_call 53; refine (need_true _ w1).mono ?_; rintro e w' ⟨rfl, rfl⟩)
      all_goals go_ret
      all_goals exact ⟨hb1, .inl ⟨ns, _, hns, hlen, HR.out, rfl⟩⟩
    · have hm1 : ((n : Int) == (many : Int)) = false := by rw [beq_eq_false_iff_ne]; omega
      have hbad : ∀ ms, numbersL fs = some ms → ms.length ≠ many := fun ms h => by rw [hns] at h; cases h; omega
      rcases hv with ⟨rfl, rfl⟩ | ⟨g, cap, rfl⟩
      · have hm5 : ((0 : Int) == (many : Int)) = false := by rw [beq_eq_false_iff_ne]; omega
        go_wp2_with fail
        simp only [hli, Result.andThen, Oper.upon_value, Act.put, List.setIfInBounds_toArray, List.set_cons_succ, List.set_cons_zero]; go_at_K
        go_wp2_with (go_at_call 53; refine (need_false B ln w1 hB1).mono ?_; rintro e w' ⟨rfl, rfl⟩)
        exact ⟨rfl, hb1, .inr ⟨hbad, rfl⟩⟩
      · have hm5 := hm1
        go_wp2_with fail
        simp only [hli, Result.andThen, Oper.upon_value, Act.put, List.setIfInBounds_toArray, List.set_cons_succ, List.set_cons_zero]; go_at_K
        go_wp2_with (go_at_call 53; refine (need_false B ln w1 hB1).mono ?_; rintro e w' ⟨rfl, rfl⟩)
        exact ⟨rfl, hb1, .inr ⟨hbad, rfl⟩⟩
  · go_wp2_with (go_at_call 53; refine (need_false B ln w1 hB1).mono ?_; rintro e w' ⟨rfl, rfl⟩)
    exact ⟨rfl, hb1, .inr ⟨fun ms h => (by rw [hns] at h; cases h), rfl⟩⟩
end Go.Proofs.YtnoofdjlocadbaaGreatDoor
