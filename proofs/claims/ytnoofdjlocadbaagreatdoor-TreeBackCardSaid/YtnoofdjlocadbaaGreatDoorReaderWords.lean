/- The reader's words: a line comes only behind a line with one of them. -/
import Derived.Test.YtnoofdjlocadbaaGreatDoorReader
namespace Go.Proofs.YtnoofdjlocadbaaGreatDoor
open Go Go.RowKit Go.Lib

theorem str_inj {a b : List UInt8} (h : str a = str b) : a = b := by
  have := congrArg (fun x : ByteArray => x.data.toList) h
  simpa only [str_data] using this

set_option maxRecDepth 100000 in
set_option maxHeartbeats 1000000 in
theorem needAfter_calls (B : Nat) (ln : Int) (last : List UInt8) (ws : List (List UInt8)) (p off c : Nat) (hn : ws.length < 1000000000) (w : World)
    (hB : w.cell? ⟨B, 8, none⟩ = some (.int .i64 ln)) (hl : w.cell? ⟨B, 9, none⟩ = some (.string (str last))) (hc : ∀ j f, ws[j]? = some f → w.cell? ⟨p, off + j, none⟩ = some (.string (str f))) :
    Calls Tryz.prog 83 #[.pointer (some ⟨B, 0, none⟩), .slice (some ⟨p, off, none⟩) ws.length c] w fun e w' => w' = w ∧
      ((last ∈ ws ∧ e = .returned (.tuple #[])) ∨ (last ∉ ws ∧ e = .panicked (lineChain ln))) := by
  have HC := Lib.hid (Tryz.slices_Contains_string p off ws.length c (ws.map str) (str last) w (by simp) (by omega) (by
    intro j hj
    have hj' : j < ws.length := by simpa using hj
    rw [hc j ws[j] (List.getElem?_eq_getElem hj')]
    simp [List.getD, hj']))
  have hmem : containsS ((ws.map str).take ws.length) (str last) = true ↔ last ∈ ws := by
    rw [List.take_of_length_le (by simp), containsS_iff, List.mem_map]
    constructor
    · rintro ⟨f, hf, he⟩
      exact str_inj he ▸ hf
    · exact fun h => ⟨last, h, rfl⟩
  generalize hb : containsS ((ws.map str).take ws.length) (str last) = b at HC hmem
  clear hb hc
  go_enter Tryz.func83, Tryz.ntmps83
  cases b with
  | true =>
    have hm := hmem.mp rfl
    go_wp2_with (first | (go_at_call 107; refine HC.out.mono ?_; rintro e w1 ⟨rfl, rfl⟩) | (go_at_call 53; refine (need_true _ _).mono ?_; rintro e w' ⟨rfl, rfl⟩))
    go_end0
    exact ⟨rfl, .inl ⟨hm, rfl⟩⟩
  | false =>
    have hm : last ∉ ws := fun h => by cases hmem.mpr h
    go_wp2_with (first | (go_at_call 107; refine HC.out.mono ?_; rintro e w1 ⟨rfl, rfl⟩) | (go_at_call 53; refine (need_false B ln _ hB).mono ?_; rintro e w' ⟨rfl, rfl⟩))
    exact ⟨rfl, rfl, .inr ⟨hm, rfl⟩⟩
end Go.Proofs.YtnoofdjlocadbaaGreatDoor
