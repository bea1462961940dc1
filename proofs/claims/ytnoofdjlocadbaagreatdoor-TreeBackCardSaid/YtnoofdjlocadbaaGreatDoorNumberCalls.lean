/- terms.Number: a field that is a number. -/
import Derived.Test.YtnoofdjlocadbaaGreatDoorNumber
import Derived.Test.YtnoofdjlocadbaaGreatDoorLines
import Derived.Lib.SmallJoins
namespace Go.Proofs.YtnoofdjlocadbaaGreatDoor
open Go Go.RowKit Go.Lib

/-- The library's variables, as its text lays them. -/
structure Libs (w : World) : Prop where
  maxLen : ∃ m, w.cell? ⟨1, 0, none⟩ = some (.int .i64 m)
  syn : ∃ tp p, w.cell? ⟨6, 0, none⟩ = some (.iface tp p)
  rng : ∃ tp p, w.cell? ⟨7, 0, none⟩ = some (.iface tp p)
  tab : TabIs Tryz.prog w "internal/strconv.uint64pow10" IntKind.u64 pow10Tab

/-- How Atoi ends at a field. -/
theorem atoi_calls (s : List UInt8) (hs : s.length < 1000000000) (w : World) (hL : Libs w) :
    Calls Tryz.prog 151 #[.string (str s)] w fun e w' => Below w.heap.size w w' ∧
      ((∃ v, atoiAll s = .ok v ∧ e = .returned (.tuple #[.int .i64 v, .nilIface])) ∨ ((∀ v, atoiAll s ≠ .ok v) ∧ ∃ v t N, e = .returned (.tuple #[.int .i64 v, .iface t (.pointer (some ⟨N, 0, none⟩))]))) := by
  have hsz : (str s).size = s.length := by simp [str, ByteArray.size]
  obtain ⟨t1, p1, h1⟩ := hL.syn
  obtain ⟨t2, p2, h2⟩ := hL.rng
  cases ha : atoiAll s
  · rename_i v
    refine (Tryz.strconv_Atoi_ok (str s) (by omega) v (by rw [str_data]; exact ha) w).mono ?_
    rintro e w' ⟨rfl, h⟩
    refine ⟨?_, .inl ⟨v, rfl, rfl⟩⟩
    rcases h with rfl | ⟨t, rfl⟩
    · exact Below.refl _ _
    · exact bytesWorld_below _ _ _
  · refine (Any.strconv_Atoi_syntax Tryz.laysC172 (str s) (by omega) (by rw [str_data]; exact ha) _ w h1 (.inr ⟨_, _, rfl⟩)).mono ?_
    rintro e w' ⟨N, rfl, _, _, hb⟩
    exact ⟨hb, .inr ⟨fun v h => (by cases h), _, _, _, rfl⟩⟩
  · refine (Tryz.strconv_Atoi_range (str s) (by omega) (by rw [str_data]; exact ha) _ w h2 (.inr ⟨_, _, rfl⟩)).mono ?_
    rintro e w' ⟨N, rfl, _, _, hb⟩
    exact ⟨hb, .inr ⟨fun v h => (by cases h), _, _, _, rfl⟩⟩

theorem Libs.below {w w' : World} (h : Libs w) (hb : Below w.heap.size w w') : Libs w' := by
  obtain ⟨⟨m, h1⟩, ⟨t2, p2, h2⟩, ⟨t3, p3, h3⟩, h4⟩ := h
  refine ⟨⟨m, (hb.cell (block_lt_of_cell h1)).trans h1⟩, ⟨t2, p2, (hb.cell (block_lt_of_cell h2)).trans h2⟩, ⟨t3, p3, (hb.cell (block_lt_of_cell h3)).trans h3⟩, ?_⟩
  cases hg : Tryz.prog.globalNamed "internal/strconv.uint64pow10" with
  | none => unfold TabIs World.var? at h4; rw [hg] at h4; cases h4
  | some g => exact Go.Joins.var_stays hg h4 hb (Nat.le_refl _)

theorem inB_iffN {n lo hi : Int} : inB n lo hi = true ↔ lo ≤ n ∧ n ≤ hi := by simp [inB]

theorem grown {w w1 : World} (h : Below w.heap.size w w1) (k : Nat) (os : Array Obj) : Below w.heap.size w1 (Sort.grow (w1.drewN k) os) :=
  ⟨rfl, rfl, rfl, by simp [Sort.grow], fun j hj => by have := h.size; simp [Sort.grow, Array.getElem?_append_left (show j < w1.heap.size by omega)]⟩

set_option maxRecDepth 100000 in
set_option maxHeartbeats 1000000 in
theorem number_calls (s : List UInt8) (hs : s.length < 1000000000) (w : World) (hL : Libs w) :
    Calls Tryz.prog 129 #[.string (str s)] w fun e w' => Below w.heap.size w w' ∧
      e = .returned (.tuple #[.int .i64 ((numberL s).getD 0), .bool (numberL s).isSome]) := by
  have HA := Lib.hid (atoi_calls s hs w hL)
  have HL := Lib.hid hL
  clear hL
  go_enter Tryz.func129, Tryz.ntmps129
  go_wp2_with (go_at_call 151; refine HA.out.mono ?_; rintro e w1 ⟨hb1, h⟩; rcases h with ⟨v, hv, rfl⟩ | ⟨hv, v, t, N, rfl⟩)
  · have HW := within_calls v (-999999999) 999999999 w1
    have hv2 := atoiAll_bounds hv
    have HL1 := Lib.hid (HL.out.below hb1)
    by_cases hin : inB v (-999999999) 999999999 = true
    · rw [hin] at HW
      have HI := Tryz.strconv_Itoa v hv2.1 hv2.2 w1 HL1.out.tab
      by_cases he : itoa v = s
      · have hcmp : (s == (str s).toList) = true := by rw [str_list]; simp
        go_wp2_with (first | (go_at_call 67; refine HW.mono ?_; rintro e w2 ⟨rfl, rfl⟩) | (go_at_call 45; refine HI.mono ?_; rintro e w3 ⟨rfl, k, os, rfl⟩))
        go_ret2
        have hn : numberL s = some v := number_some (inB_iffN.mp hin).1 (inB_iffN.mp hin).2 he
        rw [hn]
        exact ⟨hb1.trans (grown hb1 k os), rfl⟩
      · have hcmp : (itoa v == (str s).toList) = false := by rw [str_list]; simpa using he
        go_wp2_with (first | (go_at_call 67; refine HW.mono ?_; rintro e w2 ⟨rfl, rfl⟩) | (go_at_call 45; refine HI.mono ?_; rintro e w3 ⟨rfl, k, os, rfl⟩))
        go_ret2
        have hn : numberL s = none := by
          cases hc : numberL s with
          | none => rfl
          | some u =>
            obtain ⟨h1, h2, _, _⟩ := number_atoi hc
            rw [hv] at h1
            cases h1
            exact absurd h2 he
        rw [hn]
        exact ⟨hb1.trans (grown hb1 k os), rfl⟩
    · have hinf : inB v (-999999999) 999999999 = false := by simpa using hin
      rw [hinf] at HW
      go_wp2_with (go_at_call 67; refine HW.mono ?_; rintro e w2 ⟨rfl, rfl⟩)
      go_ret2
      have hn : numberL s = none := by
        cases hc : numberL s with
        | none => rfl
        | some u =>
          obtain ⟨h1, _, h2, h3⟩ := number_atoi hc
          rw [hv] at h1
          cases h1
          exact absurd (inB_iffN.mpr ⟨h2, h3⟩) hin
      rw [hn]
      exact ⟨hb1, rfl⟩
  · go_ret2
    refine ⟨hb1, ?_⟩
    have hn : numberL s = none := by
      cases hc : numberL s with
      | none => rfl
      | some v => exact absurd (number_atoi hc).1 (hv v)
    rw [hn]; rfl
end Go.Proofs.YtnoofdjlocadbaaGreatDoor
