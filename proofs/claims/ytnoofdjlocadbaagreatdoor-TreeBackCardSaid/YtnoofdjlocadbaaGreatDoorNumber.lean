/- A field as a number, and what Atoi makes of it: plain functions on lists of bytes. -/
import Derived.Test.YtnoofdjlocadbaaGreatDoorText
import Derived.Lib.AtoiAllCases
import Derived.Lib.AtoiTie
namespace Go.Proofs.YtnoofdjlocadbaaGreatDoor
open Go Go.Lib

theorem parse_digits (u : Nat) (h : u ≤ 999999999) : parseMag (decDigits u) = .ok u := by
  have hl := (digits_length_iff u).2 h
  rw [parseMag_short _ (by omega)]
  have hd := decFrom_digits u
  have hn := digits_ne_nil u
  unfold decNat
  generalize decDigits u = d at hd hn
  cases d with
  | nil => exact absurd rfl hn
  | cons a r =>
    simp only [hd]
    rfl

theorem digit_head (u : Nat) : ∃ c r, decDigits u = c :: r ∧ c.toNat ≠ 43 ∧ c.toNat ≠ 45 := by
  have hn := digits_ne_nil u
  have he := digits_each u
  generalize decDigits u = d at hn he
  cases d with
  | nil => exact absurd rfl hn
  | cons a r =>
    have := he a (by simp)
    exact ⟨a, r, rfl, by omega, by omega⟩

theorem atoi_itoa (n : Int) (h0 : -999999999 ≤ n) (h1 : n ≤ 999999999) : atoiAll (itoa n) = .ok n := by
  by_cases hn : n < 0
  · have he : itoa n = 45 :: decDigits n.natAbs := by unfold itoa; rw [if_pos hn]
    rw [he, atoiAll_minus, parse_digits _ (by omega)]
    unfold signed
    simp only
    rw [if_neg (by omega)]
    congr 1; omega
  · have he : itoa n = decDigits n.natAbs := by unfold itoa; rw [if_neg hn, show n.natAbs = n.toNat by omega]
    obtain ⟨c, r, hd, h43, h45⟩ := digit_head n.natAbs
    rw [he, hd, atoiAll_plain c r h43 h45, ← hd, parse_digits _ (by omega)]
    unfold signless
    simp only
    rw [if_neg (by omega)]
    congr 1; omega

theorem number_some {s : List UInt8} {v : Int} (h0 : -999999999 ≤ v) (h1 : v ≤ 999999999) (he : itoa v = s) : numberL s = some v := (numberL_iff s v).2 ⟨he.symm, h0, h1⟩
theorem number_atoi {s : List UInt8} {v : Int} (h : numberL s = some v) : atoiAll s = .ok v ∧ itoa v = s ∧ -999999999 ≤ v ∧ v ≤ 999999999 := by
  obtain ⟨he, h0, h1⟩ := (numberL_iff s v).1 h
  exact ⟨by rw [he]; exact atoi_itoa v h0 h1, he.symm, h0, h1⟩
theorem number_none {s : List UInt8} (h : numberL s = none) : (∀ v, atoiAll s = .ok v → ¬ (-999999999 ≤ v ∧ v ≤ 999999999 ∧ itoa v = s)) := fun v hv hc => by
  rw [number_some hc.1 hc.2.1 hc.2.2] at h
  cases h
end Go.Proofs.YtnoofdjlocadbaaGreatDoor
