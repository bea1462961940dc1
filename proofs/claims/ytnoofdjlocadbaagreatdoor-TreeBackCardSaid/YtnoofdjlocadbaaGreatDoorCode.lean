/- The code of a tree: both programs' tests. -/
import Derived.Test.YtnoofdjlocadbaaGreatDoorLeaf
import Derived.Lib.Hide
namespace Go.Proofs.YtnoofdjlocadbaaGreatDoor
open Go.RowKit

theorem drop_bytes (s : ByteArray) (k : Nat) (h : k < s.size) : s.data.toList.drop k = s[k] :: s.data.toList.drop (k + 1) := by
  rw [List.drop_eq_getElem_cons (by simpa using h)]; rfl

theorem ne_empty (s : ByteArray) (h0 : 0 < s.size) : s.toList.isEmpty = false := by
  rw [ByteArray.toList_eq]
  cases hx : s.data.toList with
  | nil => exfalso; have : s.data.toList.length = s.size := by simp
           rw [hx] at this; simp at this; omega
  | cons a b => rfl

theorem codeB_cons (s : ByteArray) (h0 : 0 < s.size) (h8 : s.size ≤ 8) : codeB s.data.toList = (capital s[0] && (s.data.toList.drop 1).all later) := by
  have h := drop_bytes s 0 h0
  rw [List.drop_zero] at h
  rw [h]
  have hl : (s.data.toList).length ≤ 8 := by simpa using h8
  rw [h] at hl
  simp only [codeB]
  rw [decide_eq_true hl]
  simp

theorem codeB_long (s : ByteArray) (h8 : 8 < s.size) : codeB s.data.toList = false := by
  have hl : 8 < s.data.toList.length := by simpa using h8
  cases hx : s.data.toList with
  | nil => rfl
  | cons a b =>
    rw [hx] at hl
    simp only [codeB]
    rw [decide_eq_false (by omega)]
    rfl

theorem codeB_none (s : ByteArray) (h0 : s.size = 0) : codeB s.data.toList = false := by
  have hl : s.data.toList.length = 0 := by simpa using h0
  rw [List.length_eq_zero_iff.1 hl]; rfl

theorem all_step (s : ByteArray) (k : Nat) (h : k < s.size) (r : Bool) (hr : r = (s.data.toList.drop k).all later) (hl : later s[k] = true) : r = (s.data.toList.drop (k + 1)).all later := by
  rw [hr, drop_bytes s k h, List.all_cons, hl, Bool.true_and]

theorem all_stop (s : ByteArray) (k : Nat) (h : k < s.size) (r : Bool) (hr : r = (s.data.toList.drop k).all later) (hl : later s[k] = false) : r = false := by
  rw [hr, drop_bytes s k h, List.all_cons, hl, Bool.false_and]

theorem all_end (s : ByteArray) (k : Nat) (h : s.size ≤ k) (r : Bool) (hr : r = (s.data.toList.drop k).all later) : r = true := by
  rw [hr, List.drop_eq_nil_of_le (by simpa using h)]; rfl

set_option maxHeartbeats 1000000 in
theorem isCode_out (s : ByteArray) (w : World) (hs : s.size ≤ 9223372036854775807) (h : s.size = 0 ∨ 8 < s.size) :
    Calls Tryz.prog 75 #[.string s] w fun e w' => e = .returned (.bool false) ∧ w = w' := by
  rcases h with h | h
  · have he : s.toList.isEmpty = true := by
      rw [ByteArray.toList_eq, List.length_eq_zero_iff.1 (show s.data.toList.length = 0 by simpa using h)]; rfl
    have H := Lib.hid h; clear h
    go_enter Tryz.func75, Tryz.ntmps75
    go_wp2
    all_goals (go_ret; exact ⟨rfl, rfl⟩)
  · have he := ne_empty s (by omega)
    have h' : (8 : Int) < (s.size : Int) := by omega
    go_enter Tryz.func75, Tryz.ntmps75
    go_wp2
    all_goals (go_ret; exact ⟨rfl, rfl⟩)

theorem later_cap (c : UInt8) (h : capital c = true) : later c = true := by simp [later, h]
theorem later_dig (c : UInt8) (h : digit c = true) : later c = true := by simp [later, h]
theorem later_dash (c : UInt8) (h : (c.toNat : Int) = 45) : later c = true := by
  have : c.toNat = 45 := by omega
  simp [later, this]
theorem later_none (c : UInt8) (h1 : capital c = false) (h2 : digit c = false) (h3 : ¬ (c.toNat : Int) = 45) : later c = false := by
  have : ¬ c.toNat = 45 := by omega
  simp [later, h1, h2, this]

set_option maxHeartbeats 1000000 in
theorem isCode_in (s : ByteArray) (w : World) (h0 : 0 < s.size) (h8 : s.size ≤ 8) :
    Calls Tryz.prog 75 #[.string s] w fun e w' => e = .returned (.bool (codeB s.data.toList)) ∧ w = w' := by
  have he := ne_empty s h0
  have h8' : (s.size : Int) ≤ 8 := by omega
  have h0' : (0 : Int) < (s.size : Int) := by omega
  rw [codeB_cons s h0 h8]
  cases hc : capital s[0]
  · simp only [Bool.false_and]
    go_enter Tryz.func75, Tryz.ntmps75
    go_wp2_with (go_at_call 103; refine (isCapital_calls _ _).mono ?_; rintro e w' ⟨rfl, rfl⟩)
    all_goals (go_ret; exact ⟨rfl, rfl⟩)
  · simp only [Bool.true_and]
    generalize hr : (s.data.toList.drop 1).all later = r
    have HR := Lib.hid hr.symm; clear hr
    go_enter Tryz.func75, Tryz.ntmps75
    go_wp2_with (go_at_call 103; refine (isCapital_calls _ _).mono ?_; rintro e w' ⟨rfl, rfl⟩)
    clear hc
    go_loop [3] (fun i => ∃ k : Nat, 1 ≤ k ∧ k ≤ s.size ∧ i = .int .i64 k ∧ Hid (r = (s.data.toList.drop k).all later)) (fun i => s.size - (intOf i).toNat)
    case atStart => exact ⟨1, by omega, by omega, rfl, HR⟩
    case round =>
      clear HR
      obtain ⟨k, hk1, hk, rfl, HR⟩ := hrel
      by_cases hlt : k < s.size
      · cases hc : capital s[k]
        · cases hd : digit s[k]
          · by_cases hm : (s[k].toNat : Int) = 45
            · have hm' : ((s[k].toNat : Int) != 45) = false := by simp [hm]
              have HS := Lib.hid (all_step s k hlt r HR.out (later_dash _ hm))
              clear hm
              go_wp2_with (first | (go_at_call 103; refine (isCapital_calls _ _).mono ?_; rintro e w' ⟨rfl, rfl⟩) | (go_at_call 104; refine (isDigit_calls _ _).mono ?_; rintro e w' ⟨rfl, rfl⟩))
              exact ⟨⟨k + 1, by omega, by omega, by go_num, HS⟩, by simp [intOf]; omega⟩
            · have hm' : ((s[k].toNat : Int) != 45) = true := by simp [hm]
              have HS := Lib.hid (all_stop s k hlt r HR.out (later_none _ hc hd hm))
              clear hm
              go_wp2_with (first | (go_at_call 103; refine (isCapital_calls _ _).mono ?_; rintro e w' ⟨rfl, rfl⟩) | (go_at_call 104; refine (isDigit_calls _ _).mono ?_; rintro e w' ⟨rfl, rfl⟩))
              go_ret
              exact ⟨by rw [HS.out]; rfl, rfl⟩
          · have HS := Lib.hid (all_step s k hlt r HR.out (later_dig _ hd))
            go_wp2_with (first | (go_at_call 103; refine (isCapital_calls _ _).mono ?_; rintro e w' ⟨rfl, rfl⟩) | (go_at_call 104; refine (isDigit_calls _ _).mono ?_; rintro e w' ⟨rfl, rfl⟩))
            exact ⟨⟨k + 1, by omega, by omega, by go_num, HS⟩, by simp [intOf]; omega⟩
        · have HS := Lib.hid (all_step s k hlt r HR.out (later_cap _ hc))
          go_wp2_with (first | (go_at_call 103; refine (isCapital_calls _ _).mono ?_; rintro e w' ⟨rfl, rfl⟩) | (go_at_call 104; refine (isDigit_calls _ _).mono ?_; rintro e w' ⟨rfl, rfl⟩))
          exact ⟨⟨k + 1, by omega, by omega, by go_num, HS⟩, by simp [intOf]; omega⟩
      · have HS := Lib.hid (all_end s k (by omega) r HR.out)
        have hge : s.size ≤ k := by omega
        go_wp2
        go_ret
        exact ⟨by rw [HS.out]; rfl, rfl⟩

theorem isCode_calls (s : ByteArray) (w : World) (hs : s.size ≤ 9223372036854775807) :
    Calls Tryz.prog 75 #[.string s] w fun e w' => e = .returned (.bool (codeB s.data.toList)) ∧ w = w' := by
  by_cases h0 : 0 < s.size
  · by_cases h8 : s.size ≤ 8
    · exact isCode_in s w h0 h8
    · rw [codeB_long s (by omega)]; exact isCode_out s w hs (.inr (by omega))
  · rw [codeB_none s (by omega)]; exact isCode_out s w hs (.inl (by omega))

theorem capital_of (c : UInt8) (h1 : 65 ≤ (c.toNat : Int)) (h2 : (c.toNat : Int) ≤ 90) : capital c = true := by simp [capital]; omega
theorem capital_no (c : UInt8) (h : (c.toNat : Int) < 65 ∨ 90 < (c.toNat : Int)) : capital c = false := by simp [capital]; omega
theorem digit_of (c : UInt8) (h1 : 48 ≤ (c.toNat : Int)) (h2 : (c.toNat : Int) ≤ 57) : digit c = true := by simp [digit]; omega
theorem digit_no (c : UInt8) (h : (c.toNat : Int) < 48 ∨ 57 < (c.toNat : Int)) : digit c = false := by simp [digit]; omega

/-- What a code comes to from place k on. -/
def codeFrom (s : ByteArray) (k : Nat) : Bool := if k = 0 then codeB s.data.toList else (s.data.toList.drop k).all later

theorem from_step (s : ByteArray) (k : Nat) (h : k < s.size) (h8 : s.size ≤ 8) (r : Bool) (hr : r = codeFrom s k) (hl : capital s[k] = true ∨ (k ≠ 0 ∧ later s[k] = true)) : r = codeFrom s (k + 1) := by
  unfold codeFrom at hr ⊢
  rw [if_neg (by omega)]
  by_cases h0 : k = 0
  · subst h0
    rw [if_pos rfl, codeB_cons s h h8] at hr
    rcases hl with hl | hl
    · rw [hr, hl, Bool.true_and]
    · exact absurd rfl hl.1
  · rw [if_neg h0] at hr
    exact all_step s k h r hr (by rcases hl with hl | hl; exact later_cap _ hl; exact hl.2)

theorem from_stop (s : ByteArray) (k : Nat) (h : k < s.size) (h8 : s.size ≤ 8) (r : Bool) (hr : r = codeFrom s k) (hc : capital s[k] = false) (hl : k = 0 ∨ later s[k] = false) : r = false := by
  unfold codeFrom at hr
  by_cases h0 : k = 0
  · subst h0
    rw [if_pos rfl, codeB_cons s h h8] at hr
    rw [hr, hc, Bool.false_and]
  · rw [if_neg h0] at hr
    exact all_stop s k h r hr (by rcases hl with hl | hl; exact absurd hl h0; exact hl)

theorem from_end (s : ByteArray) (k : Nat) (h0 : 0 < s.size) (h : s.size ≤ k) (r : Bool) (hr : r = codeFrom s k) : r = true := by
  unfold codeFrom at hr
  rw [if_neg (by omega)] at hr
  exact all_end s k h r hr

set_option maxHeartbeats 1000000 in
theorem code_out (s : ByteArray) (w : World) (h : (s.size : Int) < 1 ∨ (8 : Int) < (s.size : Int)) :
    Calls Tryz.prog 31 #[.string s] w fun e w' => e = .returned (.bool false) ∧ w = w' := by
  rcases h with h | h
  · go_enter Tryz.func31, Tryz.ntmps31
    go_wp2
    go_ret
    exact ⟨rfl, rfl⟩
  · go_enter Tryz.func31, Tryz.ntmps31
    go_wp2
    go_ret
    exact ⟨rfl, rfl⟩

set_option maxRecDepth 100000 in
set_option maxHeartbeats 2000000 in
theorem code_in (s : ByteArray) (w : World) (h0 : 0 < s.size) (h8 : s.size ≤ 8) :
    Calls Tryz.prog 31 #[.string s] w fun e w' => e = .returned (.bool (codeB s.data.toList)) ∧ w = w' := by
  have h8' : (s.size : Int) ≤ 8 := by omega
  have h0' : (1 : Int) ≤ (s.size : Int) := by omega
  have hf : codeB s.data.toList = codeFrom s 0 := rfl
  generalize codeB s.data.toList = r at hf ⊢
  have HR := Lib.hid hf; clear hf
  go_enter Tryz.func31, Tryz.ntmps31
  go_wp2
  go_loop [3] (fun i => ∃ k : Nat, k ≤ s.size ∧ i = .int .i64 k ∧ Hid (r = codeFrom s k)) (fun i => s.size - (intOf i).toNat)
  case atStart => exact ⟨0, by omega, rfl, HR⟩
  case round =>
    clear HR
    obtain ⟨k, hk, rfl, HR⟩ := hrel
    by_cases hlt : k < s.size
    · have hb : (s[k].toNat : Int) < 256 := by have := s[k].toNat_lt; omega
      by_cases h1 : 65 ≤ (s[k].toNat : Int)
      · by_cases h2 : (s[k].toNat : Int) ≤ 90
        · have HS := Lib.hid (from_step s k hlt h8 r HR.out (.inl (capital_of _ h1 h2)))
          go_wp2
          exact ⟨⟨k + 1, by omega, by go_num, HS⟩, by simp [intOf]; omega⟩
        · have h2' : 90 < (s[k].toNat : Int) := by omega
          have hc := capital_no s[k] (.inr h2')
          have hm : ((s[k].toNat : Int) != 45) = true := by simp; omega
          have HS := Lib.hid (from_stop s k hlt h8 r HR.out hc (.inr (later_none _ hc (digit_no _ (.inr (by omega))) (by omega))))
          clear hc
          by_cases hz : k = 0
          · have hzb : ((k : Int) == 0) = true := by simp; omega
            clear hz
            go_wp2
            go_ret
            exact ⟨by rw [HS.out]; rfl, rfl⟩
          · have hzb : ((k : Int) == 0) = false := by simp; omega
            clear hz
            go_wp2
            go_ret
            exact ⟨by rw [HS.out]; rfl, rfl⟩
      · have h1' : (s[k].toNat : Int) < 65 := by omega
        have hc := capital_no s[k] (.inl h1')
        by_cases hz : k = 0
        · have hzb : ((k : Int) == 0) = true := by simp; omega
          have HS := Lib.hid (from_stop s k hlt h8 r HR.out hc (.inl hz))
          clear hc hz
          go_wp2
          go_ret
          exact ⟨by rw [HS.out]; rfl, rfl⟩
        · have hzb : ((k : Int) == 0) = false := by simp; omega
          by_cases hm : (s[k].toNat : Int) = 45
          · have hmb : ((s[k].toNat : Int) != 45) = false := by simp [hm]
            have HS := Lib.hid (from_step s k hlt h8 r HR.out (.inr ⟨hz, later_dash _ hm⟩))
            clear hc hz hm
            go_wp2
            exact ⟨⟨k + 1, by omega, by go_num, HS⟩, by simp [intOf]; omega⟩
          · have hmb : ((s[k].toNat : Int) != 45) = true := by simp [hm]
            by_cases h3 : (s[k].toNat : Int) < 48
            · have HS := Lib.hid (from_stop s k hlt h8 r HR.out hc (.inr (later_none _ hc (digit_no _ (.inl h3)) hm)))
              clear hc hz hm
              go_wp2
              go_ret
              exact ⟨by rw [HS.out]; rfl, rfl⟩
            · by_cases h4 : 57 < (s[k].toNat : Int)
              · have HS := Lib.hid (from_stop s k hlt h8 r HR.out hc (.inr (later_none _ hc (digit_no _ (.inr h4)) hm)))
                clear hc hz hm
                go_wp2
                go_ret
                exact ⟨by rw [HS.out]; rfl, rfl⟩
              · have HS := Lib.hid (from_step s k hlt h8 r HR.out (.inr ⟨hz, later_dig _ (digit_of _ (by omega) (by omega))⟩))
                clear hc hz hm
                go_wp2
                exact ⟨⟨k + 1, by omega, by go_num, HS⟩, by simp [intOf]; omega⟩
    · have HS := Lib.hid (from_end s k h0 (by omega) r HR.out)
      have hge : s.size ≤ k := by omega
      go_wp2
      go_ret
      exact ⟨by rw [HS.out]; rfl, rfl⟩

theorem code_calls (s : ByteArray) (w : World) :
    Calls Tryz.prog 31 #[.string s] w fun e w' => e = .returned (.bool (codeB s.data.toList)) ∧ w = w' := by
  by_cases h0 : 0 < s.size
  · by_cases h8 : s.size ≤ 8
    · exact code_in s w h0 h8
    · rw [codeB_long s (by omega)]; exact code_out s w (.inr (by omega))
  · rw [codeB_none s (by omega)]; exact code_out s w (.inl (by omega))
end Go.Proofs.YtnoofdjlocadbaaGreatDoor
