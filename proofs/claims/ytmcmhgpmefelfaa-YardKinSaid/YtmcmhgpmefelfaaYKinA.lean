/- Lists of codes and of piles, and what they have. -/
import Derived.Test.YtmcmhgpmefelfaaYRowed
import Derived.Test.YtmcmhgpmefelfaaYRestFacts
namespace Go.Proofs.Ytmcmhgpmefelfaa
open Go Go.RowKit Go.Shelf Yd

def strCells (l : List Code) : List Value := l.map (.string ·)
theorem strs_at {w : World} {base : Nat} {v : Value} {l : List Code} (h : w.ownsRow base 9 1 v l.length (strCells l)) :
    ∃ (a : Option Addr) (c : Nat), v = .slice a l.length c ∧ (0 < l.length → ∃ g, a = some ⟨g, 0, none⟩ ∧ g < w.heap.size ∧ ∀ k, k < l.length → w.cell? ⟨g, k, none⟩ = some (.string l[k]!)) := by
  rcases Nat.eq_zero_or_pos l.length with h0 | h0
  · obtain ⟨a, n, c, rfl⟩ := row_slice h
    have := row_len h
    subst this
    exact ⟨a, c, rfl, fun h1 => by omega⟩
  · obtain ⟨g, cap, cur, hv, hb, hc, _, hs, ht⟩ := row_block h h0
    refine ⟨_, cap, hv, fun _ => ⟨g, rfl, hb.lt, fun k hk => ?_⟩⟩
    rw [hb.cell]
    have e : (strCells l)[k]? = some (.string l[k]!) := by
      unfold strCells
      rw [List.getElem?_map, List.getElem?_eq_getElem hk, getElem!_pos l k hk]; rfl
    rw [← ht, Nat.mul_one, List.getElem?_take, if_pos (by omega)] at e
    simpa using e

theorem mem_first {α : Type} [Inhabited α] {l : List α} {x : α} (h : ∀ k, k < l.length → l[k]! ≠ x) : x ∉ l := fun hx => by
  obtain ⟨k, hk, e⟩ := List.mem_iff_getElem.1 hx
  exact h k hk (by rw [getElem!_pos l k hk, e])

set_option maxRecDepth 100000 in
set_option maxHeartbeats 2000000 in
theorem has_calls {v : Value} {l : List Code} {base : Nat} (s : Code) (w : World) (h : w.ownsRow base 9 1 v l.length (strCells l)) (hl : l.length ≤ 1000) :
    Calls Try.prog 27 #[v, .string s] w fun e w' => ∃ b : Bool, (b = true ↔ s ∈ l) ∧ e = .returned (.bool b) ∧ Below w.heap.size w w' := by
  obtain ⟨a, c, rfl, hc⟩ := strs_at h
  have HC := Lib.hid hc
  obtain ⟨n, hn⟩ : ∃ n, n = l.length := ⟨_, rfl⟩
  have HN := Lib.hid hn
  rw [← hn] at hl ⊢
  clear h hc hn
  go_enter Try.func27, Try.ntmps27
  go_wp2
  go_loopw [5] (fun iv wr => ∃ (k : Nat), k ≤ n ∧ iv = .int .i64 k ∧ Hid (∀ i, i < k → l[i]! ≠ s) ∧ Hid (Below w.heap.size w wr)) (fun iv _ => n - (intOf iv).toNat)
  case atStart => exact ⟨0, Nat.zero_le _, rfl, Lib.hid (fun i hi => by omega), Lib.hid (Below.refl _ _)⟩
  case round =>
    obtain ⟨k, hk, rfl, HNO, HB⟩ := hrel
    by_cases hlt : k < n
    · obtain ⟨g, rfl, hg, hgc⟩ := HC.out (by rw [← HN.out]; omega)
      have c0 := (HB.out.cell (p := ⟨g, k, none⟩) hg).trans (hgc k (by rw [← HN.out]; exact hlt))
      have hkI : (k : Int) < (n : Int) := by omega
      obtain ⟨x, hx⟩ : ∃ x, x = l[k]! := ⟨_, rfl⟩
      rw [← hx] at c0
      clear hgc
      by_cases he : x = s
      · subst he
        go_wp2
        go_ret
        refine ⟨true, ⟨fun _ => ?_, fun _ => rfl⟩, rfl, HB.out⟩
        rw [hx]
        exact get_in (by rw [← HN.out]; exact hlt)
      · have hcc : (ByteArray.toList x == ByteArray.toList s) = false := by rw [codes_beq]; simpa using he
        have HE := Lib.hid he; have HX := Lib.hid hx
        clear he hx
        go_wp2
        go_roundw
        case rel =>
          refine ⟨k + 1, by omega, by go_num, Lib.hid (fun i hi => ?_), HB⟩
          rcases Nat.lt_or_ge i k with h1 | h1
          · exact HNO.out i h1
          · rw [show i = k by omega, ← HX.out]; exact HE.out
        case measure => simp [intOf]; omega
    · have hkn : n = k := by omega
      subst hkn
      go_wp2
      go_ret
      exact ⟨false, ⟨fun h => (by cases h), fun h => absurd h (mem_first (fun i hi => HNO.out i (by rw [HN.out]; exact hi)))⟩, rfl, HB.out⟩

set_option maxRecDepth 100000 in
set_option maxHeartbeats 2000000 in
theorem indexInt_calls {v : Value} {l : List Int} (s : Int) (w : World) (h : w.ownsRow 0 3 1 v l.length (intCells l)) (hl : l.length ≤ 1000) :
    Calls Try.prog 65 #[v, .int .i64 s] w fun e w' => (∃ r : Int, e = .returned (.int .i64 r) ∧ (0 ≤ r ↔ s ∈ l)) ∧ w = w' := by
  obtain ⟨a, c, rfl, hc⟩ := ints_at h
  have HC := Lib.hid hc
  obtain ⟨n, hn⟩ : ∃ n, n = l.length := ⟨_, rfl⟩
  have HN := Lib.hid hn
  rw [← hn] at hl ⊢
  clear h hc hn
  go_enter Try.func65, Try.ntmps65
  go_wp2
  go_loopw [8] (fun iv wr => ∃ (k : Nat), k ≤ n ∧ iv = .int .i64 k ∧ Hid (∀ i, i < k → l[i]! ≠ s) ∧ w = wr) (fun iv _ => n - (intOf iv).toNat)
  case atStart => exact ⟨0, Nat.zero_le _, rfl, Lib.hid (fun i hi => by omega), rfl⟩
  case round =>
    obtain ⟨k, hk, rfl, HNO, rfl⟩ := hrel
    by_cases hlt : k < n
    · obtain ⟨g, rfl, hg, hgc⟩ := HC.out (by rw [← HN.out]; omega)
      have c0 := hgc k (by rw [← HN.out]; exact hlt)
      have hkI : (k : Int) < (n : Int) := by omega
      obtain ⟨x, hx⟩ : ∃ x, x = l[k]! := ⟨_, rfl⟩
      rw [← hx] at c0
      clear hgc
      by_cases he : s = x
      · subst he
        go_wp2
        go_ret
        exact ⟨⟨_, rfl, fun _ => by rw [hx]; exact get_in (by rw [← HN.out]; exact hlt), fun _ => by omega⟩, rfl⟩
      · have hcc : (s == x) = false := by simpa using he
        have HE := Lib.hid he; have HX := Lib.hid hx
        clear he hx
        go_wp2
        go_roundw
        case rel =>
          refine ⟨k + 1, by omega, by go_num, Lib.hid (fun i hi => ?_), trivial⟩
          rcases Nat.lt_or_ge i k with h1 | h1
          · exact HNO.out i h1
          · rw [show i = k by omega, ← HX.out]; exact fun e => HE.out e.symm
        case measure => simp [intOf]; omega
    · have hkn : n = k := by omega
      subst hkn
      go_wp2
      go_ret
      exact ⟨⟨_, rfl, fun h => by omega, fun h => absurd h (mem_first (fun i hi => HNO.out i (by rw [HN.out]; exact hi)))⟩, rfl⟩

set_option maxRecDepth 100000 in
set_option maxHeartbeats 2000000 in
theorem containsInt_calls {v : Value} {l : List Int} (s : Int) (w : World) (h : w.ownsRow 0 3 1 v l.length (intCells l)) (hl : l.length ≤ 1000) :
    Calls Try.prog 49 #[v, .int .i64 s] w fun e w' => (∃ b : Bool, (b = true ↔ s ∈ l) ∧ e = .returned (.bool b)) ∧ w = w' := by
  have HI := Lib.hid (indexInt_calls s w h hl)
  clear h hl
  go_enter Try.func49, Try.ntmps49
  go_wp2_with (go_at_call 65; refine HI.out.mono ?_; rintro e w1 ⟨⟨r, rfl, hr⟩, rfl⟩; have HR := Lib.hid hr; clear hr)
  go_ret
  exact ⟨⟨_, by rw [← HR.out]; simp, rfl⟩, rfl⟩
end Go.Proofs.Ytmcmhgpmefelfaa
