/- A list copied by append; the deeds of a yard in another order. -/
import Derived.Test.YtbgojeppfhldjaaYHeld
import Derived.Test.YtbgojeppfhldjaaYCheckYard
import Derived.Deep.MidRow
import Derived.Laws.OwnMore
import Derived.WalkKit
namespace Go.Proofs.Ytbgojeppfhldjaa
open Go.RowKit

/-- The cells of a list's elements, one element behind another. -/
def flat {α : Type} (enc : α → List Value) (xs : List α) : List Value := (xs.map enc).flatten

section
variable {α : Type} {k : Nat} {enc : α → List Value}

theorem flat_nil : flat enc ([] : List α) = [] := rfl
theorem flat_cons (x : α) (xs : List α) : flat enc (x :: xs) = enc x ++ flat enc xs := by simp [flat]
theorem flat_append (xs ys : List α) : flat enc (xs ++ ys) = flat enc xs ++ flat enc ys := by simp [flat]

theorem flat_length (hk : ∀ a, (enc a).length = k) : ∀ xs : List α, (flat enc xs).length = xs.length * k
  | [] => by simp [flat]
  | x :: r => by rw [flat_cons, List.length_append, hk, flat_length hk r, List.length_cons, Nat.succ_mul]; omega

theorem flat_ones (h1 : ∀ a, ∀ v ∈ enc a, v.oneCell' = true) (xs : List α) : ∀ u ∈ flat enc xs, u.oneCell' = true := by
  intro u hu
  unfold flat at hu
  rw [List.mem_flatten] at hu
  obtain ⟨l, hl, hu⟩ := hu
  obtain ⟨a, _, rfl⟩ := List.mem_map.1 hl
  exact h1 a u hu

end

section
variable {α : Type} [Inhabited α] {k : Nat} {enc : α → List Value}

theorem flat_get (hk : ∀ a, (enc a).length = k) : ∀ (xs : List α) (j i : Nat), j < xs.length → i < k → (flat enc xs)[j * k + i]? = (enc xs[j]!)[i]?
  | [], j, i, hj, _ => by cases hj
  | x :: r, 0, i, _, hi => by
    rw [flat_cons, Nat.zero_mul, Nat.zero_add, List.getElem?_append_left (by rw [hk]; exact hi)]
    rfl
  | x :: r, j + 1, i, hj, hi => by
    have hj' : j < r.length := by simpa using hj
    have e : (j + 1) * k + i - k = j * k + i := by rw [Nat.succ_mul]; omega
    rw [flat_cons, List.getElem?_append_right (by rw [hk, Nat.succ_mul]; omega), hk, e, flat_get hk r j i hj' hi]
    rfl

theorem flat_split (hk : ∀ a, (enc a).length = k) (h0 : 0 < k) (xs : List α) (m : Nat) (u : Value) (h : (flat enc xs)[m]? = some u) : ∃ j i, m = j * k + i ∧ j < xs.length ∧ i < k ∧ (enc xs[j]!)[i]? = some u := by
  have hm : m < xs.length * k := by rw [← flat_length hk]; exact (List.getElem?_eq_some_iff.1 h).1
  have e : m = m / k * k + m % k := by rw [Nat.mul_comm]; exact (Nat.div_add_mod m k).symm
  have hj : m / k < xs.length := (Nat.div_lt_iff_lt_mul h0).2 hm
  refine ⟨m / k, m % k, e, hj, Nat.mod_lt _ h0, ?_⟩
  rw [← flat_get hk xs (m / k) (m % k) hj (Nat.mod_lt _ h0), ← e]
  exact h

/-- What is held lies where the copy looks. -/
theorem Held.flat {B : Nat} {w : World} {b off n c : Nat} {xs : List α} (hk : ∀ a, (enc a).length = k) (h0 : 0 < k) (h : Held B w k enc (.slice (some ⟨b, off, none⟩) n c) xs) (m : Nat) (u : Value) (hu : (flat enc xs)[m]? = some u) : w.cell? ((⟨b, off, none⟩ : Addr).add m) = some u := by
  obtain ⟨j, i, rfl, hj, hi, he⟩ := flat_split hk h0 xs m u hu
  rcases h with ⟨_, h2⟩ | ⟨b', off', c', h1, _, _, hc⟩
  · rw [h2] at hj; cases hj
  · cases h1
    have := hc j hj i u he
    rw [Addr.add_mid, ← Nat.add_assoc]
    exact this

/-- What the call owns is held. -/
theorem owned_held {w : World} {base : Nat} {e : TypeId} {v : Value} {n : Nat} {xs : List α} (hk : ∀ a, (enc a).length = k) (h : w.ownsRow base e k v n (flat enc xs)) (hn : xs.length = n) (h47 : n ≤ 140737488355328) (hne : v ≠ .slice none 0 0) :
    ∃ g cap, v = .slice (some ⟨g, 0, none⟩) n cap ∧ base ≤ g ∧ g < w.heap.size ∧ n ≤ cap ∧ Held w.heap.size w k enc v xs ∧ ∀ j, j < n → w.there g (j * k) k := by
  obtain ⟨hl, ⟨h1, _⟩ | ⟨g, cap, cur, hv, hb, hg, hc, hm, hsz, ht⟩⟩ := h
  · exact absurd h1 hne
  · have hlt : g < w.heap.size := (Array.getElem?_eq_some_iff.1 hg).1
    have hcell : ∀ i, w.cell? ⟨g, i, none⟩ = cur[i]? := fun i => cell_of_row w g i cur e (0, 0) hg
    have hle : n * k ≤ cap * k := Nat.mul_le_mul_right _ hc
    refine ⟨g, cap, hv, hb, hlt, hc, .inr ⟨g, 0, cap, by rw [hv, hn], hlt, ⟨by omega, by omega, by unfold maxLen at hm; omega⟩, fun j hj i u hu => ?_⟩, fun j hj i hi => ?_⟩
    · have hi : i < k := by rw [← hk xs[j]!]; exact (List.getElem?_eq_some_iff.1 hu).1
      have hjk : j * k + i < n * k := by
        have : (j + 1) * k ≤ n * k := Nat.mul_le_mul_right _ (by omega)
        rw [Nat.succ_mul] at this; omega
      rw [Nat.zero_add, hcell, ← hu, ← flat_get hk xs j i hj hi, ← ht, List.getElem?_take, if_pos hjk]
      simp
    · have hjk : j * k + i < n * k := by
        have : (j + 1) * k ≤ n * k := Nat.mul_le_mul_right _ (by omega)
        rw [Nat.succ_mul] at this; omega
      refine ⟨?_, by simp [World.frozen?, hg]⟩
      rw [hcell, Array.getElem?_eq_getElem (by omega)]
      rfl

/-- A held list of which one element is stored anew. -/
theorem Held.store {w : World} {g n cap : Nat} {xs : List α} (hk : ∀ a, (enc a).length = k) (h : Held w.heap.size w k enc (.slice (some ⟨g, 0, none⟩) n cap) xs) (K : Nat) (hK : K < xs.length) (x : α) (ht : w.there g (K * k) k) :
    Held (w.setCells g (K * k) (enc x)).heap.size (w.setCells g (K * k) (enc x)) k enc (.slice (some ⟨g, 0, none⟩) n cap) (xs.set K x) := by
  rcases h with ⟨_, h2⟩ | ⟨b', off', c', h1, hb, hl, hc⟩
  · rw [h2] at hK; cases hK
  · cases h1
    refine .inr ⟨g, 0, cap, by rw [List.length_set], by rw [size_setCells]; exact hb, by rw [List.length_set]; exact hl, fun j hj i u hu => ?_⟩
    rw [List.length_set] at hj
    by_cases hjK : j = K
    · subst hjK
      have e : (xs.set j x)[j]! = x := by rw [getElem!_pos _ j (by rw [List.length_set]; exact hj), List.getElem_set_self]
      rw [e] at hu
      have := World.rangeAt_setCells_same w g (j * k) (enc x) (by rw [hk]; exact ht) i u hu
      rw [Nat.zero_add]
      exact this
    · have e : (xs.set K x)[j]! = xs[j]! := by
        rw [getElem!_pos _ j (by rw [List.length_set]; exact hj), getElem!_pos xs j hj, List.getElem_set_ne (fun h => hjK h.symm)]
      rw [e] at hu
      have hr : w.rangeAt g (j * k) (enc xs[j]!) := fun i' v' hv' => by have := hc j hj i' v' hv'; rwa [Nat.zero_add] at this
      have hap : j * k + (enc xs[j]!).length ≤ K * k ∨ K * k + (enc x).length ≤ j * k := by
        rw [hk, hk]
        rcases Nat.lt_or_gt_of_ne hjK with h | h
        · left; have := Nat.mul_le_mul_right k (show j + 1 ≤ K from h); rw [Nat.succ_mul] at this; omega
        · right; have := Nat.mul_le_mul_right k (show K + 1 ≤ j from h); rw [Nat.succ_mul] at this; omega
      have := World.rangeAt_setCells_apart hr g (K * k) (enc x) (.inr hap) i u hu
      rw [Nat.zero_add]
      exact this
end


theorem deed_eight (d : Yd.Deed Code) : (deedCells d).length = 8 := rfl
theorem deed_ones (d : Yd.Deed Code) : ∀ v ∈ deedCells d, v.oneCell' = true := by
  intro v hv
  simp only [deedCells, List.mem_cons, List.not_mem_nil, or_false] at hv
  rcases hv with rfl | rfl | rfl | rfl | rfl | rfl | rfl | rfl <;> rfl
theorem info_deed : (Try.prog.info? 57).map (fun i => (i.size, i.bytes)) = some (8, 80) := by kernel_rfl

section
open Yd
theorem errDeed_early {d : Deed Code} {day day' : Int} (h : errDeed d day = 0) (hd : day' ≤ d.day) : errDeed d day' = 0 := by
  unfold errDeed at h ⊢
  split at h; · cases h
  rename_i h1
  split at h; · cases h
  rw [if_neg h1, if_neg (by omega)]
  exact h
theorem errDeeds_swap {a b : Deed Code} {r : List (Deed Code)} (hab : a.day = b.day) : ∀ {pre : List (Deed Code)} {day : Int}, errDeeds day (pre ++ a :: b :: r) = 0 → errDeeds day (pre ++ b :: a :: r) = 0
  | [], day, h => by
    simp only [List.nil_append, errDeeds_cons] at h ⊢
    split at h
    · rename_i ha
      split at h
      · rename_i hb
        have hla := (deedOk_of ha).late
        rw [if_pos (errDeed_early hb (by omega)), if_pos (errDeed_early ha (by omega)), hab]
        exact h
      · rename_i hb; exact absurd h hb
    · rename_i ha; exact absurd h ha
  | d :: pre, day, h => by
    simp only [List.cons_append, errDeeds_cons] at h ⊢
    split at h
    · rename_i hd
      rw [if_pos hd]
      exact errDeeds_swap hab h
    · rename_i hd; exact absurd h hd
theorem two_of {ds : List (Deed Code)} {i : Nat} (h : i + 1 < ds.length) : ds = ds.take i ++ ds[i]! :: ds[i + 1]! :: ds.drop (i + 2) := by
  have e1 := drop_get (l := ds) (k := i) (by omega)
  have e2 := drop_get (l := ds) (k := i + 1) h
  conv => lhs; rw [← List.take_append_drop i ds]
  rw [e1, e2]
theorem swapped_of {ds : List (Deed Code)} {i : Nat} (h : i + 1 < ds.length) (a b : Deed Code) : (ds.set i b).set (i + 1) a = ds.take i ++ b :: a :: ds.drop (i + 2) := by
  refine List.ext_getElem? fun j => ?_
  rw [List.getElem?_set, List.getElem?_set, List.getElem?_append, List.length_take, Nat.min_eq_left (by omega)]
  rcases Nat.lt_trichotomy j i with h1 | h1 | h1
  · rw [if_neg (by omega), if_neg (by omega), if_pos h1, List.getElem?_take, if_pos h1]
  · subst h1
    rw [if_neg (by omega), if_pos rfl, if_pos (by omega), if_neg (by omega), Nat.sub_self]; rfl
  · rw [if_neg (show ¬ j < i by omega)]
    rcases Nat.lt_or_ge j (i + 2) with h2 | h2
    · obtain rfl : j = i + 1 := by omega
      rw [if_pos rfl, if_pos (by rw [List.length_set]; omega), show i + 1 - i = 1 from by omega]; rfl
    · rw [if_neg (by omega), if_neg (by omega), show j - i = (j - (i + 2)) + 2 from by omega, List.getElem?_cons_succ, List.getElem?_cons_succ, List.getElem?_drop]
      congr 1; omega
theorem errYard_swap {bef aft : Int} {ds : List (Deed Code)} {i : Nat} (h : i + 1 < ds.length) (hd : ds[i]!.day = ds[i + 1]!.day) (hok : errYard bef aft ds = 0) : errYard bef aft ((ds.set i ds[i + 1]!).set (i + 1) ds[i]!) = 0 := by
  obtain ⟨h1, h2, h3, h4⟩ := errYard_ok hok
  unfold errYard
  rw [h1, h2, if_neg (by simp), if_neg (by rw [List.length_set, List.length_set]; omega), swapped_of h]
  rw [two_of h] at h4
  exact errDeeds_swap hd h4
theorem follow_swap {bef aft : Int} {ds : List (Deed Code)} {i : Nat} (h : i + 1 < ds.length) (ha : Quiet ds[i]!) (hb : Quiet ds[i + 1]!) (hne : ds[i]!.stack ≠ ds[i + 1]!.stack) (hf : (Yd.follow bef aft ds (i + 2)).2.2 = 0) :
    Yd.follow bef aft ((ds.set i ds[i + 1]!).set (i + 1) ds[i]!) (i + 2) = Yd.follow bef aft ds (i + 2) := by
  have e1 : ds.take (i + 2) = ds.take i ++ [ds[i]!, ds[i + 1]!] := by
    conv => lhs; rw [two_of h]
    rw [List.take_append, List.length_take, Nat.min_eq_left (by omega), List.take_of_length_le (by rw [List.length_take]; omega), show i + 2 - i = 2 from by omega]
    rfl
  have e2 : ((ds.set i ds[i + 1]!).set (i + 1) ds[i]!).take (i + 2) = ds.take i ++ [ds[i + 1]!, ds[i]!] := by
    rw [swapped_of h, List.take_append, List.length_take, Nat.min_eq_left (by omega), List.take_of_length_le (by rw [List.length_take]; omega), show i + 2 - i = 2 from by omega]
    rfl
  unfold Yd.follow at hf ⊢
  rw [e1] at hf ⊢
  rw [e2]
  exact swap_run ha hb hne hf
def quietB (k : Int) : Bool := decide (k = 2 ∨ k = 3 ∨ k = 4 ∨ k = 7)
end

theorem quiet_calls (k : Int) (w : World) : Calls Try.prog 17 #[.int .i64 k] w fun e w' => e = .returned (.bool (quietB k)) ∧ w = w' := by
  have hq : quietB k = (k == 2 || k == 3 || k == 4 || k == 7) := by
    unfold quietB
    by_cases h1 : k = 2 <;> by_cases h2 : k = 3 <;> by_cases h3 : k = 4 <;> by_cases h4 : k = 7 <;> simp [h1, h2, h3, h4]
  rw [hq]
  cases h1 : k == 2 <;> cases h2 : k == 3 <;> cases h3 : k == 4 <;> cases h4 : k == 7
  all_goals
    clear hq
    go_enter Try.func17, Try.ntmps17
    go_wp2
    go_ret
    exact ⟨rfl, rfl⟩
end Go.Proofs.Ytbgojeppfhldjaa
