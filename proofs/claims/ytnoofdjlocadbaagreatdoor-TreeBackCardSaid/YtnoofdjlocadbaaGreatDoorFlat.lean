/- A list's cells, one element behind another. -/
import Derived.Test.YtnoofdjlocadbaaGreatDoorData
import Derived.Deep.MidRow
import Derived.Laws.OwnMore
import Derived.WalkKit
namespace Go.Proofs.YtnoofdjlocadbaaGreatDoor
open Go.RowKit

/-- The cells of a list's elements, one element behind another. -/
def flat {α : Type} (enc : α → List Value) (xs : List α) : List Value := (xs.map enc).flatten

section
variable {α : Type} {k : Nat} {enc : α → List Value}

theorem flat_nil : flat enc ([] : List α) = [] := rfl
theorem flat_cons (x : α) (xs : List α) : flat enc (x :: xs) = enc x ++ flat enc xs := by simp [flat]
theorem flat_append (xs ys : List α) : flat enc (xs ++ ys) = flat enc xs ++ flat enc ys := by simp [flat]

theorem flat_length (hk : ∀ a, (enc a).length = k) : ∀ xs : List α, (flat enc xs).length = xs.length * k
  | [] => by simp [flat]
  | x :: r => by rw [flat_cons, List.length_append, hk, flat_length hk r, List.length_cons, Nat.succ_mul]; omega

theorem flat_ones (h1 : ∀ a, ∀ v ∈ enc a, v.oneCell' = true) (xs : List α) : ∀ u ∈ flat enc xs, u.oneCell' = true := by
  intro u hu
  unfold flat at hu
  rw [List.mem_flatten] at hu
  obtain ⟨l, hl, hu⟩ := hu
  obtain ⟨a, _, rfl⟩ := List.mem_map.1 hl
  exact h1 a u hu

end

section
variable {α : Type} [Inhabited α] {k : Nat} {enc : α → List Value}

theorem flat_get (hk : ∀ a, (enc a).length = k) : ∀ (xs : List α) (j i : Nat), j < xs.length → i < k → (flat enc xs)[j * k + i]? = (enc xs[j]!)[i]?
  | [], j, i, hj, _ => by cases hj
  | x :: r, 0, i, _, hi => by
    rw [flat_cons, Nat.zero_mul, Nat.zero_add, List.getElem?_append_left (by rw [hk]; exact hi)]
    rfl
  | x :: r, j + 1, i, hj, hi => by
    have hj' : j < r.length := by simpa using hj
    have e : (j + 1) * k + i - k = j * k + i := by rw [Nat.succ_mul]; omega
    rw [flat_cons, List.getElem?_append_right (by rw [hk, Nat.succ_mul]; omega), hk, e, flat_get hk r j i hj' hi]
    rfl

theorem flat_split (hk : ∀ a, (enc a).length = k) (h0 : 0 < k) (xs : List α) (m : Nat) (u : Value) (h : (flat enc xs)[m]? = some u) : ∃ j i, m = j * k + i ∧ j < xs.length ∧ i < k ∧ (enc xs[j]!)[i]? = some u := by
  have hm : m < xs.length * k := by rw [← flat_length hk]; exact (List.getElem?_eq_some_iff.1 h).1
  have e : m = m / k * k + m % k := by rw [Nat.mul_comm]; exact (Nat.div_add_mod m k).symm
  have hj : m / k < xs.length := (Nat.div_lt_iff_lt_mul h0).2 hm
  refine ⟨m / k, m % k, e, hj, Nat.mod_lt _ h0, ?_⟩
  rw [← flat_get hk xs (m / k) (m % k) hj (Nat.mod_lt _ h0), ← e]
  exact h

/-- What is held lies where the copy looks. -/
theorem Held.flat {B : Nat} {w : World} {b off n c : Nat} {xs : List α} (hk : ∀ a, (enc a).length = k) (h0 : 0 < k) (h : Held B w k enc (.slice (some ⟨b, off, none⟩) n c) xs) (m : Nat) (u : Value) (hu : (flat enc xs)[m]? = some u) : w.cell? ((⟨b, off, none⟩ : Addr).add m) = some u := by
  obtain ⟨j, i, rfl, hj, hi, he⟩ := flat_split hk h0 xs m u hu
  rcases h with ⟨_, h2⟩ | ⟨b', off', c', h1, _, _, hc⟩
  · rw [h2] at hj; cases hj
  · cases h1
    have := hc j hj i u he
    rw [Addr.add_mid, ← Nat.add_assoc]
    exact this

/-- What the call owns is held. -/
theorem owned_held {w : World} {base : Nat} {e : TypeId} {v : Value} {n : Nat} {xs : List α} (hk : ∀ a, (enc a).length = k) (h : w.ownsRow base e k v n (flat enc xs)) (hn : xs.length = n) (h47 : n ≤ 140737488355328) (hne : v ≠ .slice none 0 0) :
    ∃ g cap, v = .slice (some ⟨g, 0, none⟩) n cap ∧ base ≤ g ∧ g < w.heap.size ∧ n ≤ cap ∧ Held w.heap.size w k enc v xs ∧ ∀ j, j < n → w.there g (j * k) k := by
  obtain ⟨hl, ⟨h1, _⟩ | ⟨g, cap, cur, hv, hb, hg, hc, hm, hsz, ht⟩⟩ := h
  · exact absurd h1 hne
  · have hlt : g < w.heap.size := (Array.getElem?_eq_some_iff.1 hg).1
    have hcell : ∀ i, w.cell? ⟨g, i, none⟩ = cur[i]? := fun i => cell_of_row w g i cur e (0, 0) hg
    have hle : n * k ≤ cap * k := Nat.mul_le_mul_right _ hc
    refine ⟨g, cap, hv, hb, hlt, hc, .inr ⟨g, 0, cap, by rw [hv, hn], hlt, ⟨by omega, by omega, by unfold maxLen at hm; omega⟩, fun j hj i u hu => ?_⟩, fun j hj i hi => ?_⟩
    · have hi : i < k := by rw [← hk xs[j]!]; exact (List.getElem?_eq_some_iff.1 hu).1
      have hjk : j * k + i < n * k := by
        have : (j + 1) * k ≤ n * k := Nat.mul_le_mul_right _ (by omega)
        rw [Nat.succ_mul] at this; omega
      rw [Nat.zero_add, hcell, ← hu, ← flat_get hk xs j i hj hi, ← ht, List.getElem?_take, if_pos hjk]
      simp
    · have hjk : j * k + i < n * k := by
        have : (j + 1) * k ≤ n * k := Nat.mul_le_mul_right _ (by omega)
        rw [Nat.succ_mul] at this; omega
      refine ⟨?_, by simp [World.frozen?, hg]⟩
      rw [hcell, Array.getElem?_eq_getElem (by omega)]
      rfl
end
end Go.Proofs.YtnoofdjlocadbaaGreatDoor
