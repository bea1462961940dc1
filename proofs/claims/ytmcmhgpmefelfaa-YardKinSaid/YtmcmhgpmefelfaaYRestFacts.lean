/- Rests: plain facts that YardRests' walk uses. -/
import Derived.Test.YtmcmhgpmefelfaaYLocs
namespace Go.Proofs.Ytmcmhgpmefelfaa
open Go Go.RowKit Go.Shelf Yd

/-- Before a deed that was made the deeds before it leave no fault, and it has none. -/
theorem follow_at {bef aft : Int} {ds : List (Deed Code)} {K k : Nat} {s : St Code} {f : Int} (hf : Yd.follow bef aft ds K = (s, k, f)) (hK : K ≤ ds.length) {i : Nat} (hi : i < k) :
    ∃ t, Yd.follow bef aft ds i = (t, i, 0) ∧ fault bef aft t ds[i]! = 0 := by
  have hk : k ≤ K := by have := (follow_count bef aft ds hK).1; rw [hf] at this; exact this
  have hr := made_run hf hK
  have h1 : (Yd.follow bef aft ds (i + 1)).2.2 = 0 := by
    refine Classical.byContradiction fun h0 => ?_
    have h2 := follow_fault bef aft ds (a := i + 1) (b := k) (by omega) h0
    unfold Yd.follow at h2 h0
    rw [← h2, hr] at h0
    exact h0 rfl
  unfold Yd.follow at h1 ⊢
  have hl : i < ds.length := by omega
  rw [show ds.take (i + 1) = ds.take i ++ [ds[i]!] from by rw [getElem!_pos ds i hl, ← List.take_append_getElem hl]] at h1
  obtain ⟨h3, h4⟩ := run_fault_at _ _ h1
  have hc := run_count bef aft (ds.take i) .empty 0
  rw [List.length_take, Nat.min_eq_left (by omega)] at hc
  refine ⟨(run bef aft .empty 0 (ds.take i)).1, ?_, h4⟩
  have : (run bef aft .empty 0 (ds.take i)).2.1 = i := by omega
  exact Prod.ext rfl (Prod.ext this h3)
theorem at_row {l : List (Stk Code)} {k : Nat} {x : Stk Code} (h : l[k]? = some x) (hn : (l.map fun x => x.code).Nodup) : l[at_ l x.code]? = some x := by
  have hm : at_ l x.code < l.length := by
    unfold at_
    exact List.findIdx_lt_length_of_exists ⟨x, List.mem_of_getElem? h, by simp⟩
  obtain ⟨y, hy, hc⟩ := at_lt hm
  have hkl := (List.getElem?_eq_some_iff.1 h).1
  have e1 : (l.map fun x => x.code)[k]? = some x.code := by rw [List.getElem?_map, h]; rfl
  have e2 : (l.map fun x => x.code)[at_ l x.code]? = some x.code := by rw [List.getElem?_map, hy]; simp [hc]
  have : at_ l x.code = k := by
    have hp := List.pairwise_iff_getElem.1 hn
    rcases Nat.lt_trichotomy (at_ l x.code) k with h3 | h3 | h3
    · exact absurd (by rw [List.getElem?_eq_getElem (by simpa using hm)] at e2; rw [List.getElem?_eq_getElem (by simpa using hkl)] at e1; injection e1 with e1; injection e2 with e2; rw [e1, e2]) (hp _ _ (by simpa using hm) (by simpa using hkl) h3)
    · exact h3
    · exact absurd (by rw [List.getElem?_eq_getElem (by simpa using hm)] at e2; rw [List.getElem?_eq_getElem (by simpa using hkl)] at e1; injection e1 with e1; injection e2 with e2; rw [e1, e2]) (hp _ _ (by simpa using hkl) (by simpa using hm) h3)
  rw [this]
  exact h
theorem rooted_at {bef aft : Int} {ds : List (Deed Code)} {i : Nat} {t : St Code} {f : Int} (hf : Yd.follow bef aft ds i = (t, i, f)) (hd : ∀ d ∈ ds, d.Fine) : ∀ x ∈ t.stacks, Rooted ds i x := by
  unfold Yd.follow at hf
  have := rooted_run (be := bef) (af := aft) (all := ds) (ds := ds.take i) (s := .empty) (i := 0) (fun x hx => by cases hx)
    (fun j hj => by
      have hl : j < ds.length := by rw [List.length_take] at hj; omega
      rw [Nat.zero_add, List.getElem_take, List.getElem?_eq_getElem hl])
    (fun d h => hd d (List.mem_of_mem_take h))
  rw [hf] at this
  exact this
theorem errYard_shorter {bef aft B A : Int} {ds : List (Deed Code)} (h : errYard bef aft ds = 0) (hB : 0 ≤ B ∧ B ≤ bef) (hA : 0 ≤ A ∧ A ≤ aft) : errYard B A ds = 0 := by
  obtain ⟨h1, h2, h3, h4⟩ := errYard_ok h
  simp only [inB, decide_eq_true_eq] at h1 h2
  unfold errYard
  rw [if_neg, if_neg (by omega)]
  · exact h4
  · simp only [not_or, Bool.not_eq_false, inB, decide_eq_true_eq]
    omega
theorem follow_shorter {bef aft B A : Int} {ds : List (Deed Code)} {n k m : Nat} {s t : St Code} {f g : Int} (hB : B ≤ bef) (hA : A ≤ aft) (h : Yd.follow bef aft ds n = (s, k, f)) (h' : Yd.follow B A ds n = (t, m, g)) : k ≤ m ∧ (f = 3 ∨ m = k ∧ g = f) := by
  unfold Yd.follow at h h'
  have := shorter_run hB hA (ds.take n) .empty 0
  rw [h, h'] at this
  refine ⟨this.1, this.2.imp id fun e => ?_⟩
  injection e with _ e
  injection e with e1 e2
  exact ⟨e1, e2⟩
theorem mod_int {x b : Int} (hx : 0 ≤ x) (hb : 0 ≤ b) : 0 ≤ x.tmod (b + 1) ∧ x.tmod (b + 1) ≤ b := by
  have h1 := Int.emod_nonneg x (show b + 1 ≠ 0 by omega)
  have h2 := Int.emod_lt_of_pos x (show 0 < b + 1 by omega)
  rw [Int.tmod_eq_emod_of_nonneg hx]
  omega
end Go.Proofs.Ytmcmhgpmefelfaa
