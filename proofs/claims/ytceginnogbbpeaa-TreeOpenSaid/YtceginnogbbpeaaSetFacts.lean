/- A forest of which one tree is another one. -/
import Derived.Test.YtceginnogbbpeaaSure
namespace Go.Proofs.Ytceginnogbbpeaa
open Go.RowKit Go.Shelf

theorem any_codes (t : Tree) : ∀ es : List Tree, es.any (fun o => sameCode o t) = (es.map (·.code)).any (fun c => c.toList == t.code.toList)
  | [] => rfl
  | e :: r => by rw [List.any_cons, List.map_cons, List.any_cons, any_codes t r]; rfl

theorem checkTree_codes (es es' : List Tree) (h : es.map (·.code) = es'.map (·.code)) (t : Tree) : checkTree es t = checkTree es' t := by
  unfold checkTree
  rw [any_codes, any_codes, h]

theorem treesErr_codes : ∀ (ts es es' : List Tree), es.map (·.code) = es'.map (·.code) → treesErr es ts = treesErr es' ts
  | [], _, _, _ => rfl
  | t :: r, es, es', h => by
    simp only [treesErr]
    rw [checkTree_codes es es' h t, treesErr_codes r (es ++ [t]) (es' ++ [t]) (by rw [List.map_append, List.map_append, h])]

theorem treesErr_set : ∀ (ts es : List Tree) (K : Nat) (x : Tree), treesErr es ts = 0 → K < ts.length → x.code = ts[K]!.code → treeErr x = 0 → treesErr es (ts.set K x) = 0
  | [], _, _, _, _, hK, _, _ => by cases hK
  | t :: r, es, 0, x, h, _, hc, hx => by
    simp only [treesErr] at h
    split at h
    · rename_i ht
      have hc' : x.code = t.code := hc
      have hx0 : checkTree es x = 0 := by
        unfold checkTree at ht ⊢
        rw [any_codes] at ht ⊢
        rw [hc']
        split at ht
        · rename_i h1
          rw [if_pos h1]
          split at ht
          · cases ht
          · rename_i h2
            rw [if_neg h2]; exact hx
        · cases ht
      simp only [List.set_cons_zero, treesErr]
      rw [if_pos hx0, treesErr_codes r (es ++ [x]) (es ++ [t]) (by simp [hc'])]
      exact h
    · exact absurd h (by assumption)
  | t :: r, es, K + 1, x, h, hK, hc, hx => by
    simp only [treesErr] at h
    split at h
    · rename_i ht
      simp only [List.set_cons_succ, treesErr]
      rw [if_pos ht]
      exact treesErr_set r (es ++ [t]) K x h (by simpa using hK) hc hx
    · exact absurd h (by assumption)

theorem treesErr_each : ∀ (ts es : List Tree), treesErr es ts = 0 → ∀ t ∈ ts, treeErr t = 0
  | [], _, _, t, ht => by cases ht
  | x :: r, es, h, t, ht => by
    simp only [treesErr] at h
    split at h
    · rename_i hx
      rcases List.mem_cons.1 ht with rfl | ht
      · unfold checkTree at hx
        split at hx
        · split at hx
          · cases hx
          · exact hx
        · cases hx
      · exact treesErr_each r _ h t ht
    · exact absurd h (by assumption)

theorem forest_each (f : Forest) (h : checkForest f = 0) (K : Nat) (hK : K < f.trees.length) : treeErr f.trees[K]! = 0 := by
  unfold checkForest at h
  split at h
  · split at h
    · cases h
    · exact treesErr_each _ _ h _ (by rw [getElem!_pos f.trees K hK]; exact List.getElem_mem hK)
  · cases h

/-- A forest of which one tree is another one with the same code is in order if that tree is. -/
theorem checkForest_set (f : Forest) (h : checkForest f = 0) (v : Value) (K : Nat) (hK : K < f.trees.length) (x : Tree) (hc : x.code = f.trees[K]!.code) (hx : treeErr x = 0) : checkForest { f with tv := v, trees := f.trees.set K x } = 0 := by
  unfold checkForest at h ⊢
  dsimp only
  split at h
  · rename_i hl
    rw [if_pos hl]
    split at h
    · cases h
    · rename_i hn
      rw [if_neg (by rw [List.length_set]; exact hn)]
      exact treesErr_set _ _ K x h hK hc hx
  · cases h

end Go.Proofs.Ytceginnogbbpeaa
