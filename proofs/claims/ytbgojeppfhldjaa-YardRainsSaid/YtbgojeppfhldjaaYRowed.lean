/- A row that grows by append beside the call's own blocks; plain facts that YardNarrow's walk uses. -/
import Derived.Test.YtbgojeppfhldjaaYLocs
namespace Go.Proofs.Ytbgojeppfhldjaa
open Go Go.RowKit Go.Shelf Yd

/-- A row of the call's own, in none of the blocks of L. -/
structure Rowed (w0 W : World) (L : List (Nat × TypeId × List Value)) (e : TypeId) (k : Nat) (v : Value) (n : Nat) (xs : List Value) : Prop where
  own : W.ownsRow w0.heap.size e k v n xs
  sep : ∀ x ∈ L, v.ownBlock ≠ some x.1

section
variable {w0 W W' : World} {L L' : List (Nat × TypeId × List Value)} {e : TypeId} {k n m : Nat} {v : Value} {xs ys : List Value}
theorem Rowed.nil (w0 W : World) (L : List (Nat × TypeId × List Value)) (e : TypeId) (k : Nat) : Rowed w0 W L e k (.slice none 0 0) 0 [] := ⟨World.ownsRow_nil _ _ _ _, fun x _ h => by cases h⟩
theorem Rowed.same (h : Rowed w0 W L e k v n xs) (hs : ∀ g, v.ownBlock = some g → W'.heap[g]? = W.heap[g]?) (hL : ∀ x ∈ L', v.ownBlock ≠ some x.1) : Rowed w0 W' L' e k v n xs := ⟨row_same h.own hs, hL⟩
theorem Rowed.below (h : Rowed w0 W L e k v n xs) (hb : Below W.heap.size W W') : Rowed w0 W' L e k v n xs := h.same (fun g hg => hb.block g (row_lt h.own hg)) h.sep
theorem Rowed.alloc (h : Rowed w0 W L e k v n xs) (t : TypeId) (cs : List Value) {g : Nat} (hg : W.heap.size = g) : Rowed w0 (W.alloc (.cells cs.toArray t)) (L ++ [(g, t, cs)]) e k v n xs := by
  subst hg
  refine h.same (fun g hg => Below.heap_alloc W _ g (row_lt h.own hg)) (fun x hx => ?_)
  rcases List.mem_append.1 hx with h1 | h1
  · exact h.sep x h1
  · rw [List.mem_singleton.1 h1]
    exact fun e2 => absurd (row_lt h.own e2) (Nat.lt_irrefl _)
theorem Rowed.setLoc (h : Rowed w0 W L e k v n xs) (i : Nat) {g : Nat} {t : TypeId} {cs cs' : List Value} (hi : L[i]? = some (g, t, cs)) (o : Nat) (vs : List Value) : Rowed w0 (W.setCells g o vs) (L.set i (g, t, cs')) e k v n xs := by
  refine h.same (fun g' hg => heap_setCells W g (fun e2 => h.sep _ (mem_at hi) (by rw [hg, e2])) vs o) (fun x hx => ?_)
  rcases List.mem_or_eq_of_mem_set hx with h1 | h1
  · exact h.sep x h1
  · have h2 := h.sep _ (mem_at hi)
    rw [h1]; exact h2
theorem Rowed.setLoc1 (h : Rowed w0 W L e k v n xs) (i : Nat) {g : Nat} {t : TypeId} {cs cs' : List Value} (hi : L[i]? = some (g, t, cs)) (o : Nat) (u : Value) : Rowed w0 (W.setCell ⟨g, o, none⟩ u) (L.set i (g, t, cs')) e k v n xs := h.setLoc i hi o [u]
theorem Rowed.fewer (h : Rowed w0 W L e k v n xs) (hl : L'.Sublist L) : Rowed w0 W L' e k v n xs := ⟨h.own, fun x hx => h.sep x (hl.subset hx)⟩
theorem Locs.appended (h : Locs w0 W L []) (hr : Rowed w0 W L e k v n xs) (hg : W.grownBy W' v.ownBlock) : Locs w0 W' L [] :=
  ⟨h.low.grown hg h.low.size (fun r hr' => (hr.own.lt r hr').1), fun x hx => ⟨(h.loc x hx).1.grown hg (fun e2 => hr.sep x hx e2.symm), (h.loc x hx).2⟩, h.nodup, by simp, by simp⟩
theorem Rowed.appended (h : Locs w0 W L []) (hr : Rowed w0 W L e k v n xs) {g cap : Nat} (hown : W'.ownsRow w0.heap.size e k (.slice (some ⟨g, 0, none⟩) m cap) m ys) (hat : v.ownBlock = some g ∨ g = W.heap.size) : Rowed w0 W' L e k (.slice (some ⟨g, 0, none⟩) m cap) m ys := by
  refine ⟨hown, fun x hx e2 => ?_⟩
  have e3 : g = x.1 := by injection e2
  rcases hat with h1 | h1
  · exact hr.sep x hx (by rw [h1, e3])
  · have := (h.loc x hx).1.lt; omega
end

theorem take_more {ds : List (Deed Code)} {k : Nat} (h : k < ds.length) : ds.take (k + 1) = ds.take k ++ [ds[k]!] := by
  rw [getElem!_pos ds k h, ← List.take_append_getElem h]
theorem slim_refl {d : Deed Code} (h : Fits d) : Slim d d := ⟨rfl, rfl, rfl, rfl, ⟨Int.le_refl _, h.fine.a.2, Int.le_refl _⟩, ⟨Int.le_refl _, h.fine.b.2, Int.le_refl _⟩⟩
theorem held_of_rowed {w0 w : World} {L : List (Nat × TypeId × List Value)} {n : Nat} {v : Value} {es : List (Deed Code)} (h : Rowed w0 w L 57 8 v n (flat deedCells es)) (hl : es.length = n) (h12 : n ≤ 12) : Held w.heap.size w 8 deedCells v es := by
  rcases Nat.eq_zero_or_pos n with h0 | h0
  · obtain ⟨a, m, c, rfl⟩ := row_slice h.own
    have := row_len h.own
    subst this h0
    exact .inl ⟨⟨a, c, rfl⟩, List.length_eq_zero_iff.1 hl⟩
  · obtain ⟨g, cap, cur, rfl, hb, hc, hm, _, ht⟩ := row_blockD h.own (by obtain ⟨a, m, c, rfl⟩ := row_slice h.own; have := row_len h.own; intro e; injection e with _ e2 _; omega)
    refine held_of_blk (spare := cur.toList.drop (n * 8)) ?_ hl hc hm (by omega)
    rw [← ht, List.take_append_drop]
    simpa using hb
/-- What some deeds leave, if no more were made than these. -/
theorem follow_upto {bef aft : Int} {ds : List (Deed Code)} {K k : Nat} {s : St Code} {f : Int} (hf : Yd.follow bef aft ds K = (s, k, f)) (hK : K ≤ ds.length) {i : Nat} (hi : i ≤ k) :
    (run bef aft .empty 0 (ds.take i)).2.2 = 0 := by
  have hr := made_run hf hK
  refine Classical.byContradiction fun h0 => ?_
  have hk : k ≤ K := by have := (follow_count bef aft ds hK).1; rw [hf] at this; exact this
  have h2 := follow_fault bef aft ds (a := i) (b := k) hi h0
  unfold Yd.follow at h2
  rw [← h2, hr] at h0
  exact h0 rfl
theorem All2.take {α β : Type} {R : α → β → Prop} {l : List α} {m : List β} (h : Yd.All2 R l m) : ∀ k, Yd.All2 R (l.take k) (m.take k) := by
  induction h with
  | nil => intro k; simp only [List.take_nil]; exact .nil
  | cons h1 _ ih =>
    intro k
    cases k with
    | zero => exact .nil
    | succ k => exact .cons h1 (ih k)
theorem narrow_follow {bef aft : Int} {es ds : List (Deed Code)} {i k1 k2 : Nat} {s t : St Code} {f g : Int} (hs : Yd.follow bef aft ds i = (s, k1, f)) (ht : Yd.follow bef aft es i = (t, k2, g)) (hn : Yd.All2 Narrower es ds)
    (h1 : (run bef aft .empty 0 (ds.take i)).2.2 = 0) (h2 : (run bef aft .empty 0 (es.take i)).2.2 = 0) : Inside t s := by
  have := narrow_run (be := bef) (af := aft) (be' := bef) (af' := aft) (t := .empty) (s := .empty) (i := 0) (All2.take hn i) ⟨.nil, ⟨in_refl _, in_refl _, in_refl _, in_refl _, in_refl _, in_refl _⟩⟩ h2 h1
  unfold Yd.follow at hs ht
  rw [hs, ht] at this
  exact this
/-- A block beside the others of the call's own. -/
theorem Locs.adopt {w0 W : World} {L : List (Nat × TypeId × List Value)} (h : Locs w0 W L []) {g : Nat} {t : TypeId} {cs : List Value} (hb : Blk W g t cs.toArray) (hg : w0.heap.size ≤ g) (hne : ∀ x ∈ L, x.1 ≠ g) : Locs w0 W (L ++ [(g, t, cs)]) [] := by
  refine ⟨h.low, fun e he => ?_, ?_, by simp, by simp⟩
  · rcases List.mem_append.1 he with h1 | h1
    · exact h.loc e h1
    · rw [List.mem_singleton.1 h1]; exact ⟨hb, hg⟩
  · rw [List.map_append, List.nodup_append]
    refine ⟨h.nodup, by simp, fun a ha b hb => ?_⟩
    obtain ⟨x, hx, rfl⟩ := List.mem_map.1 ha
    simp at hb
    rw [hb]
    exact hne x hx
theorem Locs.belowAt {w0 W W' : World} {B : Nat} {L : List (Nat × TypeId × List Value)} (h : Locs w0 W L []) (hb : Below B W W') (hB : w0.heap.size ≤ B) (hL : ∀ x ∈ L, x.1 < B) : Locs w0 W' L [] :=
  ⟨h.low.trans (hb.mono hB), fun x hx => ⟨(h.loc x hx).1.belowAt hb (hL x hx), (h.loc x hx).2⟩, h.nodup, by simp, by simp⟩
end Go.Proofs.Ytbgojeppfhldjaa
