/- Kin: plain facts that YardKin's walk uses. -/
import Derived.Test.YtmcmhgpmefelfaaYHolders
namespace Go.Proofs.Ytmcmhgpmefelfaa
open Go Go.RowKit Go.Shelf Yd

theorem holders_eq {p : Int} : ∀ {rows rows' : List SRow}, rows.map (·.1) = rows'.map (·.1) → holdersOf p rows = holdersOf p rows'
  | [], [], _ => rfl
  | [], _ :: _, h => by simp at h
  | _ :: _, [], h => by simp at h
  | r :: l, r' :: l', h => by
    simp only [List.map_cons, List.cons.injEq] at h
    have ih := holders_eq (p := p) h.2
    unfold holdersOf at ih ⊢
    rw [List.filter_cons, List.filter_cons, h.1]
    split
    · rw [List.map_cons, List.map_cons, ih, h.1]
    · exact ih
theorem holders_has {p : Int} {rows : List SRow} {r : SRow} (hr : r ∈ rows) (hn : (rows.map fun p => p.1.code).Nodup) : r.1.code ∈ holdersOf p rows ↔ p ∈ r.1.src := by
  unfold holdersOf
  constructor
  · intro h
    obtain ⟨r', h1, h2⟩ := List.mem_map.1 h
    obtain ⟨h3, h4⟩ := List.mem_filter.1 h1
    have : r' = r := by
      obtain ⟨i, hi, ei⟩ := List.mem_iff_getElem.1 h3
      obtain ⟨k, hk, ek⟩ := List.mem_iff_getElem.1 hr
      have hp := List.pairwise_iff_getElem.1 hn
      rcases Nat.lt_trichotomy i k with h5 | h5 | h5
      · exact absurd (by rw [List.getElem_map, List.getElem_map, ei, ek, h2]) (hp i k (by simpa using hi) (by simpa using hk) h5)
      · subst h5; rw [← ei, ← ek]
      · exact absurd (by rw [List.getElem_map, List.getElem_map, ei, ek, h2]) (hp k i (by simpa using hk) (by simpa using hi) h5)
    rw [← this]
    simpa using h4
  · intro h
    exact List.mem_map.2 ⟨r, List.mem_filter.2 ⟨hr, by simpa using h⟩, rfl⟩
theorem all2_set {R : Deed Code → Deed Code → Prop} {ds : List (Deed Code)} {p : Nat} {d : Deed Code} (hp : p < ds.length) (hr : ∀ x, R x x) (h : R d ds[p]!) : Yd.All2 R (ds.set p d) ds := by
  have hrefl : ∀ l : List (Deed Code), Yd.All2 R l l := fun l => by
    induction l with
    | nil => exact .nil
    | cons a l ih => exact .cons (hr a) ih
  have := (hrefl ds).set h p
  rwa [show ds.set p ds[p]! = ds from by rw [getElem!_pos ds p hp]; exact List.set_getElem_self hp] at this
theorem all2_set' {R : Deed Code → Deed Code → Prop} {ds : List (Deed Code)} {p : Nat} {d : Deed Code} (hp : p < ds.length) (hr : ∀ x, R x x) (h : R ds[p]! d) : Yd.All2 R ds (ds.set p d) := by
  have hrefl : ∀ l : List (Deed Code), Yd.All2 R l l := fun l => by
    induction l with
    | nil => exact .nil
    | cons a l ih => exact .cons (hr a) ih
  have := (hrefl ds).set h p
  rwa [show ds.set p ds[p]! = ds from by rw [getElem!_pos ds p hp]; exact List.set_getElem_self hp] at this
theorem errDeeds_like : ∀ {es ds : List (Deed Code)} {day : Int}, Yd.All2 (fun e d => e.day = d.day ∧ ∀ day, errDeed d day = 0 → errDeed e day = 0) es ds → errDeeds day ds = 0 → errDeeds day es = 0
  | [], [], _, _, _ => rfl
  | e :: es, d :: ds, day, .cons hs hr, h => by
    rw [errDeeds_cons] at h ⊢
    split at h
    · rename_i h0
      rw [if_pos (hs.2 _ h0), hs.1]
      exact errDeeds_like hr h
    · rename_i h0; exact absurd h h0
/-- The pile p with as much again at the most. -/
def doubled (d : Deed Code) : Deed Code := { d with a := ⟨d.a.lo, min 100000000 (2 * d.a.hi)⟩ }
theorem errDeed_doubled {d : Deed Code} (h1 : d.kind = 1) {day : Int} (h : errDeed d day = 0) : errDeed (doubled d) day = 0 := by
  have o := deedOk_of h
  have ft := fits_of o
  have ra : rangedB (doubled d).a.lo (doubled d).a.hi (limA d.kind) = true := by
    have hl := ft.fine.a; have h8 := ft.a8
    unfold Bd.Ok at hl
    rw [h1, show limA 1 = 100000000 from rfl]
    unfold rangedB boundsB doubled
    rw [if_neg (by decide)]
    simp only [decide_eq_true_eq]
    omega
  unfold errDeed at h ⊢
  split at h; · cases h
  rename_i c1
  split at h; · cases h
  rename_i c2
  split at h; · cases h
  rename_i c3
  split at h; · cases h
  rename_i c4
  rw [if_neg (by simpa [doubled] using c1), if_neg (by simpa [doubled] using c2), if_neg (by simpa [doubled] using c3), if_neg]
  simp only [not_or] at c4 ⊢
  exact ⟨by rw [show (doubled d).kind = d.kind from rfl, ra]; simp, c4.2.1, c4.2.2⟩
theorem errYard_doubled {bef aft : Int} {ds : List (Deed Code)} {p : Nat} (hp : p < ds.length) (h1 : ds[p]!.kind = 1) (h : errYard bef aft ds = 0) : errYard bef aft (ds.set p (doubled ds[p]!)) = 0 := by
  obtain ⟨h2, h3, h4, h5⟩ := errYard_ok h
  unfold errYard
  rw [h2, h3, if_neg (by simp), if_neg (by rw [List.length_set]; omega)]
  exact errDeeds_like (all2_set hp (fun x => ⟨rfl, fun _ h => h⟩) ⟨rfl, fun _ h => errDeed_doubled h1 h⟩) h5
theorem sizes_doubled {ds : List (Deed Code)} {p : Nat} (hp : p < ds.length) (hs : ∀ d ∈ ds, d.stack.size ≤ maxLen ∧ d.other.size ≤ maxLen) : ∀ d ∈ ds.set p (doubled ds[p]!), d.stack.size ≤ maxLen ∧ d.other.size ≤ maxLen := by
  intro d hd
  rcases List.mem_or_eq_of_mem_set hd with h1 | h1
  · exact hs d h1
  · rw [h1]; have := hs ds[p]! (get_in hp); exact this
/-- What is piled up twice as much changes no stack of which it is no source. -/
theorem kin_follow {bef aft : Int} {ds : List (Deed Code)} {p K : Nat} {s t : St Code} {k2 : Nat} {f2 : Int} (hp : p < ds.length) (h1 : ds[p]!.kind = 1) (hK : K ≤ ds.length) (hs : Yd.follow bef aft ds K = (s, K, 0)) (ht : Yd.follow bef aft (ds.set p (doubled ds[p]!)) K = (t, k2, f2)) (hk : k2 = K) : Yd.All2 (Yd.Kin (p : Int)) s.stacks t.stacks := by
  have hc := follow_count bef aft (ds.set p (doubled ds[p]!)) (n := K) (by rw [List.length_set]; exact hK)
  rw [ht] at hc
  have hf := hc.2.2 hk
  simp only at hf
  subst hf
  have ha : Yd.All2 Yd.Alike ds (ds.set p (doubled ds[p]!)) := all2_set' hp (fun x => ⟨rfl, rfl, rfl, rfl, rfl⟩) ⟨rfl, rfl, rfl, rfl, rfl⟩
  have := kin_run (be := bef) (af := aft) (be' := bef) (af' := aft) (p := (p : Int)) (s := .empty) (t := .empty) (i := 0) (All2.take ha K) (fun j hj hj' => ?_) .nil (by unfold Yd.follow at hs; rw [hs]) (by unfold Yd.follow at ht; rw [ht])
  · unfold Yd.follow at hs ht
    rw [hs, ht] at this
    exact this
  · rw [List.getElem_take, List.getElem_take]
    by_cases e : j = p
    · subst e
      right
      refine ⟨?_, by omega⟩
      rw [← getElem!_pos ds j hp]; exact h1
    · left
      rw [List.getElem_set_ne (Ne.symm e)]
theorem pile_split {cur : Array Value} {ds : List (Deed Code)} {p : Nat} (h : p < ds.length) (ht : cur.toList.take (ds.length * 8) = flat deedCells ds) :
    ∃ PRE POST : List Value, cur.toList = PRE ++ [.int .i64 ds[p]!.a.lo, .int .i64 ds[p]!.a.hi] ++ POST ∧ PRE.length = p * 8 + 4 ∧ ∃ spare, PRE ++ [.int .i64 ds[p]!.a.lo, .int .i64 (min 100000000 (2 * ds[p]!.a.hi))] ++ POST = flat deedCells (ds.set p (doubled ds[p]!)) ++ spare := by
  have e : ds = ds.take p ++ ds[p]! :: ds.drop (p + 1) := by
    conv => lhs; rw [← List.take_append_drop p ds]
    rw [drop_get h]
  have ef := congrArg (flat deedCells) e
  rw [flat_append, flat_cons] at ef
  refine ⟨flat deedCells (ds.take p) ++ [.int .i64 ds[p]!.kind, .int .i64 ds[p]!.day, .string ds[p]!.stack, .string ds[p]!.other], [.int .i64 ds[p]!.b.lo, .int .i64 ds[p]!.b.hi] ++ flat deedCells (ds.drop (p + 1)) ++ cur.toList.drop (ds.length * 8), ?_, ?_, cur.toList.drop (ds.length * 8), ?_⟩
  · conv => lhs; rw [← List.take_append_drop (ds.length * 8) cur.toList, ht, ef]
    simp [deedCells]
  · rw [List.length_append, flat_length deed_eight, List.length_take, Nat.min_eq_left (by omega)]
    simp
  · have es : ds.set p (doubled ds[p]!) = ds.take p ++ doubled ds[p]! :: ds.drop (p + 1) := by
      rw [List.set_eq_take_append_cons_drop, if_pos h]
    rw [es, flat_append, flat_cons]
    simp [deedCells, doubled]
/-- A block beside the others of the call's own. -/
theorem Locs.adopt {w0 W : World} {L : List (Nat × TypeId × List Value)} (h : Locs w0 W L []) {g : Nat} {t : TypeId} {cs : List Value} (hb : Blk W g t cs.toArray) (hg : w0.heap.size ≤ g) (hne : ∀ x ∈ L, x.1 ≠ g) : Locs w0 W (L ++ [(g, t, cs)]) [] := by
  refine ⟨h.low, fun e he => ?_, ?_, by simp, by simp⟩
  · rcases List.mem_append.1 he with h1 | h1
    · exact h.loc e h1
    · rw [List.mem_singleton.1 h1]; exact ⟨hb, hg⟩
  · rw [List.map_append, List.nodup_append]
    refine ⟨h.nodup, by simp, fun a ha b hb => ?_⟩
    obtain ⟨x, hx, rfl⟩ := List.mem_map.1 ha
    simp at hb
    rw [hb]
    exact hne x hx
theorem Locs.belowAt {w0 W W' : World} {B : Nat} {L : List (Nat × TypeId × List Value)} (h : Locs w0 W L []) (hb : Below B W W') (hB : w0.heap.size ≤ B) (hL : ∀ x ∈ L, x.1 < B) : Locs w0 W' L [] :=
  ⟨h.low.trans (hb.mono hB), fun x hx => ⟨(h.loc x hx).1.belowAt hb (hL x hx), (h.loc x hx).2⟩, h.nodup, by simp, by simp⟩
theorem mod_pos {x : Int} {n : Nat} (hx : 0 ≤ x) (hn : 0 < n) : ∃ P : Nat, P < n ∧ x.tmod (n : Int) = (P : Int) := by
  have h1 := Int.emod_nonneg x (show (n : Int) ≠ 0 by omega)
  have h2 := Int.emod_lt_of_pos x (show (0 : Int) < (n : Int) by omega)
  exact ⟨(x % (n : Int)).toNat, by omega, by rw [Int.tmod_eq_emod_of_nonneg hx]; omega⟩
end Go.Proofs.Ytmcmhgpmefelfaa
