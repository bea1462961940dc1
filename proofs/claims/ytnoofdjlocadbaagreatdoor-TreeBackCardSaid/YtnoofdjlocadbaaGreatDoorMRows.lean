/- Rows of the call's own, each in a block of its own or nil: what an append to one and a store into one leave. Nothing of the program. -/
import Derived.Test.YtnoofdjlocadbaaGreatDoorMemT
namespace Go.Proofs.YtnoofdjlocadbaaGreatDoor
open Go Go.RowKit

/-- A row: its elements' type and size, the slice, how many, the cells. -/
structure MRow where
  e : TypeId
  k : Nat
  v : Value
  n : Nat
  xs : List Value
def Apart (r s : MRow) : Prop := ∀ g, r.v.ownBlock = some g → s.v.ownBlock ≠ some g
theorem Apart.symm {r s : MRow} (h : Apart r s) : Apart s r := fun g h1 h2 => h g h2 h1

/-- The world behind w0: the rows of R are the call's own, in blocks of their own. -/
structure Rows (w0 W : World) (R : List MRow) : Prop where
  low : Below w0.heap.size w0 W
  row : ∀ r ∈ R, W.ownsRow w0.heap.size r.e r.k r.v r.n r.xs
  sep : R.Pairwise Apart

section
variable {w0 W W' : World} {R A C : List MRow} {r : MRow}
theorem Rows.start (w : World) : Rows w w [] := ⟨Below.refl _ _, by simp, .nil⟩
theorem Rows.same (h : Rows w0 W R) (hl : Below w0.heap.size w0 W') (hs : ∀ r ∈ R, ∀ g, r.v.ownBlock = some g → W'.heap[g]? = W.heap[g]?) : Rows w0 W' R :=
  ⟨hl, fun r hr => row_same (h.row r hr) (hs r hr), h.sep⟩
theorem Rows.lt (h : Rows w0 W R) {r : MRow} (hr : r ∈ R) {g : Nat} (hg : r.v.ownBlock = some g) : g < W.heap.size := row_lt (h.row r hr) hg
theorem Rows.ge (h : Rows w0 W R) {r : MRow} (hr : r ∈ R) {g : Nat} (hg : r.v.ownBlock = some g) : w0.heap.size ≤ g := ((h.row r hr).lt g hg).1
theorem Rows.below (h : Rows w0 W R) (hb : Below W.heap.size W W') : Rows w0 W' R :=
  h.same (h.low.trans (hb.mono h.low.size)) fun _ hr g hg => hb.block g (h.lt hr hg)
theorem Rows.grown (h : Rows w0 W R) {row : Option Nat} (hg : W.grownBy W' row) (hb : ∀ g, row = some g → w0.heap.size ≤ g) (hr : ∀ r ∈ R, ∀ g, r.v.ownBlock = some g → row ≠ some g) : Rows w0 W' R :=
  h.same (h.low.grown hg h.low.size (fun g e => hb g e)) fun r h1 g h2 => hg.block g (h.lt h1 h2) fun e => hr r h1 g h2 e.symm
theorem Rows.fewer (h : Rows w0 W R) {R' : List MRow} (hl : R'.Sublist R) : Rows w0 W R' := ⟨h.low, fun r hr => h.row r (hl.subset hr), h.sep.sublist hl⟩
theorem Rows.nil (h : Rows w0 W (A ++ C)) (e : TypeId) (k : Nat) : Rows w0 W (A ++ ⟨e, k, .slice none 0 0, 0, []⟩ :: C) := by
  obtain ⟨h1, h2, h3⟩ := List.pairwise_append.1 h.sep
  refine ⟨h.low, fun r hr => ?_, List.pairwise_append.2 ⟨h1, List.pairwise_cons.2 ⟨fun a _ g hg => (by cases hg), h2⟩, fun a ha b hb => ?_⟩⟩
  · rcases List.mem_append.1 hr with h4 | h4
    · exact h.row r (List.mem_append.2 (.inl h4))
    · rcases List.mem_cons.1 h4 with rfl | h5
      · exact World.ownsRow_nil _ _ _ _
      · exact h.row r (List.mem_append.2 (.inr h5))
  · rcases List.mem_cons.1 hb with rfl | h5
    · exact fun g _ hg => by cases hg
    · exact h3 a ha b h5
/-- A row that is another one now: the others lie apart from it. -/
theorem Rows.turned (h : Rows w0 W (A ++ r :: C)) {r' : MRow} (hlow : Below w0.heap.size w0 W') (ho : W'.ownsRow w0.heap.size r'.e r'.k r'.v r'.n r'.xs) (hb : ∀ g, r'.v.ownBlock = some g → r.v.ownBlock = some g ∨ W.heap.size ≤ g)
    (hs : ∀ g, g < W.heap.size → r.v.ownBlock ≠ some g → W'.heap[g]? = W.heap[g]?) : Rows w0 W' (A ++ r' :: C) := by
  obtain ⟨h1, h2, h3⟩ := List.pairwise_append.1 h.sep
  obtain ⟨h4, h5⟩ := List.pairwise_cons.1 h2
  have key : ∀ x, x ∈ A ++ r :: C → Apart r x → Apart r' x := fun x hx ha g hg hg2 => by
    rcases hb g hg with h6 | h6
    · exact ha g h6 hg2
    · have := h.lt hx hg2; omega
  have hA : ∀ a ∈ A, Apart a r := fun a ha => h3 a ha r (by simp)
  refine ⟨hlow, fun x hx => ?_, List.pairwise_append.2 ⟨h1, List.pairwise_cons.2 ⟨fun c hc => key c (by simp [hc]) (h4 c hc), h5⟩, fun a ha b hb2 => ?_⟩⟩
  · rcases List.mem_append.1 hx with h6 | h6
    · have hm : x ∈ A ++ r :: C := by simp [h6]
      exact row_same (h.row x hm) fun g hg => hs g (h.lt hm hg) fun e => hA x h6 g hg e
    · rcases List.mem_cons.1 h6 with rfl | h7
      · exact ho
      · have hm : x ∈ A ++ r :: C := by simp [h7]
        exact row_same (h.row x hm) fun g hg => hs g (h.lt hm hg) fun e => h4 x h7 g e hg
  · rcases List.mem_cons.1 hb2 with rfl | h7
    · exact (key a (by simp [ha]) (hA a ha).symm).symm
    · exact h3 a ha b (by simp [h7])
/-- An append to a row. -/
theorem Rows.append (h : Rows w0 W (A ++ r :: C)) {g cap m : Nat} {ys : List Value} (hg : W.grownBy W' r.v.ownBlock) (ho : W'.ownsRow w0.heap.size r.e r.k (.slice (some ⟨g, 0, none⟩) m cap) m ys) (hat : r.v.ownBlock = some g ∨ g = W.heap.size) :
    Rows w0 W' (A ++ ⟨r.e, r.k, .slice (some ⟨g, 0, none⟩) m cap, m, ys⟩ :: C) := by
  have hm : r ∈ A ++ r :: C := by simp
  refine h.turned (h.low.grown hg h.low.size fun g' e => h.ge hm e) ho (fun g' e => ?_) (fun g' h1 h2 => hg.block g' h1 (fun e => h2 e.symm))
  have e2 : g = g' := by injection e
  subst e2
  rcases hat with h1 | h1
  · exact .inl h1
  · exact .inr (by omega)
theorem row_set {base : Nat} {e : TypeId} {k n g cap : Nat} {xs : List Value} (pre old post vs : List Value) (h : W.ownsRow base e k (.slice (some ⟨g, 0, none⟩) n cap) n xs) (hx : xs = pre ++ old ++ post) (hl : old.length = vs.length) :
    (W.setCells g pre.length vs).ownsRow base e k (.slice (some ⟨g, 0, none⟩) n cap) n (pre ++ vs ++ post) := by
  rcases h.2 with ⟨h0, _⟩ | ⟨g', cap', cur, h1, h2, h3, h4, h5, h6, h7⟩
  · cases h0
  · cases h1
    have hlen := h.1
    refine ⟨by rw [hx] at hlen; simp only [List.length_append] at hlen ⊢; omega, .inr ⟨g, cap, (pre ++ vs ++ (post ++ cur.toList.drop (n * k))).toArray, rfl, h2, ?_, h4, h5, ?_, ?_⟩⟩
    · refine Bkt.storedMid pre old (post ++ cur.toList.drop (n * k)) vs ?_ hl
      show W.heap[g]? = _
      rw [h3, ← List.append_assoc, ← hx, ← h7, List.take_append_drop]
    · rw [hx] at hlen
      have h8 := congrArg List.length (List.take_append_drop (n * k) cur.toList)
      rw [h7, hx] at h8
      simp only [List.length_append, Array.length_toList] at h8 hlen
      simp only [List.size_toArray, List.length_append]
      omega
    · rw [hx] at hlen
      simp only [List.length_append] at hlen
      rw [← List.append_assoc, List.take_left' (by simp only [List.length_append]; omega)]
/-- A store into a row. -/
theorem Rows.set (h : Rows w0 W (A ++ r :: C)) {g n cap : Nat} (pre old post vs : List Value) (hv : r.v = .slice (some ⟨g, 0, none⟩) n cap) (hn : r.n = n) (hx : r.xs = pre ++ old ++ post) (hl : old.length = vs.length) :
    Rows w0 (W.setCells g pre.length vs) (A ++ ⟨r.e, r.k, r.v, r.n, pre ++ vs ++ post⟩ :: C) := by
  have hm : r ∈ A ++ r :: C := by simp
  have ho := h.row r hm
  obtain ⟨e, k, v, n', xs⟩ := r
  simp only at hv hn hx ho hm
  subst hv hn
  refine h.turned (below_setCells h.low (h.ge hm rfl) _ _) (row_set pre old post vs ho hx hl) (fun g' e => .inl e) (fun g' _ h2 => heap_setCells W g (fun e => h2 (by rw [e]; rfl)) _ _)
theorem Rows.set1 (h : Rows w0 W (A ++ r :: C)) {g n cap : Nat} (pre post : List Value) (old v : Value) (o : Nat) (hv : r.v = .slice (some ⟨g, 0, none⟩) n cap) (hn : r.n = n) (ho : pre.length = o) (hx : r.xs = pre ++ [old] ++ post) :
    Rows w0 (W.setCell ⟨g, o, none⟩ v) (A ++ ⟨r.e, r.k, r.v, r.n, pre ++ [v] ++ post⟩ :: C) := by
  subst ho
  exact h.set pre [old] post [v] hv hn hx rfl
/-- A block of the call's own is a row of one. -/
theorem row_one {base g k : Nat} {e : TypeId} {cs : List Value} (h : Bkt W g e cs.toArray) (hb : base ≤ g) (hk : cs.length = k) : W.ownsRow base e k (.slice (some ⟨g, 0, none⟩) 1 1) 1 cs :=
  ⟨by omega, .inr ⟨g, 1, cs.toArray, rfl, hb, h, Nat.le_refl _, by unfold maxLen; omega, by simp; omega, by rw [← hk]; simp⟩⟩
theorem row_one_blk {base g k : Nat} {e : TypeId} {cs : List Value} (h : W.ownsRow base e k (.slice (some ⟨g, 0, none⟩) 1 1) 1 cs) : Bkt W g e cs.toArray := by
  rcases h.2 with ⟨h0, _⟩ | ⟨g', cap', cur, h1, h2, h3, h4, h5, h6, h7⟩
  · cases h0
  · cases h1
    rw [List.take_of_length_le (by rw [Array.length_toList]; omega)] at h7
    rw [← h7]
    simpa [Bkt] using h3
end
end Go.Proofs.YtnoofdjlocadbaaGreatDoor
