/- TreeOpen: the walk on which the verdict is unknown. -/
import Derived.Test.YtceginnogbbpeaaAside
import Derived.Test.YtceginnogbbpeaaOpenFacts
import Derived.Deep.CutRange
import Derived.Deep.RegionHeld3
namespace Go.Proofs.Ytceginnogbbpeaa
open Go.RowKit Go.Shelf
set_option linter.unusedSimpArgs false

/-- A list of trees in a block of the call's own. -/
structure RowsAt (W : World) (ts : List Tree) (n g cap : Nat) : Prop where
  held : Held W.heap.size W 11 Tree.cells (.slice (some ⟨g, 0, none⟩) n cap) ts
  there : ∀ j, j < n → W.there g (j * 11) 11
  lt : g < W.heap.size
theorem RowsAt.same {W W' : World} {ts : List Tree} {n g cap : Nat} (h : RowsAt W ts n g cap) (hs : W.heap.size ≤ W'.heap.size) (he : W'.heap[g]? = W.heap[g]?) : RowsAt W' ts n g cap :=
  ⟨Held.same h.held hs he, fun j hj => there_same he (h.there j hj), Nat.lt_of_lt_of_le h.lt hs⟩
theorem pair_step {p q : Nat} {w : World} {t : TypeId} {cp cq : Array Value} (hpq : p ≠ q) (hp : Blk w p t cp) (hq : Blk w q t cq) (o : Nat) (u0 u1 v0 v1 : Value) :
    Aside p q w ((((w.setCell ⟨p, o, none⟩ u0).setCell ⟨p, o + 1, none⟩ u1).setCell ⟨q, o, none⟩ v0).setCell ⟨q, o + 1, none⟩ v1) ∧
    Blk ((((w.setCell ⟨p, o, none⟩ u0).setCell ⟨p, o + 1, none⟩ u1).setCell ⟨q, o, none⟩ v0).setCell ⟨q, o + 1, none⟩ v1) p t ((cp.setIfInBounds o u0).setIfInBounds (o + 1) u1) ∧
    Blk ((((w.setCell ⟨p, o, none⟩ u0).setCell ⟨p, o + 1, none⟩ u1).setCell ⟨q, o, none⟩ v0).setCell ⟨q, o + 1, none⟩ v1) q t ((cq.setIfInBounds o v0).setIfInBounds (o + 1) v1) := by
  refine ⟨?_, ?_, ?_⟩
  · exact Aside.setCells (g := q) (Aside.setCells (g := p) (Aside.refl p q w) (.inl rfl) o [u0, u1]) (.inr (.inl rfl)) o [v0, v1]
  · exact (((hp.set_ o u0).set_ (o + 1) u1).far (p := ⟨q, o, none⟩) hpq v0).far (p := ⟨q, o + 1, none⟩) hpq v1
  · exact (((hq.far (p := ⟨p, o, none⟩) (fun h => hpq h.symm) u0).far (p := ⟨p, o + 1, none⟩) (fun h => hpq h.symm) u1).set_ o v0).set_ (o + 1) v1
theorem pair_drew {p q : Nat} {w : World} {t : TypeId} {cp cq : Array Value} (hpq : p ≠ q) (hp : Blk w p t cp) (hq : Blk w q t cq) (o : Nat) (u0 u1 v0 v1 : Value) :
    Aside p q w ((((w.setCell ⟨p, o, none⟩ u0).setCell ⟨p, o + 1, none⟩ u1).setCell ⟨q, o, none⟩ v0).setCell ⟨q, o + 1, none⟩ v1).drew ∧
    Blk ((((w.setCell ⟨p, o, none⟩ u0).setCell ⟨p, o + 1, none⟩ u1).setCell ⟨q, o, none⟩ v0).setCell ⟨q, o + 1, none⟩ v1).drew p t ((cp.setIfInBounds o u0).setIfInBounds (o + 1) u1) ∧
    Blk ((((w.setCell ⟨p, o, none⟩ u0).setCell ⟨p, o + 1, none⟩ u1).setCell ⟨q, o, none⟩ v0).setCell ⟨q, o + 1, none⟩ v1).drew q t ((cq.setIfInBounds o v0).setIfInBounds (o + 1) v1) := by
  obtain ⟨h1, h2, h3⟩ := pair_step hpq hp hq o u0 u1 v0 v1
  exact ⟨h1.trans (Aside.drew p q _), h2.drawn, h3.drawn⟩
theorem rows_of {w : World} {base : Nat} {e : TypeId} {n g cap : Nat} {ts : List Tree} (h : w.ownsRow base e 11 (.slice (some ⟨g, 0, none⟩) n cap) n (flat Tree.cells ts)) (hts : ts.length = n) (hn : n ≤ 20) : RowsAt w ts n g cap ∧ base ≤ g := by
  obtain ⟨g', cap', hv, hgb, hgl, hgc, hheld, hthere⟩ := owned_held tree_eleven h hts (by omega) (by intro hh; cases hh)
  cases hv
  exact ⟨⟨hheld, hthere, hgl⟩, hgb⟩
theorem own_ne {g b n c : Nat} (h : g ≠ b) : some g ≠ (Value.slice (some ⟨b, 0, none⟩) n c).ownBlock := fun e => h (Option.some.inj e)
theorem own_le {B b n c : Nat} (h : B ≤ b) : ∀ r, (Value.slice (some ⟨b, 0, none⟩) n c).ownBlock = some r → B ≤ r := fun r e => by
  have e' : b = r := Option.some.inj e
  omega
theorem own_or {b g H : Nat} {n c : Nat} (h : (Value.slice (some ⟨b, 0, none⟩) n c).ownBlock = some g ∨ g = H) : g = b ∨ g = H := by
  rcases h with h | h
  · left; simp only [Value.ownBlock, Option.some.injEq] at h; exact h.symm
  · exact .inr h

set_option maxRecDepth 100000 in
set_option maxHeartbeats 16000000 in
theorem open_walk (age rest girth f0 f1 f2 heal : Int) (b off n c K : Nat) (code : ByteArray) (bmin bmax taped gmin gmax wmin wmax ga gb : Int) (sa : Option Addr) (sn sc : Nat) (ua : Option Addr) (un uc : Nat) (dead : Int) (strips : List (Int × Int)) (wounds : List Int) (which year height : Int) (r r2 : Int) (ts : List Tree) (w : World)
    (hw0 : 0 ≤ which) (hw1' : which ≤ 255) (hKe : which % (n : Int) = (K : Int)) (hKn : K < n) (hts : ts.length = n) (hn20 : n ≤ 20)
    (hRow : ∀ W, Below w.heap.size w W → W.rangeAt b (off + K * 11) [.string code, .int .i64 bmin, .int .i64 bmax, .int .i64 taped, .int .i64 gmin, .int .i64 gmax, .int .i64 wmin, .int .i64 wmax, .slice sa sn sc, .slice ua un uc, .int .i64 dead])
    (hTH : ∀ W, Below w.heap.size w W → Held W.heap.size W 11 Tree.cells (.slice (some ⟨b, off, none⟩) n c) ts ∧ ∀ t ∈ ts, TreeHeld W.heap.size W t)
    (hKt : ts[K]! = ⟨code, bmin, bmax, taped, gmin, gmax, wmin, wmax, .slice sa sn sc, .slice ua un uc, dead, strips, wounds⟩) (hones : ∀ t ∈ ts, ∀ u ∈ Tree.cells t, u.oneCell' = true)
    (hgrow : (year < taped ∧ ga = wmin ∧ gb = wmax) ∨ (¬ year < taped ∧ ga = wmax ∧ gb = wmin))
    (hGreat : ∀ W, Below w.heap.size w W → Calls Try.prog 9 #[.agg #[.int .i64 age, .int .i64 rest, .int .i64 girth, .int .i64 f0, .int .i64 f1, .int .i64 f2, .int .i64 heal, .slice (some ⟨b, off, none⟩) n c]] W (SomeBool W))
    (hCheck : ∀ W, Below w.heap.size w W → Calls Try.prog 10 #[.agg #[.int .i64 age, .int .i64 rest, .int .i64 girth, .int .i64 f0, .int .i64 f1, .int .i64 f2, .int .i64 heal, .slice (some ⟨b, off, none⟩) n c]] W fun e w' => e = .returned (.int .i64 0) ∧ Below W.heap.size W w')
    (hM : ∀ W, Below w.heap.size w W → Calls Try.prog 12 #[.agg #[.int .i64 age, .int .i64 rest, .int .i64 girth, .int .i64 f0, .int .i64 f1, .int .i64 f2, .int .i64 heal, .slice (some ⟨b, off, none⟩) n c], .int .i64 K, .int .i64 year, .int .i64 height] W fun e' w' => e' = .returned (.tuple #[.int .i64 0, .int .i64 r, .int .i64 0]) ∧ Below W.heap.size W w')
    (hMb : ∀ W g cap, Below w.heap.size w W → TreesHeld W.heap.size W (.slice (some ⟨g, 0, none⟩) n cap) (ts.set K ⟨code, bmin, bmin, taped, gmax, gmax, ga, ga, .slice sa sn sc, .slice ua un uc, dead, strips, wounds⟩) → Calls Try.prog 12 #[.agg #[.int .i64 age, .int .i64 rest, .int .i64 girth, .int .i64 f0, .int .i64 f1, .int .i64 f2, .int .i64 heal, .slice (some ⟨g, 0, none⟩) n cap], .int .i64 K, .int .i64 year, .int .i64 height] W fun e' w' => e' = .returned (.tuple #[.int .i64 1, .int .i64 0, .int .i64 0]) ∧ Below W.heap.size W w')
    (hMw : ∀ W g cap, Below w.heap.size w W → TreesHeld W.heap.size W (.slice (some ⟨g, 0, none⟩) n cap) (ts.set K ⟨code, bmax, bmax, taped, gmin, gmin, gb, gb, .slice sa sn sc, .slice ua un uc, dead, strips, wounds⟩) → Calls Try.prog 12 #[.agg #[.int .i64 age, .int .i64 rest, .int .i64 girth, .int .i64 f0, .int .i64 f1, .int .i64 f2, .int .i64 heal, .slice (some ⟨g, 0, none⟩) n cap], .int .i64 K, .int .i64 year, .int .i64 height] W fun e' w' => e' = .returned (.tuple #[.int .i64 2, .int .i64 r2, .int .i64 0]) ∧ Below W.heap.size W w')
    (hr2 : ¬ r2 = 0) :
    Calls Try.prog 4 #[.agg #[.int .i64 age, .int .i64 rest, .int .i64 girth, .int .i64 f0, .int .i64 f1, .int .i64 f2, .int .i64 heal, .slice (some ⟨b, off, none⟩) n c], .int .u8 which, .int .i64 year, .int .i64 height] w fun e w' => e = .returned (.bool true) ∧ Below w.heap.size w w' := by
  have HGreat := Lib.hid hGreat; clear hGreat
  have HCheck := Lib.hid hCheck; clear hCheck
  have HM := Lib.hid hM; clear hM
  have HRow := Lib.hid hRow; clear hRow
  have HTH := Lib.hid hTH; clear hTH
  have HKt := Lib.hid hKt; clear hKt
  have Hones := Lib.hid hones; clear hones
  have HMb := Lib.hid hMb; clear hMb
  have HMw := Lib.hid hMw; clear hMw
  have Hts := Lib.hid hts; clear hts
  have Hgrow := Lib.hid hgrow; clear hgrow
  have Hr2 := Lib.hid (bne_iff_ne.2 hr2); clear hr2
  have HO := Lib.hid (show ([.string code, .int .i64 bmin, .int .i64 bmax, .int .i64 taped, .int .i64 gmin, .int .i64 gmax, .int .i64 wmin, .int .i64 wmax, .slice sa sn sc, .slice ua un uc, .int .i64 dead] : List Value).toArray.all (·.oneCell') = true from by simp [Value.oneCell'])
  have HOB := Lib.hid (show ([.string code, .int .i64 bmin, .int .i64 bmin, .int .i64 taped, .int .i64 gmax, .int .i64 gmax, .int .i64 ga, .int .i64 ga, .slice sa sn sc, .slice ua un uc, .int .i64 dead] : List Value).toArray.all (·.oneCell') = true from by simp [Value.oneCell'])
  have HOW := Lib.hid (show ([.string code, .int .i64 bmax, .int .i64 bmax, .int .i64 taped, .int .i64 gmin, .int .i64 gmin, .int .i64 gb, .int .i64 gb, .slice sa sn sc, .slice ua un uc, .int .i64 dead] : List Value).toArray.all (·.oneCell') = true from by simp [Value.oneCell'])
  have HOF := Lib.hid (show ([.int .i64 age, .int .i64 rest, .int .i64 girth, .int .i64 f0, .int .i64 f1, .int .i64 f2, .int .i64 heal, .slice (some ⟨b, off, none⟩) n c] : List Value).toArray.all (·.oneCell') = true from by simp [Value.oneCell'])
  obtain ⟨i1, hi1, hi1a, hi1b, hi1c⟩ := info_parts info_tree
  have HJ1 := Lib.hid hi1; clear hi1
  have HJ1a := Lib.hid hi1a; clear hi1a
  have HJ1b := Lib.hid hi1b; clear hi1b
  have HJ1c := Lib.hid hi1c; clear hi1c
  have HFL := Lib.hid (show (flat Tree.cells ts).length = n * 11 from by rw [flat_length tree_eleven, Hts.out])
  have HFO := Lib.hid (show ∀ u ∈ flat Tree.cells ts, u.oneCell' = true from flat_ones_of Hones.out)
  have hB0 := Lib.hid (show Below w.heap.size w (w.alloc (.cells #[.int .i64 age, .int .i64 rest, .int .i64 girth, .int .i64 f0, .int .i64 f1, .int .i64 f2, .int .i64 heal, .slice (some ⟨b, off, none⟩) n c] 27)) from (Below.refl _ _).alloc (Nat.le_refl _) _)
  have K0 := Lib.hid (Blk.new w 27 #[.int .i64 age, .int .i64 rest, .int .i64 girth, .int .i64 f0, .int .i64 f1, .int .i64 f2, .int .i64 heal, .slice (some ⟨b, off, none⟩) n c])
  have hn1 : (0 : Int) < (n : Int) := by omega
  have hnb : ((n : Int) == 0) = false := by simp; omega
  have hKn' : (K : Int) < (n : Int) := by omega
  go_enter Try.func4, Try.ntmps4
  go_wp2_with fail
  refine (HGreat.out _ hB0.out).mono ?_
  rintro e w1 ⟨b1, rfl, hw1⟩
  have hB1 := hB0.out.trans (hw1.mono hB0.out.size)
  have X1 := Lib.hid (K0.out.below hw1 K0.out.lt)
  clear K0 hB0 hw1
  cases b1
  · obtain ⟨g0, g1, g2, g3, g4, g5, g6, g7⟩ : Boxed w1 w.heap.size ⟨age, rest, girth, f0, f1, f2, heal⟩ (some ⟨b, off, none⟩) n c := Boxed.of X1.out
    dsimp only at g0 g1 g2 g3 g4 g5 g6
    go_wp2_with fail
    refine (HCheck.out _ hB1).mono ?_
    rintro e w2 ⟨rfl, hw2⟩
    clear g0 g1 g2 g3 g4 g5 g6 g7
    have hB2 := hB1.trans (hw2.mono hB1.size)
    have X2 := Lib.hid (X1.out.below hw2 X1.out.lt)
    clear hw2 X1
    obtain ⟨g0, g1, g2, g3, g4, g5, g6, g7⟩ : Boxed w2 w.heap.size ⟨age, rest, girth, f0, f1, f2, heal⟩ (some ⟨b, off, none⟩) n c := Boxed.of X2.out
    dsimp only at g0 g1 g2 g3 g4 g5 g6
    go_wp2_with fail
    refine (HM.out _ hB2).mono ?_
    rintro e w3 ⟨rfl, hw3⟩
    clear g0 g1 g2 g3 g4 g5 g6 g7
    have hB3 := hB2.trans (hw3.mono hB2.size)
    have X3 := Lib.hid (X2.out.below hw3 X2.out.lt)
    have hz3 : w.heap.size < w3.heap.size := X3.out.lt
    clear hw3 X2 hB1 hB2
    go_wp2_with fail
    go_cut [13, 14] from 65 to 66 (fun s t wx => ∃ x y : Nat, s = .pointer (some ⟨x, 0, none⟩) ∧ t = .pointer (some ⟨y, 0, none⟩) ∧ Twins w3 wx 27 #[.int .i64 age, .int .i64 rest, .int .i64 girth, .int .i64 f0, .int .i64 f1, .int .i64 f2, .int .i64 heal, .slice (some ⟨b, off, none⟩) n c] x y)
    case first =>
      refine wp_region_held_drew (S := fun w' => w'.rangeAt w.heap.size 0 [.int .i64 age, .int .i64 rest, .int .i64 girth, .int .i64 f0, .int .i64 f1, .int .i64 f2, .int .i64 heal, .slice (some ⟨b, off, none⟩) n c]) (by kernel_rfl) X3.out.range (fun hH => ?_)
      have hX0 := Lib.hid X3.out.drawn
      have hav := Lib.hid (fun p q => Aside.drew p q w3)
      have hsz : w3.heap.size ≤ w3.drew.heap.size := Nat.le_refl _
      generalize w3.drew = V at hH hX0 hav hsz ⊢
      refine take_at (i := 0) rfl rfl (by kernel_rfl) (by kernel_rfl) (by kernel_rfl) (fun _ _ _ h => h) (yieldsIf_load_mid (by rfl) 27 (.tmp 4) rfl w.heap.size 0 rfl [.int .i64 age, .int .i64 rest, .int .i64 girth, .int .i64 f0, .int .i64 f1, .int .i64 f2, .int .i64 heal, .slice (some ⟨b, off, none⟩) n c] _ (fun _ h => h) Try.underlying27 rfl size_forest) hH ?_
      try simp only [Act.put, List.setIfInBounds_toArray, List.set_cons_zero, List.set_cons_succ]
      refine take_at (i := 1) rfl rfl (by kernel_rfl) (by kernel_rfl) (by kernel_rfl) (fun _ _ _ h => h) (yieldsIf_load_mid (by rfl) 27 (.tmp 4) rfl w.heap.size 0 rfl [.int .i64 age, .int .i64 rest, .int .i64 girth, .int .i64 f0, .int .i64 f1, .int .i64 f2, .int .i64 heal, .slice (some ⟨b, off, none⟩) n c] _ (fun _ h => h) Try.underlying27 rfl size_forest) hH ?_
      try simp only [Act.put, List.setIfInBounds_toArray, List.set_cons_zero, List.set_cons_succ]
      refine wpAnyH_ready (rs := [2, 3]) (by kernel_rfl) (by simp) ?_
      refine AllReadyH.cons rfl (fun K hK => ?_) (AllReadyH.cons rfl (fun K hK => ?_) AllReadyH.nil)
      · rw [if_pos (by rfl)]
        go_simp
        refine hK.out _ _ ((hX0.out.alloc _).range) (fun hH1 => ?_)
        clear hK K
        try simp only [Act.put, List.setIfInBounds_toArray, List.set_cons_zero, List.set_cons_succ]
        refine wpAnyH_ready (rs := [3]) (by kernel_rfl) (by simp) ?_
        refine AllReadyH.cons rfl (fun K hK => ?_) AllReadyH.nil
        rw [if_pos (by rfl)]
        go_simp
        refine hK.out _ _ (((hX0.out.alloc _).alloc _).range) (fun hH2 => ?_)
        clear hK K hH1
        try simp only [Act.put, List.setIfInBounds_toArray, List.set_cons_zero, List.set_cons_succ]
        have ba : Blk ((V.alloc (.cells #[.int .i64 0, .int .i64 0, .int .i64 0, .int .i64 0, .int .i64 0, .int .i64 0, .int .i64 0, .slice none 0 0] 27)).alloc (.cells #[.int .i64 0, .int .i64 0, .int .i64 0, .int .i64 0, .int .i64 0, .int .i64 0, .int .i64 0, .slice none 0 0] 27)) V.heap.size 27 #[.int .i64 0, .int .i64 0, .int .i64 0, .int .i64 0, .int .i64 0, .int .i64 0, .int .i64 0, .slice none 0 0] := (Blk.new V 27 #[.int .i64 0, .int .i64 0, .int .i64 0, .int .i64 0, .int .i64 0, .int .i64 0, .int .i64 0, .slice none 0 0]).alloc _
        have bb : Blk ((V.alloc (.cells #[.int .i64 0, .int .i64 0, .int .i64 0, .int .i64 0, .int .i64 0, .int .i64 0, .int .i64 0, .slice none 0 0] 27)).alloc (.cells #[.int .i64 0, .int .i64 0, .int .i64 0, .int .i64 0, .int .i64 0, .int .i64 0, .int .i64 0, .slice none 0 0] 27)) (V.heap.size + 1) 27 #[.int .i64 0, .int .i64 0, .int .i64 0, .int .i64 0, .int .i64 0, .int .i64 0, .int .i64 0, .slice none 0 0] := Blk.new' (by rw [World.size_alloc]) 27 #[.int .i64 0, .int .i64 0, .int .i64 0, .int .i64 0, .int .i64 0, .int .i64 0, .int .i64 0, .slice none 0 0]
        have av : Aside V.heap.size (V.heap.size + 1) w3 ((V.alloc (.cells #[.int .i64 0, .int .i64 0, .int .i64 0, .int .i64 0, .int .i64 0, .int .i64 0, .int .i64 0, .slice none 0 0] 27)).alloc (.cells #[.int .i64 0, .int .i64 0, .int .i64 0, .int .i64 0, .int .i64 0, .int .i64 0, .int .i64 0, .slice none 0 0] 27)) := ((hav.out _ _).trans (Aside.alloc _ _ _ _)).trans (Aside.alloc _ _ _ _)
        have bs : Blk ((V.alloc (.cells #[.int .i64 0, .int .i64 0, .int .i64 0, .int .i64 0, .int .i64 0, .int .i64 0, .int .i64 0, .slice none 0 0] 27)).alloc (.cells #[.int .i64 0, .int .i64 0, .int .i64 0, .int .i64 0, .int .i64 0, .int .i64 0, .int .i64 0, .slice none 0 0] 27)) w.heap.size _ _ := (hX0.out.alloc _).alloc _
        generalize ((V.alloc (.cells #[.int .i64 0, .int .i64 0, .int .i64 0, .int .i64 0, .int .i64 0, .int .i64 0, .int .i64 0, .slice none 0 0] 27)).alloc (.cells #[.int .i64 0, .int .i64 0, .int .i64 0, .int .i64 0, .int .i64 0, .int .i64 0, .int .i64 0, .slice none 0 0] 27)) = W2 at ba bb av bs hH2 ⊢
        refine wpAnyH_ready (rs := [4]) (by kernel_rfl) (by simp) ?_
        refine AllReadyH.cons rfl (fun K hK => ?_) AllReadyH.nil
        rw [if_pos (by rfl)]
        refine wp_store_mid 27 (.tmp 13) (.tmp 65) rfl V.heap.size 0 #[.int .i64 age, .int .i64 rest, .int .i64 girth, .int .i64 f0, .int .i64 f1, .int .i64 f2, .int .i64 heal, .slice (some ⟨b, off, none⟩) n c] rfl rfl (ba.thereOf (o := 0) (n := 8) (Nat.le_of_ble_eq_true rfl)) size_forest HOF.out ?_
        have ba' := Lib.hid (show Blk (W2.setCells V.heap.size 0 [.int .i64 age, .int .i64 rest, .int .i64 girth, .int .i64 f0, .int .i64 f1, .int .i64 f2, .int .i64 heal, .slice (some ⟨b, off, none⟩) n c]) V.heap.size 27 #[.int .i64 age, .int .i64 rest, .int .i64 girth, .int .i64 f0, .int .i64 f1, .int .i64 f2, .int .i64 heal, .slice (some ⟨b, off, none⟩) n c] from ba.stored [.int .i64 age, .int .i64 rest, .int .i64 girth, .int .i64 f0, .int .i64 f1, .int .i64 f2, .int .i64 heal, .slice (some ⟨b, off, none⟩) n c] rfl)
        have bb' := Lib.hid (bb.apart (show (V.heap.size + 1) ≠ V.heap.size by omega) 0 [.int .i64 age, .int .i64 rest, .int .i64 girth, .int .i64 f0, .int .i64 f1, .int .i64 f2, .int .i64 heal, .slice (some ⟨b, off, none⟩) n c])
        have av' := Lib.hid (av.setCells (show V.heap.size = V.heap.size ∨ V.heap.size = (V.heap.size + 1) ∨ _ by omega) 0 [.int .i64 age, .int .i64 rest, .int .i64 girth, .int .i64 f0, .int .i64 f1, .int .i64 f2, .int .i64 heal, .slice (some ⟨b, off, none⟩) n c])
        have bs' := Lib.hid (bs.apart (show w.heap.size ≠ V.heap.size by have := hX0.out.lt; omega) 0 [.int .i64 age, .int .i64 rest, .int .i64 girth, .int .i64 f0, .int .i64 f1, .int .i64 f2, .int .i64 heal, .slice (some ⟨b, off, none⟩) n c])
        refine hK.out _ _ bs'.out.range (fun hH3 => ?_)
        clear hK K hH2 ba bb av bs
        try simp only [Act.put, List.setIfInBounds_toArray, List.set_cons_zero, List.set_cons_succ]
        change wpAnyH _ _ _ _ _ _ _ _ (W2.setCells V.heap.size 0 [.int .i64 age, .int .i64 rest, .int .i64 girth, .int .i64 f0, .int .i64 f1, .int .i64 f2, .int .i64 heal, .slice (some ⟨b, off, none⟩) n c])
        generalize W2.setCells V.heap.size 0 [.int .i64 age, .int .i64 rest, .int .i64 girth, .int .i64 f0, .int .i64 f1, .int .i64 f2, .int .i64 heal, .slice (some ⟨b, off, none⟩) n c] = W3 at ba' bb' av' bs' hH3 ⊢
        have hH2 := hH3; clear hH3
        have ba := ba'.out; have bb := bb'.out; have av := av'.out; have bs := bs'.out; clear ba' bb' av' bs'
        refine wpAnyH_ready (rs := [5]) (by kernel_rfl) (by simp) ?_
        refine AllReadyH.cons rfl (fun K hK => ?_) AllReadyH.nil
        rw [if_pos (by rfl)]
        refine wp_store_mid 27 (.tmp 14) (.tmp 66) rfl (V.heap.size + 1) 0 #[.int .i64 age, .int .i64 rest, .int .i64 girth, .int .i64 f0, .int .i64 f1, .int .i64 f2, .int .i64 heal, .slice (some ⟨b, off, none⟩) n c] rfl rfl (bb.thereOf (o := 0) (n := 8) (Nat.le_of_ble_eq_true rfl)) size_forest HOF.out ?_
        have bb' := Lib.hid (show Blk (W3.setCells (V.heap.size + 1) 0 [.int .i64 age, .int .i64 rest, .int .i64 girth, .int .i64 f0, .int .i64 f1, .int .i64 f2, .int .i64 heal, .slice (some ⟨b, off, none⟩) n c]) (V.heap.size + 1) 27 #[.int .i64 age, .int .i64 rest, .int .i64 girth, .int .i64 f0, .int .i64 f1, .int .i64 f2, .int .i64 heal, .slice (some ⟨b, off, none⟩) n c] from bb.stored [.int .i64 age, .int .i64 rest, .int .i64 girth, .int .i64 f0, .int .i64 f1, .int .i64 f2, .int .i64 heal, .slice (some ⟨b, off, none⟩) n c] rfl)
        have ba' := Lib.hid (ba.apart (show V.heap.size ≠ (V.heap.size + 1) by omega) 0 [.int .i64 age, .int .i64 rest, .int .i64 girth, .int .i64 f0, .int .i64 f1, .int .i64 f2, .int .i64 heal, .slice (some ⟨b, off, none⟩) n c])
        have av' := Lib.hid (av.setCells (show (V.heap.size + 1) = V.heap.size ∨ (V.heap.size + 1) = (V.heap.size + 1) ∨ _ by omega) 0 [.int .i64 age, .int .i64 rest, .int .i64 girth, .int .i64 f0, .int .i64 f1, .int .i64 f2, .int .i64 heal, .slice (some ⟨b, off, none⟩) n c])
        have bs' := Lib.hid (bs.apart (show w.heap.size ≠ (V.heap.size + 1) by have := hX0.out.lt; omega) 0 [.int .i64 age, .int .i64 rest, .int .i64 girth, .int .i64 f0, .int .i64 f1, .int .i64 f2, .int .i64 heal, .slice (some ⟨b, off, none⟩) n c])
        refine hK.out _ _ bs'.out.range (fun hH3 => ?_)
        clear hK K hH2 ba bb av bs
        try simp only [Act.put, List.setIfInBounds_toArray, List.set_cons_zero, List.set_cons_succ]
        change wpAnyH _ _ _ _ _ _ _ _ (W3.setCells (V.heap.size + 1) 0 [.int .i64 age, .int .i64 rest, .int .i64 girth, .int .i64 f0, .int .i64 f1, .int .i64 f2, .int .i64 heal, .slice (some ⟨b, off, none⟩) n c])
        generalize W3.setCells (V.heap.size + 1) 0 [.int .i64 age, .int .i64 rest, .int .i64 girth, .int .i64 f0, .int .i64 f1, .int .i64 f2, .int .i64 heal, .slice (some ⟨b, off, none⟩) n c] = W4 at bb' ba' av' bs' hH3 ⊢
        have hH2 := hH3; clear hH3
        have ba := ba'.out; have bb := bb'.out; have av := av'.out; have bs := bs'.out; clear ba' bb' av' bs'
        refine wpAnyH_done (by kernel_rfl) ?_ _
        go_wp2_with fail
        go_meet
        case rel => exact ⟨V.heap.size, (V.heap.size + 1), rfl, rfl, ⟨by omega, by omega, by omega, av, ba, bb⟩⟩
      · rw [if_pos (by rfl)]
        go_simp
        refine hK.out _ _ ((hX0.out.alloc _).range) (fun hH1 => ?_)
        clear hK K
        try simp only [Act.put, List.setIfInBounds_toArray, List.set_cons_zero, List.set_cons_succ]
        refine wpAnyH_ready (rs := [2]) (by kernel_rfl) (by simp) ?_
        refine AllReadyH.cons rfl (fun K hK => ?_) AllReadyH.nil
        rw [if_pos (by rfl)]
        go_simp
        refine hK.out _ _ (((hX0.out.alloc _).alloc _).range) (fun hH2 => ?_)
        clear hK K hH1
        try simp only [Act.put, List.setIfInBounds_toArray, List.set_cons_zero, List.set_cons_succ]
        have ba : Blk ((V.alloc (.cells #[.int .i64 0, .int .i64 0, .int .i64 0, .int .i64 0, .int .i64 0, .int .i64 0, .int .i64 0, .slice none 0 0] 27)).alloc (.cells #[.int .i64 0, .int .i64 0, .int .i64 0, .int .i64 0, .int .i64 0, .int .i64 0, .int .i64 0, .slice none 0 0] 27)) V.heap.size 27 #[.int .i64 0, .int .i64 0, .int .i64 0, .int .i64 0, .int .i64 0, .int .i64 0, .int .i64 0, .slice none 0 0] := (Blk.new V 27 #[.int .i64 0, .int .i64 0, .int .i64 0, .int .i64 0, .int .i64 0, .int .i64 0, .int .i64 0, .slice none 0 0]).alloc _
        have bb : Blk ((V.alloc (.cells #[.int .i64 0, .int .i64 0, .int .i64 0, .int .i64 0, .int .i64 0, .int .i64 0, .int .i64 0, .slice none 0 0] 27)).alloc (.cells #[.int .i64 0, .int .i64 0, .int .i64 0, .int .i64 0, .int .i64 0, .int .i64 0, .int .i64 0, .slice none 0 0] 27)) (V.heap.size + 1) 27 #[.int .i64 0, .int .i64 0, .int .i64 0, .int .i64 0, .int .i64 0, .int .i64 0, .int .i64 0, .slice none 0 0] := Blk.new' (by rw [World.size_alloc]) 27 #[.int .i64 0, .int .i64 0, .int .i64 0, .int .i64 0, .int .i64 0, .int .i64 0, .int .i64 0, .slice none 0 0]
        have av : Aside (V.heap.size + 1) V.heap.size w3 ((V.alloc (.cells #[.int .i64 0, .int .i64 0, .int .i64 0, .int .i64 0, .int .i64 0, .int .i64 0, .int .i64 0, .slice none 0 0] 27)).alloc (.cells #[.int .i64 0, .int .i64 0, .int .i64 0, .int .i64 0, .int .i64 0, .int .i64 0, .int .i64 0, .slice none 0 0] 27)) := ((hav.out _ _).trans (Aside.alloc _ _ _ _)).trans (Aside.alloc _ _ _ _)
        have bs : Blk ((V.alloc (.cells #[.int .i64 0, .int .i64 0, .int .i64 0, .int .i64 0, .int .i64 0, .int .i64 0, .int .i64 0, .slice none 0 0] 27)).alloc (.cells #[.int .i64 0, .int .i64 0, .int .i64 0, .int .i64 0, .int .i64 0, .int .i64 0, .int .i64 0, .slice none 0 0] 27)) w.heap.size _ _ := (hX0.out.alloc _).alloc _
        generalize ((V.alloc (.cells #[.int .i64 0, .int .i64 0, .int .i64 0, .int .i64 0, .int .i64 0, .int .i64 0, .int .i64 0, .slice none 0 0] 27)).alloc (.cells #[.int .i64 0, .int .i64 0, .int .i64 0, .int .i64 0, .int .i64 0, .int .i64 0, .int .i64 0, .slice none 0 0] 27)) = W2 at ba bb av bs hH2 ⊢
        refine wpAnyH_ready (rs := [4]) (by kernel_rfl) (by simp) ?_
        refine AllReadyH.cons rfl (fun K hK => ?_) AllReadyH.nil
        rw [if_pos (by rfl)]
        refine wp_store_mid 27 (.tmp 13) (.tmp 65) rfl (V.heap.size + 1) 0 #[.int .i64 age, .int .i64 rest, .int .i64 girth, .int .i64 f0, .int .i64 f1, .int .i64 f2, .int .i64 heal, .slice (some ⟨b, off, none⟩) n c] rfl rfl (bb.thereOf (o := 0) (n := 8) (Nat.le_of_ble_eq_true rfl)) size_forest HOF.out ?_
        have bb' := Lib.hid (show Blk (W2.setCells (V.heap.size + 1) 0 [.int .i64 age, .int .i64 rest, .int .i64 girth, .int .i64 f0, .int .i64 f1, .int .i64 f2, .int .i64 heal, .slice (some ⟨b, off, none⟩) n c]) (V.heap.size + 1) 27 #[.int .i64 age, .int .i64 rest, .int .i64 girth, .int .i64 f0, .int .i64 f1, .int .i64 f2, .int .i64 heal, .slice (some ⟨b, off, none⟩) n c] from bb.stored [.int .i64 age, .int .i64 rest, .int .i64 girth, .int .i64 f0, .int .i64 f1, .int .i64 f2, .int .i64 heal, .slice (some ⟨b, off, none⟩) n c] rfl)
        have ba' := Lib.hid (ba.apart (show V.heap.size ≠ (V.heap.size + 1) by omega) 0 [.int .i64 age, .int .i64 rest, .int .i64 girth, .int .i64 f0, .int .i64 f1, .int .i64 f2, .int .i64 heal, .slice (some ⟨b, off, none⟩) n c])
        have av' := Lib.hid (av.setCells (show (V.heap.size + 1) = (V.heap.size + 1) ∨ (V.heap.size + 1) = V.heap.size ∨ _ by omega) 0 [.int .i64 age, .int .i64 rest, .int .i64 girth, .int .i64 f0, .int .i64 f1, .int .i64 f2, .int .i64 heal, .slice (some ⟨b, off, none⟩) n c])
        have bs' := Lib.hid (bs.apart (show w.heap.size ≠ (V.heap.size + 1) by have := hX0.out.lt; omega) 0 [.int .i64 age, .int .i64 rest, .int .i64 girth, .int .i64 f0, .int .i64 f1, .int .i64 f2, .int .i64 heal, .slice (some ⟨b, off, none⟩) n c])
        refine hK.out _ _ bs'.out.range (fun hH3 => ?_)
        clear hK K hH2 ba bb av bs
        try simp only [Act.put, List.setIfInBounds_toArray, List.set_cons_zero, List.set_cons_succ]
        change wpAnyH _ _ _ _ _ _ _ _ (W2.setCells (V.heap.size + 1) 0 [.int .i64 age, .int .i64 rest, .int .i64 girth, .int .i64 f0, .int .i64 f1, .int .i64 f2, .int .i64 heal, .slice (some ⟨b, off, none⟩) n c])
        generalize W2.setCells (V.heap.size + 1) 0 [.int .i64 age, .int .i64 rest, .int .i64 girth, .int .i64 f0, .int .i64 f1, .int .i64 f2, .int .i64 heal, .slice (some ⟨b, off, none⟩) n c] = W3 at bb' ba' av' bs' hH3 ⊢
        have hH2 := hH3; clear hH3
        have ba := ba'.out; have bb := bb'.out; have av := av'.out; have bs := bs'.out; clear ba' bb' av' bs'
        refine wpAnyH_ready (rs := [5]) (by kernel_rfl) (by simp) ?_
        refine AllReadyH.cons rfl (fun K hK => ?_) AllReadyH.nil
        rw [if_pos (by rfl)]
        refine wp_store_mid 27 (.tmp 14) (.tmp 66) rfl V.heap.size 0 #[.int .i64 age, .int .i64 rest, .int .i64 girth, .int .i64 f0, .int .i64 f1, .int .i64 f2, .int .i64 heal, .slice (some ⟨b, off, none⟩) n c] rfl rfl (ba.thereOf (o := 0) (n := 8) (Nat.le_of_ble_eq_true rfl)) size_forest HOF.out ?_
        have ba' := Lib.hid (show Blk (W3.setCells V.heap.size 0 [.int .i64 age, .int .i64 rest, .int .i64 girth, .int .i64 f0, .int .i64 f1, .int .i64 f2, .int .i64 heal, .slice (some ⟨b, off, none⟩) n c]) V.heap.size 27 #[.int .i64 age, .int .i64 rest, .int .i64 girth, .int .i64 f0, .int .i64 f1, .int .i64 f2, .int .i64 heal, .slice (some ⟨b, off, none⟩) n c] from ba.stored [.int .i64 age, .int .i64 rest, .int .i64 girth, .int .i64 f0, .int .i64 f1, .int .i64 f2, .int .i64 heal, .slice (some ⟨b, off, none⟩) n c] rfl)
        have bb' := Lib.hid (bb.apart (show (V.heap.size + 1) ≠ V.heap.size by omega) 0 [.int .i64 age, .int .i64 rest, .int .i64 girth, .int .i64 f0, .int .i64 f1, .int .i64 f2, .int .i64 heal, .slice (some ⟨b, off, none⟩) n c])
        have av' := Lib.hid (av.setCells (show V.heap.size = (V.heap.size + 1) ∨ V.heap.size = V.heap.size ∨ _ by omega) 0 [.int .i64 age, .int .i64 rest, .int .i64 girth, .int .i64 f0, .int .i64 f1, .int .i64 f2, .int .i64 heal, .slice (some ⟨b, off, none⟩) n c])
        have bs' := Lib.hid (bs.apart (show w.heap.size ≠ V.heap.size by have := hX0.out.lt; omega) 0 [.int .i64 age, .int .i64 rest, .int .i64 girth, .int .i64 f0, .int .i64 f1, .int .i64 f2, .int .i64 heal, .slice (some ⟨b, off, none⟩) n c])
        refine hK.out _ _ bs'.out.range (fun hH3 => ?_)
        clear hK K hH2 ba bb av bs
        try simp only [Act.put, List.setIfInBounds_toArray, List.set_cons_zero, List.set_cons_succ]
        change wpAnyH _ _ _ _ _ _ _ _ (W3.setCells V.heap.size 0 [.int .i64 age, .int .i64 rest, .int .i64 girth, .int .i64 f0, .int .i64 f1, .int .i64 f2, .int .i64 heal, .slice (some ⟨b, off, none⟩) n c])
        generalize W3.setCells V.heap.size 0 [.int .i64 age, .int .i64 rest, .int .i64 girth, .int .i64 f0, .int .i64 f1, .int .i64 f2, .int .i64 heal, .slice (some ⟨b, off, none⟩) n c] = W4 at ba' bb' av' bs' hH3 ⊢
        have hH2 := hH3; clear hH3
        have ba := ba'.out; have bb := bb'.out; have av := av'.out; have bs := bs'.out; clear ba' bb' av' bs'
        refine wpAnyH_done (by kernel_rfl) ?_ _
        go_wp2_with fail
        go_meet
        case rel => exact ⟨(V.heap.size + 1), V.heap.size, rfl, rfl, ⟨by omega, by omega, by omega, av, bb, ba⟩⟩
    case rest =>
      obtain ⟨x, y, hx, hy, htw⟩ := hcut
      subst hx hy
      generalize hwA : wc = wA at htw ⊢
      clear hwA
      have hBA := Lib.hid (htw.below hB3 (by omega))
      have hxA := htw.bx.lt
      have hyA := htw.by_.lt
      have hxw : w.heap.size < x := Nat.lt_of_lt_of_le hz3 htw.hx
      have hyw : w.heap.size < y := Nat.lt_of_lt_of_le hz3 htw.hy
      have hxy := htw.ne
      have hsA : w.heap.size < wA.heap.size := by omega
      have XA := Lib.hid (htw.aside.blk X3.out (by omega) (by omega))
      have BXA := Lib.hid htw.bx
      have BYA := Lib.hid htw.by_
      clear htw X3 hB3 hz3
      go_wp2_with fail
      go_cut [] from 67 to 76 (fun wx => ∃ g1 c1 g2 c2 : Nat, Aside x y wA wx ∧ wA.heap.size ≤ g1 ∧ wA.heap.size ≤ g2 ∧ g1 ≠ g2 ∧ Blk wx x 27 #[.int .i64 age, .int .i64 rest, .int .i64 girth, .int .i64 f0, .int .i64 f1, .int .i64 f2, .int .i64 heal, .slice (some ⟨g1, 0, none⟩) n c1] ∧ Blk wx y 27 #[.int .i64 age, .int .i64 rest, .int .i64 girth, .int .i64 f0, .int .i64 f1, .int .i64 f2, .int .i64 heal, .slice (some ⟨g2, 0, none⟩) n c2] ∧ RowsAt wx ts n g1 c1 ∧ RowsAt wx ts n g2 c2)
      case first =>
        refine wp_region_held_drew (S := (fun w' => w'.cell? ⟨w.heap.size, 7, none⟩ = some (.slice (some ⟨b, off, none⟩) n c))) (by kernel_rfl) (XA.out.drawn.cell 7) (fun hH0 => ?_)
        have as0 := Lib.hid (Aside.drew x y wA)
        have bs0 := Lib.hid XA.out.drawn
        have bx0 := Lib.hid BXA.out.drawn
        have by0 := Lib.hid BYA.out.drawn
        have hle0 : wA.heap.size ≤ wA.drew.heap.size := Nat.le_refl _
        generalize wA.drew = W0 at hH0 as0 bs0 bx0 by0 hle0 ⊢
        refine take_at (i := 1) (v := ?_) rfl rfl (by kernel_rfl) (by kernel_rfl) (by kernel_rfl) (fun _ _ _ h => h) (Or.inl ⟨by rfl, ?_⟩) hH0 ?_
        rotate_left
        · intro w' hSw
          (try dsimp only at hSw)
          go_simp
          try with_reducible rfl
        try simp only [Act.put, List.setIfInBounds_toArray, List.set_cons_zero, List.set_cons_succ]
        refine take_at (i := 2) (v := ?_) rfl rfl (by kernel_rfl) (by kernel_rfl) (by kernel_rfl) (fun _ _ _ h => h) (Or.inl ⟨by rfl, ?_⟩) hH0 ?_
        rotate_left
        · intro w' hSw
          (try dsimp only at hSw)
          go_simp
          try with_reducible rfl
        try simp only [Act.put, List.setIfInBounds_toArray, List.set_cons_zero, List.set_cons_succ]
        refine take_at (i := 5) (v := ?_) rfl rfl (by kernel_rfl) (by kernel_rfl) (by kernel_rfl) (fun _ _ _ h => h) (Or.inl ⟨by rfl, ?_⟩) hH0 ?_
        rotate_left
        · intro w' hSw
          (try dsimp only at hSw)
          go_simp
          try with_reducible rfl
        try simp only [Act.put, List.setIfInBounds_toArray, List.set_cons_zero, List.set_cons_succ]
        refine take_at (i := 6) (v := ?_) rfl rfl (by kernel_rfl) (by kernel_rfl) (by kernel_rfl) (fun _ _ _ h => h) (Or.inl ⟨by rfl, ?_⟩) hH0 ?_
        rotate_left
        · intro w' hSw
          (try dsimp only at hSw)
          go_simp
          try with_reducible rfl
        try simp only [Act.put, List.setIfInBounds_toArray, List.set_cons_zero, List.set_cons_succ]
        refine wpAnyH_ready (rs := [0, 4]) (by kernel_rfl) (by simp) ?_
        refine AllReadyH.cons rfl (fun K hK => ?_) (AllReadyH.cons rfl (fun K hK => ?_) (AllReadyH.nil))
        · rw [if_pos (by rfl)]
          go_simp
          refine hK.out _ _ ((bs0.out.alloc _).cell 7) (fun hH1 => ?_)
          clear hK K
          try simp only [Act.put, List.setIfInBounds_toArray, List.set_cons_zero, List.set_cons_succ]
          have as1 := Lib.hid (as0.out.trans (Aside.alloc x y W0 (.cells #[] 48)))
          have bs1 := Lib.hid (bs0.out.alloc (.cells #[] 48))
          have bx1 := Lib.hid (bx0.out.alloc (.cells #[] 48))
          have by1 := Lib.hid (by0.out.alloc (.cells #[] 48))
          have nb1_1 := Lib.hid (Blk.new W0 48 #[])
          have hle1 : wA.heap.size ≤ (W0.alloc (.cells #[] 48)).heap.size := by rw [World.size_alloc]; omega
          generalize (W0.alloc (.cells #[] 48)) = W1 at hH1 as1 bs1 bx1 by1 hle1 nb1_1 ⊢
          clear hH0 as0 bs0 bx0 by0  
          refine wpAnyH_ready (rs := [3, 4]) (by kernel_rfl) (by simp) ?_
          refine AllReadyH.cons rfl (fun K hK => ?_) (AllReadyH.cons rfl (fun K hK => ?_) (AllReadyH.nil))
          · have hBk := Lib.hid (Aside.below hBA.out as1.out (by omega) (Nat.le_of_lt hxw) (Nat.le_of_lt hyw))
            refine step_append_lies _ (by rfl) (.tmp 67) (.tmp 69) 25 (by rfl) wA.heap.size 48 i1 (.agg #[.string ⟨#[]⟩, .int .i64 0, .int .i64 0, .int .i64 0, .int .i64 0, .int .i64 0, .int .i64 0, .int .i64 0, .slice none 0 0, .slice none 0 0, .int .i64 0]) 11 128 Try.underlying25 HJ1.out HJ1a.out HJ1b.out HJ1c.out rfl (by decide) (.slice (some ⟨W0.heap.size, 0, none⟩) 0 0) 0 [] (by rfl) (nb1_1.out.owns hle0 11) ⟨b, off, none⟩ n c (flat Tree.cells ts) (by rfl) HFL.out (fun j u hu => (HTH.out _ hBk.out).1.flat tree_eleven (by decide) j u hu) HFO.out (by omega) (by unfold maxLen; omega) (by omega) hle1 W1.heap.size rfl ?_
            intro g1 c1 W2 hown hgrow hat hlt
            simp only [Nat.zero_add, List.nil_append] at hown ⊢
            obtain ⟨hR, hg1⟩ := rows_of hown Hts.out hn20
            have R1_2 := Lib.hid hR
            have hor1 := own_or hat
            have as2 := Lib.hid (as1.out.grown hgrow (own_le hle0))
            have bs2 := Lib.hid (bs1.out.grown hgrow (own_ne (by omega)))
            have bx2 := Lib.hid (bx1.out.grown hgrow (own_ne (by omega)))
            have by2 := Lib.hid (by1.out.grown hgrow (own_ne (by omega)))
            have hle2 : wA.heap.size ≤ W2.heap.size := Nat.le_trans hle1 hgrow.size
            refine hK.out _ _ (bs2.out.cell 7) (fun hH2 => ?_)
            clear hK K hown hgrow hat hlt hR hBk hor1
            try simp only [Act.put, List.setIfInBounds_toArray, List.set_cons_zero, List.set_cons_succ]
            clear hH1 as1 bs1 bx1 by1 nb1_1  
            refine take_at (i := 8) (v := ?_) rfl rfl (by kernel_rfl) (by kernel_rfl) (by kernel_rfl) (fun _ _ _ h => h) (Or.inl ⟨by rfl, ?_⟩) hH2 ?_
            rotate_left
            · intro w' hSw
              (try dsimp only at hSw)
              go_simp
              try with_reducible rfl
            try simp only [Act.put, List.setIfInBounds_toArray, List.set_cons_zero, List.set_cons_succ]
            refine wpAnyH_ready (rs := [4]) (by kernel_rfl) (by simp) ?_
            refine AllReadyH.cons rfl (fun K hK => ?_) (AllReadyH.nil)
            rw [if_pos (by rfl)]
            go_simp
            refine hK.out _ _ ((bs2.out.alloc _).cell 7) (fun hH3 => ?_)
            clear hK K
            try simp only [Act.put, List.setIfInBounds_toArray, List.set_cons_zero, List.set_cons_succ]
            have as3 := Lib.hid (as2.out.trans (Aside.alloc x y W2 (.cells #[] 48)))
            have bs3 := Lib.hid (bs2.out.alloc (.cells #[] 48))
            have bx3 := Lib.hid (bx2.out.alloc (.cells #[] 48))
            have by3 := Lib.hid (by2.out.alloc (.cells #[] 48))
            have nb2_3 := Lib.hid (Blk.new W2 48 #[])
            have R1_3 := Lib.hid (R1_2.out.same (W' := (W2.alloc (.cells #[] 48))) (by rw [World.size_alloc]; omega) (heap_alloc_old W2 _ R1_2.out.lt))
            have hle3 : wA.heap.size ≤ (W2.alloc (.cells #[] 48)).heap.size := by rw [World.size_alloc]; omega
            have hd : g1 ≠ W2.heap.size := by have := R1_2.out.lt; omega
            generalize (W2.alloc (.cells #[] 48)) = W3 at hH3 as3 bs3 bx3 by3 hle3 nb2_3 R1_3 ⊢
            clear hH2 as2 bs2 bx2 by2  R1_2
            refine wpAnyH_ready (rs := [7]) (by kernel_rfl) (by simp) ?_
            refine AllReadyH.cons rfl (fun K hK => ?_) (AllReadyH.nil)
            have hBk := Lib.hid (Aside.below hBA.out as3.out (by omega) (Nat.le_of_lt hxw) (Nat.le_of_lt hyw))
            refine step_append_lies _ (by rfl) (.tmp 71) (.tmp 73) 25 (by rfl) wA.heap.size 48 i1 (.agg #[.string ⟨#[]⟩, .int .i64 0, .int .i64 0, .int .i64 0, .int .i64 0, .int .i64 0, .int .i64 0, .int .i64 0, .slice none 0 0, .slice none 0 0, .int .i64 0]) 11 128 Try.underlying25 HJ1.out HJ1a.out HJ1b.out HJ1c.out rfl (by decide) (.slice (some ⟨W2.heap.size, 0, none⟩) 0 0) 0 [] (by rfl) (nb2_3.out.owns hle2 11) ⟨b, off, none⟩ n c (flat Tree.cells ts) (by rfl) HFL.out (fun j u hu => (HTH.out _ hBk.out).1.flat tree_eleven (by decide) j u hu) HFO.out (by omega) (by unfold maxLen; omega) (by omega) hle3 W3.heap.size rfl ?_
            intro g2 c2 W4 hown hgrow hat hlt
            simp only [Nat.zero_add, List.nil_append] at hown ⊢
            obtain ⟨hR, hg2⟩ := rows_of hown Hts.out hn20
            have R2_4 := Lib.hid hR
            have hor2 := own_or hat
            have as4 := Lib.hid (as3.out.grown hgrow (own_le hle2))
            have bs4 := Lib.hid (bs3.out.grown hgrow (own_ne (by omega)))
            have bx4 := Lib.hid (bx3.out.grown hgrow (own_ne (by omega)))
            have by4 := Lib.hid (by3.out.grown hgrow (own_ne (by omega)))
            have R1_4 := Lib.hid (R1_3.out.same hgrow.size (hgrow.block g1 R1_3.out.lt (own_ne hd)))
            have hg12 : g1 ≠ g2 := by have := R1_3.out.lt; omega
            have hle4 : wA.heap.size ≤ W4.heap.size := Nat.le_trans hle3 hgrow.size
            refine hK.out _ _ (bs4.out.cell 7) (fun hH4 => ?_)
            clear hK K hown hgrow hat hlt hR hBk hor2
            try simp only [Act.put, List.setIfInBounds_toArray, List.set_cons_zero, List.set_cons_succ]
            clear hH3 as3 bs3 bx3 by3 nb2_3  R1_3
            refine wpAnyH_ready (rs := [9]) (by kernel_rfl) (by simp) ?_
            refine AllReadyH.cons rfl (fun K hK => ?_) (AllReadyH.nil)
            have cc : W4.cell? ⟨x, 7, none⟩ = some (.slice (some ⟨b, off, none⟩) n c) := bx4.out.cell 7
            have ff : W4.frozen? ⟨x, 7, none⟩ = false := bx4.out.frozen 7
            rw [if_pos (by rfl)]
            go_simp
            clear cc ff
            have as5 := Lib.hid (show Aside x y wA (W4.setCell ⟨x, 7, none⟩ (.slice (some ⟨g1, 0, none⟩) n c1)) from as4.out.setCells (g := x) (by omega) 7 [(.slice (some ⟨g1, 0, none⟩) n c1)])
            have bs5 := Lib.hid (bs4.out.far (p := ⟨x, 7, none⟩) (show w.heap.size ≠ x by omega) (.slice (some ⟨g1, 0, none⟩) n c1))
            have bx5 := Lib.hid (show Blk (W4.setCell ⟨x, 7, none⟩ (.slice (some ⟨g1, 0, none⟩) n c1)) x 27 #[.int .i64 age, .int .i64 rest, .int .i64 girth, .int .i64 f0, .int .i64 f1, .int .i64 f2, .int .i64 heal, .slice (some ⟨g1, 0, none⟩) n c1] from bx4.out.set_ 7 (.slice (some ⟨g1, 0, none⟩) n c1))
            have by5 := Lib.hid (by4.out.far (p := ⟨x, 7, none⟩) (show y ≠ x by omega) (.slice (some ⟨g1, 0, none⟩) n c1))
            have R1_5 := Lib.hid (R1_4.out.same (W' := (W4.setCell ⟨x, 7, none⟩ (.slice (some ⟨g1, 0, none⟩) n c1))) (Nat.le_of_eq (size_setCell _ _ _).symm) (heap_setCell_other W4 ⟨x, 7, none⟩ g1 (.slice (some ⟨g1, 0, none⟩) n c1) (show g1 ≠ x by omega)))
            have R2_5 := Lib.hid (R2_4.out.same (W' := (W4.setCell ⟨x, 7, none⟩ (.slice (some ⟨g1, 0, none⟩) n c1))) (Nat.le_of_eq (size_setCell _ _ _).symm) (heap_setCell_other W4 ⟨x, 7, none⟩ g2 (.slice (some ⟨g1, 0, none⟩) n c1) (show g2 ≠ x by omega)))
            refine hK.out _ _ (bs5.out.cell 7) (fun hH5 => ?_)
            clear hK K
            try simp only [Act.put, List.setIfInBounds_toArray, List.set_cons_zero, List.set_cons_succ]
            have hle5 : wA.heap.size ≤ (W4.setCell ⟨x, 7, none⟩ (.slice (some ⟨g1, 0, none⟩) n c1)).heap.size := by rw [size_setCell]; exact hle4
            generalize (W4.setCell ⟨x, 7, none⟩ (.slice (some ⟨g1, 0, none⟩) n c1)) = W5 at hH5 as5 bs5 bx5 by5 hle5 R1_5 R2_5 ⊢
            clear hH4 as4 bs4 bx4 by4 R1_4 R2_4
            refine take_at (i := 10) (v := ?_) rfl rfl (by kernel_rfl) (by kernel_rfl) (by kernel_rfl) (fun _ _ _ h => h) (Or.inl ⟨by rfl, ?_⟩) hH5 ?_
            rotate_left
            · intro w' hSw
              (try dsimp only at hSw)
              go_simp
              try with_reducible rfl
            try simp only [Act.put, List.setIfInBounds_toArray, List.set_cons_zero, List.set_cons_succ]
            refine wpAnyH_ready (rs := [11]) (by kernel_rfl) (by simp) ?_
            refine AllReadyH.cons rfl (fun K hK => ?_) (AllReadyH.nil)
            have cc : W5.cell? ⟨y, 7, none⟩ = some (.slice (some ⟨b, off, none⟩) n c) := by5.out.cell 7
            have ff : W5.frozen? ⟨y, 7, none⟩ = false := by5.out.frozen 7
            rw [if_pos (by rfl)]
            go_simp
            clear cc ff
            have as6 := Lib.hid (show Aside x y wA (W5.setCell ⟨y, 7, none⟩ (.slice (some ⟨g2, 0, none⟩) n c2)) from as5.out.setCells (g := y) (by omega) 7 [(.slice (some ⟨g2, 0, none⟩) n c2)])
            have bs6 := Lib.hid (bs5.out.far (p := ⟨y, 7, none⟩) (show w.heap.size ≠ y by omega) (.slice (some ⟨g2, 0, none⟩) n c2))
            have by6 := Lib.hid (show Blk (W5.setCell ⟨y, 7, none⟩ (.slice (some ⟨g2, 0, none⟩) n c2)) y 27 #[.int .i64 age, .int .i64 rest, .int .i64 girth, .int .i64 f0, .int .i64 f1, .int .i64 f2, .int .i64 heal, .slice (some ⟨g2, 0, none⟩) n c2] from by5.out.set_ 7 (.slice (some ⟨g2, 0, none⟩) n c2))
            have bx6 := Lib.hid (bx5.out.far (p := ⟨y, 7, none⟩) (show x ≠ y by omega) (.slice (some ⟨g2, 0, none⟩) n c2))
            have R1_6 := Lib.hid (R1_5.out.same (W' := (W5.setCell ⟨y, 7, none⟩ (.slice (some ⟨g2, 0, none⟩) n c2))) (Nat.le_of_eq (size_setCell _ _ _).symm) (heap_setCell_other W5 ⟨y, 7, none⟩ g1 (.slice (some ⟨g2, 0, none⟩) n c2) (show g1 ≠ y by omega)))
            have R2_6 := Lib.hid (R2_5.out.same (W' := (W5.setCell ⟨y, 7, none⟩ (.slice (some ⟨g2, 0, none⟩) n c2))) (Nat.le_of_eq (size_setCell _ _ _).symm) (heap_setCell_other W5 ⟨y, 7, none⟩ g2 (.slice (some ⟨g2, 0, none⟩) n c2) (show g2 ≠ y by omega)))
            refine hK.out _ _ (bs6.out.cell 7) (fun hH6 => ?_)
            clear hK K
            try simp only [Act.put, List.setIfInBounds_toArray, List.set_cons_zero, List.set_cons_succ]
            have hle6 : wA.heap.size ≤ (W5.setCell ⟨y, 7, none⟩ (.slice (some ⟨g2, 0, none⟩) n c2)).heap.size := by rw [size_setCell]; exact hle5
            generalize (W5.setCell ⟨y, 7, none⟩ (.slice (some ⟨g2, 0, none⟩) n c2)) = W6 at hH6 as6 bs6 bx6 by6 hle6 R1_6 R2_6 ⊢
            clear hH5 as5 bs5 bx5 by5 R1_5 R2_5
            refine wpAnyH_done (by kernel_rfl) ?_ _
            go_wp2_with fail
            go_meet
            case rel => exact ⟨g1, c1, g2, c2, as6.out, hg1, hg2, hg12, bx6.out, by6.out, R1_6.out, R2_6.out⟩
          · rw [if_pos (by rfl)]
            go_simp
            refine hK.out _ _ ((bs1.out.alloc _).cell 7) (fun hH2 => ?_)
            clear hK K
            try simp only [Act.put, List.setIfInBounds_toArray, List.set_cons_zero, List.set_cons_succ]
            have as2 := Lib.hid (as1.out.trans (Aside.alloc x y W1 (.cells #[] 48)))
            have bs2 := Lib.hid (bs1.out.alloc (.cells #[] 48))
            have bx2 := Lib.hid (bx1.out.alloc (.cells #[] 48))
            have by2 := Lib.hid (by1.out.alloc (.cells #[] 48))
            have nb1_2 := Lib.hid (nb1_1.out.alloc (.cells #[] 48))
            have nb2_2 := Lib.hid (Blk.new W1 48 #[])
            have hle2 : wA.heap.size ≤ (W1.alloc (.cells #[] 48)).heap.size := by rw [World.size_alloc]; omega
            have hb12 : W0.heap.size ≠ W1.heap.size := by have := nb1_1.out.lt; omega
            generalize (W1.alloc (.cells #[] 48)) = W2 at hH2 as2 bs2 bx2 by2 hle2 nb2_2 nb1_2 ⊢
            clear hH1 as1 bs1 bx1 by1 nb1_1 
            refine wpAnyH_ready (rs := [3]) (by kernel_rfl) (by simp) ?_
            refine AllReadyH.cons rfl (fun K hK => ?_) (AllReadyH.nil)
            have hBk := Lib.hid (Aside.below hBA.out as2.out (by omega) (Nat.le_of_lt hxw) (Nat.le_of_lt hyw))
            refine step_append_lies _ (by rfl) (.tmp 67) (.tmp 69) 25 (by rfl) wA.heap.size 48 i1 (.agg #[.string ⟨#[]⟩, .int .i64 0, .int .i64 0, .int .i64 0, .int .i64 0, .int .i64 0, .int .i64 0, .int .i64 0, .slice none 0 0, .slice none 0 0, .int .i64 0]) 11 128 Try.underlying25 HJ1.out HJ1a.out HJ1b.out HJ1c.out rfl (by decide) (.slice (some ⟨W0.heap.size, 0, none⟩) 0 0) 0 [] (by rfl) (nb1_2.out.owns hle0 11) ⟨b, off, none⟩ n c (flat Tree.cells ts) (by rfl) HFL.out (fun j u hu => (HTH.out _ hBk.out).1.flat tree_eleven (by decide) j u hu) HFO.out (by omega) (by unfold maxLen; omega) (by omega) hle2 W2.heap.size rfl ?_
            intro g1 c1 W3 hown hgrow hat hlt
            simp only [Nat.zero_add, List.nil_append] at hown ⊢
            obtain ⟨hR, hg1⟩ := rows_of hown Hts.out hn20
            have R1_3 := Lib.hid hR
            have hor1 := own_or hat
            have as3 := Lib.hid (as2.out.grown hgrow (own_le hle0))
            have bs3 := Lib.hid (bs2.out.grown hgrow (own_ne (by omega)))
            have bx3 := Lib.hid (bx2.out.grown hgrow (own_ne (by omega)))
            have by3 := Lib.hid (by2.out.grown hgrow (own_ne (by omega)))
            have nb2_3 := Lib.hid (nb2_2.out.grown hgrow (own_ne (fun e => by omega)))
            have hd : g1 ≠ W1.heap.size := by have := nb2_2.out.lt; omega
            have hle3 : wA.heap.size ≤ W3.heap.size := Nat.le_trans hle2 hgrow.size
            refine hK.out _ _ (bs3.out.cell 7) (fun hH3 => ?_)
            clear hK K hown hgrow hat hlt hR hBk hor1
            try simp only [Act.put, List.setIfInBounds_toArray, List.set_cons_zero, List.set_cons_succ]
            clear hH2 as2 bs2 bx2 by2 nb1_2 nb2_2 
            refine take_at (i := 8) (v := ?_) rfl rfl (by kernel_rfl) (by kernel_rfl) (by kernel_rfl) (fun _ _ _ h => h) (Or.inl ⟨by rfl, ?_⟩) hH3 ?_
            rotate_left
            · intro w' hSw
              (try dsimp only at hSw)
              go_simp
              try with_reducible rfl
            try simp only [Act.put, List.setIfInBounds_toArray, List.set_cons_zero, List.set_cons_succ]
            refine wpAnyH_ready (rs := [7]) (by kernel_rfl) (by simp) ?_
            refine AllReadyH.cons rfl (fun K hK => ?_) (AllReadyH.nil)
            have hBk := Lib.hid (Aside.below hBA.out as3.out (by omega) (Nat.le_of_lt hxw) (Nat.le_of_lt hyw))
            refine step_append_lies _ (by rfl) (.tmp 71) (.tmp 73) 25 (by rfl) wA.heap.size 48 i1 (.agg #[.string ⟨#[]⟩, .int .i64 0, .int .i64 0, .int .i64 0, .int .i64 0, .int .i64 0, .int .i64 0, .int .i64 0, .slice none 0 0, .slice none 0 0, .int .i64 0]) 11 128 Try.underlying25 HJ1.out HJ1a.out HJ1b.out HJ1c.out rfl (by decide) (.slice (some ⟨W1.heap.size, 0, none⟩) 0 0) 0 [] (by rfl) (nb2_3.out.owns hle1 11) ⟨b, off, none⟩ n c (flat Tree.cells ts) (by rfl) HFL.out (fun j u hu => (HTH.out _ hBk.out).1.flat tree_eleven (by decide) j u hu) HFO.out (by omega) (by unfold maxLen; omega) (by omega) hle3 W3.heap.size rfl ?_
            intro g2 c2 W4 hown hgrow hat hlt
            simp only [Nat.zero_add, List.nil_append] at hown ⊢
            obtain ⟨hR, hg2⟩ := rows_of hown Hts.out hn20
            have R2_4 := Lib.hid hR
            have hor2 := own_or hat
            have as4 := Lib.hid (as3.out.grown hgrow (own_le hle1))
            have bs4 := Lib.hid (bs3.out.grown hgrow (own_ne (by omega)))
            have bx4 := Lib.hid (bx3.out.grown hgrow (own_ne (by omega)))
            have by4 := Lib.hid (by3.out.grown hgrow (own_ne (by omega)))
            have R1_4 := Lib.hid (R1_3.out.same hgrow.size (hgrow.block g1 R1_3.out.lt (own_ne hd)))
            have hg12 : g1 ≠ g2 := by have := R1_3.out.lt; omega
            have hle4 : wA.heap.size ≤ W4.heap.size := Nat.le_trans hle3 hgrow.size
            refine hK.out _ _ (bs4.out.cell 7) (fun hH4 => ?_)
            clear hK K hown hgrow hat hlt hR hBk hor2
            try simp only [Act.put, List.setIfInBounds_toArray, List.set_cons_zero, List.set_cons_succ]
            clear hH3 as3 bs3 bx3 by3 nb2_3  R1_3
            refine wpAnyH_ready (rs := [9]) (by kernel_rfl) (by simp) ?_
            refine AllReadyH.cons rfl (fun K hK => ?_) (AllReadyH.nil)
            have cc : W4.cell? ⟨x, 7, none⟩ = some (.slice (some ⟨b, off, none⟩) n c) := bx4.out.cell 7
            have ff : W4.frozen? ⟨x, 7, none⟩ = false := bx4.out.frozen 7
            rw [if_pos (by rfl)]
            go_simp
            clear cc ff
            have as5 := Lib.hid (show Aside x y wA (W4.setCell ⟨x, 7, none⟩ (.slice (some ⟨g1, 0, none⟩) n c1)) from as4.out.setCells (g := x) (by omega) 7 [(.slice (some ⟨g1, 0, none⟩) n c1)])
            have bs5 := Lib.hid (bs4.out.far (p := ⟨x, 7, none⟩) (show w.heap.size ≠ x by omega) (.slice (some ⟨g1, 0, none⟩) n c1))
            have bx5 := Lib.hid (show Blk (W4.setCell ⟨x, 7, none⟩ (.slice (some ⟨g1, 0, none⟩) n c1)) x 27 #[.int .i64 age, .int .i64 rest, .int .i64 girth, .int .i64 f0, .int .i64 f1, .int .i64 f2, .int .i64 heal, .slice (some ⟨g1, 0, none⟩) n c1] from bx4.out.set_ 7 (.slice (some ⟨g1, 0, none⟩) n c1))
            have by5 := Lib.hid (by4.out.far (p := ⟨x, 7, none⟩) (show y ≠ x by omega) (.slice (some ⟨g1, 0, none⟩) n c1))
            have R1_5 := Lib.hid (R1_4.out.same (W' := (W4.setCell ⟨x, 7, none⟩ (.slice (some ⟨g1, 0, none⟩) n c1))) (Nat.le_of_eq (size_setCell _ _ _).symm) (heap_setCell_other W4 ⟨x, 7, none⟩ g1 (.slice (some ⟨g1, 0, none⟩) n c1) (show g1 ≠ x by omega)))
            have R2_5 := Lib.hid (R2_4.out.same (W' := (W4.setCell ⟨x, 7, none⟩ (.slice (some ⟨g1, 0, none⟩) n c1))) (Nat.le_of_eq (size_setCell _ _ _).symm) (heap_setCell_other W4 ⟨x, 7, none⟩ g2 (.slice (some ⟨g1, 0, none⟩) n c1) (show g2 ≠ x by omega)))
            refine hK.out _ _ (bs5.out.cell 7) (fun hH5 => ?_)
            clear hK K
            try simp only [Act.put, List.setIfInBounds_toArray, List.set_cons_zero, List.set_cons_succ]
            have hle5 : wA.heap.size ≤ (W4.setCell ⟨x, 7, none⟩ (.slice (some ⟨g1, 0, none⟩) n c1)).heap.size := by rw [size_setCell]; exact hle4
            generalize (W4.setCell ⟨x, 7, none⟩ (.slice (some ⟨g1, 0, none⟩) n c1)) = W5 at hH5 as5 bs5 bx5 by5 hle5 R1_5 R2_5 ⊢
            clear hH4 as4 bs4 bx4 by4 R1_4 R2_4
            refine take_at (i := 10) (v := ?_) rfl rfl (by kernel_rfl) (by kernel_rfl) (by kernel_rfl) (fun _ _ _ h => h) (Or.inl ⟨by rfl, ?_⟩) hH5 ?_
            rotate_left
            · intro w' hSw
              (try dsimp only at hSw)
              go_simp
              try with_reducible rfl
            try simp only [Act.put, List.setIfInBounds_toArray, List.set_cons_zero, List.set_cons_succ]
            refine wpAnyH_ready (rs := [11]) (by kernel_rfl) (by simp) ?_
            refine AllReadyH.cons rfl (fun K hK => ?_) (AllReadyH.nil)
            have cc : W5.cell? ⟨y, 7, none⟩ = some (.slice (some ⟨b, off, none⟩) n c) := by5.out.cell 7
            have ff : W5.frozen? ⟨y, 7, none⟩ = false := by5.out.frozen 7
            rw [if_pos (by rfl)]
            go_simp
            clear cc ff
            have as6 := Lib.hid (show Aside x y wA (W5.setCell ⟨y, 7, none⟩ (.slice (some ⟨g2, 0, none⟩) n c2)) from as5.out.setCells (g := y) (by omega) 7 [(.slice (some ⟨g2, 0, none⟩) n c2)])
            have bs6 := Lib.hid (bs5.out.far (p := ⟨y, 7, none⟩) (show w.heap.size ≠ y by omega) (.slice (some ⟨g2, 0, none⟩) n c2))
            have by6 := Lib.hid (show Blk (W5.setCell ⟨y, 7, none⟩ (.slice (some ⟨g2, 0, none⟩) n c2)) y 27 #[.int .i64 age, .int .i64 rest, .int .i64 girth, .int .i64 f0, .int .i64 f1, .int .i64 f2, .int .i64 heal, .slice (some ⟨g2, 0, none⟩) n c2] from by5.out.set_ 7 (.slice (some ⟨g2, 0, none⟩) n c2))
            have bx6 := Lib.hid (bx5.out.far (p := ⟨y, 7, none⟩) (show x ≠ y by omega) (.slice (some ⟨g2, 0, none⟩) n c2))
            have R1_6 := Lib.hid (R1_5.out.same (W' := (W5.setCell ⟨y, 7, none⟩ (.slice (some ⟨g2, 0, none⟩) n c2))) (Nat.le_of_eq (size_setCell _ _ _).symm) (heap_setCell_other W5 ⟨y, 7, none⟩ g1 (.slice (some ⟨g2, 0, none⟩) n c2) (show g1 ≠ y by omega)))
            have R2_6 := Lib.hid (R2_5.out.same (W' := (W5.setCell ⟨y, 7, none⟩ (.slice (some ⟨g2, 0, none⟩) n c2))) (Nat.le_of_eq (size_setCell _ _ _).symm) (heap_setCell_other W5 ⟨y, 7, none⟩ g2 (.slice (some ⟨g2, 0, none⟩) n c2) (show g2 ≠ y by omega)))
            refine hK.out _ _ (bs6.out.cell 7) (fun hH6 => ?_)
            clear hK K
            try simp only [Act.put, List.setIfInBounds_toArray, List.set_cons_zero, List.set_cons_succ]
            have hle6 : wA.heap.size ≤ (W5.setCell ⟨y, 7, none⟩ (.slice (some ⟨g2, 0, none⟩) n c2)).heap.size := by rw [size_setCell]; exact hle5
            generalize (W5.setCell ⟨y, 7, none⟩ (.slice (some ⟨g2, 0, none⟩) n c2)) = W6 at hH6 as6 bs6 bx6 by6 hle6 R1_6 R2_6 ⊢
            clear hH5 as5 bs5 bx5 by5 R1_5 R2_5
            refine wpAnyH_done (by kernel_rfl) ?_ _
            go_wp2_with fail
            go_meet
            case rel => exact ⟨g1, c1, g2, c2, as6.out, hg1, hg2, hg12, bx6.out, by6.out, R1_6.out, R2_6.out⟩
        · rw [if_pos (by rfl)]
          go_simp
          refine hK.out _ _ ((bs0.out.alloc _).cell 7) (fun hH1 => ?_)
          clear hK K
          try simp only [Act.put, List.setIfInBounds_toArray, List.set_cons_zero, List.set_cons_succ]
          have as1 := Lib.hid (as0.out.trans (Aside.alloc x y W0 (.cells #[] 48)))
          have bs1 := Lib.hid (bs0.out.alloc (.cells #[] 48))
          have bx1 := Lib.hid (bx0.out.alloc (.cells #[] 48))
          have by1 := Lib.hid (by0.out.alloc (.cells #[] 48))
          have nb2_1 := Lib.hid (Blk.new W0 48 #[])
          have hle1 : wA.heap.size ≤ (W0.alloc (.cells #[] 48)).heap.size := by rw [World.size_alloc]; omega
          generalize (W0.alloc (.cells #[] 48)) = W1 at hH1 as1 bs1 bx1 by1 hle1 nb2_1 ⊢
          clear hH0 as0 bs0 bx0 by0  
          refine wpAnyH_ready (rs := [0]) (by kernel_rfl) (by simp) ?_
          refine AllReadyH.cons rfl (fun K hK => ?_) (AllReadyH.nil)
          rw [if_pos (by rfl)]
          go_simp
          refine hK.out _ _ ((bs1.out.alloc _).cell 7) (fun hH2 => ?_)
          clear hK K
          try simp only [Act.put, List.setIfInBounds_toArray, List.set_cons_zero, List.set_cons_succ]
          have as2 := Lib.hid (as1.out.trans (Aside.alloc x y W1 (.cells #[] 48)))
          have bs2 := Lib.hid (bs1.out.alloc (.cells #[] 48))
          have bx2 := Lib.hid (bx1.out.alloc (.cells #[] 48))
          have by2 := Lib.hid (by1.out.alloc (.cells #[] 48))
          have nb2_2 := Lib.hid (nb2_1.out.alloc (.cells #[] 48))
          have nb1_2 := Lib.hid (Blk.new W1 48 #[])
          have hle2 : wA.heap.size ≤ (W1.alloc (.cells #[] 48)).heap.size := by rw [World.size_alloc]; omega
          have hb12 : W1.heap.size ≠ W0.heap.size := by have := nb2_1.out.lt; omega
          generalize (W1.alloc (.cells #[] 48)) = W2 at hH2 as2 bs2 bx2 by2 hle2 nb1_2 nb2_2 ⊢
          clear hH1 as1 bs1 bx1 by1 nb2_1 
          refine wpAnyH_ready (rs := [3]) (by kernel_rfl) (by simp) ?_
          refine AllReadyH.cons rfl (fun K hK => ?_) (AllReadyH.nil)
          have hBk := Lib.hid (Aside.below hBA.out as2.out (by omega) (Nat.le_of_lt hxw) (Nat.le_of_lt hyw))
          refine step_append_lies _ (by rfl) (.tmp 67) (.tmp 69) 25 (by rfl) wA.heap.size 48 i1 (.agg #[.string ⟨#[]⟩, .int .i64 0, .int .i64 0, .int .i64 0, .int .i64 0, .int .i64 0, .int .i64 0, .int .i64 0, .slice none 0 0, .slice none 0 0, .int .i64 0]) 11 128 Try.underlying25 HJ1.out HJ1a.out HJ1b.out HJ1c.out rfl (by decide) (.slice (some ⟨W1.heap.size, 0, none⟩) 0 0) 0 [] (by rfl) (nb1_2.out.owns hle1 11) ⟨b, off, none⟩ n c (flat Tree.cells ts) (by rfl) HFL.out (fun j u hu => (HTH.out _ hBk.out).1.flat tree_eleven (by decide) j u hu) HFO.out (by omega) (by unfold maxLen; omega) (by omega) hle2 W2.heap.size rfl ?_
          intro g1 c1 W3 hown hgrow hat hlt
          simp only [Nat.zero_add, List.nil_append] at hown ⊢
          obtain ⟨hR, hg1⟩ := rows_of hown Hts.out hn20
          have R1_3 := Lib.hid hR
          have hor1 := own_or hat
          have as3 := Lib.hid (as2.out.grown hgrow (own_le hle1))
          have bs3 := Lib.hid (bs2.out.grown hgrow (own_ne (by omega)))
          have bx3 := Lib.hid (bx2.out.grown hgrow (own_ne (by omega)))
          have by3 := Lib.hid (by2.out.grown hgrow (own_ne (by omega)))
          have nb2_3 := Lib.hid (nb2_2.out.grown hgrow (own_ne (fun e => by omega)))
          have hd : g1 ≠ W0.heap.size := by have := nb2_2.out.lt; omega
          have hle3 : wA.heap.size ≤ W3.heap.size := Nat.le_trans hle2 hgrow.size
          refine hK.out _ _ (bs3.out.cell 7) (fun hH3 => ?_)
          clear hK K hown hgrow hat hlt hR hBk hor1
          try simp only [Act.put, List.setIfInBounds_toArray, List.set_cons_zero, List.set_cons_succ]
          clear hH2 as2 bs2 bx2 by2 nb1_2 nb2_2 
          refine take_at (i := 8) (v := ?_) rfl rfl (by kernel_rfl) (by kernel_rfl) (by kernel_rfl) (fun _ _ _ h => h) (Or.inl ⟨by rfl, ?_⟩) hH3 ?_
          rotate_left
          · intro w' hSw
            (try dsimp only at hSw)
            go_simp
            try with_reducible rfl
          try simp only [Act.put, List.setIfInBounds_toArray, List.set_cons_zero, List.set_cons_succ]
          refine wpAnyH_ready (rs := [7]) (by kernel_rfl) (by simp) ?_
          refine AllReadyH.cons rfl (fun K hK => ?_) (AllReadyH.nil)
          have hBk := Lib.hid (Aside.below hBA.out as3.out (by omega) (Nat.le_of_lt hxw) (Nat.le_of_lt hyw))
          refine step_append_lies _ (by rfl) (.tmp 71) (.tmp 73) 25 (by rfl) wA.heap.size 48 i1 (.agg #[.string ⟨#[]⟩, .int .i64 0, .int .i64 0, .int .i64 0, .int .i64 0, .int .i64 0, .int .i64 0, .int .i64 0, .slice none 0 0, .slice none 0 0, .int .i64 0]) 11 128 Try.underlying25 HJ1.out HJ1a.out HJ1b.out HJ1c.out rfl (by decide) (.slice (some ⟨W0.heap.size, 0, none⟩) 0 0) 0 [] (by rfl) (nb2_3.out.owns hle0 11) ⟨b, off, none⟩ n c (flat Tree.cells ts) (by rfl) HFL.out (fun j u hu => (HTH.out _ hBk.out).1.flat tree_eleven (by decide) j u hu) HFO.out (by omega) (by unfold maxLen; omega) (by omega) hle3 W3.heap.size rfl ?_
          intro g2 c2 W4 hown hgrow hat hlt
          simp only [Nat.zero_add, List.nil_append] at hown ⊢
          obtain ⟨hR, hg2⟩ := rows_of hown Hts.out hn20
          have R2_4 := Lib.hid hR
          have hor2 := own_or hat
          have as4 := Lib.hid (as3.out.grown hgrow (own_le hle0))
          have bs4 := Lib.hid (bs3.out.grown hgrow (own_ne (by omega)))
          have bx4 := Lib.hid (bx3.out.grown hgrow (own_ne (by omega)))
          have by4 := Lib.hid (by3.out.grown hgrow (own_ne (by omega)))
          have R1_4 := Lib.hid (R1_3.out.same hgrow.size (hgrow.block g1 R1_3.out.lt (own_ne hd)))
          have hg12 : g1 ≠ g2 := by have := R1_3.out.lt; omega
          have hle4 : wA.heap.size ≤ W4.heap.size := Nat.le_trans hle3 hgrow.size
          refine hK.out _ _ (bs4.out.cell 7) (fun hH4 => ?_)
          clear hK K hown hgrow hat hlt hR hBk hor2
          try simp only [Act.put, List.setIfInBounds_toArray, List.set_cons_zero, List.set_cons_succ]
          clear hH3 as3 bs3 bx3 by3 nb2_3  R1_3
          refine wpAnyH_ready (rs := [9]) (by kernel_rfl) (by simp) ?_
          refine AllReadyH.cons rfl (fun K hK => ?_) (AllReadyH.nil)
          have cc : W4.cell? ⟨x, 7, none⟩ = some (.slice (some ⟨b, off, none⟩) n c) := bx4.out.cell 7
          have ff : W4.frozen? ⟨x, 7, none⟩ = false := bx4.out.frozen 7
          rw [if_pos (by rfl)]
          go_simp
          clear cc ff
          have as5 := Lib.hid (show Aside x y wA (W4.setCell ⟨x, 7, none⟩ (.slice (some ⟨g1, 0, none⟩) n c1)) from as4.out.setCells (g := x) (by omega) 7 [(.slice (some ⟨g1, 0, none⟩) n c1)])
          have bs5 := Lib.hid (bs4.out.far (p := ⟨x, 7, none⟩) (show w.heap.size ≠ x by omega) (.slice (some ⟨g1, 0, none⟩) n c1))
          have bx5 := Lib.hid (show Blk (W4.setCell ⟨x, 7, none⟩ (.slice (some ⟨g1, 0, none⟩) n c1)) x 27 #[.int .i64 age, .int .i64 rest, .int .i64 girth, .int .i64 f0, .int .i64 f1, .int .i64 f2, .int .i64 heal, .slice (some ⟨g1, 0, none⟩) n c1] from bx4.out.set_ 7 (.slice (some ⟨g1, 0, none⟩) n c1))
          have by5 := Lib.hid (by4.out.far (p := ⟨x, 7, none⟩) (show y ≠ x by omega) (.slice (some ⟨g1, 0, none⟩) n c1))
          have R1_5 := Lib.hid (R1_4.out.same (W' := (W4.setCell ⟨x, 7, none⟩ (.slice (some ⟨g1, 0, none⟩) n c1))) (Nat.le_of_eq (size_setCell _ _ _).symm) (heap_setCell_other W4 ⟨x, 7, none⟩ g1 (.slice (some ⟨g1, 0, none⟩) n c1) (show g1 ≠ x by omega)))
          have R2_5 := Lib.hid (R2_4.out.same (W' := (W4.setCell ⟨x, 7, none⟩ (.slice (some ⟨g1, 0, none⟩) n c1))) (Nat.le_of_eq (size_setCell _ _ _).symm) (heap_setCell_other W4 ⟨x, 7, none⟩ g2 (.slice (some ⟨g1, 0, none⟩) n c1) (show g2 ≠ x by omega)))
          refine hK.out _ _ (bs5.out.cell 7) (fun hH5 => ?_)
          clear hK K
          try simp only [Act.put, List.setIfInBounds_toArray, List.set_cons_zero, List.set_cons_succ]
          have hle5 : wA.heap.size ≤ (W4.setCell ⟨x, 7, none⟩ (.slice (some ⟨g1, 0, none⟩) n c1)).heap.size := by rw [size_setCell]; exact hle4
          generalize (W4.setCell ⟨x, 7, none⟩ (.slice (some ⟨g1, 0, none⟩) n c1)) = W5 at hH5 as5 bs5 bx5 by5 hle5 R1_5 R2_5 ⊢
          clear hH4 as4 bs4 bx4 by4 R1_4 R2_4
          refine take_at (i := 10) (v := ?_) rfl rfl (by kernel_rfl) (by kernel_rfl) (by kernel_rfl) (fun _ _ _ h => h) (Or.inl ⟨by rfl, ?_⟩) hH5 ?_
          rotate_left
          · intro w' hSw
            (try dsimp only at hSw)
            go_simp
            try with_reducible rfl
          try simp only [Act.put, List.setIfInBounds_toArray, List.set_cons_zero, List.set_cons_succ]
          refine wpAnyH_ready (rs := [11]) (by kernel_rfl) (by simp) ?_
          refine AllReadyH.cons rfl (fun K hK => ?_) (AllReadyH.nil)
          have cc : W5.cell? ⟨y, 7, none⟩ = some (.slice (some ⟨b, off, none⟩) n c) := by5.out.cell 7
          have ff : W5.frozen? ⟨y, 7, none⟩ = false := by5.out.frozen 7
          rw [if_pos (by rfl)]
          go_simp
          clear cc ff
          have as6 := Lib.hid (show Aside x y wA (W5.setCell ⟨y, 7, none⟩ (.slice (some ⟨g2, 0, none⟩) n c2)) from as5.out.setCells (g := y) (by omega) 7 [(.slice (some ⟨g2, 0, none⟩) n c2)])
          have bs6 := Lib.hid (bs5.out.far (p := ⟨y, 7, none⟩) (show w.heap.size ≠ y by omega) (.slice (some ⟨g2, 0, none⟩) n c2))
          have by6 := Lib.hid (show Blk (W5.setCell ⟨y, 7, none⟩ (.slice (some ⟨g2, 0, none⟩) n c2)) y 27 #[.int .i64 age, .int .i64 rest, .int .i64 girth, .int .i64 f0, .int .i64 f1, .int .i64 f2, .int .i64 heal, .slice (some ⟨g2, 0, none⟩) n c2] from by5.out.set_ 7 (.slice (some ⟨g2, 0, none⟩) n c2))
          have bx6 := Lib.hid (bx5.out.far (p := ⟨y, 7, none⟩) (show x ≠ y by omega) (.slice (some ⟨g2, 0, none⟩) n c2))
          have R1_6 := Lib.hid (R1_5.out.same (W' := (W5.setCell ⟨y, 7, none⟩ (.slice (some ⟨g2, 0, none⟩) n c2))) (Nat.le_of_eq (size_setCell _ _ _).symm) (heap_setCell_other W5 ⟨y, 7, none⟩ g1 (.slice (some ⟨g2, 0, none⟩) n c2) (show g1 ≠ y by omega)))
          have R2_6 := Lib.hid (R2_5.out.same (W' := (W5.setCell ⟨y, 7, none⟩ (.slice (some ⟨g2, 0, none⟩) n c2))) (Nat.le_of_eq (size_setCell _ _ _).symm) (heap_setCell_other W5 ⟨y, 7, none⟩ g2 (.slice (some ⟨g2, 0, none⟩) n c2) (show g2 ≠ y by omega)))
          refine hK.out _ _ (bs6.out.cell 7) (fun hH6 => ?_)
          clear hK K
          try simp only [Act.put, List.setIfInBounds_toArray, List.set_cons_zero, List.set_cons_succ]
          have hle6 : wA.heap.size ≤ (W5.setCell ⟨y, 7, none⟩ (.slice (some ⟨g2, 0, none⟩) n c2)).heap.size := by rw [size_setCell]; exact hle5
          generalize (W5.setCell ⟨y, 7, none⟩ (.slice (some ⟨g2, 0, none⟩) n c2)) = W6 at hH6 as6 bs6 bx6 by6 hle6 R1_6 R2_6 ⊢
          clear hH5 as5 bs5 bx5 by5 R1_5 R2_5
          refine wpAnyH_done (by kernel_rfl) ?_ _
          go_wp2_with fail
          go_meet
          case rel => exact ⟨g1, c1, g2, c2, as6.out, hg1, hg2, hg12, bx6.out, by6.out, R1_6.out, R2_6.out⟩
      case rest =>
        obtain ⟨g1, c1, g2, c2, av, hg1, hg2, hg12, bx, by', R1, R2⟩ := hcut
        generalize hwB : wc = wB at av bx by' R1 R2 ⊢
        clear hwB
        have hBB := av.below hBA.out (Nat.le_of_lt hsA) (Nat.le_of_lt hxw) (Nat.le_of_lt hyw)
        have hsB : w.heap.size < wB.heap.size := Nat.lt_of_lt_of_le hsA av.size
        have hxB := bx.lt
        have hyB := by'.lt
        have hg1B := R1.lt
        have hg2B := R2.lt
        have XB := Lib.hid (av.blk XA.out (by omega) (by omega))
        have BXB := Lib.hid bx
        have BYB := Lib.hid by'
        have R1B := Lib.hid R1
        have R2B := Lib.hid R2
        have hgx : x < g1 ∧ x < g2 ∧ y < g1 ∧ y < g2 := by omega
        clear av bx by' R1 R2 XA BXA BYA hBA
        have g7 : wB.cell? ⟨w.heap.size, 7, none⟩ = some (.slice (some ⟨b, off, none⟩) n c) := XB.out.cell 7
        go_wp2_with (first | ((with_reducible refine at_load 48 (.tmp 80) ?_); go_must (refine wpList_load_mid rfl 48 (.tmp 80) rfl b (off + K * 11) rfl [.string code, .int .i64 bmin, .int .i64 bmax, .int .i64 taped, .int .i64 gmin, .int .i64 gmax, .int .i64 wmin, .int .i64 wmax, .slice sa sn sc, .slice ua un uc, .int .i64 dead] _ (HRow.out wB hBB) Try.underlying48 rfl size_tree ?_)) | ((with_reducible refine at_store 48 (.tmp 15) (.tmp 81) ?_); go_must (refine wpList_store_row rfl 48 (.tmp 15) (.tmp 81) rfl wB.heap.size ([.string code, .int .i64 bmin, .int .i64 bmax, .int .i64 taped, .int .i64 gmin, .int .i64 gmax, .int .i64 wmin, .int .i64 wmax, .slice sa sn sc, .slice ua un uc, .int .i64 dead] : List Value).toArray rfl rfl 48 #[.string ⟨#[]⟩, .int .i64 0, .int .i64 0, .int .i64 0, .int .i64 0, .int .i64 0, .int .i64 0, .int .i64 0, .slice none 0 0, .slice none 0 0, .int .i64 0] (heap_alloc_new wB _) size_tree rfl HO.out ?_); have hBC := Lib.hid (below_setRow (hBB.alloc (Nat.le_of_lt hsB) (.cells #[.string ⟨#[]⟩, .int .i64 0, .int .i64 0, .int .i64 0, .int .i64 0, .int .i64 0, .int .i64 0, .int .i64 0, .slice none 0 0, .slice none 0 0, .int .i64 0] 48)) (Nat.le_of_lt hsB) ([.string code, .int .i64 bmin, .int .i64 bmax, .int .i64 taped, .int .i64 gmin, .int .i64 gmax, .int .i64 wmin, .int .i64 wmax, .slice sa sn sc, .slice ua un uc, .int .i64 dead] : List Value).toArray); have BZC := Lib.hid (show Blk ((wB.alloc (.cells #[.string ⟨#[]⟩, .int .i64 0, .int .i64 0, .int .i64 0, .int .i64 0, .int .i64 0, .int .i64 0, .int .i64 0, .slice none 0 0, .slice none 0 0, .int .i64 0] 48)).setRow wB.heap.size ([.string code, .int .i64 bmin, .int .i64 bmax, .int .i64 taped, .int .i64 gmin, .int .i64 gmax, .int .i64 wmin, .int .i64 wmax, .slice sa sn sc, .slice ua un uc, .int .i64 dead] : List Value).toArray) wB.heap.size 48 #[.string code, .int .i64 bmin, .int .i64 bmax, .int .i64 taped, .int .i64 gmin, .int .i64 gmax, .int .i64 wmin, .int .i64 wmax, .slice sa sn sc, .slice ua un uc, .int .i64 dead] from setRow_heap (wB.alloc (.cells #[.string ⟨#[]⟩, .int .i64 0, .int .i64 0, .int .i64 0, .int .i64 0, .int .i64 0, .int .i64 0, .int .i64 0, .slice none 0 0, .slice none 0 0, .int .i64 0] 48)) wB.heap.size _ ([.string code, .int .i64 bmin, .int .i64 bmax, .int .i64 taped, .int .i64 gmin, .int .i64 gmax, .int .i64 wmin, .int .i64 wmax, .slice sa sn sc, .slice ua un uc, .int .i64 dead] : List Value).toArray _ _ (heap_alloc_new wB _)); have bel := Lib.hid (below_setRow ((Below.refl wB.heap.size wB).alloc (Nat.le_refl _) (.cells #[.string ⟨#[]⟩, .int .i64 0, .int .i64 0, .int .i64 0, .int .i64 0, .int .i64 0, .int .i64 0, .int .i64 0, .slice none 0 0, .slice none 0 0, .int .i64 0] 48)) (Nat.le_refl _) ([.string code, .int .i64 bmin, .int .i64 bmax, .int .i64 taped, .int .i64 gmin, .int .i64 gmax, .int .i64 wmin, .int .i64 wmax, .slice sa sn sc, .slice ua un uc, .int .i64 dead] : List Value).toArray); generalize ((wB.alloc (.cells #[.string ⟨#[]⟩, .int .i64 0, .int .i64 0, .int .i64 0, .int .i64 0, .int .i64 0, .int .i64 0, .int .i64 0, .slice none 0 0, .slice none 0 0, .int .i64 0] 48)).setRow wB.heap.size ([.string code, .int .i64 bmin, .int .i64 bmax, .int .i64 taped, .int .i64 gmin, .int .i64 gmax, .int .i64 wmin, .int .i64 wmax, .slice sa sn sc, .slice ua un uc, .int .i64 dead] : List Value).toArray) = wC at hBC BZC bel ⊢))
        clear g7
        simp only [Act.put]
        have BXC := Lib.hid (BXB.out.below bel.out hxB)
        have BYC := Lib.hid (BYB.out.below bel.out hyB)
        have R1C := Lib.hid (R1B.out.same bel.out.size (bel.out.block g1 hg1B))
        have R2C := Lib.hid (R2B.out.same bel.out.size (bel.out.block g2 hg2B))
        have hsC : wB.heap.size < wC.heap.size := BZC.out.lt
        clear bel BXB BYB R1B R2B XB hBB
        go_cut [16, 17] from 82 to 83 (fun s t wx => ∃ x y : Nat, s = .pointer (some ⟨x, 0, none⟩) ∧ t = .pointer (some ⟨y, 0, none⟩) ∧ Twins wC wx 48 #[.string code, .int .i64 bmin, .int .i64 bmax, .int .i64 taped, .int .i64 gmin, .int .i64 gmax, .int .i64 wmin, .int .i64 wmax, .slice sa sn sc, .slice ua un uc, .int .i64 dead] x y)
        case first =>
          refine wp_region_held_drew (S := fun w' => w'.rangeAt wB.heap.size 0 [.string code, .int .i64 bmin, .int .i64 bmax, .int .i64 taped, .int .i64 gmin, .int .i64 gmax, .int .i64 wmin, .int .i64 wmax, .slice sa sn sc, .slice ua un uc, .int .i64 dead]) (by kernel_rfl) BZC.out.range (fun hH => ?_)
          have hX0 := Lib.hid BZC.out.drawn
          have hav := Lib.hid (fun p q => Aside.drew p q wC)
          have hsz : wC.heap.size ≤ wC.drew.heap.size := Nat.le_refl _
          generalize wC.drew = V at hH hX0 hav hsz ⊢
          refine take_at (i := 0) rfl rfl (by kernel_rfl) (by kernel_rfl) (by kernel_rfl) (fun _ _ _ h => h) (yieldsIf_load_mid (by rfl) 48 (.tmp 15) rfl wB.heap.size 0 rfl [.string code, .int .i64 bmin, .int .i64 bmax, .int .i64 taped, .int .i64 gmin, .int .i64 gmax, .int .i64 wmin, .int .i64 wmax, .slice sa sn sc, .slice ua un uc, .int .i64 dead] _ (fun _ h => h) Try.underlying48 rfl size_tree) hH ?_
          try simp only [Act.put, List.setIfInBounds_toArray, List.set_cons_zero, List.set_cons_succ]
          refine take_at (i := 1) rfl rfl (by kernel_rfl) (by kernel_rfl) (by kernel_rfl) (fun _ _ _ h => h) (yieldsIf_load_mid (by rfl) 48 (.tmp 15) rfl wB.heap.size 0 rfl [.string code, .int .i64 bmin, .int .i64 bmax, .int .i64 taped, .int .i64 gmin, .int .i64 gmax, .int .i64 wmin, .int .i64 wmax, .slice sa sn sc, .slice ua un uc, .int .i64 dead] _ (fun _ h => h) Try.underlying48 rfl size_tree) hH ?_
          try simp only [Act.put, List.setIfInBounds_toArray, List.set_cons_zero, List.set_cons_succ]
          refine wpAnyH_ready (rs := [2, 3]) (by kernel_rfl) (by simp) ?_
          refine AllReadyH.cons rfl (fun K hK => ?_) (AllReadyH.cons rfl (fun K hK => ?_) AllReadyH.nil)
          · rw [if_pos (by rfl)]
            go_simp
            refine hK.out _ _ ((hX0.out.alloc _).range) (fun hH1 => ?_)
            clear hK K
            try simp only [Act.put, List.setIfInBounds_toArray, List.set_cons_zero, List.set_cons_succ]
            refine wpAnyH_ready (rs := [3]) (by kernel_rfl) (by simp) ?_
            refine AllReadyH.cons rfl (fun K hK => ?_) AllReadyH.nil
            rw [if_pos (by rfl)]
            go_simp
            refine hK.out _ _ (((hX0.out.alloc _).alloc _).range) (fun hH2 => ?_)
            clear hK K hH1
            try simp only [Act.put, List.setIfInBounds_toArray, List.set_cons_zero, List.set_cons_succ]
            have ba : Blk ((V.alloc (.cells #[.string ⟨#[]⟩, .int .i64 0, .int .i64 0, .int .i64 0, .int .i64 0, .int .i64 0, .int .i64 0, .int .i64 0, .slice none 0 0, .slice none 0 0, .int .i64 0] 48)).alloc (.cells #[.string ⟨#[]⟩, .int .i64 0, .int .i64 0, .int .i64 0, .int .i64 0, .int .i64 0, .int .i64 0, .int .i64 0, .slice none 0 0, .slice none 0 0, .int .i64 0] 48)) V.heap.size 48 #[.string ⟨#[]⟩, .int .i64 0, .int .i64 0, .int .i64 0, .int .i64 0, .int .i64 0, .int .i64 0, .int .i64 0, .slice none 0 0, .slice none 0 0, .int .i64 0] := (Blk.new V 48 #[.string ⟨#[]⟩, .int .i64 0, .int .i64 0, .int .i64 0, .int .i64 0, .int .i64 0, .int .i64 0, .int .i64 0, .slice none 0 0, .slice none 0 0, .int .i64 0]).alloc _
            have bb : Blk ((V.alloc (.cells #[.string ⟨#[]⟩, .int .i64 0, .int .i64 0, .int .i64 0, .int .i64 0, .int .i64 0, .int .i64 0, .int .i64 0, .slice none 0 0, .slice none 0 0, .int .i64 0] 48)).alloc (.cells #[.string ⟨#[]⟩, .int .i64 0, .int .i64 0, .int .i64 0, .int .i64 0, .int .i64 0, .int .i64 0, .int .i64 0, .slice none 0 0, .slice none 0 0, .int .i64 0] 48)) (V.heap.size + 1) 48 #[.string ⟨#[]⟩, .int .i64 0, .int .i64 0, .int .i64 0, .int .i64 0, .int .i64 0, .int .i64 0, .int .i64 0, .slice none 0 0, .slice none 0 0, .int .i64 0] := Blk.new' (by rw [World.size_alloc]) 48 #[.string ⟨#[]⟩, .int .i64 0, .int .i64 0, .int .i64 0, .int .i64 0, .int .i64 0, .int .i64 0, .int .i64 0, .slice none 0 0, .slice none 0 0, .int .i64 0]
            have av : Aside V.heap.size (V.heap.size + 1) wC ((V.alloc (.cells #[.string ⟨#[]⟩, .int .i64 0, .int .i64 0, .int .i64 0, .int .i64 0, .int .i64 0, .int .i64 0, .int .i64 0, .slice none 0 0, .slice none 0 0, .int .i64 0] 48)).alloc (.cells #[.string ⟨#[]⟩, .int .i64 0, .int .i64 0, .int .i64 0, .int .i64 0, .int .i64 0, .int .i64 0, .int .i64 0, .slice none 0 0, .slice none 0 0, .int .i64 0] 48)) := ((hav.out _ _).trans (Aside.alloc _ _ _ _)).trans (Aside.alloc _ _ _ _)
            have bs : Blk ((V.alloc (.cells #[.string ⟨#[]⟩, .int .i64 0, .int .i64 0, .int .i64 0, .int .i64 0, .int .i64 0, .int .i64 0, .int .i64 0, .slice none 0 0, .slice none 0 0, .int .i64 0] 48)).alloc (.cells #[.string ⟨#[]⟩, .int .i64 0, .int .i64 0, .int .i64 0, .int .i64 0, .int .i64 0, .int .i64 0, .int .i64 0, .slice none 0 0, .slice none 0 0, .int .i64 0] 48)) wB.heap.size _ _ := (hX0.out.alloc _).alloc _
            generalize ((V.alloc (.cells #[.string ⟨#[]⟩, .int .i64 0, .int .i64 0, .int .i64 0, .int .i64 0, .int .i64 0, .int .i64 0, .int .i64 0, .slice none 0 0, .slice none 0 0, .int .i64 0] 48)).alloc (.cells #[.string ⟨#[]⟩, .int .i64 0, .int .i64 0, .int .i64 0, .int .i64 0, .int .i64 0, .int .i64 0, .int .i64 0, .slice none 0 0, .slice none 0 0, .int .i64 0] 48)) = W2 at ba bb av bs hH2 ⊢
            refine wpAnyH_ready (rs := [4]) (by kernel_rfl) (by simp) ?_
            refine AllReadyH.cons rfl (fun K hK => ?_) AllReadyH.nil
            rw [if_pos (by rfl)]
            refine wp_store_mid 48 (.tmp 16) (.tmp 82) rfl V.heap.size 0 #[.string code, .int .i64 bmin, .int .i64 bmax, .int .i64 taped, .int .i64 gmin, .int .i64 gmax, .int .i64 wmin, .int .i64 wmax, .slice sa sn sc, .slice ua un uc, .int .i64 dead] rfl rfl (ba.thereOf (o := 0) (n := 11) (Nat.le_of_ble_eq_true rfl)) size_tree HO.out ?_
            have ba' := Lib.hid (show Blk (W2.setCells V.heap.size 0 [.string code, .int .i64 bmin, .int .i64 bmax, .int .i64 taped, .int .i64 gmin, .int .i64 gmax, .int .i64 wmin, .int .i64 wmax, .slice sa sn sc, .slice ua un uc, .int .i64 dead]) V.heap.size 48 #[.string code, .int .i64 bmin, .int .i64 bmax, .int .i64 taped, .int .i64 gmin, .int .i64 gmax, .int .i64 wmin, .int .i64 wmax, .slice sa sn sc, .slice ua un uc, .int .i64 dead] from ba.stored [.string code, .int .i64 bmin, .int .i64 bmax, .int .i64 taped, .int .i64 gmin, .int .i64 gmax, .int .i64 wmin, .int .i64 wmax, .slice sa sn sc, .slice ua un uc, .int .i64 dead] rfl)
            have bb' := Lib.hid (bb.apart (show (V.heap.size + 1) ≠ V.heap.size by omega) 0 [.string code, .int .i64 bmin, .int .i64 bmax, .int .i64 taped, .int .i64 gmin, .int .i64 gmax, .int .i64 wmin, .int .i64 wmax, .slice sa sn sc, .slice ua un uc, .int .i64 dead])
            have av' := Lib.hid (av.setCells (show V.heap.size = V.heap.size ∨ V.heap.size = (V.heap.size + 1) ∨ _ by omega) 0 [.string code, .int .i64 bmin, .int .i64 bmax, .int .i64 taped, .int .i64 gmin, .int .i64 gmax, .int .i64 wmin, .int .i64 wmax, .slice sa sn sc, .slice ua un uc, .int .i64 dead])
            have bs' := Lib.hid (bs.apart (show wB.heap.size ≠ V.heap.size by have := hX0.out.lt; omega) 0 [.string code, .int .i64 bmin, .int .i64 bmax, .int .i64 taped, .int .i64 gmin, .int .i64 gmax, .int .i64 wmin, .int .i64 wmax, .slice sa sn sc, .slice ua un uc, .int .i64 dead])
            refine hK.out _ _ bs'.out.range (fun hH3 => ?_)
            clear hK K hH2 ba bb av bs
            try simp only [Act.put, List.setIfInBounds_toArray, List.set_cons_zero, List.set_cons_succ]
            change wpAnyH _ _ _ _ _ _ _ _ (W2.setCells V.heap.size 0 [.string code, .int .i64 bmin, .int .i64 bmax, .int .i64 taped, .int .i64 gmin, .int .i64 gmax, .int .i64 wmin, .int .i64 wmax, .slice sa sn sc, .slice ua un uc, .int .i64 dead])
            generalize W2.setCells V.heap.size 0 [.string code, .int .i64 bmin, .int .i64 bmax, .int .i64 taped, .int .i64 gmin, .int .i64 gmax, .int .i64 wmin, .int .i64 wmax, .slice sa sn sc, .slice ua un uc, .int .i64 dead] = W3 at ba' bb' av' bs' hH3 ⊢
            have hH2 := hH3; clear hH3
            have ba := ba'.out; have bb := bb'.out; have av := av'.out; have bs := bs'.out; clear ba' bb' av' bs'
            refine wpAnyH_ready (rs := [5]) (by kernel_rfl) (by simp) ?_
            refine AllReadyH.cons rfl (fun K hK => ?_) AllReadyH.nil
            rw [if_pos (by rfl)]
            refine wp_store_mid 48 (.tmp 17) (.tmp 83) rfl (V.heap.size + 1) 0 #[.string code, .int .i64 bmin, .int .i64 bmax, .int .i64 taped, .int .i64 gmin, .int .i64 gmax, .int .i64 wmin, .int .i64 wmax, .slice sa sn sc, .slice ua un uc, .int .i64 dead] rfl rfl (bb.thereOf (o := 0) (n := 11) (Nat.le_of_ble_eq_true rfl)) size_tree HO.out ?_
            have bb' := Lib.hid (show Blk (W3.setCells (V.heap.size + 1) 0 [.string code, .int .i64 bmin, .int .i64 bmax, .int .i64 taped, .int .i64 gmin, .int .i64 gmax, .int .i64 wmin, .int .i64 wmax, .slice sa sn sc, .slice ua un uc, .int .i64 dead]) (V.heap.size + 1) 48 #[.string code, .int .i64 bmin, .int .i64 bmax, .int .i64 taped, .int .i64 gmin, .int .i64 gmax, .int .i64 wmin, .int .i64 wmax, .slice sa sn sc, .slice ua un uc, .int .i64 dead] from bb.stored [.string code, .int .i64 bmin, .int .i64 bmax, .int .i64 taped, .int .i64 gmin, .int .i64 gmax, .int .i64 wmin, .int .i64 wmax, .slice sa sn sc, .slice ua un uc, .int .i64 dead] rfl)
            have ba' := Lib.hid (ba.apart (show V.heap.size ≠ (V.heap.size + 1) by omega) 0 [.string code, .int .i64 bmin, .int .i64 bmax, .int .i64 taped, .int .i64 gmin, .int .i64 gmax, .int .i64 wmin, .int .i64 wmax, .slice sa sn sc, .slice ua un uc, .int .i64 dead])
            have av' := Lib.hid (av.setCells (show (V.heap.size + 1) = V.heap.size ∨ (V.heap.size + 1) = (V.heap.size + 1) ∨ _ by omega) 0 [.string code, .int .i64 bmin, .int .i64 bmax, .int .i64 taped, .int .i64 gmin, .int .i64 gmax, .int .i64 wmin, .int .i64 wmax, .slice sa sn sc, .slice ua un uc, .int .i64 dead])
            have bs' := Lib.hid (bs.apart (show wB.heap.size ≠ (V.heap.size + 1) by have := hX0.out.lt; omega) 0 [.string code, .int .i64 bmin, .int .i64 bmax, .int .i64 taped, .int .i64 gmin, .int .i64 gmax, .int .i64 wmin, .int .i64 wmax, .slice sa sn sc, .slice ua un uc, .int .i64 dead])
            refine hK.out _ _ bs'.out.range (fun hH3 => ?_)
            clear hK K hH2 ba bb av bs
            try simp only [Act.put, List.setIfInBounds_toArray, List.set_cons_zero, List.set_cons_succ]
            change wpAnyH _ _ _ _ _ _ _ _ (W3.setCells (V.heap.size + 1) 0 [.string code, .int .i64 bmin, .int .i64 bmax, .int .i64 taped, .int .i64 gmin, .int .i64 gmax, .int .i64 wmin, .int .i64 wmax, .slice sa sn sc, .slice ua un uc, .int .i64 dead])
            generalize W3.setCells (V.heap.size + 1) 0 [.string code, .int .i64 bmin, .int .i64 bmax, .int .i64 taped, .int .i64 gmin, .int .i64 gmax, .int .i64 wmin, .int .i64 wmax, .slice sa sn sc, .slice ua un uc, .int .i64 dead] = W4 at bb' ba' av' bs' hH3 ⊢
            have hH2 := hH3; clear hH3
            have ba := ba'.out; have bb := bb'.out; have av := av'.out; have bs := bs'.out; clear ba' bb' av' bs'
            refine wpAnyH_done (by kernel_rfl) ?_ _
            go_wp2_with fail
            go_meet
            case rel => exact ⟨V.heap.size, (V.heap.size + 1), rfl, rfl, ⟨by omega, by omega, by omega, av, ba, bb⟩⟩
          · rw [if_pos (by rfl)]
            go_simp
            refine hK.out _ _ ((hX0.out.alloc _).range) (fun hH1 => ?_)
            clear hK K
            try simp only [Act.put, List.setIfInBounds_toArray, List.set_cons_zero, List.set_cons_succ]
            refine wpAnyH_ready (rs := [2]) (by kernel_rfl) (by simp) ?_
            refine AllReadyH.cons rfl (fun K hK => ?_) AllReadyH.nil
            rw [if_pos (by rfl)]
            go_simp
            refine hK.out _ _ (((hX0.out.alloc _).alloc _).range) (fun hH2 => ?_)
            clear hK K hH1
            try simp only [Act.put, List.setIfInBounds_toArray, List.set_cons_zero, List.set_cons_succ]
            have ba : Blk ((V.alloc (.cells #[.string ⟨#[]⟩, .int .i64 0, .int .i64 0, .int .i64 0, .int .i64 0, .int .i64 0, .int .i64 0, .int .i64 0, .slice none 0 0, .slice none 0 0, .int .i64 0] 48)).alloc (.cells #[.string ⟨#[]⟩, .int .i64 0, .int .i64 0, .int .i64 0, .int .i64 0, .int .i64 0, .int .i64 0, .int .i64 0, .slice none 0 0, .slice none 0 0, .int .i64 0] 48)) V.heap.size 48 #[.string ⟨#[]⟩, .int .i64 0, .int .i64 0, .int .i64 0, .int .i64 0, .int .i64 0, .int .i64 0, .int .i64 0, .slice none 0 0, .slice none 0 0, .int .i64 0] := (Blk.new V 48 #[.string ⟨#[]⟩, .int .i64 0, .int .i64 0, .int .i64 0, .int .i64 0, .int .i64 0, .int .i64 0, .int .i64 0, .slice none 0 0, .slice none 0 0, .int .i64 0]).alloc _
            have bb : Blk ((V.alloc (.cells #[.string ⟨#[]⟩, .int .i64 0, .int .i64 0, .int .i64 0, .int .i64 0, .int .i64 0, .int .i64 0, .int .i64 0, .slice none 0 0, .slice none 0 0, .int .i64 0] 48)).alloc (.cells #[.string ⟨#[]⟩, .int .i64 0, .int .i64 0, .int .i64 0, .int .i64 0, .int .i64 0, .int .i64 0, .int .i64 0, .slice none 0 0, .slice none 0 0, .int .i64 0] 48)) (V.heap.size + 1) 48 #[.string ⟨#[]⟩, .int .i64 0, .int .i64 0, .int .i64 0, .int .i64 0, .int .i64 0, .int .i64 0, .int .i64 0, .slice none 0 0, .slice none 0 0, .int .i64 0] := Blk.new' (by rw [World.size_alloc]) 48 #[.string ⟨#[]⟩, .int .i64 0, .int .i64 0, .int .i64 0, .int .i64 0, .int .i64 0, .int .i64 0, .int .i64 0, .slice none 0 0, .slice none 0 0, .int .i64 0]
            have av : Aside (V.heap.size + 1) V.heap.size wC ((V.alloc (.cells #[.string ⟨#[]⟩, .int .i64 0, .int .i64 0, .int .i64 0, .int .i64 0, .int .i64 0, .int .i64 0, .int .i64 0, .slice none 0 0, .slice none 0 0, .int .i64 0] 48)).alloc (.cells #[.string ⟨#[]⟩, .int .i64 0, .int .i64 0, .int .i64 0, .int .i64 0, .int .i64 0, .int .i64 0, .int .i64 0, .slice none 0 0, .slice none 0 0, .int .i64 0] 48)) := ((hav.out _ _).trans (Aside.alloc _ _ _ _)).trans (Aside.alloc _ _ _ _)
            have bs : Blk ((V.alloc (.cells #[.string ⟨#[]⟩, .int .i64 0, .int .i64 0, .int .i64 0, .int .i64 0, .int .i64 0, .int .i64 0, .int .i64 0, .slice none 0 0, .slice none 0 0, .int .i64 0] 48)).alloc (.cells #[.string ⟨#[]⟩, .int .i64 0, .int .i64 0, .int .i64 0, .int .i64 0, .int .i64 0, .int .i64 0, .int .i64 0, .slice none 0 0, .slice none 0 0, .int .i64 0] 48)) wB.heap.size _ _ := (hX0.out.alloc _).alloc _
            generalize ((V.alloc (.cells #[.string ⟨#[]⟩, .int .i64 0, .int .i64 0, .int .i64 0, .int .i64 0, .int .i64 0, .int .i64 0, .int .i64 0, .slice none 0 0, .slice none 0 0, .int .i64 0] 48)).alloc (.cells #[.string ⟨#[]⟩, .int .i64 0, .int .i64 0, .int .i64 0, .int .i64 0, .int .i64 0, .int .i64 0, .int .i64 0, .slice none 0 0, .slice none 0 0, .int .i64 0] 48)) = W2 at ba bb av bs hH2 ⊢
            refine wpAnyH_ready (rs := [4]) (by kernel_rfl) (by simp) ?_
            refine AllReadyH.cons rfl (fun K hK => ?_) AllReadyH.nil
            rw [if_pos (by rfl)]
            refine wp_store_mid 48 (.tmp 16) (.tmp 82) rfl (V.heap.size + 1) 0 #[.string code, .int .i64 bmin, .int .i64 bmax, .int .i64 taped, .int .i64 gmin, .int .i64 gmax, .int .i64 wmin, .int .i64 wmax, .slice sa sn sc, .slice ua un uc, .int .i64 dead] rfl rfl (bb.thereOf (o := 0) (n := 11) (Nat.le_of_ble_eq_true rfl)) size_tree HO.out ?_
            have bb' := Lib.hid (show Blk (W2.setCells (V.heap.size + 1) 0 [.string code, .int .i64 bmin, .int .i64 bmax, .int .i64 taped, .int .i64 gmin, .int .i64 gmax, .int .i64 wmin, .int .i64 wmax, .slice sa sn sc, .slice ua un uc, .int .i64 dead]) (V.heap.size + 1) 48 #[.string code, .int .i64 bmin, .int .i64 bmax, .int .i64 taped, .int .i64 gmin, .int .i64 gmax, .int .i64 wmin, .int .i64 wmax, .slice sa sn sc, .slice ua un uc, .int .i64 dead] from bb.stored [.string code, .int .i64 bmin, .int .i64 bmax, .int .i64 taped, .int .i64 gmin, .int .i64 gmax, .int .i64 wmin, .int .i64 wmax, .slice sa sn sc, .slice ua un uc, .int .i64 dead] rfl)
            have ba' := Lib.hid (ba.apart (show V.heap.size ≠ (V.heap.size + 1) by omega) 0 [.string code, .int .i64 bmin, .int .i64 bmax, .int .i64 taped, .int .i64 gmin, .int .i64 gmax, .int .i64 wmin, .int .i64 wmax, .slice sa sn sc, .slice ua un uc, .int .i64 dead])
            have av' := Lib.hid (av.setCells (show (V.heap.size + 1) = (V.heap.size + 1) ∨ (V.heap.size + 1) = V.heap.size ∨ _ by omega) 0 [.string code, .int .i64 bmin, .int .i64 bmax, .int .i64 taped, .int .i64 gmin, .int .i64 gmax, .int .i64 wmin, .int .i64 wmax, .slice sa sn sc, .slice ua un uc, .int .i64 dead])
            have bs' := Lib.hid (bs.apart (show wB.heap.size ≠ (V.heap.size + 1) by have := hX0.out.lt; omega) 0 [.string code, .int .i64 bmin, .int .i64 bmax, .int .i64 taped, .int .i64 gmin, .int .i64 gmax, .int .i64 wmin, .int .i64 wmax, .slice sa sn sc, .slice ua un uc, .int .i64 dead])
            refine hK.out _ _ bs'.out.range (fun hH3 => ?_)
            clear hK K hH2 ba bb av bs
            try simp only [Act.put, List.setIfInBounds_toArray, List.set_cons_zero, List.set_cons_succ]
            change wpAnyH _ _ _ _ _ _ _ _ (W2.setCells (V.heap.size + 1) 0 [.string code, .int .i64 bmin, .int .i64 bmax, .int .i64 taped, .int .i64 gmin, .int .i64 gmax, .int .i64 wmin, .int .i64 wmax, .slice sa sn sc, .slice ua un uc, .int .i64 dead])
            generalize W2.setCells (V.heap.size + 1) 0 [.string code, .int .i64 bmin, .int .i64 bmax, .int .i64 taped, .int .i64 gmin, .int .i64 gmax, .int .i64 wmin, .int .i64 wmax, .slice sa sn sc, .slice ua un uc, .int .i64 dead] = W3 at bb' ba' av' bs' hH3 ⊢
            have hH2 := hH3; clear hH3
            have ba := ba'.out; have bb := bb'.out; have av := av'.out; have bs := bs'.out; clear ba' bb' av' bs'
            refine wpAnyH_ready (rs := [5]) (by kernel_rfl) (by simp) ?_
            refine AllReadyH.cons rfl (fun K hK => ?_) AllReadyH.nil
            rw [if_pos (by rfl)]
            refine wp_store_mid 48 (.tmp 17) (.tmp 83) rfl V.heap.size 0 #[.string code, .int .i64 bmin, .int .i64 bmax, .int .i64 taped, .int .i64 gmin, .int .i64 gmax, .int .i64 wmin, .int .i64 wmax, .slice sa sn sc, .slice ua un uc, .int .i64 dead] rfl rfl (ba.thereOf (o := 0) (n := 11) (Nat.le_of_ble_eq_true rfl)) size_tree HO.out ?_
            have ba' := Lib.hid (show Blk (W3.setCells V.heap.size 0 [.string code, .int .i64 bmin, .int .i64 bmax, .int .i64 taped, .int .i64 gmin, .int .i64 gmax, .int .i64 wmin, .int .i64 wmax, .slice sa sn sc, .slice ua un uc, .int .i64 dead]) V.heap.size 48 #[.string code, .int .i64 bmin, .int .i64 bmax, .int .i64 taped, .int .i64 gmin, .int .i64 gmax, .int .i64 wmin, .int .i64 wmax, .slice sa sn sc, .slice ua un uc, .int .i64 dead] from ba.stored [.string code, .int .i64 bmin, .int .i64 bmax, .int .i64 taped, .int .i64 gmin, .int .i64 gmax, .int .i64 wmin, .int .i64 wmax, .slice sa sn sc, .slice ua un uc, .int .i64 dead] rfl)
            have bb' := Lib.hid (bb.apart (show (V.heap.size + 1) ≠ V.heap.size by omega) 0 [.string code, .int .i64 bmin, .int .i64 bmax, .int .i64 taped, .int .i64 gmin, .int .i64 gmax, .int .i64 wmin, .int .i64 wmax, .slice sa sn sc, .slice ua un uc, .int .i64 dead])
            have av' := Lib.hid (av.setCells (show V.heap.size = (V.heap.size + 1) ∨ V.heap.size = V.heap.size ∨ _ by omega) 0 [.string code, .int .i64 bmin, .int .i64 bmax, .int .i64 taped, .int .i64 gmin, .int .i64 gmax, .int .i64 wmin, .int .i64 wmax, .slice sa sn sc, .slice ua un uc, .int .i64 dead])
            have bs' := Lib.hid (bs.apart (show wB.heap.size ≠ V.heap.size by have := hX0.out.lt; omega) 0 [.string code, .int .i64 bmin, .int .i64 bmax, .int .i64 taped, .int .i64 gmin, .int .i64 gmax, .int .i64 wmin, .int .i64 wmax, .slice sa sn sc, .slice ua un uc, .int .i64 dead])
            refine hK.out _ _ bs'.out.range (fun hH3 => ?_)
            clear hK K hH2 ba bb av bs
            try simp only [Act.put, List.setIfInBounds_toArray, List.set_cons_zero, List.set_cons_succ]
            change wpAnyH _ _ _ _ _ _ _ _ (W3.setCells V.heap.size 0 [.string code, .int .i64 bmin, .int .i64 bmax, .int .i64 taped, .int .i64 gmin, .int .i64 gmax, .int .i64 wmin, .int .i64 wmax, .slice sa sn sc, .slice ua un uc, .int .i64 dead])
            generalize W3.setCells V.heap.size 0 [.string code, .int .i64 bmin, .int .i64 bmax, .int .i64 taped, .int .i64 gmin, .int .i64 gmax, .int .i64 wmin, .int .i64 wmax, .slice sa sn sc, .slice ua un uc, .int .i64 dead] = W4 at ba' bb' av' bs' hH3 ⊢
            have hH2 := hH3; clear hH3
            have ba := ba'.out; have bb := bb'.out; have av := av'.out; have bs := bs'.out; clear ba' bb' av' bs'
            refine wpAnyH_done (by kernel_rfl) ?_ _
            go_wp2_with fail
            go_meet
            case rel => exact ⟨(V.heap.size + 1), V.heap.size, rfl, rfl, ⟨by omega, by omega, by omega, av, bb, ba⟩⟩
        case rest =>
          obtain ⟨p, q, hp, hq, htw⟩ := hcut
          subst hp hq
          generalize hwD : wc = wD at htw ⊢
          clear hwD
          have hBD := Lib.hid (htw.below hBC.out (by omega))
          have hpD := htw.bx.lt
          have hqD := htw.by_.lt
          have hpC := htw.hx
          have hqC := htw.hy
          have hpq := htw.ne
          have BXD := Lib.hid (htw.aside.blk BXC.out (by omega) (by omega))
          have BYD := Lib.hid (htw.aside.blk BYC.out (by omega) (by omega))
          have BZD := Lib.hid (htw.aside.blk BZC.out (by omega) (by omega))
          have R1D := Lib.hid (R1C.out.same htw.aside.size (htw.aside.block g1 (by omega) (by omega) (by omega)))
          have R2D := Lib.hid (R2C.out.same htw.aside.size (htw.aside.block g2 (by omega) (by omega) (by omega)))
          have BPD := Lib.hid htw.bx
          have BQD := Lib.hid htw.by_
          clear htw BXC BYC BZC R1C R2C hBC
          have hpz : p ≠ wB.heap.size := by omega
          have hqz : q ≠ wB.heap.size := by omega
          have hqp : q ≠ p := fun h => hpq h.symm
          go_wp2_with fail
          go_cut [] from 84 to 99 (fun wx => Aside p q wD wx ∧ Blk wx p 48 #[.string code, .int .i64 bmin, .int .i64 bmin, .int .i64 taped, .int .i64 gmin, .int .i64 gmax, .int .i64 wmin, .int .i64 wmax, .slice sa sn sc, .slice ua un uc, .int .i64 dead] ∧ Blk wx q 48 #[.string code, .int .i64 bmax, .int .i64 bmax, .int .i64 taped, .int .i64 gmin, .int .i64 gmax, .int .i64 wmin, .int .i64 wmax, .slice sa sn sc, .slice ua un uc, .int .i64 dead])
          case first =>
            have z0 : wD.cell? ⟨wB.heap.size, 1, none⟩ = some (.int .i64 bmin) := BZD.out.cell 1
            have z1 : wD.cell? ⟨wB.heap.size, 2, none⟩ = some (.int .i64 bmax) := BZD.out.cell 2
            have p0 : wD.cell? ⟨p, 1, none⟩ = some (.int .i64 bmin) := BPD.out.cell 1
            have p1 : wD.cell? ⟨p, 2, none⟩ = some (.int .i64 bmax) := BPD.out.cell 2
            have p2 : wD.frozen? ⟨p, 1, none⟩ = false := BPD.out.frozen 1
            have p3 : wD.frozen? ⟨p, 2, none⟩ = false := BPD.out.frozen 2
            have q0 : wD.cell? ⟨q, 1, none⟩ = some (.int .i64 bmin) := BQD.out.cell 1
            have q1 : wD.cell? ⟨q, 2, none⟩ = some (.int .i64 bmax) := BQD.out.cell 2
            have q2 : wD.frozen? ⟨q, 1, none⟩ = false := BQD.out.frozen 1
            have q3 : wD.frozen? ⟨q, 2, none⟩ = false := BQD.out.frozen 2
            go_region_held3 (fun w' => w'.cell? ⟨wB.heap.size, 1, none⟩ = some (.int .i64 bmin) ∧ w'.cell? ⟨wB.heap.size, 2, none⟩ = some (.int .i64 bmax)) (go_keep) (fail)
            all_goals (go_wp2_with fail; go_meet)
            case rel => exact pair_drew hpq BPD.out BQD.out 1 (.int .i64 bmin) (.int .i64 bmin) (.int .i64 bmax) (.int .i64 bmax)
          case rest =>
            obtain ⟨av, bp, bq⟩ := hcut
            generalize hww : wc = wE at av bp bq ⊢
            clear hww
            have hBE := Lib.hid (av.below hBD.out (by omega) (by omega) (by omega))
            have hsE : wD.heap.size ≤ wE.heap.size := av.size
            have BXE := Lib.hid (av.blk BXD.out (by omega) (by omega))
            have BYE := Lib.hid (av.blk BYD.out (by omega) (by omega))
            have BZE := Lib.hid (av.blk BZD.out (by omega) (by omega))
            have R1E := Lib.hid (R1D.out.same av.size (av.block g1 (by omega) (by omega) (by omega)))
            have R2E := Lib.hid (R2D.out.same av.size (av.block g2 (by omega) (by omega) (by omega)))
            have BPE := Lib.hid bp
            have BQE := Lib.hid bq
            clear av bp bq BXD BYD BZD R1D R2D BPD BQD hBD
            go_wp2_with fail
            go_cut [] from 100 to 115 (fun wx => Aside p q wE wx ∧ Blk wx p 48 #[.string code, .int .i64 bmin, .int .i64 bmin, .int .i64 taped, .int .i64 gmax, .int .i64 gmax, .int .i64 wmin, .int .i64 wmax, .slice sa sn sc, .slice ua un uc, .int .i64 dead] ∧ Blk wx q 48 #[.string code, .int .i64 bmax, .int .i64 bmax, .int .i64 taped, .int .i64 gmin, .int .i64 gmin, .int .i64 wmin, .int .i64 wmax, .slice sa sn sc, .slice ua un uc, .int .i64 dead])
            case first =>
              have z0 : wE.cell? ⟨wB.heap.size, 4, none⟩ = some (.int .i64 gmin) := BZE.out.cell 4
              have z1 : wE.cell? ⟨wB.heap.size, 5, none⟩ = some (.int .i64 gmax) := BZE.out.cell 5
              have p0 : wE.cell? ⟨p, 4, none⟩ = some (.int .i64 gmin) := BPE.out.cell 4
              have p1 : wE.cell? ⟨p, 5, none⟩ = some (.int .i64 gmax) := BPE.out.cell 5
              have p2 : wE.frozen? ⟨p, 4, none⟩ = false := BPE.out.frozen 4
              have p3 : wE.frozen? ⟨p, 5, none⟩ = false := BPE.out.frozen 5
              have q0 : wE.cell? ⟨q, 4, none⟩ = some (.int .i64 gmin) := BQE.out.cell 4
              have q1 : wE.cell? ⟨q, 5, none⟩ = some (.int .i64 gmax) := BQE.out.cell 5
              have q2 : wE.frozen? ⟨q, 4, none⟩ = false := BQE.out.frozen 4
              have q3 : wE.frozen? ⟨q, 5, none⟩ = false := BQE.out.frozen 5
              go_region_held3 (fun w' => w'.cell? ⟨wB.heap.size, 4, none⟩ = some (.int .i64 gmin) ∧ w'.cell? ⟨wB.heap.size, 5, none⟩ = some (.int .i64 gmax)) (go_keep) (fail)
              all_goals (go_wp2_with fail; go_meet)
              case rel => exact pair_drew hpq BPE.out BQE.out 4 (.int .i64 gmax) (.int .i64 gmax) (.int .i64 gmin) (.int .i64 gmin)
            case rest =>
              obtain ⟨av, bp, bq⟩ := hcut
              generalize hww : wc = wF at av bp bq ⊢
              clear hww
              have hBF := Lib.hid (av.below hBE.out (by omega) (by omega) (by omega))
              have hsF : wE.heap.size ≤ wF.heap.size := av.size
              have BXF := Lib.hid (av.blk BXE.out (by omega) (by omega))
              have BYF := Lib.hid (av.blk BYE.out (by omega) (by omega))
              have BZF := Lib.hid (av.blk BZE.out (by omega) (by omega))
              have R1F := Lib.hid (R1E.out.same av.size (av.block g1 (by omega) (by omega) (by omega)))
              have R2F := Lib.hid (R2E.out.same av.size (av.block g2 (by omega) (by omega) (by omega)))
              have BPF := Lib.hid bp
              have BQF := Lib.hid bq
              clear av bp bq BXE BYE BZE R1E R2E BPE BQE hBE
              go_wp2_with fail
              go_cut [] from 116 to 131 (fun wx => Aside p q wF wx ∧ Blk wx p 48 #[.string code, .int .i64 bmin, .int .i64 bmin, .int .i64 taped, .int .i64 gmax, .int .i64 gmax, .int .i64 wmax, .int .i64 wmax, .slice sa sn sc, .slice ua un uc, .int .i64 dead] ∧ Blk wx q 48 #[.string code, .int .i64 bmax, .int .i64 bmax, .int .i64 taped, .int .i64 gmin, .int .i64 gmin, .int .i64 wmin, .int .i64 wmin, .slice sa sn sc, .slice ua un uc, .int .i64 dead])
              case first =>
                have z0 : wF.cell? ⟨wB.heap.size, 6, none⟩ = some (.int .i64 wmin) := BZF.out.cell 6
                have z1 : wF.cell? ⟨wB.heap.size, 7, none⟩ = some (.int .i64 wmax) := BZF.out.cell 7
                have p0 : wF.cell? ⟨p, 6, none⟩ = some (.int .i64 wmin) := BPF.out.cell 6
                have p1 : wF.cell? ⟨p, 7, none⟩ = some (.int .i64 wmax) := BPF.out.cell 7
                have p2 : wF.frozen? ⟨p, 6, none⟩ = false := BPF.out.frozen 6
                have p3 : wF.frozen? ⟨p, 7, none⟩ = false := BPF.out.frozen 7
                have q0 : wF.cell? ⟨q, 6, none⟩ = some (.int .i64 wmin) := BQF.out.cell 6
                have q1 : wF.cell? ⟨q, 7, none⟩ = some (.int .i64 wmax) := BQF.out.cell 7
                have q2 : wF.frozen? ⟨q, 6, none⟩ = false := BQF.out.frozen 6
                have q3 : wF.frozen? ⟨q, 7, none⟩ = false := BQF.out.frozen 7
                go_region_held3 (fun w' => w'.cell? ⟨wB.heap.size, 6, none⟩ = some (.int .i64 wmin) ∧ w'.cell? ⟨wB.heap.size, 7, none⟩ = some (.int .i64 wmax)) (go_keep) (fail)
                all_goals (go_wp2_with fail; go_meet)
                case rel => exact pair_drew hpq BPF.out BQF.out 6 (.int .i64 wmax) (.int .i64 wmax) (.int .i64 wmin) (.int .i64 wmin)
              case rest =>
                obtain ⟨av, bp, bq⟩ := hcut
                generalize hww : wc = wG at av bp bq ⊢
                clear hww
                have hBG := Lib.hid (av.below hBF.out (by omega) (by omega) (by omega))
                have hsG : wF.heap.size ≤ wG.heap.size := av.size
                have BXG := Lib.hid (av.blk BXF.out (by omega) (by omega))
                have BYG := Lib.hid (av.blk BYF.out (by omega) (by omega))
                have BZG := Lib.hid (av.blk BZF.out (by omega) (by omega))
                have R1G := Lib.hid (R1F.out.same av.size (av.block g1 (by omega) (by omega) (by omega)))
                have R2G := Lib.hid (R2F.out.same av.size (av.block g2 (by omega) (by omega) (by omega)))
                have BPG := Lib.hid bp
                have BQG := Lib.hid bq
                clear av bp bq BXF BYF BZF R1F R2F BPF BQF hBF
                have z3 : wG.cell? ⟨wB.heap.size, 3, none⟩ = some (.int .i64 taped) := BZG.out.cell 3
                go_upto_if 135 with fail
                clear z3
                go_cut [] from 132 to 141 (fun wx => Aside p q wG wx ∧ Blk wx p 48 #[.string code, .int .i64 bmin, .int .i64 bmin, .int .i64 taped, .int .i64 gmax, .int .i64 gmax, .int .i64 ga, .int .i64 ga, .slice sa sn sc, .slice ua un uc, .int .i64 dead] ∧ Blk wx q 48 #[.string code, .int .i64 bmax, .int .i64 bmax, .int .i64 taped, .int .i64 gmin, .int .i64 gmin, .int .i64 gb, .int .i64 gb, .slice sa sn sc, .slice ua un uc, .int .i64 dead])
                case first =>
                  rcases Hgrow.out with ⟨hlt, e1, e2⟩ | ⟨hge, e1, e2⟩
                  · have E1 := Lib.hid e1
                    have E2 := Lib.hid e2
                    clear e1 e2
                    have p0 : wG.cell? ⟨p, 6, none⟩ = some (.int .i64 wmax) := BPG.out.cell 6
                    have pf0 : wG.frozen? ⟨p, 6, none⟩ = false := BPG.out.frozen 6
                    have p1 : wG.cell? ⟨p, 7, none⟩ = some (.int .i64 wmax) := BPG.out.cell 7
                    have pf1 : wG.frozen? ⟨p, 7, none⟩ = false := BPG.out.frozen 7
                    have q0 : wG.cell? ⟨q, 6, none⟩ = some (.int .i64 wmin) := BQG.out.cell 6
                    have qf0 : wG.frozen? ⟨q, 6, none⟩ = false := BQG.out.frozen 6
                    have q1 : wG.cell? ⟨q, 7, none⟩ = some (.int .i64 wmin) := BQG.out.cell 7
                    have qf1 : wG.frozen? ⟨q, 7, none⟩ = false := BQG.out.frozen 7
                    go_wp2_with fail
                    go_meet
                    case rel =>
                      rw [E1.out, E2.out]
                      exact pair_step hpq BPG.out BQG.out 6 (.int .i64 wmin) (.int .i64 wmin) (.int .i64 wmax) (.int .i64 wmax)
                  · have E1 := Lib.hid e1
                    have E2 := Lib.hid e2
                    clear e1 e2
                    go_wp2_with fail
                    go_meet
                    case rel =>
                      rw [E1.out, E2.out]
                      exact ⟨Aside.refl p q wG, BPG.out, BQG.out⟩
                case rest =>
                  obtain ⟨av, bp, bq⟩ := hcut
                  generalize hww : wc = wH at av bp bq ⊢
                  clear hww
                  have hBH := Lib.hid (av.below hBG.out (by omega) (by omega) (by omega))
                  have hsH : wG.heap.size ≤ wH.heap.size := av.size
                  have BXH := Lib.hid (av.blk BXG.out (by omega) (by omega))
                  have BYH := Lib.hid (av.blk BYG.out (by omega) (by omega))
                  have BZH := Lib.hid (av.blk BZG.out (by omega) (by omega))
                  have R1H := Lib.hid (R1G.out.same av.size (av.block g1 (by omega) (by omega) (by omega)))
                  have R2H := Lib.hid (R2G.out.same av.size (av.block g2 (by omega) (by omega) (by omega)))
                  have BPH := Lib.hid bp
                  have BQH := Lib.hid bq
                  clear av bp bq BXG BYG BZG R1G R2G BPG BQG hBG
                  go_wp2_with fail
                  go_cut [] from 142 to 151 (fun wx => Below w.heap.size w wx ∧ Blk wx x 27 #[.int .i64 age, .int .i64 rest, .int .i64 girth, .int .i64 f0, .int .i64 f1, .int .i64 f2, .int .i64 heal, .slice (some ⟨g1, 0, none⟩) n c1] ∧ Blk wx y 27 #[.int .i64 age, .int .i64 rest, .int .i64 girth, .int .i64 f0, .int .i64 f1, .int .i64 f2, .int .i64 heal, .slice (some ⟨g2, 0, none⟩) n c2] ∧ Held wx.heap.size wx 11 Tree.cells (.slice (some ⟨g1, 0, none⟩) n c1) (ts.set K ⟨code, bmin, bmin, taped, gmax, gmax, ga, ga, .slice sa sn sc, .slice ua un uc, dead, strips, wounds⟩) ∧ Held wx.heap.size wx 11 Tree.cells (.slice (some ⟨g2, 0, none⟩) n c2) (ts.set K ⟨code, bmax, bmax, taped, gmin, gmin, gb, gb, .slice sa sn sc, .slice ua un uc, dead, strips, wounds⟩))
                  case first =>
                    refine wp_region_held_drew (S := (fun w' => w'.cell? ⟨x, 7, none⟩ = some (.slice (some ⟨g1, 0, none⟩) n c1) ∧ w'.cell? ⟨y, 7, none⟩ = some (.slice (some ⟨g2, 0, none⟩) n c2) ∧ w'.rangeAt p 0 [.string code, .int .i64 bmin, .int .i64 bmin, .int .i64 taped, .int .i64 gmax, .int .i64 gmax, .int .i64 ga, .int .i64 ga, .slice sa sn sc, .slice ua un uc, .int .i64 dead] ∧ w'.rangeAt q 0 [.string code, .int .i64 bmax, .int .i64 bmax, .int .i64 taped, .int .i64 gmin, .int .i64 gmin, .int .i64 gb, .int .i64 gb, .slice sa sn sc, .slice ua un uc, .int .i64 dead])) (by kernel_rfl) ⟨BXH.out.drawn.cell 7, BYH.out.drawn.cell 7, BPH.out.drawn.range, BQH.out.drawn.range⟩ (fun hH => ?_)
                    have hBV := Lib.hid hBH.out.drew
                    have bx := Lib.hid BXH.out.drawn
                    have by' := Lib.hid BYH.out.drawn
                    have bp := Lib.hid BPH.out.drawn
                    have bq := Lib.hid BQH.out.drawn
                    have r1 := Lib.hid (R1H.out.same (W' := wH.drew) (Nat.le_refl _) rfl)
                    have r2 := Lib.hid (R2H.out.same (W' := wH.drew) (Nat.le_refl _) rfl)
                    generalize wH.drew = V at hH hBV bx by' bp bq r1 r2 ⊢
                    have hK0 : (0 : Int) ≤ (K : Int) := by omega
                    refine take_at (i := 0) (v := ?_) rfl rfl (by kernel_rfl) (by kernel_rfl) (by kernel_rfl) (fun _ _ _ h => h) (Or.inl ⟨by rfl, ?_⟩) hH ?_
                    rotate_left
                    · rintro w' ⟨s1, s2, _, _⟩
                      go_simp
                      try with_reducible rfl
                    try simp only [Act.put, List.setIfInBounds_toArray, List.set_cons_zero, List.set_cons_succ]
                    refine take_at (i := 1) (v := ?_) rfl rfl (by kernel_rfl) (by kernel_rfl) (by kernel_rfl) (fun _ _ _ h => h) (Or.inl ⟨by rfl, ?_⟩) hH ?_
                    rotate_left
                    · rintro w' ⟨s1, s2, _, _⟩
                      go_simp
                      try with_reducible rfl
                    try simp only [Act.put, List.setIfInBounds_toArray, List.set_cons_zero, List.set_cons_succ]
                    refine take_at (i := 2) (v := ?_) rfl rfl (by kernel_rfl) (by kernel_rfl) (by kernel_rfl) (fun _ _ _ h => h) (Or.inl ⟨by rfl, ?_⟩) hH ?_
                    rotate_left
                    · rintro w' ⟨s1, s2, _, _⟩
                      go_simp
                      try with_reducible rfl
                    try simp only [Act.put, List.setIfInBounds_toArray, List.set_cons_zero, List.set_cons_succ]
                    refine take_at (i := 3) (v := ?_) rfl rfl (by kernel_rfl) (by kernel_rfl) (by kernel_rfl) (fun _ _ _ h => h) (Or.inl ⟨by rfl, ?_⟩) hH ?_
                    rotate_left
                    · rintro w' ⟨s1, s2, _, _⟩
                      go_simp
                      try with_reducible rfl
                    try simp only [Act.put, List.setIfInBounds_toArray, List.set_cons_zero, List.set_cons_succ]
                    refine take_at (i := 4) (v := ?_) rfl rfl (by kernel_rfl) (by kernel_rfl) (by kernel_rfl) (fun _ _ _ h => h) (Or.inl ⟨by rfl, ?_⟩) hH ?_
                    rotate_left
                    · rintro w' ⟨s1, s2, _, _⟩
                      go_simp
                      try with_reducible rfl
                    try simp only [Act.put, List.setIfInBounds_toArray, List.set_cons_zero, List.set_cons_succ]
                    refine take_at (i := 5) (v := ?_) rfl rfl (by kernel_rfl) (by kernel_rfl) (by kernel_rfl) (fun _ _ _ h => h) (Or.inl ⟨by rfl, ?_⟩) hH ?_
                    rotate_left
                    · rintro w' ⟨s1, s2, _, _⟩
                      go_simp
                      try with_reducible rfl
                    try simp only [Act.put, List.setIfInBounds_toArray, List.set_cons_zero, List.set_cons_succ]
                    have hS6 : ∀ w' : World, (fun w' => w'.cell? ⟨x, 7, none⟩ = some (.slice (some ⟨g1, 0, none⟩) n c1) ∧ w'.cell? ⟨y, 7, none⟩ = some (.slice (some ⟨g2, 0, none⟩) n c2) ∧ w'.rangeAt p 0 [.string code, .int .i64 bmin, .int .i64 bmin, .int .i64 taped, .int .i64 gmax, .int .i64 gmax, .int .i64 ga, .int .i64 ga, .slice sa sn sc, .slice ua un uc, .int .i64 dead] ∧ w'.rangeAt q 0 [.string code, .int .i64 bmax, .int .i64 bmax, .int .i64 taped, .int .i64 gmin, .int .i64 gmin, .int .i64 gb, .int .i64 gb, .slice sa sn sc, .slice ua un uc, .int .i64 dead]) w' → w'.rangeAt p 0 [.string code, .int .i64 bmin, .int .i64 bmin, .int .i64 taped, .int .i64 gmax, .int .i64 gmax, .int .i64 ga, .int .i64 ga, .slice sa sn sc, .slice ua un uc, .int .i64 dead] := fun _ h => h.2.2.1
                    have hS7 : ∀ w' : World, (fun w' => w'.cell? ⟨x, 7, none⟩ = some (.slice (some ⟨g1, 0, none⟩) n c1) ∧ w'.cell? ⟨y, 7, none⟩ = some (.slice (some ⟨g2, 0, none⟩) n c2) ∧ w'.rangeAt p 0 [.string code, .int .i64 bmin, .int .i64 bmin, .int .i64 taped, .int .i64 gmax, .int .i64 gmax, .int .i64 ga, .int .i64 ga, .slice sa sn sc, .slice ua un uc, .int .i64 dead] ∧ w'.rangeAt q 0 [.string code, .int .i64 bmax, .int .i64 bmax, .int .i64 taped, .int .i64 gmin, .int .i64 gmin, .int .i64 gb, .int .i64 gb, .slice sa sn sc, .slice ua un uc, .int .i64 dead]) w' → w'.rangeAt q 0 [.string code, .int .i64 bmax, .int .i64 bmax, .int .i64 taped, .int .i64 gmin, .int .i64 gmin, .int .i64 gb, .int .i64 gb, .slice sa sn sc, .slice ua un uc, .int .i64 dead] := fun _ h => h.2.2.2
                    refine take_at (i := 6) rfl rfl (by kernel_rfl) (by kernel_rfl) (by kernel_rfl) (fun _ _ _ h => h) (yieldsIf_load_mid (by rfl) 48 (.tmp 16) rfl p 0 rfl [.string code, .int .i64 bmin, .int .i64 bmin, .int .i64 taped, .int .i64 gmax, .int .i64 gmax, .int .i64 ga, .int .i64 ga, .slice sa sn sc, .slice ua un uc, .int .i64 dead] _ hS6 Try.underlying48 rfl size_tree) hH ?_
                    try simp only [Act.put, List.setIfInBounds_toArray, List.set_cons_zero, List.set_cons_succ]
                    refine take_at (i := 7) rfl rfl (by kernel_rfl) (by kernel_rfl) (by kernel_rfl) (fun _ _ _ h => h) (yieldsIf_load_mid (by rfl) 48 (.tmp 17) rfl q 0 rfl [.string code, .int .i64 bmax, .int .i64 bmax, .int .i64 taped, .int .i64 gmin, .int .i64 gmin, .int .i64 gb, .int .i64 gb, .slice sa sn sc, .slice ua un uc, .int .i64 dead] _ hS7 Try.underlying48 rfl size_tree) hH ?_
                    try simp only [Act.put, List.setIfInBounds_toArray, List.set_cons_zero, List.set_cons_succ]
                    refine take_at (i := 8) (v := ?_) rfl rfl (by kernel_rfl) (by kernel_rfl) (by kernel_rfl) (fun _ _ _ h => h) (Or.inl ⟨by rfl, ?_⟩) hH ?_
                    rotate_left
                    · rintro w' ⟨s1, s2, _, _⟩
                      go_simp
                      try with_reducible rfl
                    try simp only [Act.put, List.setIfInBounds_toArray, List.set_cons_zero, List.set_cons_succ]
                    refine wpAnyH_ready (rs := [9]) (by kernel_rfl) (by simp) ?_
                    refine AllReadyH.cons rfl (fun Q_ hK => ?_) AllReadyH.nil
                    rw [if_pos (by rfl)]
                    refine wp_store_mid 48 (.tmp 150) (.tmp 148) rfl g1 (K * 11) #[.string code, .int .i64 bmin, .int .i64 bmin, .int .i64 taped, .int .i64 gmax, .int .i64 gmax, .int .i64 ga, .int .i64 ga, .slice sa sn sc, .slice ua un uc, .int .i64 dead] rfl rfl (r1.out.there K hKn) size_tree HOB.out ?_
                    have hBV' := Lib.hid (below_setCells hBV.out (show w.heap.size ≤ g1 by omega) [.string code, .int .i64 bmin, .int .i64 bmin, .int .i64 taped, .int .i64 gmax, .int .i64 gmax, .int .i64 ga, .int .i64 ga, .slice sa sn sc, .slice ua un uc, .int .i64 dead] (K * 11))
                    have bx_ := Lib.hid (bx.out.apart (show x ≠ g1 by omega) (K * 11) [.string code, .int .i64 bmin, .int .i64 bmin, .int .i64 taped, .int .i64 gmax, .int .i64 gmax, .int .i64 ga, .int .i64 ga, .slice sa sn sc, .slice ua un uc, .int .i64 dead])
                    have by'_ := Lib.hid (by'.out.apart (show y ≠ g1 by omega) (K * 11) [.string code, .int .i64 bmin, .int .i64 bmin, .int .i64 taped, .int .i64 gmax, .int .i64 gmax, .int .i64 ga, .int .i64 ga, .slice sa sn sc, .slice ua un uc, .int .i64 dead])
                    have bp_ := Lib.hid (bp.out.apart (show p ≠ g1 by omega) (K * 11) [.string code, .int .i64 bmin, .int .i64 bmin, .int .i64 taped, .int .i64 gmax, .int .i64 gmax, .int .i64 ga, .int .i64 ga, .slice sa sn sc, .slice ua un uc, .int .i64 dead])
                    have bq_ := Lib.hid (bq.out.apart (show q ≠ g1 by omega) (K * 11) [.string code, .int .i64 bmin, .int .i64 bmin, .int .i64 taped, .int .i64 gmax, .int .i64 gmax, .int .i64 ga, .int .i64 ga, .slice sa sn sc, .slice ua un uc, .int .i64 dead])
                    have h1 := Lib.hid (show Held (V.setCells g1 (K * 11) [.string code, .int .i64 bmin, .int .i64 bmin, .int .i64 taped, .int .i64 gmax, .int .i64 gmax, .int .i64 ga, .int .i64 ga, .slice sa sn sc, .slice ua un uc, .int .i64 dead]).heap.size (V.setCells g1 (K * 11) [.string code, .int .i64 bmin, .int .i64 bmin, .int .i64 taped, .int .i64 gmax, .int .i64 gmax, .int .i64 ga, .int .i64 ga, .slice sa sn sc, .slice ua un uc, .int .i64 dead]) 11 Tree.cells (.slice (some ⟨g1, 0, none⟩) n c1) (ts.set K ⟨code, bmin, bmin, taped, gmax, gmax, ga, ga, .slice sa sn sc, .slice ua un uc, dead, strips, wounds⟩) from Held.store tree_eleven r1.out.held K (by rw [Hts.out]; exact hKn) ⟨code, bmin, bmin, taped, gmax, gmax, ga, ga, .slice sa sn sc, .slice ua un uc, dead, strips, wounds⟩ (r1.out.there K hKn))
                    have r2_ := Lib.hid (r2.out.same (W' := (V.setCells g1 (K * 11) [.string code, .int .i64 bmin, .int .i64 bmin, .int .i64 taped, .int .i64 gmax, .int .i64 gmax, .int .i64 ga, .int .i64 ga, .slice sa sn sc, .slice ua un uc, .int .i64 dead])) (Nat.le_of_eq (size_setCells _ _ _ _).symm) (heap_setCells V g1 (show g2 ≠ g1 by omega) [.string code, .int .i64 bmin, .int .i64 bmin, .int .i64 taped, .int .i64 gmax, .int .i64 gmax, .int .i64 ga, .int .i64 ga, .slice sa sn sc, .slice ua un uc, .int .i64 dead] (K * 11)))
                    refine hK.out _ _ ⟨bx_.out.cell 7, by'_.out.cell 7, bp_.out.range, bq_.out.range⟩ (fun hH' => ?_)
                    clear hK Q_ hH bx by' bp bq hBV r1 r2
                    try simp only [Act.put, List.setIfInBounds_toArray, List.set_cons_zero, List.set_cons_succ]
                    change wpAnyH _ _ _ _ _ _ _ _ (V.setCells g1 (K * 11) [.string code, .int .i64 bmin, .int .i64 bmin, .int .i64 taped, .int .i64 gmax, .int .i64 gmax, .int .i64 ga, .int .i64 ga, .slice sa sn sc, .slice ua un uc, .int .i64 dead])
                    generalize (V.setCells g1 (K * 11) [.string code, .int .i64 bmin, .int .i64 bmin, .int .i64 taped, .int .i64 gmax, .int .i64 gmax, .int .i64 ga, .int .i64 ga, .slice sa sn sc, .slice ua un uc, .int .i64 dead]) = V1 at hH' hBV' bx_ by'_ bp_ bq_ h1 r2_ ⊢
                    have hH := hH'; have hBV := hBV'; have bx := bx_; have by' := by'_; have bp := bp_; have bq := bq_; have r2 := r2_; clear hH' hBV' bx_ by'_ bp_ bq_ r2_
                    refine take_at (i := 10) (v := ?_) rfl rfl (by kernel_rfl) (by kernel_rfl) (by kernel_rfl) (fun _ _ _ h => h) (Or.inl ⟨by rfl, ?_⟩) hH ?_
                    rotate_left
                    · rintro w' ⟨s1, s2, _, _⟩
                      go_simp
                      try with_reducible rfl
                    try simp only [Act.put, List.setIfInBounds_toArray, List.set_cons_zero, List.set_cons_succ]
                    refine wpAnyH_ready (rs := [11]) (by kernel_rfl) (by simp) ?_
                    refine AllReadyH.cons rfl (fun Q_ hK => ?_) AllReadyH.nil
                    rw [if_pos (by rfl)]
                    refine wp_store_mid 48 (.tmp 151) (.tmp 149) rfl g2 (K * 11) #[.string code, .int .i64 bmax, .int .i64 bmax, .int .i64 taped, .int .i64 gmin, .int .i64 gmin, .int .i64 gb, .int .i64 gb, .slice sa sn sc, .slice ua un uc, .int .i64 dead] rfl rfl (r2.out.there K hKn) size_tree HOW.out ?_
                    have hBV' := Lib.hid (below_setCells hBV.out (show w.heap.size ≤ g2 by omega) [.string code, .int .i64 bmax, .int .i64 bmax, .int .i64 taped, .int .i64 gmin, .int .i64 gmin, .int .i64 gb, .int .i64 gb, .slice sa sn sc, .slice ua un uc, .int .i64 dead] (K * 11))
                    have bx_ := Lib.hid (bx.out.apart (show x ≠ g2 by omega) (K * 11) [.string code, .int .i64 bmax, .int .i64 bmax, .int .i64 taped, .int .i64 gmin, .int .i64 gmin, .int .i64 gb, .int .i64 gb, .slice sa sn sc, .slice ua un uc, .int .i64 dead])
                    have by'_ := Lib.hid (by'.out.apart (show y ≠ g2 by omega) (K * 11) [.string code, .int .i64 bmax, .int .i64 bmax, .int .i64 taped, .int .i64 gmin, .int .i64 gmin, .int .i64 gb, .int .i64 gb, .slice sa sn sc, .slice ua un uc, .int .i64 dead])
                    have bp_ := Lib.hid (bp.out.apart (show p ≠ g2 by omega) (K * 11) [.string code, .int .i64 bmax, .int .i64 bmax, .int .i64 taped, .int .i64 gmin, .int .i64 gmin, .int .i64 gb, .int .i64 gb, .slice sa sn sc, .slice ua un uc, .int .i64 dead])
                    have bq_ := Lib.hid (bq.out.apart (show q ≠ g2 by omega) (K * 11) [.string code, .int .i64 bmax, .int .i64 bmax, .int .i64 taped, .int .i64 gmin, .int .i64 gmin, .int .i64 gb, .int .i64 gb, .slice sa sn sc, .slice ua un uc, .int .i64 dead])
                    have h2 := Lib.hid (show Held (V1.setCells g2 (K * 11) [.string code, .int .i64 bmax, .int .i64 bmax, .int .i64 taped, .int .i64 gmin, .int .i64 gmin, .int .i64 gb, .int .i64 gb, .slice sa sn sc, .slice ua un uc, .int .i64 dead]).heap.size (V1.setCells g2 (K * 11) [.string code, .int .i64 bmax, .int .i64 bmax, .int .i64 taped, .int .i64 gmin, .int .i64 gmin, .int .i64 gb, .int .i64 gb, .slice sa sn sc, .slice ua un uc, .int .i64 dead]) 11 Tree.cells (.slice (some ⟨g2, 0, none⟩) n c2) (ts.set K ⟨code, bmax, bmax, taped, gmin, gmin, gb, gb, .slice sa sn sc, .slice ua un uc, dead, strips, wounds⟩) from Held.store tree_eleven r2.out.held K (by rw [Hts.out]; exact hKn) ⟨code, bmax, bmax, taped, gmin, gmin, gb, gb, .slice sa sn sc, .slice ua un uc, dead, strips, wounds⟩ (r2.out.there K hKn))
                    have h1_ := Lib.hid (Held.same h1.out (w' := (V1.setCells g2 (K * 11) [.string code, .int .i64 bmax, .int .i64 bmax, .int .i64 taped, .int .i64 gmin, .int .i64 gmin, .int .i64 gb, .int .i64 gb, .slice sa sn sc, .slice ua un uc, .int .i64 dead])) (Nat.le_of_eq (size_setCells _ _ _ _).symm) (heap_setCells V1 g2 (show g1 ≠ g2 by omega) [.string code, .int .i64 bmax, .int .i64 bmax, .int .i64 taped, .int .i64 gmin, .int .i64 gmin, .int .i64 gb, .int .i64 gb, .slice sa sn sc, .slice ua un uc, .int .i64 dead] (K * 11)))
                    refine hK.out _ _ ⟨bx_.out.cell 7, by'_.out.cell 7, bp_.out.range, bq_.out.range⟩ (fun hH' => ?_)
                    clear hK Q_ hH bx by' bp bq hBV r2 h1
                    try simp only [Act.put, List.setIfInBounds_toArray, List.set_cons_zero, List.set_cons_succ]
                    change wpAnyH _ _ _ _ _ _ _ _ (V1.setCells g2 (K * 11) [.string code, .int .i64 bmax, .int .i64 bmax, .int .i64 taped, .int .i64 gmin, .int .i64 gmin, .int .i64 gb, .int .i64 gb, .slice sa sn sc, .slice ua un uc, .int .i64 dead])
                    generalize (V1.setCells g2 (K * 11) [.string code, .int .i64 bmax, .int .i64 bmax, .int .i64 taped, .int .i64 gmin, .int .i64 gmin, .int .i64 gb, .int .i64 gb, .slice sa sn sc, .slice ua un uc, .int .i64 dead]) = V2 at hH' hBV' bx_ by'_ bp_ bq_ h2 h1_ ⊢
                    refine wpAnyH_done (by kernel_rfl) ?_ _
                    go_wp2_with fail
                    go_meet
                    case rel => exact ⟨hBV'.out, bx_.out, by'_.out, h1_.out, h2.out⟩
                  case rest =>
                    obtain ⟨hBI, bx, by', h1, h2⟩ := hcut
                    generalize hww : wc = wI at hBI bx by' h1 h2 ⊢
                    clear hww
                    have hxI := bx.lt
                    have hyI := by'.lt
                    clear BXH BYH BZH R1H R2H BPH BQH hBH
                    have hT := HTH.out _ hBI
                    have hold := hold_at hT.2 (show K < ts.length from (by rw [Hts.out]; exact hKn))
                    rw [HKt.out] at hold
                    have T1 := Lib.hid (show TreesHeld wI.heap.size wI (.slice (some ⟨g1, 0, none⟩) n c1) (ts.set K ⟨code, bmin, bmin, taped, gmax, gmax, ga, ga, .slice sa sn sc, .slice ua un uc, dead, strips, wounds⟩) from trees_set h1 hT.2 hold)
                    have T2 := Lib.hid (show TreesHeld wI.heap.size wI (.slice (some ⟨g2, 0, none⟩) n c2) (ts.set K ⟨code, bmax, bmax, taped, gmin, gmin, gb, gb, .slice sa sn sc, .slice ua un uc, dead, strips, wounds⟩) from trees_set h2 hT.2 hold)
                    have BXI := Lib.hid bx
                    have BYI := Lib.hid by'
                    clear bx by' h1 h2 hT hold
                    obtain ⟨g0, g1', g2', g3, g4, g5, g6, g7⟩ : Boxed wI x ⟨age, rest, girth, f0, f1, f2, heal⟩ (some ⟨g1, 0, none⟩) n c1 := Boxed.of BXI.out
                    dsimp only at g0 g1' g2' g3 g4 g5 g6
                    go_wp2_with fail
                    refine (HMb.out _ g1 c1 hBI T1.out).mono ?_
                    rintro e wJ ⟨rfl, hwJ⟩
                    clear g0 g1' g2' g3 g4 g5 g6 g7
                    have hBJ := hBI.trans (hwJ.mono hBI.size)
                    have T2J := Lib.hid ((T2.out.below hwJ).mono hwJ.size)
                    have BYJ := Lib.hid (BYI.out.below hwJ hyI)
                    clear hwJ T1 T2 BXI BYI hBI
                    obtain ⟨g0, g1', g2', g3, g4, g5, g6, g7⟩ : Boxed wJ y ⟨age, rest, girth, f0, f1, f2, heal⟩ (some ⟨g2, 0, none⟩) n c2 := Boxed.of BYJ.out
                    dsimp only at g0 g1' g2' g3 g4 g5 g6
                    go_wp2_with fail
                    refine (HMw.out _ g2 c2 hBJ T2J.out).mono ?_
                    rintro e wK ⟨rfl, hwK⟩
                    clear g0 g1' g2' g3 g4 g5 g6 g7
                    have hBK := hBJ.trans (hwK.mono hBJ.size)
                    clear hwK T2J BYJ hBJ
                    have hrb := Hr2.out
                    go_wp2_with fail
                    refine (grows_calls _).mono ?_
                    rintro e wL ⟨rfl, hwL⟩
                    go_wp2
                    go_ret
                    exact ⟨rfl, hBK.trans (hwL.mono hBK.size)⟩
  · go_wp2_with fail
    refine (grows_calls _).mono ?_
    rintro e w2 ⟨rfl, hw2⟩
    go_wp2
    go_ret
    exact ⟨rfl, hB1.trans (hw2.mono hB1.size)⟩
end Go.Proofs.Ytceginnogbbpeaa
