/- Real.do: what a deed really does. -/
import Derived.Test.YtadhheahiamnoaaYReal
import Derived.Test.YtadhheahiamnoaaYTiers
import Derived.Laws.AppendOwnNone
namespace Go.Proofs.Ytadhheahiamnoaa
open Go Go.RowKit Go.Shelf Yd
open _root_.Go.Value renaming int → Z, string → Zs, slice → Zl
open _root_.Go.IntKind renaming i64 → O
open _root_.Go.Lib renaming hid → Zh
theorem size_real : (Try.prog.info? 42).map (·.size) = some 9 := by kernel_rfl
theorem size_pile : (Try.prog.info? 46).map (·.size) = some 3 := by kernel_rfl
theorem info_pile : (Try.prog.info? 46).map (fun i => (i.zero, i.size, i.bytes)) = some (some (.agg #[Zs ⟨#[]⟩, Z O 0, Z O 0]), 3, 32) := by kernel_rfl
theorem pile_three (p : Yd.Pile Code) : (pileCells p).length = 3 := rfl
theorem pile_ones (p : Yd.Pile Code) : ∀ v ∈ pileCells p, v.oneCell' = true := by
  intro v hv
  simp only [pileCells, List.mem_cons, List.not_mem_nil, or_false] at hv
  rcases hv with rfl | rfl | rfl <;> rfl
theorem owns_emptyP (w : World) : (w.alloc (.cells #[] 46)).ownsRow w.heap.size 46 3 (Zl (some ⟨w.heap.size, 0, none⟩) 0 0) 0 [] :=
  ⟨rfl, .inr ⟨w.heap.size, 0, #[], rfl, Nat.le_refl _, Blk.new w 46 #[], Nat.le_refl _, Nat.zero_le _, rfl, rfl⟩⟩
/-- The piles' slice: nil, or one with a block. -/
def PileSlice (v : Value) (l : List (Yd.Pile Code)) : Prop := v = Zl none 0 0 ∧ l = [] ∨ ∃ b off c, v = Zl (some ⟨b, off, none⟩) l.length c
theorem row_blockP {w : World} {base n : Nat} {v : Value} {xs : List Value} (h : w.ownsRow base 46 3 v n xs) (hne : v ≠ Zl none 0 0) :
    ∃ (g cap : Nat) (cur : Array Value), v = Zl (some ⟨g, 0, none⟩) n cap ∧ Blk w g 46 cur ∧ n ≤ cap ∧ cap ≤ maxLen ∧ base ≤ g ∧ cur.size = cap * 3 ∧ cur.toList.take (n * 3) = xs := by
  obtain ⟨_, ⟨h1, _⟩ | ⟨g, cap, cur, hv, hb, hg, hc, hm, hsz, ht⟩⟩ := h
  · exact absurd h1 hne
  · exact ⟨g, cap, cur, hv, hg, hc, hm, hb, hsz, ht⟩

theorem Locs.apart {w0 W : World} {L : List (Nat × TypeId × List Value)} {S : List (List SRow × Value)} {g : Nat} {t : TypeId} {cs : List Value} (h : Locs w0 W (L ++ [(g, t, cs)]) S) : ∀ x ∈ L, x.1 ≠ g := fun x hx e => by
  have hn := h.nodup
  rw [List.map_append, List.nodup_append] at hn
  exact hn.2.2 x.1 (List.mem_map_of_mem hx) g (by simp) e
theorem rowed_of {w0 W : World} {L : List (Nat × TypeId × List Value)} {S : List (List SRow × Value)} {g n cap : Nat} {l : List (Yd.Pile Code)} {spare : List Value} (h : Locs w0 W (L ++ [(g, 46, flat pileCells l ++ spare)]) S) (hl : l.length = n) (hc : n ≤ cap ∧ cap ≤ maxLen ∧ spare.length = (cap - n) * 3) :
    Rowed w0 W L 46 3 (Zl (some ⟨g, 0, none⟩) n cap) n (flat pileCells l) := by
  have hb := h.loc (g, 46, flat pileCells l ++ spare) (by simp)
  have hfl : (flat pileCells l).length = n * 3 := by rw [flat_length pile_three, hl]
  refine ⟨⟨hfl, .inr ⟨g, cap, _, rfl, hb.2, hb.1, hc.1, hc.2.1, ?_, ?_⟩⟩, fun x hx e => h.apart x hx ?_⟩
  · simp only [List.size_toArray, List.length_append, hfl, hc.2.2]; omega
  · show (flat pileCells l ++ spare).take (n * 3) = flat pileCells l
    rw [List.take_append_of_le_length (by omega), ← hfl, List.take_length]
  · injection e with e; exact e.symm
theorem held_rowP {w0 w : World} {L : List (Nat × TypeId × List Value)} {g n cap : Nat} {l : List (Yd.Pile Code)} (h : Rowed w0 w L 46 3 (Zl (some ⟨g, 0, none⟩) n cap) n (flat pileCells l)) (hl : l.length = n) (h12 : n ≤ 100) : Held w.heap.size w 3 pileCells (Zl (some ⟨g, 0, none⟩) n cap) l := by
  obtain ⟨g', cap', cur, hv, hb, hc, hm, _, _, ht⟩ := row_blockP h.own (by intro e; injection e with e1; cases e1)
  injection hv with e1 e2 e3
  injection e1 with e1
  injection e1 with e1
  subst e1 e3
  refine .inr ⟨g, 0, cap, by rw [hl], hb.lt, ⟨by omega, by omega, by unfold maxLen at hm; omega⟩, fun q hq i u hu => ?_⟩
  have hi : i < 3 := by have := (List.getElem?_eq_some_iff.1 hu).1; simpa [pileCells] using this
  rw [Nat.zero_add, hb.cell, ← hu, ← flat_get pile_three l q i hq hi, ← ht, List.getElem?_take, if_pos (by omega)]
  simp
theorem row_cellP {w0 W : World} {L : List (Nat × TypeId × List Value)} {S : List (List SRow × Value)} {g k : Nat} {l : List (Yd.Pile Code)} {spare : List Value} (h : Locs w0 W L S) (i : Nat) (hi : L[i]? = some (g, 46, flat pileCells l ++ spare)) (hk : k < l.length) (q : Nat) (hq : q < 3) : W.cell? ⟨g, k * 3 + q, none⟩ = (pileCells l[k]!)[q]? := by
  rw [(h.blk i hi).cell, ← flat_get pile_three l k q hk hq]
  have hl : k * 3 + q < (flat pileCells l).length := by rw [flat_length pile_three]; omega
  simp [List.getElem?_append_left hl]
theorem Locs.setRow {w0 W : World} {L : List (Nat × TypeId × List Value)} {S : List (List SRow × Value)} {g k : Nat} {l : List (Yd.Pile Code)} {spare : List Value} (h : Locs w0 W L S) (i : Nat) (hi : L[i]? = some (g, 46, flat pileCells l ++ spare)) (hk : k < l.length) (x : Yd.Pile Code) : Locs w0 (W.setCells g (k * 3) (pileCells x)) (L.set i (g, 46, flat pileCells (l.set k x) ++ spare)) S := by
  have e : l = l.take k ++ l[k]! :: l.drop (k + 1) := by
    conv => lhs; rw [← List.take_append_drop k l]
    rw [drop_get hk]
  have ef : flat pileCells l ++ spare = flat pileCells (l.take k) ++ pileCells l[k]! ++ (flat pileCells (l.drop (k + 1)) ++ spare) := by
    conv => lhs; rw [e]
    rw [flat_append, flat_cons]; simp
  have es : flat pileCells (l.set k x) ++ spare = flat pileCells (l.take k) ++ pileCells x ++ (flat pileCells (l.drop (k + 1)) ++ spare) := by
    rw [List.set_eq_take_append_cons_drop, if_pos hk, flat_append, flat_cons]; simp
  have hp : (flat pileCells (l.take k)).length = k * 3 := by rw [flat_length pile_three, List.length_take, Nat.min_eq_left (by omega)]
  rw [ef] at hi
  rw [es, ← hp]
  exact h.setLoc i _ _ _ (pileCells x) hi rfl
/-- What Real.do leaves. -/
def RealDone (w : World) (o : Option (Yd.Real Code)) (e : Ending) (w' : World) : Prop :=
  match o with
  | some r => ∃ v, e = .returned (.tuple #[.agg #[v, Z O r.vapour, Z O r.broth, Z O r.dust, Z O r.soldDry, Z O r.soldWater, Z O r.soaked, Z O r.piledDry, Z O r.piledWater], .bool true]) ∧ Below w.heap.size w w' ∧ Held w'.heap.size w' 3 pileCells v r.stacks ∧ PileSlice v r.stacks
  | none => ∃ (a : Option Addr) (n c : Nat) (i1 i2 i3 i4 i5 i6 i7 i8 : Int), e = .returned (.tuple #[.agg #[Zl a n c, Z O i1, Z O i2, Z O i3, Z O i4, Z O i5, Z O i6, Z O i7, Z O i8], .bool false]) ∧ Below w.heap.size w w'

theorem perm_three {α : Type} (a b c r x y : α) : [a, b, c, x, y, r].Perm [a, b, c, r, x, y] :=
  .cons _ (.cons _ (.cons _ (List.perm_append_comm (l₁ := [x, y]) (l₂ := [r]))))
/-- A row as a block of the call's own. -/
theorem row_adopt {w0 W : World} {L : List (Nat × TypeId × List Value)} {g n cap : Nat} {l : List (Yd.Pile Code)} (h : Locs w0 W L []) (hr : Rowed w0 W L 46 3 (Zl (some ⟨g, 0, none⟩) n cap) n (flat pileCells l)) :
    ∃ spare : List Value, (n ≤ cap ∧ cap ≤ maxLen ∧ spare.length = (cap - n) * 3) ∧ Locs w0 W (L ++ [(g, 46, flat pileCells l ++ spare)]) [] := by
  obtain ⟨g', cap', cur, hv, hb, hc, hm, hg, hs, ht⟩ := row_blockP hr.own (by intro e; injection e with e1; cases e1)
  injection hv with e1 e2 e3
  injection e1 with e1
  injection e1 with e1
  subst e1 e3
  refine ⟨cur.toList.drop (n * 3), ⟨hc, hm, by rw [List.length_drop, Array.length_toList, hs, Nat.mul_comm n, Nat.mul_comm cap, ← Nat.mul_sub, Nat.mul_comm]⟩, h.adopt ?_ hg (fun x hx e => hr.sep x hx (by rw [e]; rfl))⟩
  rw [← ht, List.take_append_drop, Array.toArray_toList]
  exact hb

theorem owns_emptyB (w : World) : (w.alloc (.cells #[] 46)).ownsRow w.heap.size 46 3 (Zl (some ⟨w.heap.size, 0, none⟩) 0 0) 0 [] := owns_emptyP w
theorem owns_lower {w : World} {B B' n : Nat} {v : Value} {xs : List Value} (h : w.ownsRow B 46 3 v n xs) (hb : B' ≤ B) : w.ownsRow B' 46 3 v n xs := by
  obtain ⟨h0, h1 | ⟨g, cap, cur, hv, hg, hbl, hr⟩⟩ := h
  · exact ⟨h0, .inl h1⟩
  · exact ⟨h0, .inr ⟨g, cap, cur, hv, Nat.le_trans hb hg, hbl, hr⟩⟩
/-- A part of a row's cells, where they lie. -/
theorem cells_part {w : World} {g : Nat} {t : TypeId} {a b c : List Value} (h : Blk w g t (a ++ b ++ c).toArray) (j : Nat) (u : Value) (hu : b[j]? = some u) : w.cell? ((⟨g, a.length, none⟩ : Addr).add j) = some u := by
  rw [Addr.add_mid, h.cell]
  have hj := (List.getElem?_eq_some_iff.1 hu).1
  simp only [List.getElem?_toArray]
  rw [List.append_assoc, List.getElem?_append_right (by omega), Nat.add_sub_cancel_left, List.getElem?_append_left hj, hu]

theorem pile_find_map (l : List (Yd.Pile Code)) (c : Code) : Yd.find l c = (l.map (·.code)).findIdx (fun x => decide (x = c)) := by
  unfold Yd.find
  rw [List.findIdx_map]
  rfl
/-- A pile that keeps its code is found where it was. -/
theorem find_set {l : List (Yd.Pile Code)} {k : Nat} {y : Yd.Pile Code} (c : Code) (hk : k < l.length) (hc : y.code = l[k]!.code) : Yd.find (l.set k y) c = Yd.find l c := by
  rw [pile_find_map, pile_find_map, List.map_set]
  congr 1
  apply List.ext_getElem?
  intro i
  rw [List.getElem?_set]
  by_cases h : k = i
  · subst h
    rw [if_pos rfl, if_pos (by rw [List.length_map]; exact hk), hc, getElem!_pos l k hk, List.getElem?_map, List.getElem?_eq_getElem hk]
    rfl
  · rw [if_neg h]

theorem act_hit {r : Yd.Real Code} {d : Deed Code} {a b : Int} {x : Yd.Pile Code} (h1 : d.kind ≠ 1) (hx : r.stacks[Yd.find r.stacks d.stack]? = some x) :
    r.act d a b = if d.kind = 4 ∧ x.dry < a then none
      else if d.kind = 6 ∧ ¬ Yd.find r.stacks d.other < r.stacks.length then none
      else if d.kind = 7 ∧ ¬ (d.a.lo ≤ x.dry + x.water ∧ x.dry + x.water ≤ d.a.hi) then none
      else some (r.booked (after r.stacks (x.done ((r.stacks[Yd.find r.stacks d.other]?).getD x) d a b) (x.cut d a) d.kind (Yd.find r.stacks d.stack) (Yd.find r.stacks d.other)) x d a b) := by
  unfold Yd.Real.act
  rw [if_neg h1, hx]
theorem act_miss {r : Yd.Real Code} {d : Deed Code} {a b : Int} (h1 : d.kind ≠ 1) (hx : ¬ Yd.find r.stacks d.stack < r.stacks.length) : r.act d a b = none := by
  unfold Yd.Real.act
  rw [if_neg h1, List.getElem?_eq_none (by omega)]

set_option linter.unusedSimpArgs false in
set_option maxRecDepth 100000 in
set_option maxHeartbeats 40000000 in
theorem do_any (v : Value) (l : List (Yd.Pile Code)) (vap bro dus sdr swa soa pdr pwa : Int) (kind dy : Int) (code other : Code) (al ah bl bh one two : Int) (w : World) (h : Held w.heap.size w 3 pileCells v l) (hsv : PileSlice v l) (hl : l.length ≤ 20) (hA : 0 ≤ al ∧ al ≤ ah ∧ ah ≤ 100000000) (hB : 0 ≤ bl ∧ bl ≤ bh ∧ bh ≤ 100000000) (h1 : 0 ≤ one ∧ one ≤ 65535) (h2 : 0 ≤ two ∧ two ≤ 65535) (pa pb : Int) (hpa : pa = pickOf al ah one) (hpb : pb = pickOf bl bh two) (hN : (0 ≤ vap ∧ vap ≤ 2000000000000000) ∧ (0 ≤ bro ∧ bro ≤ 2000000000000000) ∧ (0 ≤ dus ∧ dus ≤ 2000000000000000) ∧ (0 ≤ sdr ∧ sdr ≤ 2000000000000000) ∧ (0 ≤ swa ∧ swa ≤ 2000000000000000) ∧ (0 ≤ soa ∧ soa ≤ 2000000000000000) ∧ (0 ≤ pdr ∧ pdr ≤ 2000000000000000) ∧ (0 ≤ pwa ∧ pwa ≤ 2000000000000000)) (hP : ∀ p ∈ l, (0 ≤ p.dry ∧ p.dry ≤ 2000000000000000) ∧ (0 ≤ p.water ∧ p.water ≤ 2000000000000000)) (hk : 1 ≤ kind ∧ kind ≤ 8) (ft : kind = 2 ∨ kind = 3 ∨ kind = 5 → ah ≤ 1000) (fsoak : kind = 3 → bh ≤ 3000) :
    Calls Try.prog 44 #[.agg #[v, Z O vap, Z O bro, Z O dus, Z O sdr, Z O swa, Z O soa, Z O pdr, Z O pwa], .agg #[Z O kind, Z O dy, Zs code, Zs other, Z O al, Z O ah, Z O bl, Z O bh], .int .u16 one, .int .u16 two] w (RealDone w (Yd.Real.act ⟨l, vap, bro, dus, sdr, swa, soa, pdr, pwa⟩ ⟨kind, dy, code, other, ⟨al, ah⟩, ⟨bl, bh⟩⟩ pa pb)) := by
  obtain ⟨sa, sn, sc, rfl⟩ : ∃ a n c, v = Zl a n c := by obtain ⟨a, c, hv, _, _⟩ := h.slice; exact ⟨a, _, c, hv⟩
  have HH := Zh h; have HSV := Zh hsv
  clear h hsv
  have HL0 := Zh (show Locs w (((w.alloc (.cells #[Zl sa sn sc, Z O vap, Z O bro, Z O dus, Z O sdr, Z O swa, Z O soa, Z O pdr, Z O pwa] 42)).alloc (.cells #[Z O kind, Z O dy, Zs code, Zs other, Z O al, Z O ah, Z O bl, Z O bh] 55)).alloc (.cells #[Zl none 0 0, Z O 0, Z O 0, Z O 0, Z O 0, Z O 0, Z O 0, Z O 0, Z O 0] 42)) [(w.heap.size, 42, [Zl sa sn sc, Z O vap, Z O bro, Z O dus, Z O sdr, Z O swa, Z O soa, Z O pdr, Z O pwa]), (w.heap.size + 1, 55, [Z O kind, Z O dy, Zs code, Zs other, Z O al, Z O ah, Z O bl, Z O bh]), (w.heap.size + 1 + 1, 42, [Zl none 0 0, Z O 0, Z O 0, Z O 0, Z O 0, Z O 0, Z O 0, Z O 0, Z O 0])] [] from (((Locs.start w).alloc 42 [Zl sa sn sc, Z O vap, Z O bro, Z O dus, Z O sdr, Z O swa, Z O soa, Z O pdr, Z O pwa] rfl).alloc 55 [Z O kind, Z O dy, Zs code, Zs other, Z O al, Z O ah, Z O bl, Z O bh] (World.size_alloc _ _)).alloc 42 [Zl none 0 0, Z O 0, Z O 0, Z O 0, Z O 0, Z O 0, Z O 0, Z O 0, Z O 0] (by rw [World.size_alloc, World.size_alloc]))
  go_enter Try.func44, Try.ntmps44
  go_upto_region 1 with fail
  generalize (((w.alloc (.cells #[Zl sa sn sc, Z O vap, Z O bro, Z O dus, Z O sdr, Z O swa, Z O soa, Z O pdr, Z O pwa] 42)).alloc (.cells #[Z O kind, Z O dy, Zs code, Zs other, Z O al, Z O ah, Z O bl, Z O bh] 55)).alloc (.cells #[Zl none 0 0, Z O 0, Z O 0, Z O 0, Z O 0, Z O 0, Z O 0, Z O 0, Z O 0] 42)) = w1 at HL0 ⊢
  generalize w.heap.size + 1 + 1 = ge at HL0 ⊢
  generalize w.heap.size + 1 = gd at HL0 ⊢
  generalize w.heap.size = gr at HL0 ⊢
  obtain ⟨n, hn⟩ : ∃ n, n = l.length := ⟨_, rfl⟩
  have HN := Zh hn
  rw [← hn] at hl
  clear hn
  go_cut [] from 17 to 21 (fun wx => ∃ (g cap : Nat) (spare : List Value), Hid (n ≤ cap ∧ cap ≤ maxLen ∧ spare.length = (cap - n) * 3) ∧ Hid (Locs w wx [(gr, 42, [Zl (some ⟨g, 0, none⟩) n cap, Z O vap, Z O bro, Z O dus, Z O sdr, Z O swa, Z O soa, Z O pdr, Z O pwa]), (gd, 55, [Z O kind, Z O dy, Zs code, Zs other, Z O al, Z O ah, Z O bl, Z O bh]), (ge, 42, [Zl none 0 0, Z O 0, Z O 0, Z O 0, Z O 0, Z O 0, Z O 0, Z O 0, Z O 0]), (g, 46, flat pileCells l ++ spare)] []))
  case first =>
    obtain ⟨i1_, hi1, hi1a, hi1b, hi1c⟩ := info_parts info_pile
    have HI1 := Zh hi1; have HI1a := Zh hi1a; have HI1b := Zh hi1b; have HI1c := Zh hi1c
    have HFL := Zh (show (flat pileCells l).length = n * 3 from by rw [flat_length pile_three, HN.out])
    have HFO' := Zh (show ∀ u ∈ flat pileCells l, u.oneCell' = true from flat_ones pile_ones l)
    have HOWN1 := Zh (owns_emptyP w1)
    have HSZ1 := Zh (show w1.heap.size ≤ (w1.alloc (.cells #[] 46)).heap.size from by rw [World.size_alloc]; omega)
    have HLa := Zh (HL0.out.below ((Below.refl w1.heap.size w1).alloc (Nat.le_refl _) (.cells #[] 46)))
    have HLT := Zh (show ∀ x ∈ ([(gr, 42, [Zl sa sn sc, Z O vap, Z O bro, Z O dus, Z O sdr, Z O swa, Z O soa, Z O pdr, Z O pwa]), (gd, 55, [Z O kind, Z O dy, Zs code, Zs other, Z O al, Z O ah, Z O bl, Z O bh]), (ge, 42, [Zl none 0 0, Z O 0, Z O 0, Z O 0, Z O 0, Z O 0, Z O 0, Z O 0, Z O 0])] : List (Nat × TypeId × List Value)), x.1 < w1.heap.size from fun x hx => (HL0.out.loc x hx).1.lt)
    have r0 := HLa.out.at 0 0 (v := Zl sa sn sc) rfl rfl
    clear hi1 hi1a hi1b hi1c
    rcases HSV.out with ⟨h1, h2⟩ | ⟨b, off, c, h1⟩
    · injection h1 with e1 e2 e3
      subst e1 e2 e3
      have hn0 : 0 = n := by rw [HN.out, h2]; rfl
      subst hn0
      have HL2 := Zh h2
      clear h2
      go_wp2_with (at_builtin; refine wpList_append_own_none rfl (.tmp 17) (.tmp 19) 40 rfl w1.heap.size 46 i1_ 3 Try.underlying40 HI1.out _ _ _ rfl HOWN1.out rfl ?_; have l2 := HLa.out.at 0 0 (v := Zl none 0 0) rfl rfl; have lf := HLa.out.frozen 0 rfl 0)
      go_meet
      refine ⟨w1.heap.size, 0, [], Zh ⟨Nat.le_refl _, by unfold maxLen; omega, rfl⟩, Zh ?_⟩
      rw [HL2.out]
      exact (HL0.out.alloc 46 [] rfl).setLoc1 0 [] [Z O vap, Z O bro, Z O dus, Z O sdr, Z O swa, Z O soa, Z O pdr, Z O pwa] (Zl none 0 0) (Zl (some ⟨w1.heap.size, 0, none⟩) 0 0) 0 rfl rfl
    · injection h1 with e1 e2 e3
      subst e1 e3
      rw [← HN.out] at e2
      subst e2
      have HHD6 := Zh (HH.out.below HLa.out.low)
      go_wp2_with (at_builtin; refine wpList_append_own _ rfl (.tmp 17) (.tmp 19) 40 rfl w1.heap.size 46 i1_ (.agg #[Zs ⟨#[]⟩, Z O 0, Z O 0]) 3 32 Try.underlying40 HI1.out HI1a.out HI1b.out HI1c.out rfl (by decide) _ _ _ rfl HOWN1.out ⟨b, off, none⟩ sn sc (flat pileCells l) rfl HFL.out (fun j u hu => HHD6.out.flat pile_three (by decide) j u hu) HFO'.out (by unfold maxLen; omega) (by omega) HSZ1.out ?_; intro v7 w7 hown7 hgrow7 hnil7; have hne7 : v7 ≠ Zl none 0 0 := (fun hh => (by have := (hnil7.1 hh).1; cases this)); simp only [Nat.zero_add, List.nil_append] at hown7; obtain ⟨g, cap, cur, hv7, hcur, hcap, hcapm, hgw, hcs7, hgtake⟩ := row_blockP hown7 hne7; subst hv7; have hbel7 : Below w1.heap.size (w1.alloc (.cells #[] 46)) w7 := (Below.refl _ _).grown hgrow7 HSZ1.out (fun k e => (by cases e; exact Nat.le_refl _)); have HL7 := Zh (HLa.out.belowAt hbel7 HL0.out.low.size HLT.out); have HCUR := Zh hcur; have HCAP := Zh (And.intro hcap (And.intro hcapm (And.intro hgw (And.intro hcs7 hgtake)))); have l2 := HL7.out.at 0 0 (v := Zl (some ⟨b, off, none⟩) sn sc) rfl rfl; have lf := HL7.out.frozen 0 rfl 0; clear hown7 hgrow7 hnil7 hne7 hcur hcap hcapm hgw hcs7 hgtake hbel7)
      go_meet
      have hnG : g ≠ gr := by have h1 := HCAP.out.2.2.1; have h2 := HLT.out (gr, 42, [Zl (some ⟨b, off, none⟩) sn sc, Z O vap, Z O bro, Z O dus, Z O sdr, Z O swa, Z O soa, Z O pdr, Z O pwa]) (by simp); simp only at h2; omega
      have e : cur = (flat pileCells l ++ cur.toList.drop (sn * 3)).toArray := by rw [← HCAP.out.2.2.2.2, List.take_append_drop, Array.toArray_toList]
      refine ⟨g, cap, cur.toList.drop (sn * 3), Zh ⟨HCAP.out.1, HCAP.out.2.1, by rw [List.length_drop, Array.length_toList, HCAP.out.2.2.2.1]; omega⟩, Zh ?_⟩
      refine (HL7.out.setLoc1 0 [] [Z O vap, Z O bro, Z O dus, Z O sdr, Z O swa, Z O soa, Z O pdr, Z O pwa] (Zl (some ⟨b, off, none⟩) sn sc) (Zl (some ⟨g, 0, none⟩) sn cap) 0 rfl rfl).adopt ?_ (Nat.le_trans HL0.out.low.size HCAP.out.2.2.1) (fun x hx => ?_)
      · rw [← e]
        exact HCUR.out.apart hnG 0 [Zl (some ⟨g, 0, none⟩) sn cap]
      · have h1 := HCAP.out.2.2.1
        have hx' : x = (gr, 42, [Zl (some ⟨g, 0, none⟩) sn cap, Z O vap, Z O bro, Z O dus, Z O sdr, Z O swa, Z O soa, Z O pdr, Z O pwa]) ∨ x = (gd, 55, [Z O kind, Z O dy, Zs code, Zs other, Z O al, Z O ah, Z O bl, Z O bh]) ∨ x = (ge, 42, [Zl none 0 0, Z O 0, Z O 0, Z O 0, Z O 0, Z O 0, Z O 0, Z O 0, Z O 0]) := by simpa using hx
        have q1 := HLT.out (gr, 42, [Zl (some ⟨b, off, none⟩) sn sc, Z O vap, Z O bro, Z O dus, Z O sdr, Z O swa, Z O soa, Z O pdr, Z O pwa]) (by simp)
        have q2 := HLT.out (gd, 55, [Z O kind, Z O dy, Zs code, Zs other, Z O al, Z O ah, Z O bl, Z O bh]) (by simp)
        have q3 := HLT.out (ge, 42, [Zl none 0 0, Z O 0, Z O 0, Z O 0, Z O 0, Z O 0, Z O 0, Z O 0, Z O 0]) (by simp)
        simp only at q1 q2 q3
        rcases hx' with rfl | rfl | rfl <;> (simp only; omega)
  case rest =>
    obtain ⟨g, cap, spare, HCAP, HL1⟩ := hcut
    clear HL0 HH HSV
    have HPA := Zh hpa; have HPB := Zh hpb; have HPP := Zh hP
    obtain ⟨hvap, hbro, hdus, hsdr, hswa, hsoa, hpdr, hpwa⟩ := hN
    have k1 := regrown_calls (W := wc) (fun W => pick_calls al ah one W hA h1)
    have k2 := regrown_calls (W := wc) (fun W => pick_calls bl bh two W hB h2)
    have hQ1 := pick_in (b := one) hA.2.1
    have hQ2 := pick_in (b := two) hB.2.1
    rw [← hpa] at k1 hQ1
    rw [← hpb] at k2 hQ2
    clear hpa hpb hP
    go_upto_region 2 with (fail)
    have q0 := cell_regrown (show wc.cell? ⟨gd, 4, none⟩ = some (Z O al) from HL1.out.at 1 4 (v := Z O al) rfl rfl)
    have q1 := cell_regrown (show wc.cell? ⟨gd, 5, none⟩ = some (Z O ah) from HL1.out.at 1 5 (v := Z O ah) rfl rfl)
    have q2 := cell_regrown (show wc.cell? ⟨gd, 6, none⟩ = some (Z O bl) from HL1.out.at 1 6 (v := Z O bl) rfl rfl)
    have q3 := cell_regrown (show wc.cell? ⟨gd, 7, none⟩ = some (Z O bh) from HL1.out.at 1 7 (v := Z O bh) rfl rfl)
    refine wp_region_quiet_below (by kernel_rfl) (by kernel_rfl) ?_
    repeat (go_big_quiet_step (first | (with_reducible exact k1 _ _) | (with_reducible exact k2 _ _)))
    refine wpQuiet_nil ?_
    intro wq hw'
    have hb8 : Below wc.heap.size wc wq := by obtain ⟨⟨dq, osq⟩, hw''⟩ := hw'; rw [hw'']; exact below_regrown _ dq osq
    clear hw' q0 q1 q2 q3 k1 k2
    have HL2 := Zh (HL1.out.below hb8)
    clear hb8 HL1
    generalize wq = v1 at HL2 ⊢
    by_cases k1 : kind = 1
    · subst k1
      have HEA := Zh (show Yd.Real.act ⟨l, vap, bro, dus, sdr, swa, soa, pdr, pwa⟩ ⟨1, dy, code, other, ⟨al, ah⟩, ⟨bl, bh⟩⟩ pa pb = some ⟨l ++ [⟨code, pa, pb⟩], vap, bro, dus, sdr, swa, soa, pdr + pa, pwa + pb⟩ from rfl)
      have f0 := (show v1.cell? ⟨gd, 0, none⟩ = some (Z O 1) from HL2.out.at 1 0 (v := Z O 1) rfl rfl)
      have f1 := (show v1.cell? ⟨gd, 2, none⟩ = some (Zs code) from HL2.out.at 1 2 (v := Zs code) rfl rfl)
      have f2 := (show v1.cell? ⟨gr, 0, none⟩ = some (Zl (some ⟨g, 0, none⟩) n cap) from HL2.out.at 0 0 (v := Zl (some ⟨g, 0, none⟩) n cap) rfl rfl)
      obtain ⟨i1_, hi1, hi1a, hi1b, hi1c⟩ := info_parts info_pile
      have HI1 := Zh hi1; have HI1a := Zh hi1a; have HI1b := Zh hi1b; have HI1c := Zh hi1c
      have HA1 := Zh (show n + 1 ≤ maxLen ∧ (n + 1) * 32 ≤ 140737488355328 by unfold maxLen; omega)
      clear hi1 hi1a hi1b hi1c
      have HRa := Zh (show Rowed w (v1.alloc (.cells #[Zs code, Z O pa, Z O pb] 46)) ([(gr, 42, [Zl (some ⟨g, 0, none⟩) n cap, Z O vap, Z O bro, Z O dus, Z O sdr, Z O swa, Z O soa, Z O pdr, Z O pwa]), (gd, 55, [Z O 1, Z O dy, Zs code, Zs other, Z O al, Z O ah, Z O bl, Z O bh]), (ge, 42, [Zl none 0 0, Z O 0, Z O 0, Z O 0, Z O 0, Z O 0, Z O 0, Z O 0, Z O 0]), (v1.heap.size, 46, [Zs code, Z O pa, Z O pb])] : List (Nat × TypeId × List Value)) 46 3 (Zl (some ⟨g, 0, none⟩) n cap) (n) (flat pileCells l) from (rowed_of (L := [(gr, 42, [Zl (some ⟨g, 0, none⟩) n cap, Z O vap, Z O bro, Z O dus, Z O sdr, Z O swa, Z O soa, Z O pdr, Z O pwa]), (gd, 55, [Z O 1, Z O dy, Zs code, Zs other, Z O al, Z O ah, Z O bl, Z O bh]), (ge, 42, [Zl none 0 0, Z O 0, Z O 0, Z O 0, Z O 0, Z O 0, Z O 0, Z O 0, Z O 0])]) HL2.out HN.out.symm HCAP.out).alloc 46 [Zs code, Z O pa, Z O pb] rfl)
      have HLa := Zh (show Locs w (v1.alloc (.cells #[Zs code, Z O pa, Z O pb] 46)) [(gr, 42, [Zl (some ⟨g, 0, none⟩) n cap, Z O vap, Z O bro, Z O dus, Z O sdr, Z O swa, Z O soa, Z O pdr, Z O pwa]), (gd, 55, [Z O 1, Z O dy, Zs code, Zs other, Z O al, Z O ah, Z O bl, Z O bh]), (ge, 42, [Zl none 0 0, Z O 0, Z O 0, Z O 0, Z O 0, Z O 0, Z O 0, Z O 0, Z O 0]), (v1.heap.size, 46, [Zs code, Z O pa, Z O pb])] [] from (HL2.out.fewer (List.sublist_append_left ([(gr, 42, [Zl (some ⟨g, 0, none⟩) n cap, Z O vap, Z O bro, Z O dus, Z O sdr, Z O swa, Z O soa, Z O pdr, Z O pwa]), (gd, 55, [Z O 1, Z O dy, Zs code, Zs other, Z O al, Z O ah, Z O bl, Z O bh]), (ge, 42, [Zl none 0 0, Z O 0, Z O 0, Z O 0, Z O 0, Z O 0, Z O 0, Z O 0, Z O 0])] : List (Nat × TypeId × List Value)) _) (List.Sublist.refl _)).alloc 46 [Zs code, Z O pa, Z O pb] rfl)
      clear HL2
      go_upto_region 5 with (at_builtin; refine wpList_append_lies _ rfl (.tmp 34) (.tmp 40) 40 rfl w.heap.size 46 i1_ (.agg #[Zs ⟨#[]⟩, Z O 0, Z O 0]) 3 32 Try.underlying40 HI1.out HI1a.out HI1b.out HI1c.out rfl (by decide) (Zl (some ⟨g, 0, none⟩) n cap) n (flat pileCells l) rfl HRa.out.own ⟨v1.heap.size, 0, none⟩ 1 1 [Zs code, Z O pa, Z O pb] rfl rfl (World.news_of_block (heap_alloc_new v1 _)) (by simp [Value.oneCell']) (by decide) HA1.out.1 HA1.out.2 HLa.out.low.size (v1.heap.size + 1) (World.size_alloc _ _) ?_; intro g7 cap7 w7 hown7 hg7 hat7 hlt7; have HL7 := Zh (HLa.out.appended HRa.out hg7); have HR7 := Zh (Rowed.appended HLa.out HRa.out hown7 (by rw [World.size_alloc]; exact hat7)); clear hown7 hg7 hat7 hlt7; have o2 := HL7.out.at 0 0 (v := Zl (some ⟨g, 0, none⟩) n cap) rfl rfl; have of2 := HL7.out.frozen 0 rfl 0)
      clear o2 of2 f0 f1 f2
      have HL8 := Zh (show Locs w (w7.setCell ⟨gr, 0, none⟩ (Zl (some ⟨g7, 0, none⟩) (n + 1) cap7)) [(gr, 42, [Zl (some ⟨g7, 0, none⟩) (n + 1) cap7, Z O vap, Z O bro, Z O dus, Z O sdr, Z O swa, Z O soa, Z O pdr, Z O pwa]), (gd, 55, [Z O 1, Z O dy, Zs code, Zs other, Z O al, Z O ah, Z O bl, Z O bh]), (ge, 42, [Zl none 0 0, Z O 0, Z O 0, Z O 0, Z O 0, Z O 0, Z O 0, Z O 0, Z O 0])] [] from (HL7.out.setLoc1 0 [] [Z O vap, Z O bro, Z O dus, Z O sdr, Z O swa, Z O soa, Z O pdr, Z O pwa] (Zl (some ⟨g, 0, none⟩) n cap) (Zl (some ⟨g7, 0, none⟩) (n + 1) cap7) 0 rfl rfl).fewer (List.sublist_append_left ([(gr, 42, [Zl (some ⟨g7, 0, none⟩) (n + 1) cap7, Z O vap, Z O bro, Z O dus, Z O sdr, Z O swa, Z O soa, Z O pdr, Z O pwa]), (gd, 55, [Z O 1, Z O dy, Zs code, Zs other, Z O al, Z O ah, Z O bl, Z O bh]), (ge, 42, [Zl none 0 0, Z O 0, Z O 0, Z O 0, Z O 0, Z O 0, Z O 0, Z O 0, Z O 0])] : List (Nat × TypeId × List Value)) _) (List.Sublist.refl _))
      have HR8 := Zh (show Rowed w (w7.setCell ⟨gr, 0, none⟩ (Zl (some ⟨g7, 0, none⟩) (n + 1) cap7)) ([(gr, 42, [Zl (some ⟨g7, 0, none⟩) (n + 1) cap7, Z O vap, Z O bro, Z O dus, Z O sdr, Z O swa, Z O soa, Z O pdr, Z O pwa]), (gd, 55, [Z O 1, Z O dy, Zs code, Zs other, Z O al, Z O ah, Z O bl, Z O bh]), (ge, 42, [Zl none 0 0, Z O 0, Z O 0, Z O 0, Z O 0, Z O 0, Z O 0, Z O 0, Z O 0])] : List (Nat × TypeId × List Value)) 46 3 (Zl (some ⟨g7, 0, none⟩) (n + 1) cap7) (n + 1) (flat pileCells l ++ [Zs code, Z O pa, Z O pb]) from (HR7.out.setLoc1 0 rfl 0 (Zl (some ⟨g7, 0, none⟩) (n + 1) cap7) (cs' := [Zl (some ⟨g7, 0, none⟩) (n + 1) cap7, Z O vap, Z O bro, Z O dus, Z O sdr, Z O swa, Z O soa, Z O pdr, Z O pwa])).fewer (List.sublist_append_left ([(gr, 42, [Zl (some ⟨g7, 0, none⟩) (n + 1) cap7, Z O vap, Z O bro, Z O dus, Z O sdr, Z O swa, Z O soa, Z O pdr, Z O pwa]), (gd, 55, [Z O 1, Z O dy, Zs code, Zs other, Z O al, Z O ah, Z O bl, Z O bh]), (ge, 42, [Zl none 0 0, Z O 0, Z O 0, Z O 0, Z O 0, Z O 0, Z O 0, Z O 0, Z O 0])] : List (Nat × TypeId × List Value)) _))
      clear HL7 HR7 HLa HRa
      generalize (w7.setCell ⟨gr, 0, none⟩ (Zl (some ⟨g7, 0, none⟩) (n + 1) cap7)) = w8 at HL8 HR8 ⊢
      have q7 := HL8.out.at 0 7 (v := Z O pdr) rfl rfl
      have q8 := HL8.out.at 0 8 (v := Z O pwa) rfl rfl
      have fr := fun o => HL8.out.frozen 0 rfl o
      go_upto_region 6 with (fail)
      clear q7 q8 fr
      have HL9 := Zh (show Locs w ((w8.setCell ⟨gr, 7, none⟩ (Z O (pdr + pa))).setCell ⟨gr, 8, none⟩ (Z O (pwa + pb))) [(gr, 42, [Zl (some ⟨g7, 0, none⟩) (n + 1) cap7, Z O vap, Z O bro, Z O dus, Z O sdr, Z O swa, Z O soa, Z O (pdr + pa), Z O (pwa + pb)]), (gd, 55, [Z O 1, Z O dy, Zs code, Zs other, Z O al, Z O ah, Z O bl, Z O bh]), (ge, 42, [Zl none 0 0, Z O 0, Z O 0, Z O 0, Z O 0, Z O 0, Z O 0, Z O 0, Z O 0])] [] from ((HL8.out.setLoc1 0 [Zl (some ⟨g7, 0, none⟩) (n + 1) cap7, Z O vap, Z O bro, Z O dus, Z O sdr, Z O swa, Z O soa] [Z O pwa] (Z O pdr) (Z O (pdr + pa)) 7 rfl rfl).setLoc1 0 [Zl (some ⟨g7, 0, none⟩) (n + 1) cap7, Z O vap, Z O bro, Z O dus, Z O sdr, Z O swa, Z O soa, Z O (pdr + pa)] [] (Z O pwa) (Z O (pwa + pb)) 8 rfl rfl))
      have HR9 := Zh (show Rowed w ((w8.setCell ⟨gr, 7, none⟩ (Z O (pdr + pa))).setCell ⟨gr, 8, none⟩ (Z O (pwa + pb))) ([(gr, 42, [Zl (some ⟨g7, 0, none⟩) (n + 1) cap7, Z O vap, Z O bro, Z O dus, Z O sdr, Z O swa, Z O soa, Z O (pdr + pa), Z O (pwa + pb)]), (gd, 55, [Z O 1, Z O dy, Zs code, Zs other, Z O al, Z O ah, Z O bl, Z O bh]), (ge, 42, [Zl none 0 0, Z O 0, Z O 0, Z O 0, Z O 0, Z O 0, Z O 0, Z O 0, Z O 0])] : List (Nat × TypeId × List Value)) 46 3 (Zl (some ⟨g7, 0, none⟩) (n + 1) cap7) (n + 1) (flat pileCells l ++ [Zs code, Z O pa, Z O pb]) from ((HR8.out.setLoc1 0 rfl 7 (Z O (pdr + pa)) (cs' := [Zl (some ⟨g7, 0, none⟩) (n + 1) cap7, Z O vap, Z O bro, Z O dus, Z O sdr, Z O swa, Z O soa, Z O (pdr + pa), Z O pwa])).setLoc1 0 rfl 8 (Z O (pwa + pb)) (cs' := [Zl (some ⟨g7, 0, none⟩) (n + 1) cap7, Z O vap, Z O bro, Z O dus, Z O sdr, Z O swa, Z O soa, Z O (pdr + pa), Z O (pwa + pb)])))
      clear HL8 HR8
      generalize ((w8.setCell ⟨gr, 7, none⟩ (Z O (pdr + pa))).setCell ⟨gr, 8, none⟩ (Z O (pwa + pb))) = w9 at HL9 HR9 ⊢
      have z0 := (show w9.cell? ⟨gr, 0, none⟩ = some (Zl (some ⟨g7, 0, none⟩) (n + 1) cap7) from HL9.out.at 0 0 (v := Zl (some ⟨g7, 0, none⟩) (n + 1) cap7) rfl rfl)
      have z1 := (show w9.cell? ⟨gr, 1, none⟩ = some (Z O vap) from HL9.out.at 0 1 (v := Z O vap) rfl rfl)
      have z2 := (show w9.cell? ⟨gr, 2, none⟩ = some (Z O bro) from HL9.out.at 0 2 (v := Z O bro) rfl rfl)
      have z3 := (show w9.cell? ⟨gr, 3, none⟩ = some (Z O dus) from HL9.out.at 0 3 (v := Z O dus) rfl rfl)
      have z4 := (show w9.cell? ⟨gr, 4, none⟩ = some (Z O sdr) from HL9.out.at 0 4 (v := Z O sdr) rfl rfl)
      have z5 := (show w9.cell? ⟨gr, 5, none⟩ = some (Z O swa) from HL9.out.at 0 5 (v := Z O swa) rfl rfl)
      have z6 := (show w9.cell? ⟨gr, 6, none⟩ = some (Z O soa) from HL9.out.at 0 6 (v := Z O soa) rfl rfl)
      have z7 := (show w9.cell? ⟨gr, 7, none⟩ = some (Z O (pdr + pa)) from HL9.out.at 0 7 (v := Z O (pdr + pa)) rfl rfl)
      have z8 := (show w9.cell? ⟨gr, 8, none⟩ = some (Z O (pwa + pb)) from HL9.out.at 0 8 (v := Z O (pwa + pb)) rfl rfl)
      go_wp2_with ((with_reducible refine at_store 42 (.tmp 8) (.tmp 53) ?_); go_must (refine wpList_store_mid rfl 42 (.tmp 8) (.tmp 53) rfl ge 0 #[Zl (some ⟨g7, 0, none⟩) (n + 1) cap7, Z O vap, Z O bro, Z O dus, Z O sdr, Z O swa, Z O soa, Z O (pdr + pa), Z O (pwa + pb)] rfl rfl (HL9.out.there 2 (o := 0) (n := 9) rfl (Nat.le_of_ble_eq_true rfl)) size_real (by simp [Value.oneCell']) ?_))
      clear z0 z1 z2 z3 z4 z5 z6 z7 z8
      have HL10 := Zh (show Locs w (w9.setCells ge 0 [Zl (some ⟨g7, 0, none⟩) (n + 1) cap7, Z O vap, Z O bro, Z O dus, Z O sdr, Z O swa, Z O soa, Z O (pdr + pa), Z O (pwa + pb)]) [(gr, 42, [Zl (some ⟨g7, 0, none⟩) (n + 1) cap7, Z O vap, Z O bro, Z O dus, Z O sdr, Z O swa, Z O soa, Z O (pdr + pa), Z O (pwa + pb)]), (gd, 55, [Z O 1, Z O dy, Zs code, Zs other, Z O al, Z O ah, Z O bl, Z O bh]), (ge, 42, [Zl (some ⟨g7, 0, none⟩) (n + 1) cap7, Z O vap, Z O bro, Z O dus, Z O sdr, Z O swa, Z O soa, Z O (pdr + pa), Z O (pwa + pb)])] [] from HL9.out.setLoc 2 [] [Zl none 0 0, Z O 0, Z O 0, Z O 0, Z O 0, Z O 0, Z O 0, Z O 0, Z O 0] [] [Zl (some ⟨g7, 0, none⟩) (n + 1) cap7, Z O vap, Z O bro, Z O dus, Z O sdr, Z O swa, Z O soa, Z O (pdr + pa), Z O (pwa + pb)] rfl rfl)
      have HRf := Zh (show Rowed w (w9.setCells ge 0 [Zl (some ⟨g7, 0, none⟩) (n + 1) cap7, Z O vap, Z O bro, Z O dus, Z O sdr, Z O swa, Z O soa, Z O (pdr + pa), Z O (pwa + pb)]) ([(gr, 42, [Zl (some ⟨g7, 0, none⟩) (n + 1) cap7, Z O vap, Z O bro, Z O dus, Z O sdr, Z O swa, Z O soa, Z O (pdr + pa), Z O (pwa + pb)]), (gd, 55, [Z O 1, Z O dy, Zs code, Zs other, Z O al, Z O ah, Z O bl, Z O bh]), (ge, 42, [Zl (some ⟨g7, 0, none⟩) (n + 1) cap7, Z O vap, Z O bro, Z O dus, Z O sdr, Z O swa, Z O soa, Z O (pdr + pa), Z O (pwa + pb)])] : List (Nat × TypeId × List Value)) 46 3 (Zl (some ⟨g7, 0, none⟩) (n + 1) cap7) (n + 1) (flat pileCells l ++ [Zs code, Z O pa, Z O pb]) from HR9.out.setLoc 2 rfl 0 [Zl (some ⟨g7, 0, none⟩) (n + 1) cap7, Z O vap, Z O bro, Z O dus, Z O sdr, Z O swa, Z O soa, Z O (pdr + pa), Z O (pwa + pb)] (cs' := [Zl (some ⟨g7, 0, none⟩) (n + 1) cap7, Z O vap, Z O bro, Z O dus, Z O sdr, Z O swa, Z O soa, Z O (pdr + pa), Z O (pwa + pb)]))
      have r0 := HL10.out.at 2 0 (v := Zl (some ⟨g7, 0, none⟩) (n + 1) cap7) rfl rfl
      have r1 := HL10.out.at 2 1 (v := Z O vap) rfl rfl
      have r2 := HL10.out.at 2 2 (v := Z O bro) rfl rfl
      have r3 := HL10.out.at 2 3 (v := Z O dus) rfl rfl
      have r4 := HL10.out.at 2 4 (v := Z O sdr) rfl rfl
      have r5 := HL10.out.at 2 5 (v := Z O swa) rfl rfl
      have r6 := HL10.out.at 2 6 (v := Z O soa) rfl rfl
      have r7 := HL10.out.at 2 7 (v := Z O (pdr + pa)) rfl rfl
      have r8 := HL10.out.at 2 8 (v := Z O (pwa + pb)) rfl rfl
      refine bodyPost_ret (v := .tuple #[.agg #[Zl (some ⟨g7, 0, none⟩) (n + 1) cap7, Z O vap, Z O bro, Z O dus, Z O sdr, Z O swa, Z O soa, Z O (pdr + pa), Z O (pwa + pb)], .bool true]) (by simp [results, Try.results44, go_sem, r0, r1, r2, r3, r4, r5, r6, r7, r8]) rfl ?_
      rw [HEA.out]
      have e : flat pileCells l ++ [Zs code, Z O pa, Z O pb] = flat pileCells (l ++ [⟨code, pa, pb⟩]) := by rw [flat_append, flat_cons, flat_nil, List.append_nil]; rfl
      have HRg := HRf.out
      rw [e] at HRg
      have hll : (l ++ [(⟨code, pa, pb⟩ : Yd.Pile Code)]).length = n + 1 := by rw [List.length_append, ← HN.out]; rfl
      exact ⟨_, rfl, HL10.out.low, held_rowP HRg hll (by omega), .inr ⟨g7, 0, cap7, by rw [hll]⟩⟩
    have hk2_ : 2 ≤ kind := by omega
    by_cases hf : Yd.find l code < l.length
    · skip
      obtain ⟨k, hfind⟩ : ∃ k, Yd.find l code = k := ⟨_, rfl⟩
      rw [hfind] at hf
      have hkl := hf
      obtain ⟨⟨xc, xd, xw⟩, hx⟩ : ∃ x, l[k]! = x := ⟨_, rfl⟩
      have HACT := Zh (show l[Yd.find l code]? = some ⟨xc, xd, xw⟩ from by rw [hfind, ← hx, getElem!_pos l k hkl, List.getElem?_eq_getElem hkl])
      have HFIND := Zh (show findInt l code = (k : Int) from by unfold findInt; rw [hfind, if_pos hkl])
      have hxx := HPP.out _ (get_in hkl)
      rw [hx] at hxx
      simp only at hxx
      have HKL := Zh hkl; have HX := Zh hx; have HFK := Zh hfind
      obtain ⟨⟨hxd1, hxd2⟩, ⟨hxw1, hxw2⟩⟩ := hxx
      clear hfind hx hf
      have hk1 : (kind == 1) = false := by simp; omega
      have f0 := (show v1.cell? ⟨gd, 0, none⟩ = some (Z O kind) from HL2.out.at 1 0 (v := Z O kind) rfl rfl)
      have f1 := (show v1.cell? ⟨gd, 2, none⟩ = some (Zs code) from HL2.out.at 1 2 (v := Zs code) rfl rfl)
      have f2 := (show v1.cell? ⟨gr, 0, none⟩ = some (Zl (some ⟨g, 0, none⟩) n cap) from HL2.out.at 0 0 (v := Zl (some ⟨g, 0, none⟩) n cap) rfl rfl)
      have f3 := (show v1.cell? ⟨gr, 1, none⟩ = some (Z O vap) from HL2.out.at 0 1 (v := Z O vap) rfl rfl)
      have f4 := (show v1.cell? ⟨gr, 2, none⟩ = some (Z O bro) from HL2.out.at 0 2 (v := Z O bro) rfl rfl)
      have f5 := (show v1.cell? ⟨gr, 3, none⟩ = some (Z O dus) from HL2.out.at 0 3 (v := Z O dus) rfl rfl)
      have f6 := (show v1.cell? ⟨gr, 4, none⟩ = some (Z O sdr) from HL2.out.at 0 4 (v := Z O sdr) rfl rfl)
      have f7 := (show v1.cell? ⟨gr, 5, none⟩ = some (Z O swa) from HL2.out.at 0 5 (v := Z O swa) rfl rfl)
      have f8 := (show v1.cell? ⟨gr, 6, none⟩ = some (Z O soa) from HL2.out.at 0 6 (v := Z O soa) rfl rfl)
      have f9 := (show v1.cell? ⟨gr, 7, none⟩ = some (Z O pdr) from HL2.out.at 0 7 (v := Z O pdr) rfl rfl)
      have f10 := (show v1.cell? ⟨gr, 8, none⟩ = some (Z O pwa) from HL2.out.at 0 8 (v := Z O pwa) rfl rfl)
      have HFI := Zh (find_calls (Zl (some ⟨g, 0, none⟩) n cap) l vap bro dus sdr swa soa pdr pwa code v1 (held_rowP (rowed_of (L := [(gr, 42, [Zl (some ⟨g, 0, none⟩) n cap, Z O vap, Z O bro, Z O dus, Z O sdr, Z O swa, Z O soa, Z O pdr, Z O pwa]), (gd, 55, [Z O kind, Z O dy, Zs code, Zs other, Z O al, Z O ah, Z O bl, Z O bh]), (ge, 42, [Zl none 0 0, Z O 0, Z O 0, Z O 0, Z O 0, Z O 0, Z O 0, Z O 0, Z O 0])]) HL2.out HN.out.symm HCAP.out) HN.out.symm (by omega)) (by rw [← HN.out]; omega))
      have hkn : k < n := by rw [HN.out]; exact hkl
      have hknI : (k : Int) < (n : Int) := by omega
      clear hkl
      go_upto_region 11 with (first
        | (go_at_call 64; refine HFI.out.mono ?_; rintro e w3 ⟨rfl, hb3⟩; rw [HFIND.out]; have HL9 := Zh (HL2.out.below hb3); clear hb3; have z0 := HL9.out.at 0 0 (v := Zl (some ⟨g, 0, none⟩) n cap) rfl rfl; have c0 : w3.cell? ⟨g, k * 3, none⟩ = some (Zs xc) := (row_cellP HL9.out 3 rfl HKL.out 0 (by decide)).trans (by rw [HX.out]; rfl); have c1 : w3.cell? ⟨g, k * 3 + 1, none⟩ = some (Z O xd) := (row_cellP HL9.out 3 rfl HKL.out 1 (by decide)).trans (by rw [HX.out]; rfl); have c2 : w3.cell? ⟨g, k * 3 + 2, none⟩ = some (Z O xw) := (row_cellP HL9.out 3 rfl HKL.out 2 (by decide)).trans (by rw [HX.out]; rfl); have HOx := Zh (show (#[Zs xc, Z O xd, Z O xw] : Array Value).all (·.oneCell') = true from by simp [Value.oneCell']))
        | ((with_reducible refine at_store 46 (.tmp 13) (.tmp 65) ?_); go_must (refine wpList_store_mid rfl 46 (.tmp 13) (.tmp 65) rfl w3.heap.size 0 #[Zs xc, Z O xd, Z O xw] rfl rfl ((Blk.new w3 46 #[Zs ⟨#[]⟩, Z O 0, Z O 0]).there (o := 0) (n := 3) (Nat.le_of_ble_eq_true rfl)) size_pile (HOx.out) ?_)))
      clear z0 c0 c1 c2 HFI f0 f1 f2 f3 f4 f5 f6 f7 f8 f9 f10
      have HL10 := Zh (show Locs w ((w3.alloc (.cells #[Zs ⟨#[]⟩, Z O 0, Z O 0] 46)).setCells w3.heap.size 0 [Zs xc, Z O xd, Z O xw]) [(gr, 42, [Zl (some ⟨g, 0, none⟩) n cap, Z O vap, Z O bro, Z O dus, Z O sdr, Z O swa, Z O soa, Z O pdr, Z O pwa]), (gd, 55, [Z O kind, Z O dy, Zs code, Zs other, Z O al, Z O ah, Z O bl, Z O bh]), (ge, 42, [Zl none 0 0, Z O 0, Z O 0, Z O 0, Z O 0, Z O 0, Z O 0, Z O 0, Z O 0]), (g, 46, flat pileCells l ++ spare), (w3.heap.size, 46, [Zs xc, Z O xd, Z O xw])] [] from (HL9.out.alloc 46 [Zs ⟨#[]⟩, Z O 0, Z O 0] rfl).setLoc 4 [] [Zs ⟨#[]⟩, Z O 0, Z O 0] [] [Zs xc, Z O xd, Z O xw] rfl rfl)
      clear HL9
      generalize ((w3.alloc (.cells #[Zs ⟨#[]⟩, Z O 0, Z O 0] 46)).setCells w3.heap.size 0 [Zs xc, Z O xd, Z O xw]) = v2 at HL10 ⊢
      generalize w3.heap.size = gx at HL10 ⊢
      try simp only [Act.put]
      clear hk1
      by_cases k2 : kind = 2
      · subst k2
        have hk2 := ft (.inl rfl)
        have HEA := Zh (show Yd.Real.act ⟨l, vap, bro, dus, sdr, swa, soa, pdr, pwa⟩ ⟨2, dy, code, other, ⟨al, ah⟩, ⟨bl, bh⟩⟩ pa pb = (some ⟨l.set k ⟨xc, xd, xw - xw * pa / 1000⟩, vap + xw * pa / 1000, bro, dus, sdr, swa, soa, pdr, pwa⟩) from by
          rw [act_hit (by simp) HACT.out]; try rw [HFK.out]
          rfl)
        have m0 := mul_fit (x := xw) (y := pa) (n := 2000000000000000) (m := 1000) (by omega) (by omega)
        obtain ⟨m01, m02⟩ := m0
        have q0 : 0 ≤ xw * pa / 1000 ∧ xw * pa / 1000 ≤ 2000000000000000 := by omega
        obtain ⟨q01, q02⟩ := q0
        have s0 := (show v2.cell? ⟨gd, 0, none⟩ = some (Z O 2) from HL10.out.at 1 0 (v := Z O 2) rfl rfl)
        have s1 := (show v2.cell? ⟨gx, 2, none⟩ = some (Z O xw) from HL10.out.at 4 2 (v := Z O xw) rfl rfl)
        have hc9 : v2.cell? ⟨gr, 1, none⟩ = some (Z O vap) := HL10.out.at 0 1 (v := Z O vap) rfl rfl
        have hf9 := HL10.out.frozen 0 rfl 1
        go_upto_region 14 with fail
        clear hc9 hf9 s0 s1
        have HL11 := Zh (show Locs w (v2.setCell ⟨gr, 1, none⟩ (Z O (vap + xw * pa / 1000))) [(gr, 42, [Zl (some ⟨g, 0, none⟩) n cap, Z O (vap + xw * pa / 1000), Z O bro, Z O dus, Z O sdr, Z O swa, Z O soa, Z O pdr, Z O pwa]), (gd, 55, [Z O 2, Z O dy, Zs code, Zs other, Z O al, Z O ah, Z O bl, Z O bh]), (ge, 42, [Zl none 0 0, Z O 0, Z O 0, Z O 0, Z O 0, Z O 0, Z O 0, Z O 0, Z O 0]), (g, 46, flat pileCells l ++ spare), (gx, 46, [Zs xc, Z O xd, Z O xw])] [] from HL10.out.setLoc1 0 [Zl (some ⟨g, 0, none⟩) n cap] [Z O bro, Z O dus, Z O sdr, Z O swa, Z O soa, Z O pdr, Z O pwa] (Z O vap) (Z O (vap + xw * pa / 1000)) 1 rfl rfl)
        clear HL10
        generalize (v2.setCell ⟨gr, 1, none⟩ (Z O (vap + xw * pa / 1000))) = v3 at HL11 ⊢
        try simp only [Act.put]
        have hc9 : v3.cell? ⟨gx, 2, none⟩ = some (Z O xw) := HL11.out.at 4 2 (v := Z O xw) rfl rfl
        have hf9 := HL11.out.frozen 4 rfl 2
        go_upto_region 38 with fail
        clear hc9 hf9 
        have HL12 := Zh (show Locs w (v3.setCell ⟨gx, 2, none⟩ (Z O (xw - xw * pa / 1000))) [(gr, 42, [Zl (some ⟨g, 0, none⟩) n cap, Z O (vap + xw * pa / 1000), Z O bro, Z O dus, Z O sdr, Z O swa, Z O soa, Z O pdr, Z O pwa]), (gd, 55, [Z O 2, Z O dy, Zs code, Zs other, Z O al, Z O ah, Z O bl, Z O bh]), (ge, 42, [Zl none 0 0, Z O 0, Z O 0, Z O 0, Z O 0, Z O 0, Z O 0, Z O 0, Z O 0]), (g, 46, flat pileCells l ++ spare), (gx, 46, [Zs xc, Z O xd, Z O (xw - xw * pa / 1000)])] [] from HL11.out.setLoc1 4 [Zs xc, Z O xd] [] (Z O xw) (Z O (xw - xw * pa / 1000)) 2 rfl rfl)
        clear HL11
        generalize (v3.setCell ⟨gx, 2, none⟩ (Z O (xw - xw * pa / 1000))) = v4 at HL12 ⊢
        try simp only [Act.put]
        have s0 := (show v4.cell? ⟨gx, 0, none⟩ = some (Zs xc) from HL12.out.at 4 0 (v := Zs xc) rfl rfl)
        have s1 := (show v4.cell? ⟨gx, 1, none⟩ = some (Z O xd) from HL12.out.at 4 1 (v := Z O xd) rfl rfl)
        have s2 := (show v4.cell? ⟨gx, 2, none⟩ = some (Z O (xw - xw * pa / 1000)) from HL12.out.at 4 2 (v := Z O (xw - xw * pa / 1000)) rfl rfl)
        have s3 := (show v4.cell? ⟨gd, 0, none⟩ = some (Z O 2) from HL12.out.at 1 0 (v := Z O 2) rfl rfl)
        have s4 := (show v4.cell? ⟨gr, 0, none⟩ = some (Zl (some ⟨g, 0, none⟩) n cap) from HL12.out.at 0 0 (v := Zl (some ⟨g, 0, none⟩) n cap) rfl rfl)
        have s5 := (show v4.cell? ⟨gr, 1, none⟩ = some (Z O (vap + xw * pa / 1000)) from HL12.out.at 0 1 (v := Z O (vap + xw * pa / 1000)) rfl rfl)
        have s6 := (show v4.cell? ⟨gr, 2, none⟩ = some (Z O bro) from HL12.out.at 0 2 (v := Z O bro) rfl rfl)
        have s7 := (show v4.cell? ⟨gr, 3, none⟩ = some (Z O dus) from HL12.out.at 0 3 (v := Z O dus) rfl rfl)
        have s8 := (show v4.cell? ⟨gr, 4, none⟩ = some (Z O sdr) from HL12.out.at 0 4 (v := Z O sdr) rfl rfl)
        have s9 := (show v4.cell? ⟨gr, 5, none⟩ = some (Z O swa) from HL12.out.at 0 5 (v := Z O swa) rfl rfl)
        have s10 := (show v4.cell? ⟨gr, 6, none⟩ = some (Z O soa) from HL12.out.at 0 6 (v := Z O soa) rfl rfl)
        have s11 := (show v4.cell? ⟨gr, 7, none⟩ = some (Z O pdr) from HL12.out.at 0 7 (v := Z O pdr) rfl rfl)
        have s12 := (show v4.cell? ⟨gr, 8, none⟩ = some (Z O pwa) from HL12.out.at 0 8 (v := Z O pwa) rfl rfl)
        have HLr := Zh (show Locs w (v4.setCells g (k * 3) [Zs xc, Z O xd, Z O (xw - xw * pa / 1000)]) [(gr, 42, [Zl (some ⟨g, 0, none⟩) n cap, Z O (vap + xw * pa / 1000), Z O bro, Z O dus, Z O sdr, Z O swa, Z O soa, Z O pdr, Z O pwa]), (gd, 55, [Z O 2, Z O dy, Zs code, Zs other, Z O al, Z O ah, Z O bl, Z O bh]), (ge, 42, [Zl none 0 0, Z O 0, Z O 0, Z O 0, Z O 0, Z O 0, Z O 0, Z O 0, Z O 0]), (g, 46, flat pileCells (l.set k ⟨xc, xd, xw - xw * pa / 1000⟩) ++ spare), (gx, 46, [Zs xc, Z O xd, Z O (xw - xw * pa / 1000)])] [] from HL12.out.setRow 3 rfl HKL.out ⟨xc, xd, xw - xw * pa / 1000⟩)
        have HTH := Zh (show v4.there g (k * 3) 3 from HL12.out.there 3 rfl (by have h1 := HKL.out; rw [List.length_append, flat_length pile_three]; omega))
        go_wp2_with (first
          | ((with_reducible refine at_store 46 (.tmp 246) (.tmp 245) ?_); go_must (refine wpList_store_mid rfl 46 (.tmp 246) (.tmp 245) rfl g (k * 3) #[Zs xc, Z O xd, Z O (xw - xw * pa / 1000)] rfl rfl HTH.out size_pile (by simp [Value.oneCell']) ?_); have HLs := HLr; clear s0 s1 s2 s3 s4 s5 s6 s7 s8 s9 s10 s11 s12; have t0 := HLs.out.at 0 0 (v := Zl (some ⟨g, 0, none⟩) n cap) rfl rfl; have t1 := HLs.out.at 0 1 (v := Z O (vap + xw * pa / 1000)) rfl rfl; have t2 := HLs.out.at 0 2 (v := Z O bro) rfl rfl; have t3 := HLs.out.at 0 3 (v := Z O dus) rfl rfl; have t4 := HLs.out.at 0 4 (v := Z O sdr) rfl rfl; have t5 := HLs.out.at 0 5 (v := Z O swa) rfl rfl; have t6 := HLs.out.at 0 6 (v := Z O soa) rfl rfl; have t7 := HLs.out.at 0 7 (v := Z O pdr) rfl rfl; have t8 := HLs.out.at 0 8 (v := Z O pwa) rfl rfl; have td := HLs.out.at 1 0 (v := Z O 2) rfl rfl)
          | ((with_reducible refine at_store 42 (.tmp 8) (.tmp 283) ?_); go_must (refine wpList_store_mid rfl 42 (.tmp 8) (.tmp 283) rfl ge 0 #[Zl (some ⟨g, 0, none⟩) n cap, Z O (vap + xw * pa / 1000), Z O bro, Z O dus, Z O sdr, Z O swa, Z O soa, Z O pdr, Z O pwa] rfl rfl (HLr.out.there 2 (o := 0) (n := 9) rfl (Nat.le_of_ble_eq_true rfl)) size_real (by simp [Value.oneCell']) ?_)))
        clear t0 t1 t2 t3 t4 t5 t6 t7 t8 td
        have HLf := Zh (show Locs w ((v4.setCells g (k * 3) [Zs xc, Z O xd, Z O (xw - xw * pa / 1000)]).setCells ge 0 [Zl (some ⟨g, 0, none⟩) n cap, Z O (vap + xw * pa / 1000), Z O bro, Z O dus, Z O sdr, Z O swa, Z O soa, Z O pdr, Z O pwa]) [(gr, 42, [Zl (some ⟨g, 0, none⟩) n cap, Z O (vap + xw * pa / 1000), Z O bro, Z O dus, Z O sdr, Z O swa, Z O soa, Z O pdr, Z O pwa]), (gd, 55, [Z O 2, Z O dy, Zs code, Zs other, Z O al, Z O ah, Z O bl, Z O bh]), (ge, 42, [Zl (some ⟨g, 0, none⟩) n cap, Z O (vap + xw * pa / 1000), Z O bro, Z O dus, Z O sdr, Z O swa, Z O soa, Z O pdr, Z O pwa]), (g, 46, flat pileCells (l.set k ⟨xc, xd, xw - xw * pa / 1000⟩) ++ spare), (gx, 46, [Zs xc, Z O xd, Z O (xw - xw * pa / 1000)])] [] from HLr.out.setLoc 2 [] [Zl none 0 0, Z O 0, Z O 0, Z O 0, Z O 0, Z O 0, Z O 0, Z O 0, Z O 0] [] [Zl (some ⟨g, 0, none⟩) n cap, Z O (vap + xw * pa / 1000), Z O bro, Z O dus, Z O sdr, Z O swa, Z O soa, Z O pdr, Z O pwa] rfl rfl)
        have r0 := HLf.out.at 2 0 (v := Zl (some ⟨g, 0, none⟩) n cap) rfl rfl
        have r1 := HLf.out.at 2 1 (v := Z O (vap + xw * pa / 1000)) rfl rfl
        have r2 := HLf.out.at 2 2 (v := Z O bro) rfl rfl
        have r3 := HLf.out.at 2 3 (v := Z O dus) rfl rfl
        have r4 := HLf.out.at 2 4 (v := Z O sdr) rfl rfl
        have r5 := HLf.out.at 2 5 (v := Z O swa) rfl rfl
        have r6 := HLf.out.at 2 6 (v := Z O soa) rfl rfl
        have r7 := HLf.out.at 2 7 (v := Z O pdr) rfl rfl
        have r8 := HLf.out.at 2 8 (v := Z O pwa) rfl rfl
        refine bodyPost_ret (v := .tuple #[.agg #[Zl (some ⟨g, 0, none⟩) n cap, Z O (vap + xw * pa / 1000), Z O bro, Z O dus, Z O sdr, Z O swa, Z O soa, Z O pdr, Z O pwa], .bool true]) (by simp [results, Try.results44, go_sem, r0, r1, r2, r3, r4, r5, r6, r7, r8]) rfl ?_
        rw [HEA.out]
        have hll : (l.set k ⟨xc, xd, xw - xw * pa / 1000⟩).length = n := by rw [List.length_set, ← HN.out]
        have HRg := rowed_of (L := [(gr, 42, [Zl (some ⟨g, 0, none⟩) n cap, Z O (vap + xw * pa / 1000), Z O bro, Z O dus, Z O sdr, Z O swa, Z O soa, Z O pdr, Z O pwa]), (gd, 55, [Z O 2, Z O dy, Zs code, Zs other, Z O al, Z O ah, Z O bl, Z O bh]), (ge, 42, [Zl (some ⟨g, 0, none⟩) n cap, Z O (vap + xw * pa / 1000), Z O bro, Z O dus, Z O sdr, Z O swa, Z O soa, Z O pdr, Z O pwa])]) (HLf.out.fewer (List.sublist_append_left ([(gr, 42, [Zl (some ⟨g, 0, none⟩) n cap, Z O (vap + xw * pa / 1000), Z O bro, Z O dus, Z O sdr, Z O swa, Z O soa, Z O pdr, Z O pwa]), (gd, 55, [Z O 2, Z O dy, Zs code, Zs other, Z O al, Z O ah, Z O bl, Z O bh]), (ge, 42, [Zl (some ⟨g, 0, none⟩) n cap, Z O (vap + xw * pa / 1000), Z O bro, Z O dus, Z O sdr, Z O swa, Z O soa, Z O pdr, Z O pwa]), (g, 46, flat pileCells (l.set k ⟨xc, xd, xw - xw * pa / 1000⟩) ++ spare)] : List (Nat × TypeId × List Value)) _) (List.Sublist.refl _)) hll HCAP.out
        exact ⟨_, rfl, HLf.out.low, held_rowP HRg hll (by omega), .inr ⟨g, 0, cap, by rw [hll]⟩⟩
      by_cases k3 : kind = 3
      · subst k3
        have hk3 := ft (.inr (.inl rfl)); have hk3b := fsoak rfl
        have HEA := Zh (show Yd.Real.act ⟨l, vap, bro, dus, sdr, swa, soa, pdr, pwa⟩ ⟨3, dy, code, other, ⟨al, ah⟩, ⟨bl, bh⟩⟩ pa pb = (some ⟨l.set k ⟨xc, xd - xd * pa / 1000, xw + xd * pb / 1000⟩, vap, bro + xd * pa / 1000, dus, sdr, swa, soa + xd * pb / 1000, pdr, pwa⟩) from by
          rw [act_hit (by simp) HACT.out]; try rw [HFK.out]
          rfl)
        have m0 := mul_fit (x := xd) (y := pa) (n := 2000000000000000) (m := 1000) (by omega) (by omega)
        obtain ⟨m01, m02⟩ := m0
        have m1 := mul_fit (x := xd) (y := pb) (n := 2000000000000000) (m := 3000) (by omega) (by omega)
        obtain ⟨m11, m12⟩ := m1
        have q0 : 0 ≤ xd * pa / 1000 ∧ xd * pa / 1000 ≤ 2000000000000000 := by omega
        obtain ⟨q01, q02⟩ := q0
        have q1 : 0 ≤ xd * pb / 1000 ∧ xd * pb / 1000 ≤ 6000000000000000 := by omega
        obtain ⟨q11, q12⟩ := q1
        have y0 := (show v2.cell? ⟨gd, 0, none⟩ = some (Z O 3) from HL10.out.at 1 0 (v := Z O 3) rfl rfl)
        go_upto_region 16 with fail
        clear y0
        have HW0 := Zh (show IntKind.i64.wrap (xd * pa) = xd * pa from by rw [IntKind.wrap_i64]; omega)
        have HW1 := Zh (show IntKind.i64.wrap (xd * pa / 1000) = xd * pa / 1000 from by rw [IntKind.wrap_i64]; omega)
        have HW2 := Zh (show IntKind.i64.wrap (bro + xd * pa / 1000) = bro + xd * pa / 1000 from by rw [IntKind.wrap_i64]; omega)
        have HW3 := Zh (show IntKind.i64.wrap (xd * pb) = xd * pb from by rw [IntKind.wrap_i64]; omega)
        have HW4 := Zh (show IntKind.i64.wrap (xd * pb / 1000) = xd * pb / 1000 from by rw [IntKind.wrap_i64]; omega)
        have HW5 := Zh (show IntKind.i64.wrap (soa + xd * pb / 1000) = soa + xd * pb / 1000 from by rw [IntKind.wrap_i64]; omega)
        have HD0 := Zh (show Int.tdiv (xd * pa) 1000 = xd * pa / 1000 from Int.tdiv_eq_ediv_of_nonneg m01)
        have HD1 := Zh (show Int.tdiv (xd * pb) 1000 = xd * pb / 1000 from Int.tdiv_eq_ediv_of_nonneg m11)
        have hmix : Try.prog.follows .mixedOrders = true := by kernel_rfl
        refine region_till2 [17, 19] (fun w' => Blk w' gr 42 #[Zl (some ⟨g, 0, none⟩) n cap, Z O vap, Z O bro, Z O dus, Z O sdr, Z O swa, Z O soa, Z O pdr, Z O pwa]) (fun w' => Blk w' gx 46 #[Zs xc, Z O xd, Z O xw]) 20 [false, false, false, false, false, false, false, false, false, false, false, false, false, false, false, false, false, false, false, false] hmix rfl rfl ?_
        clear hmix
        have HL11 := Zh (HL10.out.drew)
        clear HL10
        generalize v2.drew = v3 at HL11 ⊢
        have HT := Zh (show (fun w' => Blk w' gr 42 #[Zl (some ⟨g, 0, none⟩) n cap, Z O vap, Z O bro, Z O dus, Z O sdr, Z O swa, Z O soa, Z O pdr, Z O pwa]) v3 from HL11.out.blk 0 rfl)
        have HS := Zh (show (fun w' => Blk w' gx 46 #[Zs xc, Z O xd, Z O xw]) v3 from HL11.out.blk 4 rfl)
        refine till2_pure (i := 0) (v := .pointer (some ⟨gr, 2, none⟩)) rfl rfl (by kernel_rfl) (fun _ _ _ h => h) (yields_of rfl (fun w' _ => by simp [go_sem])) ⟨HS.out, fun _ => HT.out⟩ ?_
        try simp only [List.setIfInBounds_toArray, List.set_cons_succ, List.set_cons_zero]
        refine till2_load (i := 1) (v := Z O bro) rfl rfl (by kernel_rfl) (fun _ _ _ h => h) (yields_of rfl (fun w' hw' => by have hcx : w'.cell? ⟨gr, 2, none⟩ = some (Z O bro) := Blk.at hw' 2 _ rfl; simp [go_sem, hcx])) ⟨HS.out, fun _ => HT.out⟩ ?_
        try simp only [List.setIfInBounds_toArray, List.set_cons_succ, List.set_cons_zero]
        refine till2_pure (i := 2) (v := .pointer (some ⟨gx, 1, none⟩)) rfl rfl (by kernel_rfl) (fun _ _ _ h => h) (yields_of rfl (fun w' _ => by simp [go_sem])) ⟨HS.out, fun _ => HT.out⟩ ?_
        try simp only [List.setIfInBounds_toArray, List.set_cons_succ, List.set_cons_zero]
        refine till2_keep (i := 3) (v := Z O xd) rfl rfl (by kernel_rfl) (fun _ _ _ h => h) (yields_of rfl (fun w' hw' => by have hcx : w'.cell? ⟨gx, 1, none⟩ = some (Z O xd) := Blk.at hw' 1 _ rfl; simp [go_sem, hcx])) ⟨HS.out, fun _ => HT.out⟩ ?_
        try simp only [List.setIfInBounds_toArray, List.set_cons_succ, List.set_cons_zero]
        refine till2_pure (i := 4) (v := Z O pa) rfl rfl (by kernel_rfl) (fun _ _ _ h => h) (yields_of rfl (fun w' _ => by simp [go_sem])) ⟨HS.out, fun _ => HT.out⟩ ?_
        try simp only [List.setIfInBounds_toArray, List.set_cons_succ, List.set_cons_zero]
        refine till2_pure (i := 5) (v := Z O (xd * pa)) rfl rfl (by kernel_rfl) (fun _ _ _ h => h) (yields_of rfl (fun w' _ => by simp [go_sem, HW0.out])) ⟨HS.out, fun _ => HT.out⟩ ?_
        try simp only [List.setIfInBounds_toArray, List.set_cons_succ, List.set_cons_zero]
        refine till2_pure (i := 6) (v := Z O (xd * pa / 1000)) rfl rfl (by kernel_rfl) (fun _ _ _ h => h) (yields_of rfl (fun w' _ => by simp [go_sem, HD0.out, HW1.out])) ⟨HS.out, fun _ => HT.out⟩ ?_
        try simp only [List.setIfInBounds_toArray, List.set_cons_succ, List.set_cons_zero]
        refine till2_pure (i := 7) (v := Z O (bro + xd * pa / 1000)) rfl rfl (by kernel_rfl) (fun _ _ _ h => h) (yields_of rfl (fun w' _ => by simp [go_sem, HW2.out])) ⟨HS.out, fun _ => HT.out⟩ ?_
        try simp only [List.setIfInBounds_toArray, List.set_cons_succ, List.set_cons_zero]
        refine till2_pure (i := 8) (v := .pointer (some ⟨gr, 6, none⟩)) rfl rfl (by kernel_rfl) (fun _ _ _ h => h) (yields_of rfl (fun w' _ => by simp [go_sem])) ⟨HS.out, fun _ => HT.out⟩ ?_
        try simp only [List.setIfInBounds_toArray, List.set_cons_succ, List.set_cons_zero]
        refine till2_load (i := 9) (v := Z O soa) rfl rfl (by kernel_rfl) (fun _ _ _ h => h) (yields_of rfl (fun w' hw' => by have hcx : w'.cell? ⟨gr, 6, none⟩ = some (Z O soa) := Blk.at hw' 6 _ rfl; simp [go_sem, hcx])) ⟨HS.out, fun _ => HT.out⟩ ?_
        try simp only [List.setIfInBounds_toArray, List.set_cons_succ, List.set_cons_zero]
        refine till2_pure (i := 10) (v := .pointer (some ⟨gx, 1, none⟩)) rfl rfl (by kernel_rfl) (fun _ _ _ h => h) (yields_of rfl (fun w' _ => by simp [go_sem])) ⟨HS.out, fun _ => HT.out⟩ ?_
        try simp only [List.setIfInBounds_toArray, List.set_cons_succ, List.set_cons_zero]
        refine till2_keep (i := 11) (v := Z O xd) rfl rfl (by kernel_rfl) (fun _ _ _ h => h) (yields_of rfl (fun w' hw' => by have hcx : w'.cell? ⟨gx, 1, none⟩ = some (Z O xd) := Blk.at hw' 1 _ rfl; simp [go_sem, hcx])) ⟨HS.out, fun _ => HT.out⟩ ?_
        try simp only [List.setIfInBounds_toArray, List.set_cons_succ, List.set_cons_zero]
        refine till2_pure (i := 12) (v := Z O pb) rfl rfl (by kernel_rfl) (fun _ _ _ h => h) (yields_of rfl (fun w' _ => by simp [go_sem])) ⟨HS.out, fun _ => HT.out⟩ ?_
        try simp only [List.setIfInBounds_toArray, List.set_cons_succ, List.set_cons_zero]
        refine till2_pure (i := 13) (v := Z O (xd * pb)) rfl rfl (by kernel_rfl) (fun _ _ _ h => h) (yields_of rfl (fun w' _ => by simp [go_sem, HW3.out])) ⟨HS.out, fun _ => HT.out⟩ ?_
        try simp only [List.setIfInBounds_toArray, List.set_cons_succ, List.set_cons_zero]
        refine till2_pure (i := 14) (v := Z O (xd * pb / 1000)) rfl rfl (by kernel_rfl) (fun _ _ _ h => h) (yields_of rfl (fun w' _ => by simp [go_sem, HD1.out, HW4.out])) ⟨HS.out, fun _ => HT.out⟩ ?_
        try simp only [List.setIfInBounds_toArray, List.set_cons_succ, List.set_cons_zero]
        refine till2_pure (i := 15) (v := Z O (soa + xd * pb / 1000)) rfl rfl (by kernel_rfl) (fun _ _ _ h => h) (yields_of rfl (fun w' _ => by simp [go_sem, HW5.out])) ⟨HS.out, fun _ => HT.out⟩ ?_
        try simp only [List.setIfInBounds_toArray, List.set_cons_succ, List.set_cons_zero]
        refine till2_pure (i := 16) (v := .pointer (some ⟨gr, 2, none⟩)) rfl rfl (by kernel_rfl) (fun _ _ _ h => h) (yields_of rfl (fun w' _ => by simp [go_sem])) ⟨HS.out, fun _ => HT.out⟩ ?_
        try simp only [List.setIfInBounds_toArray, List.set_cons_succ, List.set_cons_zero]
        refine till2_only (j := 17) (by kernel_rfl) rfl ?_
        clear HT HS
        have hc9 : v3.cell? ⟨gr, 2, none⟩ = some (Z O bro) := HL11.out.at 0 2 (v := Z O bro) rfl rfl
        have hf9 := HL11.out.frozen 0 rfl 2
        go_wp2_with fail
        clear hc9 hf9
        have HL12 := Zh (show Locs w (v3.setCell ⟨gr, 2, none⟩ (Z O (bro + xd * pa / 1000))) [(gr, 42, [Zl (some ⟨g, 0, none⟩) n cap, Z O vap, Z O (bro + xd * pa / 1000), Z O dus, Z O sdr, Z O swa, Z O soa, Z O pdr, Z O pwa]), (gd, 55, [Z O 3, Z O dy, Zs code, Zs other, Z O al, Z O ah, Z O bl, Z O bh]), (ge, 42, [Zl none 0 0, Z O 0, Z O 0, Z O 0, Z O 0, Z O 0, Z O 0, Z O 0, Z O 0]), (g, 46, flat pileCells l ++ spare), (gx, 46, [Zs xc, Z O xd, Z O xw])] [] from HL11.out.setLoc1 0 [Zl (some ⟨g, 0, none⟩) n cap, Z O vap] [Z O dus, Z O sdr, Z O swa, Z O soa, Z O pdr, Z O pwa] (Z O bro) (Z O (bro + xd * pa / 1000)) 2 rfl rfl)
        clear HL11
        generalize (v3.setCell ⟨gr, 2, none⟩ (Z O (bro + xd * pa / 1000))) = v4 at HL12 ⊢
        try change Till2 _ _ _ _ _ ∧ wpAny2 _ _ _ _ _ _ _ _ _ _ _
        have HS := Zh (show (fun w' => Blk w' gx 46 #[Zs xc, Z O xd, Z O xw]) v4 from HL12.out.blk 4 rfl)
        refine ⟨⟨HS.out, fun h => by simp at h⟩, ?_⟩
        try simp only [List.setIfInBounds_toArray, List.set_cons_succ, List.set_cons_zero]
        refine till2_pure (i := 18) (v := .pointer (some ⟨gr, 6, none⟩)) rfl rfl (by kernel_rfl) (fun _ _ _ h => h) (yields_of rfl (fun w' _ => by simp [go_sem])) ⟨HS.out, fun h => by simp at h⟩ ?_
        try simp only [List.setIfInBounds_toArray, List.set_cons_succ, List.set_cons_zero]
        refine till2_only (j := 19) (by kernel_rfl) rfl ?_
        clear HS
        have hc9 : v4.cell? ⟨gr, 6, none⟩ = some (Z O soa) := HL12.out.at 0 6 (v := Z O soa) rfl rfl
        have hf9 := HL12.out.frozen 0 rfl 6
        go_wp2_with fail
        clear hc9 hf9
        have HL13 := Zh (show Locs w (v4.setCell ⟨gr, 6, none⟩ (Z O (soa + xd * pb / 1000))) [(gr, 42, [Zl (some ⟨g, 0, none⟩) n cap, Z O vap, Z O (bro + xd * pa / 1000), Z O dus, Z O sdr, Z O swa, Z O (soa + xd * pb / 1000), Z O pdr, Z O pwa]), (gd, 55, [Z O 3, Z O dy, Zs code, Zs other, Z O al, Z O ah, Z O bl, Z O bh]), (ge, 42, [Zl none 0 0, Z O 0, Z O 0, Z O 0, Z O 0, Z O 0, Z O 0, Z O 0, Z O 0]), (g, 46, flat pileCells l ++ spare), (gx, 46, [Zs xc, Z O xd, Z O xw])] [] from HL12.out.setLoc1 0 [Zl (some ⟨g, 0, none⟩) n cap, Z O vap, Z O (bro + xd * pa / 1000), Z O dus, Z O sdr, Z O swa] [Z O pdr, Z O pwa] (Z O soa) (Z O (soa + xd * pb / 1000)) 6 rfl rfl)
        clear HL12
        generalize (v4.setCell ⟨gr, 6, none⟩ (Z O (soa + xd * pb / 1000))) = v5 at HL13 ⊢
        try change Till2 _ _ _ _ _ ∧ wpAny2 _ _ _ _ _ _ _ _ _ _ _
        have HS := Zh (show (fun w' => Blk w' gx 46 #[Zs xc, Z O xd, Z O xw]) v5 from HL13.out.blk 4 rfl)
        refine ⟨⟨HS.out, fun h => by simp at h⟩, ?_⟩
        try simp only [List.setIfInBounds_toArray, List.set_cons_succ, List.set_cons_zero]
        refine till2_done (by kernel_rfl) ?_
        clear HS
        have s0 := (show v5.cell? ⟨gx, 1, none⟩ = some (Z O xd) from HL13.out.at 4 1 (v := Z O xd) rfl rfl)
        have hc9 : v5.cell? ⟨gx, 2, none⟩ = some (Z O xw) := HL13.out.at 4 2 (v := Z O xw) rfl rfl
        have hf9 := HL13.out.frozen 4 rfl 2
        go_upto_region 18 with fail
        clear hc9 hf9 s0
        have HL14 := Zh (show Locs w (v5.setCell ⟨gx, 2, none⟩ (Z O (xw + xd * pb / 1000))) [(gr, 42, [Zl (some ⟨g, 0, none⟩) n cap, Z O vap, Z O (bro + xd * pa / 1000), Z O dus, Z O sdr, Z O swa, Z O (soa + xd * pb / 1000), Z O pdr, Z O pwa]), (gd, 55, [Z O 3, Z O dy, Zs code, Zs other, Z O al, Z O ah, Z O bl, Z O bh]), (ge, 42, [Zl none 0 0, Z O 0, Z O 0, Z O 0, Z O 0, Z O 0, Z O 0, Z O 0, Z O 0]), (g, 46, flat pileCells l ++ spare), (gx, 46, [Zs xc, Z O xd, Z O (xw + xd * pb / 1000)])] [] from HL13.out.setLoc1 4 [Zs xc, Z O xd] [] (Z O xw) (Z O (xw + xd * pb / 1000)) 2 rfl rfl)
        clear HL13
        generalize (v5.setCell ⟨gx, 2, none⟩ (Z O (xw + xd * pb / 1000))) = v6 at HL14 ⊢
        try simp only [Act.put]
        have s0 := (show v6.cell? ⟨gd, 0, none⟩ = some (Z O 3) from HL14.out.at 1 0 (v := Z O 3) rfl rfl)
        have hc9 : v6.cell? ⟨gx, 1, none⟩ = some (Z O xd) := HL14.out.at 4 1 (v := Z O xd) rfl rfl
        have hf9 := HL14.out.frozen 4 rfl 1
        go_upto_region 38 with fail
        clear hc9 hf9 s0
        have HL15 := Zh (show Locs w (v6.setCell ⟨gx, 1, none⟩ (Z O (xd - xd * pa / 1000))) [(gr, 42, [Zl (some ⟨g, 0, none⟩) n cap, Z O vap, Z O (bro + xd * pa / 1000), Z O dus, Z O sdr, Z O swa, Z O (soa + xd * pb / 1000), Z O pdr, Z O pwa]), (gd, 55, [Z O 3, Z O dy, Zs code, Zs other, Z O al, Z O ah, Z O bl, Z O bh]), (ge, 42, [Zl none 0 0, Z O 0, Z O 0, Z O 0, Z O 0, Z O 0, Z O 0, Z O 0, Z O 0]), (g, 46, flat pileCells l ++ spare), (gx, 46, [Zs xc, Z O (xd - xd * pa / 1000), Z O (xw + xd * pb / 1000)])] [] from HL14.out.setLoc1 4 [Zs xc] [Z O (xw + xd * pb / 1000)] (Z O xd) (Z O (xd - xd * pa / 1000)) 1 rfl rfl)
        clear HL14
        generalize (v6.setCell ⟨gx, 1, none⟩ (Z O (xd - xd * pa / 1000))) = v7 at HL15 ⊢
        try simp only [Act.put]
        have s0 := (show v7.cell? ⟨gx, 0, none⟩ = some (Zs xc) from HL15.out.at 4 0 (v := Zs xc) rfl rfl)
        have s1 := (show v7.cell? ⟨gx, 1, none⟩ = some (Z O (xd - xd * pa / 1000)) from HL15.out.at 4 1 (v := Z O (xd - xd * pa / 1000)) rfl rfl)
        have s2 := (show v7.cell? ⟨gx, 2, none⟩ = some (Z O (xw + xd * pb / 1000)) from HL15.out.at 4 2 (v := Z O (xw + xd * pb / 1000)) rfl rfl)
        have s3 := (show v7.cell? ⟨gd, 0, none⟩ = some (Z O 3) from HL15.out.at 1 0 (v := Z O 3) rfl rfl)
        have s4 := (show v7.cell? ⟨gr, 0, none⟩ = some (Zl (some ⟨g, 0, none⟩) n cap) from HL15.out.at 0 0 (v := Zl (some ⟨g, 0, none⟩) n cap) rfl rfl)
        have s5 := (show v7.cell? ⟨gr, 1, none⟩ = some (Z O vap) from HL15.out.at 0 1 (v := Z O vap) rfl rfl)
        have s6 := (show v7.cell? ⟨gr, 2, none⟩ = some (Z O (bro + xd * pa / 1000)) from HL15.out.at 0 2 (v := Z O (bro + xd * pa / 1000)) rfl rfl)
        have s7 := (show v7.cell? ⟨gr, 3, none⟩ = some (Z O dus) from HL15.out.at 0 3 (v := Z O dus) rfl rfl)
        have s8 := (show v7.cell? ⟨gr, 4, none⟩ = some (Z O sdr) from HL15.out.at 0 4 (v := Z O sdr) rfl rfl)
        have s9 := (show v7.cell? ⟨gr, 5, none⟩ = some (Z O swa) from HL15.out.at 0 5 (v := Z O swa) rfl rfl)
        have s10 := (show v7.cell? ⟨gr, 6, none⟩ = some (Z O (soa + xd * pb / 1000)) from HL15.out.at 0 6 (v := Z O (soa + xd * pb / 1000)) rfl rfl)
        have s11 := (show v7.cell? ⟨gr, 7, none⟩ = some (Z O pdr) from HL15.out.at 0 7 (v := Z O pdr) rfl rfl)
        have s12 := (show v7.cell? ⟨gr, 8, none⟩ = some (Z O pwa) from HL15.out.at 0 8 (v := Z O pwa) rfl rfl)
        have HLr := Zh (show Locs w (v7.setCells g (k * 3) [Zs xc, Z O (xd - xd * pa / 1000), Z O (xw + xd * pb / 1000)]) [(gr, 42, [Zl (some ⟨g, 0, none⟩) n cap, Z O vap, Z O (bro + xd * pa / 1000), Z O dus, Z O sdr, Z O swa, Z O (soa + xd * pb / 1000), Z O pdr, Z O pwa]), (gd, 55, [Z O 3, Z O dy, Zs code, Zs other, Z O al, Z O ah, Z O bl, Z O bh]), (ge, 42, [Zl none 0 0, Z O 0, Z O 0, Z O 0, Z O 0, Z O 0, Z O 0, Z O 0, Z O 0]), (g, 46, flat pileCells (l.set k ⟨xc, xd - xd * pa / 1000, xw + xd * pb / 1000⟩) ++ spare), (gx, 46, [Zs xc, Z O (xd - xd * pa / 1000), Z O (xw + xd * pb / 1000)])] [] from HL15.out.setRow 3 rfl HKL.out ⟨xc, xd - xd * pa / 1000, xw + xd * pb / 1000⟩)
        have HTH := Zh (show v7.there g (k * 3) 3 from HL15.out.there 3 rfl (by have h1 := HKL.out; rw [List.length_append, flat_length pile_three]; omega))
        go_wp2_with (first
          | ((with_reducible refine at_store 46 (.tmp 246) (.tmp 245) ?_); go_must (refine wpList_store_mid rfl 46 (.tmp 246) (.tmp 245) rfl g (k * 3) #[Zs xc, Z O (xd - xd * pa / 1000), Z O (xw + xd * pb / 1000)] rfl rfl HTH.out size_pile (by simp [Value.oneCell']) ?_); have HLs := HLr; clear s0 s1 s2 s3 s4 s5 s6 s7 s8 s9 s10 s11 s12; have t0 := HLs.out.at 0 0 (v := Zl (some ⟨g, 0, none⟩) n cap) rfl rfl; have t1 := HLs.out.at 0 1 (v := Z O vap) rfl rfl; have t2 := HLs.out.at 0 2 (v := Z O (bro + xd * pa / 1000)) rfl rfl; have t3 := HLs.out.at 0 3 (v := Z O dus) rfl rfl; have t4 := HLs.out.at 0 4 (v := Z O sdr) rfl rfl; have t5 := HLs.out.at 0 5 (v := Z O swa) rfl rfl; have t6 := HLs.out.at 0 6 (v := Z O (soa + xd * pb / 1000)) rfl rfl; have t7 := HLs.out.at 0 7 (v := Z O pdr) rfl rfl; have t8 := HLs.out.at 0 8 (v := Z O pwa) rfl rfl; have td := HLs.out.at 1 0 (v := Z O 3) rfl rfl)
          | ((with_reducible refine at_store 42 (.tmp 8) (.tmp 283) ?_); go_must (refine wpList_store_mid rfl 42 (.tmp 8) (.tmp 283) rfl ge 0 #[Zl (some ⟨g, 0, none⟩) n cap, Z O vap, Z O (bro + xd * pa / 1000), Z O dus, Z O sdr, Z O swa, Z O (soa + xd * pb / 1000), Z O pdr, Z O pwa] rfl rfl (HLr.out.there 2 (o := 0) (n := 9) rfl (Nat.le_of_ble_eq_true rfl)) size_real (by simp [Value.oneCell']) ?_)))
        clear t0 t1 t2 t3 t4 t5 t6 t7 t8 td
        have HLf := Zh (show Locs w ((v7.setCells g (k * 3) [Zs xc, Z O (xd - xd * pa / 1000), Z O (xw + xd * pb / 1000)]).setCells ge 0 [Zl (some ⟨g, 0, none⟩) n cap, Z O vap, Z O (bro + xd * pa / 1000), Z O dus, Z O sdr, Z O swa, Z O (soa + xd * pb / 1000), Z O pdr, Z O pwa]) [(gr, 42, [Zl (some ⟨g, 0, none⟩) n cap, Z O vap, Z O (bro + xd * pa / 1000), Z O dus, Z O sdr, Z O swa, Z O (soa + xd * pb / 1000), Z O pdr, Z O pwa]), (gd, 55, [Z O 3, Z O dy, Zs code, Zs other, Z O al, Z O ah, Z O bl, Z O bh]), (ge, 42, [Zl (some ⟨g, 0, none⟩) n cap, Z O vap, Z O (bro + xd * pa / 1000), Z O dus, Z O sdr, Z O swa, Z O (soa + xd * pb / 1000), Z O pdr, Z O pwa]), (g, 46, flat pileCells (l.set k ⟨xc, xd - xd * pa / 1000, xw + xd * pb / 1000⟩) ++ spare), (gx, 46, [Zs xc, Z O (xd - xd * pa / 1000), Z O (xw + xd * pb / 1000)])] [] from HLr.out.setLoc 2 [] [Zl none 0 0, Z O 0, Z O 0, Z O 0, Z O 0, Z O 0, Z O 0, Z O 0, Z O 0] [] [Zl (some ⟨g, 0, none⟩) n cap, Z O vap, Z O (bro + xd * pa / 1000), Z O dus, Z O sdr, Z O swa, Z O (soa + xd * pb / 1000), Z O pdr, Z O pwa] rfl rfl)
        have r0 := HLf.out.at 2 0 (v := Zl (some ⟨g, 0, none⟩) n cap) rfl rfl
        have r1 := HLf.out.at 2 1 (v := Z O vap) rfl rfl
        have r2 := HLf.out.at 2 2 (v := Z O (bro + xd * pa / 1000)) rfl rfl
        have r3 := HLf.out.at 2 3 (v := Z O dus) rfl rfl
        have r4 := HLf.out.at 2 4 (v := Z O sdr) rfl rfl
        have r5 := HLf.out.at 2 5 (v := Z O swa) rfl rfl
        have r6 := HLf.out.at 2 6 (v := Z O (soa + xd * pb / 1000)) rfl rfl
        have r7 := HLf.out.at 2 7 (v := Z O pdr) rfl rfl
        have r8 := HLf.out.at 2 8 (v := Z O pwa) rfl rfl
        refine bodyPost_ret (v := .tuple #[.agg #[Zl (some ⟨g, 0, none⟩) n cap, Z O vap, Z O (bro + xd * pa / 1000), Z O dus, Z O sdr, Z O swa, Z O (soa + xd * pb / 1000), Z O pdr, Z O pwa], .bool true]) (by simp [results, Try.results44, go_sem, r0, r1, r2, r3, r4, r5, r6, r7, r8]) rfl ?_
        rw [HEA.out]
        have hll : (l.set k ⟨xc, xd - xd * pa / 1000, xw + xd * pb / 1000⟩).length = n := by rw [List.length_set, ← HN.out]
        have HRg := rowed_of (L := [(gr, 42, [Zl (some ⟨g, 0, none⟩) n cap, Z O vap, Z O (bro + xd * pa / 1000), Z O dus, Z O sdr, Z O swa, Z O (soa + xd * pb / 1000), Z O pdr, Z O pwa]), (gd, 55, [Z O 3, Z O dy, Zs code, Zs other, Z O al, Z O ah, Z O bl, Z O bh]), (ge, 42, [Zl (some ⟨g, 0, none⟩) n cap, Z O vap, Z O (bro + xd * pa / 1000), Z O dus, Z O sdr, Z O swa, Z O (soa + xd * pb / 1000), Z O pdr, Z O pwa])]) (HLf.out.fewer (List.sublist_append_left ([(gr, 42, [Zl (some ⟨g, 0, none⟩) n cap, Z O vap, Z O (bro + xd * pa / 1000), Z O dus, Z O sdr, Z O swa, Z O (soa + xd * pb / 1000), Z O pdr, Z O pwa]), (gd, 55, [Z O 3, Z O dy, Zs code, Zs other, Z O al, Z O ah, Z O bl, Z O bh]), (ge, 42, [Zl (some ⟨g, 0, none⟩) n cap, Z O vap, Z O (bro + xd * pa / 1000), Z O dus, Z O sdr, Z O swa, Z O (soa + xd * pb / 1000), Z O pdr, Z O pwa]), (g, 46, flat pileCells (l.set k ⟨xc, xd - xd * pa / 1000, xw + xd * pb / 1000⟩) ++ spare)] : List (Nat × TypeId × List Value)) _) (List.Sublist.refl _)) hll HCAP.out
        exact ⟨_, rfl, HLf.out.low, held_rowP HRg hll (by omega), .inr ⟨g, 0, cap, by rw [hll]⟩⟩
      by_cases k4 : kind = 4
      · subst k4
        by_cases hgt : xd < pa
        · skip
          have HEA := Zh (show Yd.Real.act ⟨l, vap, bro, dus, sdr, swa, soa, pdr, pwa⟩ ⟨4, dy, code, other, ⟨al, ah⟩, ⟨bl, bh⟩⟩ pa pb = none from by
            rw [act_hit (by simp) HACT.out]; try rw [HFK.out]
            exact if_pos ⟨rfl, hgt⟩)
          have e1 : decide (xd < pa) = true := by simpa using hgt
          have y0 := (show v2.cell? ⟨gd, 0, none⟩ = some (Z O 4) from HL10.out.at 1 0 (v := Z O 4) rfl rfl)
          have y1 := (show v2.cell? ⟨gx, 1, none⟩ = some (Z O xd) from HL10.out.at 4 1 (v := Z O xd) rfl rfl)
          have s0 := (show v2.cell? ⟨gr, 0, none⟩ = some (Zl (some ⟨g, 0, none⟩) n cap) from HL10.out.at 0 0 (v := Zl (some ⟨g, 0, none⟩) n cap) rfl rfl)
          have s1 := (show v2.cell? ⟨gr, 1, none⟩ = some (Z O vap) from HL10.out.at 0 1 (v := Z O vap) rfl rfl)
          have s2 := (show v2.cell? ⟨gr, 2, none⟩ = some (Z O bro) from HL10.out.at 0 2 (v := Z O bro) rfl rfl)
          have s3 := (show v2.cell? ⟨gr, 3, none⟩ = some (Z O dus) from HL10.out.at 0 3 (v := Z O dus) rfl rfl)
          have s4 := (show v2.cell? ⟨gr, 4, none⟩ = some (Z O sdr) from HL10.out.at 0 4 (v := Z O sdr) rfl rfl)
          have s5 := (show v2.cell? ⟨gr, 5, none⟩ = some (Z O swa) from HL10.out.at 0 5 (v := Z O swa) rfl rfl)
          have s6 := (show v2.cell? ⟨gr, 6, none⟩ = some (Z O soa) from HL10.out.at 0 6 (v := Z O soa) rfl rfl)
          have s7 := (show v2.cell? ⟨gr, 7, none⟩ = some (Z O pdr) from HL10.out.at 0 7 (v := Z O pdr) rfl rfl)
          have s8 := (show v2.cell? ⟨gr, 8, none⟩ = some (Z O pwa) from HL10.out.at 0 8 (v := Z O pwa) rfl rfl)
          go_wp2_with ((with_reducible refine at_store 42 (.tmp 8) (.tmp 132) ?_); go_must (refine wpList_store_mid rfl 42 (.tmp 8) (.tmp 132) rfl ge 0 #[Zl (some ⟨g, 0, none⟩) n cap, Z O vap, Z O bro, Z O dus, Z O sdr, Z O swa, Z O soa, Z O pdr, Z O pwa] rfl rfl (HL10.out.there 2 (o := 0) (n := 9) rfl (Nat.le_of_ble_eq_true rfl)) size_real (by simp [Value.oneCell']) ?_))
          clear s0 s1 s2 s3 s4 s5 s6 s7 s8
          have HLf := Zh (show Locs w (v2.setCells ge 0 [Zl (some ⟨g, 0, none⟩) n cap, Z O vap, Z O bro, Z O dus, Z O sdr, Z O swa, Z O soa, Z O pdr, Z O pwa]) [(gr, 42, [Zl (some ⟨g, 0, none⟩) n cap, Z O vap, Z O bro, Z O dus, Z O sdr, Z O swa, Z O soa, Z O pdr, Z O pwa]), (gd, 55, [Z O 4, Z O dy, Zs code, Zs other, Z O al, Z O ah, Z O bl, Z O bh]), (ge, 42, [Zl (some ⟨g, 0, none⟩) n cap, Z O vap, Z O bro, Z O dus, Z O sdr, Z O swa, Z O soa, Z O pdr, Z O pwa]), (g, 46, flat pileCells l ++ spare), (gx, 46, [Zs xc, Z O xd, Z O xw])] [] from HL10.out.setLoc 2 [] [Zl none 0 0, Z O 0, Z O 0, Z O 0, Z O 0, Z O 0, Z O 0, Z O 0, Z O 0] [] [Zl (some ⟨g, 0, none⟩) n cap, Z O vap, Z O bro, Z O dus, Z O sdr, Z O swa, Z O soa, Z O pdr, Z O pwa] rfl rfl)
          have r0 := HLf.out.at 2 0 (v := Zl (some ⟨g, 0, none⟩) n cap) rfl rfl
          have r1 := HLf.out.at 2 1 (v := Z O vap) rfl rfl
          have r2 := HLf.out.at 2 2 (v := Z O bro) rfl rfl
          have r3 := HLf.out.at 2 3 (v := Z O dus) rfl rfl
          have r4 := HLf.out.at 2 4 (v := Z O sdr) rfl rfl
          have r5 := HLf.out.at 2 5 (v := Z O swa) rfl rfl
          have r6 := HLf.out.at 2 6 (v := Z O soa) rfl rfl
          have r7 := HLf.out.at 2 7 (v := Z O pdr) rfl rfl
          have r8 := HLf.out.at 2 8 (v := Z O pwa) rfl rfl
          refine bodyPost_ret (v := .tuple #[.agg #[Zl (some ⟨g, 0, none⟩) n cap, Z O vap, Z O bro, Z O dus, Z O sdr, Z O swa, Z O soa, Z O pdr, Z O pwa], .bool false]) (by simp [results, Try.results44, go_sem, r0, r1, r2, r3, r4, r5, r6, r7, r8]) rfl ?_
          rw [HEA.out]
          exact ⟨_, _, _, _, _, _, _, _, _, _, _, rfl, HLf.out.low⟩
        · skip
          have hle : pa ≤ xd := by omega
          clear hgt
          have HEA := Zh (show Yd.Real.act ⟨l, vap, bro, dus, sdr, swa, soa, pdr, pwa⟩ ⟨4, dy, code, other, ⟨al, ah⟩, ⟨bl, bh⟩⟩ pa pb = (some ⟨l.set k ⟨xc, xd - pa, xw⟩, vap, bro, dus + pa, sdr, swa, soa, pdr, pwa⟩) from by
            rw [act_hit (by simp) HACT.out]; try rw [HFK.out]
            rw [if_neg (fun hh => by have := hh.2; simp only at this; omega)]
            rfl)
          have e1 : decide (xd < pa) = false := by simp; omega
          have e2 : ¬ xd < pa := by omega
          have s0 := (show v2.cell? ⟨gd, 0, none⟩ = some (Z O 4) from HL10.out.at 1 0 (v := Z O 4) rfl rfl)
          have s1 := (show v2.cell? ⟨gx, 1, none⟩ = some (Z O xd) from HL10.out.at 4 1 (v := Z O xd) rfl rfl)
          have hc9 : v2.cell? ⟨gr, 3, none⟩ = some (Z O dus) := HL10.out.at 0 3 (v := Z O dus) rfl rfl
          have hf9 := HL10.out.frozen 0 rfl 3
          go_upto_region 23 with fail
          clear hc9 hf9 s0 s1
          have HL11 := Zh (show Locs w (v2.setCell ⟨gr, 3, none⟩ (Z O (dus + pa))) [(gr, 42, [Zl (some ⟨g, 0, none⟩) n cap, Z O vap, Z O bro, Z O (dus + pa), Z O sdr, Z O swa, Z O soa, Z O pdr, Z O pwa]), (gd, 55, [Z O 4, Z O dy, Zs code, Zs other, Z O al, Z O ah, Z O bl, Z O bh]), (ge, 42, [Zl none 0 0, Z O 0, Z O 0, Z O 0, Z O 0, Z O 0, Z O 0, Z O 0, Z O 0]), (g, 46, flat pileCells l ++ spare), (gx, 46, [Zs xc, Z O xd, Z O xw])] [] from HL10.out.setLoc1 0 [Zl (some ⟨g, 0, none⟩) n cap, Z O vap, Z O bro] [Z O sdr, Z O swa, Z O soa, Z O pdr, Z O pwa] (Z O dus) (Z O (dus + pa)) 3 rfl rfl)
          clear HL10
          generalize (v2.setCell ⟨gr, 3, none⟩ (Z O (dus + pa))) = v3 at HL11 ⊢
          try simp only [Act.put]
          have hc9 : v3.cell? ⟨gx, 1, none⟩ = some (Z O xd) := HL11.out.at 4 1 (v := Z O xd) rfl rfl
          have hf9 := HL11.out.frozen 4 rfl 1
          go_upto_region 38 with fail
          clear hc9 hf9 
          have HL12 := Zh (show Locs w (v3.setCell ⟨gx, 1, none⟩ (Z O (xd - pa))) [(gr, 42, [Zl (some ⟨g, 0, none⟩) n cap, Z O vap, Z O bro, Z O (dus + pa), Z O sdr, Z O swa, Z O soa, Z O pdr, Z O pwa]), (gd, 55, [Z O 4, Z O dy, Zs code, Zs other, Z O al, Z O ah, Z O bl, Z O bh]), (ge, 42, [Zl none 0 0, Z O 0, Z O 0, Z O 0, Z O 0, Z O 0, Z O 0, Z O 0, Z O 0]), (g, 46, flat pileCells l ++ spare), (gx, 46, [Zs xc, Z O (xd - pa), Z O xw])] [] from HL11.out.setLoc1 4 [Zs xc] [Z O xw] (Z O xd) (Z O (xd - pa)) 1 rfl rfl)
          clear HL11
          generalize (v3.setCell ⟨gx, 1, none⟩ (Z O (xd - pa))) = v4 at HL12 ⊢
          try simp only [Act.put]
          have s0 := (show v4.cell? ⟨gx, 0, none⟩ = some (Zs xc) from HL12.out.at 4 0 (v := Zs xc) rfl rfl)
          have s1 := (show v4.cell? ⟨gx, 1, none⟩ = some (Z O (xd - pa)) from HL12.out.at 4 1 (v := Z O (xd - pa)) rfl rfl)
          have s2 := (show v4.cell? ⟨gx, 2, none⟩ = some (Z O xw) from HL12.out.at 4 2 (v := Z O xw) rfl rfl)
          have s3 := (show v4.cell? ⟨gd, 0, none⟩ = some (Z O 4) from HL12.out.at 1 0 (v := Z O 4) rfl rfl)
          have s4 := (show v4.cell? ⟨gr, 0, none⟩ = some (Zl (some ⟨g, 0, none⟩) n cap) from HL12.out.at 0 0 (v := Zl (some ⟨g, 0, none⟩) n cap) rfl rfl)
          have s5 := (show v4.cell? ⟨gr, 1, none⟩ = some (Z O vap) from HL12.out.at 0 1 (v := Z O vap) rfl rfl)
          have s6 := (show v4.cell? ⟨gr, 2, none⟩ = some (Z O bro) from HL12.out.at 0 2 (v := Z O bro) rfl rfl)
          have s7 := (show v4.cell? ⟨gr, 3, none⟩ = some (Z O (dus + pa)) from HL12.out.at 0 3 (v := Z O (dus + pa)) rfl rfl)
          have s8 := (show v4.cell? ⟨gr, 4, none⟩ = some (Z O sdr) from HL12.out.at 0 4 (v := Z O sdr) rfl rfl)
          have s9 := (show v4.cell? ⟨gr, 5, none⟩ = some (Z O swa) from HL12.out.at 0 5 (v := Z O swa) rfl rfl)
          have s10 := (show v4.cell? ⟨gr, 6, none⟩ = some (Z O soa) from HL12.out.at 0 6 (v := Z O soa) rfl rfl)
          have s11 := (show v4.cell? ⟨gr, 7, none⟩ = some (Z O pdr) from HL12.out.at 0 7 (v := Z O pdr) rfl rfl)
          have s12 := (show v4.cell? ⟨gr, 8, none⟩ = some (Z O pwa) from HL12.out.at 0 8 (v := Z O pwa) rfl rfl)
          have HLr := Zh (show Locs w (v4.setCells g (k * 3) [Zs xc, Z O (xd - pa), Z O xw]) [(gr, 42, [Zl (some ⟨g, 0, none⟩) n cap, Z O vap, Z O bro, Z O (dus + pa), Z O sdr, Z O swa, Z O soa, Z O pdr, Z O pwa]), (gd, 55, [Z O 4, Z O dy, Zs code, Zs other, Z O al, Z O ah, Z O bl, Z O bh]), (ge, 42, [Zl none 0 0, Z O 0, Z O 0, Z O 0, Z O 0, Z O 0, Z O 0, Z O 0, Z O 0]), (g, 46, flat pileCells (l.set k ⟨xc, xd - pa, xw⟩) ++ spare), (gx, 46, [Zs xc, Z O (xd - pa), Z O xw])] [] from HL12.out.setRow 3 rfl HKL.out ⟨xc, xd - pa, xw⟩)
          have HTH := Zh (show v4.there g (k * 3) 3 from HL12.out.there 3 rfl (by have h1 := HKL.out; rw [List.length_append, flat_length pile_three]; omega))
          go_wp2_with (first
            | ((with_reducible refine at_store 46 (.tmp 246) (.tmp 245) ?_); go_must (refine wpList_store_mid rfl 46 (.tmp 246) (.tmp 245) rfl g (k * 3) #[Zs xc, Z O (xd - pa), Z O xw] rfl rfl HTH.out size_pile (by simp [Value.oneCell']) ?_); have HLs := HLr; clear s0 s1 s2 s3 s4 s5 s6 s7 s8 s9 s10 s11 s12; have t0 := HLs.out.at 0 0 (v := Zl (some ⟨g, 0, none⟩) n cap) rfl rfl; have t1 := HLs.out.at 0 1 (v := Z O vap) rfl rfl; have t2 := HLs.out.at 0 2 (v := Z O bro) rfl rfl; have t3 := HLs.out.at 0 3 (v := Z O (dus + pa)) rfl rfl; have t4 := HLs.out.at 0 4 (v := Z O sdr) rfl rfl; have t5 := HLs.out.at 0 5 (v := Z O swa) rfl rfl; have t6 := HLs.out.at 0 6 (v := Z O soa) rfl rfl; have t7 := HLs.out.at 0 7 (v := Z O pdr) rfl rfl; have t8 := HLs.out.at 0 8 (v := Z O pwa) rfl rfl; have td := HLs.out.at 1 0 (v := Z O 4) rfl rfl)
            | ((with_reducible refine at_store 42 (.tmp 8) (.tmp 283) ?_); go_must (refine wpList_store_mid rfl 42 (.tmp 8) (.tmp 283) rfl ge 0 #[Zl (some ⟨g, 0, none⟩) n cap, Z O vap, Z O bro, Z O (dus + pa), Z O sdr, Z O swa, Z O soa, Z O pdr, Z O pwa] rfl rfl (HLr.out.there 2 (o := 0) (n := 9) rfl (Nat.le_of_ble_eq_true rfl)) size_real (by simp [Value.oneCell']) ?_)))
          clear t0 t1 t2 t3 t4 t5 t6 t7 t8 td
          have HLf := Zh (show Locs w ((v4.setCells g (k * 3) [Zs xc, Z O (xd - pa), Z O xw]).setCells ge 0 [Zl (some ⟨g, 0, none⟩) n cap, Z O vap, Z O bro, Z O (dus + pa), Z O sdr, Z O swa, Z O soa, Z O pdr, Z O pwa]) [(gr, 42, [Zl (some ⟨g, 0, none⟩) n cap, Z O vap, Z O bro, Z O (dus + pa), Z O sdr, Z O swa, Z O soa, Z O pdr, Z O pwa]), (gd, 55, [Z O 4, Z O dy, Zs code, Zs other, Z O al, Z O ah, Z O bl, Z O bh]), (ge, 42, [Zl (some ⟨g, 0, none⟩) n cap, Z O vap, Z O bro, Z O (dus + pa), Z O sdr, Z O swa, Z O soa, Z O pdr, Z O pwa]), (g, 46, flat pileCells (l.set k ⟨xc, xd - pa, xw⟩) ++ spare), (gx, 46, [Zs xc, Z O (xd - pa), Z O xw])] [] from HLr.out.setLoc 2 [] [Zl none 0 0, Z O 0, Z O 0, Z O 0, Z O 0, Z O 0, Z O 0, Z O 0, Z O 0] [] [Zl (some ⟨g, 0, none⟩) n cap, Z O vap, Z O bro, Z O (dus + pa), Z O sdr, Z O swa, Z O soa, Z O pdr, Z O pwa] rfl rfl)
          have r0 := HLf.out.at 2 0 (v := Zl (some ⟨g, 0, none⟩) n cap) rfl rfl
          have r1 := HLf.out.at 2 1 (v := Z O vap) rfl rfl
          have r2 := HLf.out.at 2 2 (v := Z O bro) rfl rfl
          have r3 := HLf.out.at 2 3 (v := Z O (dus + pa)) rfl rfl
          have r4 := HLf.out.at 2 4 (v := Z O sdr) rfl rfl
          have r5 := HLf.out.at 2 5 (v := Z O swa) rfl rfl
          have r6 := HLf.out.at 2 6 (v := Z O soa) rfl rfl
          have r7 := HLf.out.at 2 7 (v := Z O pdr) rfl rfl
          have r8 := HLf.out.at 2 8 (v := Z O pwa) rfl rfl
          refine bodyPost_ret (v := .tuple #[.agg #[Zl (some ⟨g, 0, none⟩) n cap, Z O vap, Z O bro, Z O (dus + pa), Z O sdr, Z O swa, Z O soa, Z O pdr, Z O pwa], .bool true]) (by simp [results, Try.results44, go_sem, r0, r1, r2, r3, r4, r5, r6, r7, r8]) rfl ?_
          rw [HEA.out]
          have hll : (l.set k ⟨xc, xd - pa, xw⟩).length = n := by rw [List.length_set, ← HN.out]
          have HRg := rowed_of (L := [(gr, 42, [Zl (some ⟨g, 0, none⟩) n cap, Z O vap, Z O bro, Z O (dus + pa), Z O sdr, Z O swa, Z O soa, Z O pdr, Z O pwa]), (gd, 55, [Z O 4, Z O dy, Zs code, Zs other, Z O al, Z O ah, Z O bl, Z O bh]), (ge, 42, [Zl (some ⟨g, 0, none⟩) n cap, Z O vap, Z O bro, Z O (dus + pa), Z O sdr, Z O swa, Z O soa, Z O pdr, Z O pwa])]) (HLf.out.fewer (List.sublist_append_left ([(gr, 42, [Zl (some ⟨g, 0, none⟩) n cap, Z O vap, Z O bro, Z O (dus + pa), Z O sdr, Z O swa, Z O soa, Z O pdr, Z O pwa]), (gd, 55, [Z O 4, Z O dy, Zs code, Zs other, Z O al, Z O ah, Z O bl, Z O bh]), (ge, 42, [Zl (some ⟨g, 0, none⟩) n cap, Z O vap, Z O bro, Z O (dus + pa), Z O sdr, Z O swa, Z O soa, Z O pdr, Z O pwa]), (g, 46, flat pileCells (l.set k ⟨xc, xd - pa, xw⟩) ++ spare)] : List (Nat × TypeId × List Value)) _) (List.Sublist.refl _)) hll HCAP.out
          exact ⟨_, rfl, HLf.out.low, held_rowP HRg hll (by omega), .inr ⟨g, 0, cap, by rw [hll]⟩⟩
      by_cases k5 : kind = 5
      · subst k5
        have hk5 := ft (.inr (.inr rfl))
        have HEA := Zh (show Yd.Real.act ⟨l, vap, bro, dus, sdr, swa, soa, pdr, pwa⟩ ⟨5, dy, code, other, ⟨al, ah⟩, ⟨bl, bh⟩⟩ pa pb = (some ⟨(l ++ [(⟨other, xd * pa / 1000, xw * pa / 1000⟩ : Yd.Pile Code)]).set k ⟨xc, xd - xd * pa / 1000, xw - xw * pa / 1000⟩, vap, bro, dus, sdr, swa, soa, pdr, pwa⟩) from by
          rw [act_hit (by simp) HACT.out]; try rw [HFK.out]
          rfl)
        have m0 := mul_fit (x := xd) (y := pa) (n := 2000000000000000) (m := 1000) (by omega) (by omega)
        obtain ⟨m01, m02⟩ := m0
        have m1 := mul_fit (x := xw) (y := pa) (n := 2000000000000000) (m := 1000) (by omega) (by omega)
        obtain ⟨m11, m12⟩ := m1
        have q0 : 0 ≤ xd * pa / 1000 ∧ xd * pa / 1000 ≤ 2000000000000000 := by omega
        obtain ⟨q01, q02⟩ := q0
        have q1 : 0 ≤ xw * pa / 1000 ∧ xw * pa / 1000 ≤ 2000000000000000 := by omega
        obtain ⟨q11, q12⟩ := q1
        have y0 := (show v2.cell? ⟨gd, 0, none⟩ = some (Z O 5) from HL10.out.at 1 0 (v := Z O 5) rfl rfl)
        have y1 := (show v2.cell? ⟨gd, 3, none⟩ = some (Zs other) from HL10.out.at 1 3 (v := Zs other) rfl rfl)
        have y2 := (show v2.cell? ⟨gx, 1, none⟩ = some (Z O xd) from HL10.out.at 4 1 (v := Z O xd) rfl rfl)
        have y3 := (show v2.cell? ⟨gx, 2, none⟩ = some (Z O xw) from HL10.out.at 4 2 (v := Z O xw) rfl rfl)
        have HOy := Zh (show (#[Zs other, Z O (xd * pa / 1000), Z O (xw * pa / 1000)] : Array Value).all (·.oneCell') = true from by simp [Value.oneCell'])
        go_upto_region 26 with ((with_reducible refine at_store 46 (.tmp 14) (.tmp 157) ?_); go_must (refine wpList_store_mid rfl 46 (.tmp 14) (.tmp 157) rfl v2.heap.size 0 #[Zs other, Z O (xd * pa / 1000), Z O (xw * pa / 1000)] rfl rfl ((Blk.new v2 46 #[Zs ⟨#[]⟩, Z O 0, Z O 0]).there (o := 0) (n := 3) (Nat.le_of_ble_eq_true rfl)) size_pile (HOy.out) ?_))
        clear y0 y1 y2 y3 HOy
        have HL11 := Zh (show Locs w ((v2.alloc (.cells #[Zs ⟨#[]⟩, Z O 0, Z O 0] 46)).setCells v2.heap.size 0 [Zs other, Z O (xd * pa / 1000), Z O (xw * pa / 1000)]) [(gr, 42, [Zl (some ⟨g, 0, none⟩) n cap, Z O vap, Z O bro, Z O dus, Z O sdr, Z O swa, Z O soa, Z O pdr, Z O pwa]), (gd, 55, [Z O 5, Z O dy, Zs code, Zs other, Z O al, Z O ah, Z O bl, Z O bh]), (ge, 42, [Zl none 0 0, Z O 0, Z O 0, Z O 0, Z O 0, Z O 0, Z O 0, Z O 0, Z O 0]), (g, 46, flat pileCells l ++ spare), (gx, 46, [Zs xc, Z O xd, Z O xw]), (v2.heap.size, 46, [Zs other, Z O (xd * pa / 1000), Z O (xw * pa / 1000)])] [] from (HL10.out.alloc 46 [Zs ⟨#[]⟩, Z O 0, Z O 0] rfl).setLoc 5 [] [Zs ⟨#[]⟩, Z O 0, Z O 0] [] [Zs other, Z O (xd * pa / 1000), Z O (xw * pa / 1000)] rfl rfl)
        clear HL10
        generalize ((v2.alloc (.cells #[Zs ⟨#[]⟩, Z O 0, Z O 0] 46)).setCells v2.heap.size 0 [Zs other, Z O (xd * pa / 1000), Z O (xw * pa / 1000)]) = v3 at HL11 ⊢
        generalize v2.heap.size = gn at HL11 ⊢
        try simp only [Act.put]
        have HW0 := Zh (show IntKind.i64.wrap (xd - xd * pa / 1000) = xd - xd * pa / 1000 from by rw [IntKind.wrap_i64]; omega)
        have HW1 := Zh (show IntKind.i64.wrap (xw - xw * pa / 1000) = xw - xw * pa / 1000 from by rw [IntKind.wrap_i64]; omega)
        have hmix : Try.prog.follows .mixedOrders = true := by kernel_rfl
        refine region_till2 [11, 13] (fun w' => Blk w' gx 46 #[Zs xc, Z O xd, Z O xw]) (fun w' => Blk w' gn 46 #[Zs other, Z O (xd * pa / 1000), Z O (xw * pa / 1000)]) 14 [false, false, false, false, false, false, false, false, false, false, false, false, false, false] hmix rfl rfl ?_
        clear hmix
        have HL12 := Zh (HL11.out.drew)
        clear HL11
        generalize v3.drew = v4 at HL12 ⊢
        have HT := Zh (show (fun w' => Blk w' gx 46 #[Zs xc, Z O xd, Z O xw]) v4 from HL12.out.blk 4 rfl)
        have HS := Zh (show (fun w' => Blk w' gn 46 #[Zs other, Z O (xd * pa / 1000), Z O (xw * pa / 1000)]) v4 from HL12.out.blk 5 rfl)
        refine till2_pure (i := 0) (v := .pointer (some ⟨gx, 1, none⟩)) rfl rfl (by kernel_rfl) (fun _ _ _ h => h) (yields_of rfl (fun w' _ => by simp [go_sem])) ⟨HS.out, fun _ => HT.out⟩ ?_
        try simp only [List.setIfInBounds_toArray, List.set_cons_succ, List.set_cons_zero]
        refine till2_load (i := 1) (v := Z O xd) rfl rfl (by kernel_rfl) (fun _ _ _ h => h) (yields_of rfl (fun w' hw' => by have hcx : w'.cell? ⟨gx, 1, none⟩ = some (Z O xd) := Blk.at hw' 1 _ rfl; simp [go_sem, hcx])) ⟨HS.out, fun _ => HT.out⟩ ?_
        try simp only [List.setIfInBounds_toArray, List.set_cons_succ, List.set_cons_zero]
        refine till2_pure (i := 2) (v := .pointer (some ⟨gn, 1, none⟩)) rfl rfl (by kernel_rfl) (fun _ _ _ h => h) (yields_of rfl (fun w' _ => by simp [go_sem])) ⟨HS.out, fun _ => HT.out⟩ ?_
        try simp only [List.setIfInBounds_toArray, List.set_cons_succ, List.set_cons_zero]
        refine till2_keep (i := 3) (v := Z O (xd * pa / 1000)) rfl rfl (by kernel_rfl) (fun _ _ _ h => h) (yields_of rfl (fun w' hw' => by have hcx : w'.cell? ⟨gn, 1, none⟩ = some (Z O (xd * pa / 1000)) := Blk.at hw' 1 _ rfl; simp [go_sem, hcx])) ⟨HS.out, fun _ => HT.out⟩ ?_
        try simp only [List.setIfInBounds_toArray, List.set_cons_succ, List.set_cons_zero]
        refine till2_pure (i := 4) (v := Z O (xd - xd * pa / 1000)) rfl rfl (by kernel_rfl) (fun _ _ _ h => h) (yields_of rfl (fun w' _ => by simp [go_sem, HW0.out])) ⟨HS.out, fun _ => HT.out⟩ ?_
        try simp only [List.setIfInBounds_toArray, List.set_cons_succ, List.set_cons_zero]
        refine till2_pure (i := 5) (v := .pointer (some ⟨gx, 2, none⟩)) rfl rfl (by kernel_rfl) (fun _ _ _ h => h) (yields_of rfl (fun w' _ => by simp [go_sem])) ⟨HS.out, fun _ => HT.out⟩ ?_
        try simp only [List.setIfInBounds_toArray, List.set_cons_succ, List.set_cons_zero]
        refine till2_load (i := 6) (v := Z O xw) rfl rfl (by kernel_rfl) (fun _ _ _ h => h) (yields_of rfl (fun w' hw' => by have hcx : w'.cell? ⟨gx, 2, none⟩ = some (Z O xw) := Blk.at hw' 2 _ rfl; simp [go_sem, hcx])) ⟨HS.out, fun _ => HT.out⟩ ?_
        try simp only [List.setIfInBounds_toArray, List.set_cons_succ, List.set_cons_zero]
        refine till2_pure (i := 7) (v := .pointer (some ⟨gn, 2, none⟩)) rfl rfl (by kernel_rfl) (fun _ _ _ h => h) (yields_of rfl (fun w' _ => by simp [go_sem])) ⟨HS.out, fun _ => HT.out⟩ ?_
        try simp only [List.setIfInBounds_toArray, List.set_cons_succ, List.set_cons_zero]
        refine till2_keep (i := 8) (v := Z O (xw * pa / 1000)) rfl rfl (by kernel_rfl) (fun _ _ _ h => h) (yields_of rfl (fun w' hw' => by have hcx : w'.cell? ⟨gn, 2, none⟩ = some (Z O (xw * pa / 1000)) := Blk.at hw' 2 _ rfl; simp [go_sem, hcx])) ⟨HS.out, fun _ => HT.out⟩ ?_
        try simp only [List.setIfInBounds_toArray, List.set_cons_succ, List.set_cons_zero]
        refine till2_pure (i := 9) (v := Z O (xw - xw * pa / 1000)) rfl rfl (by kernel_rfl) (fun _ _ _ h => h) (yields_of rfl (fun w' _ => by simp [go_sem, HW1.out])) ⟨HS.out, fun _ => HT.out⟩ ?_
        try simp only [List.setIfInBounds_toArray, List.set_cons_succ, List.set_cons_zero]
        refine till2_pure (i := 10) (v := .pointer (some ⟨gx, 1, none⟩)) rfl rfl (by kernel_rfl) (fun _ _ _ h => h) (yields_of rfl (fun w' _ => by simp [go_sem])) ⟨HS.out, fun _ => HT.out⟩ ?_
        try simp only [List.setIfInBounds_toArray, List.set_cons_succ, List.set_cons_zero]
        refine till2_only (j := 11) (by kernel_rfl) rfl ?_
        clear HT HS
        have hc9 : v4.cell? ⟨gx, 1, none⟩ = some (Z O xd) := HL12.out.at 4 1 (v := Z O xd) rfl rfl
        have hf9 := HL12.out.frozen 4 rfl 1
        go_wp2_with fail
        clear hc9 hf9
        have HL13 := Zh (show Locs w (v4.setCell ⟨gx, 1, none⟩ (Z O (xd - xd * pa / 1000))) [(gr, 42, [Zl (some ⟨g, 0, none⟩) n cap, Z O vap, Z O bro, Z O dus, Z O sdr, Z O swa, Z O soa, Z O pdr, Z O pwa]), (gd, 55, [Z O 5, Z O dy, Zs code, Zs other, Z O al, Z O ah, Z O bl, Z O bh]), (ge, 42, [Zl none 0 0, Z O 0, Z O 0, Z O 0, Z O 0, Z O 0, Z O 0, Z O 0, Z O 0]), (g, 46, flat pileCells l ++ spare), (gx, 46, [Zs xc, Z O (xd - xd * pa / 1000), Z O xw]), (gn, 46, [Zs other, Z O (xd * pa / 1000), Z O (xw * pa / 1000)])] [] from HL12.out.setLoc1 4 [Zs xc] [Z O xw] (Z O xd) (Z O (xd - xd * pa / 1000)) 1 rfl rfl)
        clear HL12
        generalize (v4.setCell ⟨gx, 1, none⟩ (Z O (xd - xd * pa / 1000))) = v5 at HL13 ⊢
        try change Till2 _ _ _ _ _ ∧ wpAny2 _ _ _ _ _ _ _ _ _ _ _
        have HS := Zh (show (fun w' => Blk w' gn 46 #[Zs other, Z O (xd * pa / 1000), Z O (xw * pa / 1000)]) v5 from HL13.out.blk 5 rfl)
        refine ⟨⟨HS.out, fun h => by simp at h⟩, ?_⟩
        try simp only [List.setIfInBounds_toArray, List.set_cons_succ, List.set_cons_zero]
        refine till2_pure (i := 12) (v := .pointer (some ⟨gx, 2, none⟩)) rfl rfl (by kernel_rfl) (fun _ _ _ h => h) (yields_of rfl (fun w' _ => by simp [go_sem])) ⟨HS.out, fun h => by simp at h⟩ ?_
        try simp only [List.setIfInBounds_toArray, List.set_cons_succ, List.set_cons_zero]
        refine till2_only (j := 13) (by kernel_rfl) rfl ?_
        clear HS
        have hc9 : v5.cell? ⟨gx, 2, none⟩ = some (Z O xw) := HL13.out.at 4 2 (v := Z O xw) rfl rfl
        have hf9 := HL13.out.frozen 4 rfl 2
        go_wp2_with fail
        clear hc9 hf9
        have HL14 := Zh (show Locs w (v5.setCell ⟨gx, 2, none⟩ (Z O (xw - xw * pa / 1000))) [(gr, 42, [Zl (some ⟨g, 0, none⟩) n cap, Z O vap, Z O bro, Z O dus, Z O sdr, Z O swa, Z O soa, Z O pdr, Z O pwa]), (gd, 55, [Z O 5, Z O dy, Zs code, Zs other, Z O al, Z O ah, Z O bl, Z O bh]), (ge, 42, [Zl none 0 0, Z O 0, Z O 0, Z O 0, Z O 0, Z O 0, Z O 0, Z O 0, Z O 0]), (g, 46, flat pileCells l ++ spare), (gx, 46, [Zs xc, Z O (xd - xd * pa / 1000), Z O (xw - xw * pa / 1000)]), (gn, 46, [Zs other, Z O (xd * pa / 1000), Z O (xw * pa / 1000)])] [] from HL13.out.setLoc1 4 [Zs xc, Z O (xd - xd * pa / 1000)] [] (Z O xw) (Z O (xw - xw * pa / 1000)) 2 rfl rfl)
        clear HL13
        generalize (v5.setCell ⟨gx, 2, none⟩ (Z O (xw - xw * pa / 1000))) = v6 at HL14 ⊢
        try change Till2 _ _ _ _ _ ∧ wpAny2 _ _ _ _ _ _ _ _ _ _ _
        have HS := Zh (show (fun w' => Blk w' gn 46 #[Zs other, Z O (xd * pa / 1000), Z O (xw * pa / 1000)]) v6 from HL14.out.blk 5 rfl)
        refine ⟨⟨HS.out, fun h => by simp at h⟩, ?_⟩
        try simp only [List.setIfInBounds_toArray, List.set_cons_succ, List.set_cons_zero]
        refine till2_done (by kernel_rfl) ?_
        clear HS
        try simp only [Act.put]
        have f0 := (show v6.cell? ⟨gr, 0, none⟩ = some (Zl (some ⟨g, 0, none⟩) n cap) from HL14.out.at 0 0 (v := Zl (some ⟨g, 0, none⟩) n cap) rfl rfl)
        have f1 := (show v6.cell? ⟨gn, 0, none⟩ = some (Zs other) from HL14.out.at 5 0 (v := Zs other) rfl rfl)
        have f2 := (show v6.cell? ⟨gn, 1, none⟩ = some (Z O (xd * pa / 1000)) from HL14.out.at 5 1 (v := Z O (xd * pa / 1000)) rfl rfl)
        have f3 := (show v6.cell? ⟨gn, 2, none⟩ = some (Z O (xw * pa / 1000)) from HL14.out.at 5 2 (v := Z O (xw * pa / 1000)) rfl rfl)
        have HLp := Zh (show Locs w v6 [(gr, 42, [Zl (some ⟨g, 0, none⟩) n cap, Z O vap, Z O bro, Z O dus, Z O sdr, Z O swa, Z O soa, Z O pdr, Z O pwa]), (gd, 55, [Z O 5, Z O dy, Zs code, Zs other, Z O al, Z O ah, Z O bl, Z O bh]), (ge, 42, [Zl none 0 0, Z O 0, Z O 0, Z O 0, Z O 0, Z O 0, Z O 0, Z O 0, Z O 0]), (gx, 46, [Zs xc, Z O (xd - xd * pa / 1000), Z O (xw - xw * pa / 1000)]), (gn, 46, [Zs other, Z O (xd * pa / 1000), Z O (xw * pa / 1000)]), (g, 46, flat pileCells l ++ spare)] [] from HL14.out.perm (perm_three _ _ _ _ _ _))
        clear HL14
        obtain ⟨i1_, hi1, hi1a, hi1b, hi1c⟩ := info_parts info_pile
        have HI1 := Zh hi1; have HI1a := Zh hi1a; have HI1b := Zh hi1b; have HI1c := Zh hi1c
        have HA1 := Zh (show n + 1 ≤ maxLen ∧ (n + 1) * 32 ≤ 140737488355328 by unfold maxLen; omega)
        clear hi1 hi1a hi1b hi1c
        have HRa := Zh (show Rowed w (v6.alloc (.cells #[Zs other, Z O (xd * pa / 1000), Z O (xw * pa / 1000)] 46)) ([(gr, 42, [Zl (some ⟨g, 0, none⟩) n cap, Z O vap, Z O bro, Z O dus, Z O sdr, Z O swa, Z O soa, Z O pdr, Z O pwa]), (gd, 55, [Z O 5, Z O dy, Zs code, Zs other, Z O al, Z O ah, Z O bl, Z O bh]), (ge, 42, [Zl none 0 0, Z O 0, Z O 0, Z O 0, Z O 0, Z O 0, Z O 0, Z O 0, Z O 0]), (gx, 46, [Zs xc, Z O (xd - xd * pa / 1000), Z O (xw - xw * pa / 1000)]), (gn, 46, [Zs other, Z O (xd * pa / 1000), Z O (xw * pa / 1000)]), (v6.heap.size, 46, [Zs other, Z O (xd * pa / 1000), Z O (xw * pa / 1000)])] : List (Nat × TypeId × List Value)) 46 3 (Zl (some ⟨g, 0, none⟩) n cap) (n) (flat pileCells l) from (rowed_of (L := [(gr, 42, [Zl (some ⟨g, 0, none⟩) n cap, Z O vap, Z O bro, Z O dus, Z O sdr, Z O swa, Z O soa, Z O pdr, Z O pwa]), (gd, 55, [Z O 5, Z O dy, Zs code, Zs other, Z O al, Z O ah, Z O bl, Z O bh]), (ge, 42, [Zl none 0 0, Z O 0, Z O 0, Z O 0, Z O 0, Z O 0, Z O 0, Z O 0, Z O 0]), (gx, 46, [Zs xc, Z O (xd - xd * pa / 1000), Z O (xw - xw * pa / 1000)]), (gn, 46, [Zs other, Z O (xd * pa / 1000), Z O (xw * pa / 1000)])]) HLp.out HN.out.symm HCAP.out).alloc 46 [Zs other, Z O (xd * pa / 1000), Z O (xw * pa / 1000)] rfl)
        have HLa := Zh (show Locs w (v6.alloc (.cells #[Zs other, Z O (xd * pa / 1000), Z O (xw * pa / 1000)] 46)) [(gr, 42, [Zl (some ⟨g, 0, none⟩) n cap, Z O vap, Z O bro, Z O dus, Z O sdr, Z O swa, Z O soa, Z O pdr, Z O pwa]), (gd, 55, [Z O 5, Z O dy, Zs code, Zs other, Z O al, Z O ah, Z O bl, Z O bh]), (ge, 42, [Zl none 0 0, Z O 0, Z O 0, Z O 0, Z O 0, Z O 0, Z O 0, Z O 0, Z O 0]), (gx, 46, [Zs xc, Z O (xd - xd * pa / 1000), Z O (xw - xw * pa / 1000)]), (gn, 46, [Zs other, Z O (xd * pa / 1000), Z O (xw * pa / 1000)]), (v6.heap.size, 46, [Zs other, Z O (xd * pa / 1000), Z O (xw * pa / 1000)])] [] from (HLp.out.fewer (List.sublist_append_left ([(gr, 42, [Zl (some ⟨g, 0, none⟩) n cap, Z O vap, Z O bro, Z O dus, Z O sdr, Z O swa, Z O soa, Z O pdr, Z O pwa]), (gd, 55, [Z O 5, Z O dy, Zs code, Zs other, Z O al, Z O ah, Z O bl, Z O bh]), (ge, 42, [Zl none 0 0, Z O 0, Z O 0, Z O 0, Z O 0, Z O 0, Z O 0, Z O 0, Z O 0]), (gx, 46, [Zs xc, Z O (xd - xd * pa / 1000), Z O (xw - xw * pa / 1000)]), (gn, 46, [Zs other, Z O (xd * pa / 1000), Z O (xw * pa / 1000)])] : List (Nat × TypeId × List Value)) _) (List.Sublist.refl _)).alloc 46 [Zs other, Z O (xd * pa / 1000), Z O (xw * pa / 1000)] rfl)
        clear HLp
        go_upto_region 38 with (at_builtin; refine wpList_append_lies _ rfl (.tmp 171) (.tmp 173) 40 rfl w.heap.size 46 i1_ (.agg #[Zs ⟨#[]⟩, Z O 0, Z O 0]) 3 32 Try.underlying40 HI1.out HI1a.out HI1b.out HI1c.out rfl (by decide) (Zl (some ⟨g, 0, none⟩) n cap) n (flat pileCells l) rfl HRa.out.own ⟨v6.heap.size, 0, none⟩ 1 1 [Zs other, Z O (xd * pa / 1000), Z O (xw * pa / 1000)] rfl rfl (World.news_of_block (heap_alloc_new v6 _)) (by simp [Value.oneCell']) (by decide) HA1.out.1 HA1.out.2 HLa.out.low.size (v6.heap.size + 1) (World.size_alloc _ _) ?_; intro g7 cap7 w7 hown7 hg7 hat7 hlt7; have HL7 := Zh (HLa.out.appended HRa.out hg7); have HR7 := Zh (Rowed.appended HLa.out HRa.out hown7 (by rw [World.size_alloc]; exact hat7)); clear hown7 hg7 hat7 hlt7; have o2 := HL7.out.at 0 0 (v := Zl (some ⟨g, 0, none⟩) n cap) rfl rfl; have of2 := HL7.out.frozen 0 rfl 0)
        clear o2 of2 f0 f1 f2 f3
        have HL8 := Zh (show Locs w (w7.setCell ⟨gr, 0, none⟩ (Zl (some ⟨g7, 0, none⟩) (n + 1) cap7)) [(gr, 42, [Zl (some ⟨g7, 0, none⟩) (n + 1) cap7, Z O vap, Z O bro, Z O dus, Z O sdr, Z O swa, Z O soa, Z O pdr, Z O pwa]), (gd, 55, [Z O 5, Z O dy, Zs code, Zs other, Z O al, Z O ah, Z O bl, Z O bh]), (ge, 42, [Zl none 0 0, Z O 0, Z O 0, Z O 0, Z O 0, Z O 0, Z O 0, Z O 0, Z O 0]), (gx, 46, [Zs xc, Z O (xd - xd * pa / 1000), Z O (xw - xw * pa / 1000)]), (gn, 46, [Zs other, Z O (xd * pa / 1000), Z O (xw * pa / 1000)])] [] from (HL7.out.setLoc1 0 [] [Z O vap, Z O bro, Z O dus, Z O sdr, Z O swa, Z O soa, Z O pdr, Z O pwa] (Zl (some ⟨g, 0, none⟩) n cap) (Zl (some ⟨g7, 0, none⟩) (n + 1) cap7) 0 rfl rfl).fewer (List.sublist_append_left ([(gr, 42, [Zl (some ⟨g7, 0, none⟩) (n + 1) cap7, Z O vap, Z O bro, Z O dus, Z O sdr, Z O swa, Z O soa, Z O pdr, Z O pwa]), (gd, 55, [Z O 5, Z O dy, Zs code, Zs other, Z O al, Z O ah, Z O bl, Z O bh]), (ge, 42, [Zl none 0 0, Z O 0, Z O 0, Z O 0, Z O 0, Z O 0, Z O 0, Z O 0, Z O 0]), (gx, 46, [Zs xc, Z O (xd - xd * pa / 1000), Z O (xw - xw * pa / 1000)]), (gn, 46, [Zs other, Z O (xd * pa / 1000), Z O (xw * pa / 1000)])] : List (Nat × TypeId × List Value)) _) (List.Sublist.refl _))
        have HR8 := Zh (show Rowed w (w7.setCell ⟨gr, 0, none⟩ (Zl (some ⟨g7, 0, none⟩) (n + 1) cap7)) ([(gr, 42, [Zl (some ⟨g7, 0, none⟩) (n + 1) cap7, Z O vap, Z O bro, Z O dus, Z O sdr, Z O swa, Z O soa, Z O pdr, Z O pwa]), (gd, 55, [Z O 5, Z O dy, Zs code, Zs other, Z O al, Z O ah, Z O bl, Z O bh]), (ge, 42, [Zl none 0 0, Z O 0, Z O 0, Z O 0, Z O 0, Z O 0, Z O 0, Z O 0, Z O 0]), (gx, 46, [Zs xc, Z O (xd - xd * pa / 1000), Z O (xw - xw * pa / 1000)]), (gn, 46, [Zs other, Z O (xd * pa / 1000), Z O (xw * pa / 1000)])] : List (Nat × TypeId × List Value)) 46 3 (Zl (some ⟨g7, 0, none⟩) (n + 1) cap7) (n + 1) (flat pileCells l ++ [Zs other, Z O (xd * pa / 1000), Z O (xw * pa / 1000)]) from (HR7.out.setLoc1 0 rfl 0 (Zl (some ⟨g7, 0, none⟩) (n + 1) cap7) (cs' := [Zl (some ⟨g7, 0, none⟩) (n + 1) cap7, Z O vap, Z O bro, Z O dus, Z O sdr, Z O swa, Z O soa, Z O pdr, Z O pwa])).fewer (List.sublist_append_left ([(gr, 42, [Zl (some ⟨g7, 0, none⟩) (n + 1) cap7, Z O vap, Z O bro, Z O dus, Z O sdr, Z O swa, Z O soa, Z O pdr, Z O pwa]), (gd, 55, [Z O 5, Z O dy, Zs code, Zs other, Z O al, Z O ah, Z O bl, Z O bh]), (ge, 42, [Zl none 0 0, Z O 0, Z O 0, Z O 0, Z O 0, Z O 0, Z O 0, Z O 0, Z O 0]), (gx, 46, [Zs xc, Z O (xd - xd * pa / 1000), Z O (xw - xw * pa / 1000)]), (gn, 46, [Zs other, Z O (xd * pa / 1000), Z O (xw * pa / 1000)])] : List (Nat × TypeId × List Value)) _))
        clear HL7 HR7 HLa HRa
        generalize (w7.setCell ⟨gr, 0, none⟩ (Zl (some ⟨g7, 0, none⟩) (n + 1) cap7)) = w8 at HL8 HR8 ⊢
        have e5 : flat pileCells l ++ [Zs other, Z O (xd * pa / 1000), Z O (xw * pa / 1000)] = flat pileCells (l ++ [⟨other, xd * pa / 1000, xw * pa / 1000⟩]) := by rw [flat_append, flat_cons, flat_nil, List.append_nil]; rfl
        have HR8 := HR8.out
        rw [e5] at HR8
        have hn5 : n + 1 = (l ++ [(⟨other, xd * pa / 1000, xw * pa / 1000⟩ : Yd.Pile Code)]).length := by rw [List.length_append, ← HN.out]; rfl
        have hkl5 : k < (l ++ [(⟨other, xd * pa / 1000, xw * pa / 1000⟩ : Yd.Pile Code)]).length := by omega
        clear e5
        obtain ⟨l5, hL5⟩ : ∃ l5, l5 = l ++ [(⟨other, xd * pa / 1000, xw * pa / 1000⟩ : Yd.Pile Code)] := ⟨_, rfl⟩
        rw [← hL5] at HR8 hn5 hkl5
        have HL5 := Zh hL5
        clear hL5
        have hkn5 : k < n + 1 := by omega
        generalize hm5 : n + 1 = n5 at HL8 HR8 hn5 hkn5 ⊢
        have hknI5 : (k : Int) < (n5 : Int) := by omega
        have hl5 : n5 ≤ 21 := by omega
        clear hm5
        obtain ⟨spare5, hcap5, hl8⟩ := row_adopt HL8.out HR8
        have HCAP5 := Zh hcap5; have HN5 := Zh hn5; have HKL5 := Zh hkl5
        have HL9 := Zh hl8
        clear HL8 HR8 hcap5 hn5 hkl5 hl8
        have HL9 := Zh (show Locs w w8 [(gr, 42, [Zl (some ⟨g7, 0, none⟩) n5 cap7, Z O vap, Z O bro, Z O dus, Z O sdr, Z O swa, Z O soa, Z O pdr, Z O pwa]), (gd, 55, [Z O 5, Z O dy, Zs code, Zs other, Z O al, Z O ah, Z O bl, Z O bh]), (ge, 42, [Zl none 0 0, Z O 0, Z O 0, Z O 0, Z O 0, Z O 0, Z O 0, Z O 0, Z O 0]), (gx, 46, [Zs xc, Z O (xd - xd * pa / 1000), Z O (xw - xw * pa / 1000)]), (gn, 46, [Zs other, Z O (xd * pa / 1000), Z O (xw * pa / 1000)]), (g7, 46, flat pileCells l5 ++ spare5)] [] from HL9.out)
        have s0 := (show w8.cell? ⟨gx, 0, none⟩ = some (Zs xc) from HL9.out.at 3 0 (v := Zs xc) rfl rfl)
        have s1 := (show w8.cell? ⟨gx, 1, none⟩ = some (Z O (xd - xd * pa / 1000)) from HL9.out.at 3 1 (v := Z O (xd - xd * pa / 1000)) rfl rfl)
        have s2 := (show w8.cell? ⟨gx, 2, none⟩ = some (Z O (xw - xw * pa / 1000)) from HL9.out.at 3 2 (v := Z O (xw - xw * pa / 1000)) rfl rfl)
        have s3 := (show w8.cell? ⟨gd, 0, none⟩ = some (Z O 5) from HL9.out.at 1 0 (v := Z O 5) rfl rfl)
        have s4 := (show w8.cell? ⟨gr, 0, none⟩ = some (Zl (some ⟨g7, 0, none⟩) n5 cap7) from HL9.out.at 0 0 (v := Zl (some ⟨g7, 0, none⟩) n5 cap7) rfl rfl)
        have s5 := (show w8.cell? ⟨gr, 1, none⟩ = some (Z O vap) from HL9.out.at 0 1 (v := Z O vap) rfl rfl)
        have s6 := (show w8.cell? ⟨gr, 2, none⟩ = some (Z O bro) from HL9.out.at 0 2 (v := Z O bro) rfl rfl)
        have s7 := (show w8.cell? ⟨gr, 3, none⟩ = some (Z O dus) from HL9.out.at 0 3 (v := Z O dus) rfl rfl)
        have s8 := (show w8.cell? ⟨gr, 4, none⟩ = some (Z O sdr) from HL9.out.at 0 4 (v := Z O sdr) rfl rfl)
        have s9 := (show w8.cell? ⟨gr, 5, none⟩ = some (Z O swa) from HL9.out.at 0 5 (v := Z O swa) rfl rfl)
        have s10 := (show w8.cell? ⟨gr, 6, none⟩ = some (Z O soa) from HL9.out.at 0 6 (v := Z O soa) rfl rfl)
        have s11 := (show w8.cell? ⟨gr, 7, none⟩ = some (Z O pdr) from HL9.out.at 0 7 (v := Z O pdr) rfl rfl)
        have s12 := (show w8.cell? ⟨gr, 8, none⟩ = some (Z O pwa) from HL9.out.at 0 8 (v := Z O pwa) rfl rfl)
        have HLr := Zh (show Locs w (w8.setCells g7 (k * 3) [Zs xc, Z O (xd - xd * pa / 1000), Z O (xw - xw * pa / 1000)]) [(gr, 42, [Zl (some ⟨g7, 0, none⟩) n5 cap7, Z O vap, Z O bro, Z O dus, Z O sdr, Z O swa, Z O soa, Z O pdr, Z O pwa]), (gd, 55, [Z O 5, Z O dy, Zs code, Zs other, Z O al, Z O ah, Z O bl, Z O bh]), (ge, 42, [Zl none 0 0, Z O 0, Z O 0, Z O 0, Z O 0, Z O 0, Z O 0, Z O 0, Z O 0]), (gx, 46, [Zs xc, Z O (xd - xd * pa / 1000), Z O (xw - xw * pa / 1000)]), (gn, 46, [Zs other, Z O (xd * pa / 1000), Z O (xw * pa / 1000)]), (g7, 46, flat pileCells (l5.set k ⟨xc, xd - xd * pa / 1000, xw - xw * pa / 1000⟩) ++ spare5)] [] from HL9.out.setRow 5 rfl HKL5.out ⟨xc, xd - xd * pa / 1000, xw - xw * pa / 1000⟩)
        have HTH := Zh (show w8.there g7 (k * 3) 3 from HL9.out.there 5 rfl (by have h1 := HKL5.out; rw [List.length_append, flat_length pile_three]; omega))
        go_wp2_with (first
          | ((with_reducible refine at_store 46 (.tmp 246) (.tmp 245) ?_); go_must (refine wpList_store_mid rfl 46 (.tmp 246) (.tmp 245) rfl g7 (k * 3) #[Zs xc, Z O (xd - xd * pa / 1000), Z O (xw - xw * pa / 1000)] rfl rfl HTH.out size_pile (by simp [Value.oneCell']) ?_); have HLs := HLr; clear s0 s1 s2 s3 s4 s5 s6 s7 s8 s9 s10 s11 s12; have t0 := HLs.out.at 0 0 (v := Zl (some ⟨g7, 0, none⟩) n5 cap7) rfl rfl; have t1 := HLs.out.at 0 1 (v := Z O vap) rfl rfl; have t2 := HLs.out.at 0 2 (v := Z O bro) rfl rfl; have t3 := HLs.out.at 0 3 (v := Z O dus) rfl rfl; have t4 := HLs.out.at 0 4 (v := Z O sdr) rfl rfl; have t5 := HLs.out.at 0 5 (v := Z O swa) rfl rfl; have t6 := HLs.out.at 0 6 (v := Z O soa) rfl rfl; have t7 := HLs.out.at 0 7 (v := Z O pdr) rfl rfl; have t8 := HLs.out.at 0 8 (v := Z O pwa) rfl rfl; have td := HLs.out.at 1 0 (v := Z O 5) rfl rfl)
          | ((with_reducible refine at_store 42 (.tmp 8) (.tmp 283) ?_); go_must (refine wpList_store_mid rfl 42 (.tmp 8) (.tmp 283) rfl ge 0 #[Zl (some ⟨g7, 0, none⟩) n5 cap7, Z O vap, Z O bro, Z O dus, Z O sdr, Z O swa, Z O soa, Z O pdr, Z O pwa] rfl rfl (HLr.out.there 2 (o := 0) (n := 9) rfl (Nat.le_of_ble_eq_true rfl)) size_real (by simp [Value.oneCell']) ?_)))
        clear t0 t1 t2 t3 t4 t5 t6 t7 t8 td
        have HLf := Zh (show Locs w ((w8.setCells g7 (k * 3) [Zs xc, Z O (xd - xd * pa / 1000), Z O (xw - xw * pa / 1000)]).setCells ge 0 [Zl (some ⟨g7, 0, none⟩) n5 cap7, Z O vap, Z O bro, Z O dus, Z O sdr, Z O swa, Z O soa, Z O pdr, Z O pwa]) [(gr, 42, [Zl (some ⟨g7, 0, none⟩) n5 cap7, Z O vap, Z O bro, Z O dus, Z O sdr, Z O swa, Z O soa, Z O pdr, Z O pwa]), (gd, 55, [Z O 5, Z O dy, Zs code, Zs other, Z O al, Z O ah, Z O bl, Z O bh]), (ge, 42, [Zl (some ⟨g7, 0, none⟩) n5 cap7, Z O vap, Z O bro, Z O dus, Z O sdr, Z O swa, Z O soa, Z O pdr, Z O pwa]), (gx, 46, [Zs xc, Z O (xd - xd * pa / 1000), Z O (xw - xw * pa / 1000)]), (gn, 46, [Zs other, Z O (xd * pa / 1000), Z O (xw * pa / 1000)]), (g7, 46, flat pileCells (l5.set k ⟨xc, xd - xd * pa / 1000, xw - xw * pa / 1000⟩) ++ spare5)] [] from HLr.out.setLoc 2 [] [Zl none 0 0, Z O 0, Z O 0, Z O 0, Z O 0, Z O 0, Z O 0, Z O 0, Z O 0] [] [Zl (some ⟨g7, 0, none⟩) n5 cap7, Z O vap, Z O bro, Z O dus, Z O sdr, Z O swa, Z O soa, Z O pdr, Z O pwa] rfl rfl)
        have r0 := HLf.out.at 2 0 (v := Zl (some ⟨g7, 0, none⟩) n5 cap7) rfl rfl
        have r1 := HLf.out.at 2 1 (v := Z O vap) rfl rfl
        have r2 := HLf.out.at 2 2 (v := Z O bro) rfl rfl
        have r3 := HLf.out.at 2 3 (v := Z O dus) rfl rfl
        have r4 := HLf.out.at 2 4 (v := Z O sdr) rfl rfl
        have r5 := HLf.out.at 2 5 (v := Z O swa) rfl rfl
        have r6 := HLf.out.at 2 6 (v := Z O soa) rfl rfl
        have r7 := HLf.out.at 2 7 (v := Z O pdr) rfl rfl
        have r8 := HLf.out.at 2 8 (v := Z O pwa) rfl rfl
        refine bodyPost_ret (v := .tuple #[.agg #[Zl (some ⟨g7, 0, none⟩) n5 cap7, Z O vap, Z O bro, Z O dus, Z O sdr, Z O swa, Z O soa, Z O pdr, Z O pwa], .bool true]) (by simp [results, Try.results44, go_sem, r0, r1, r2, r3, r4, r5, r6, r7, r8]) rfl ?_
        rw [HEA.out]
        have hll : (l5.set k ⟨xc, xd - xd * pa / 1000, xw - xw * pa / 1000⟩).length = n5 := by rw [List.length_set, ← HN5.out]
        have HRg := rowed_of (L := [(gr, 42, [Zl (some ⟨g7, 0, none⟩) n5 cap7, Z O vap, Z O bro, Z O dus, Z O sdr, Z O swa, Z O soa, Z O pdr, Z O pwa]), (gd, 55, [Z O 5, Z O dy, Zs code, Zs other, Z O al, Z O ah, Z O bl, Z O bh]), (ge, 42, [Zl (some ⟨g7, 0, none⟩) n5 cap7, Z O vap, Z O bro, Z O dus, Z O sdr, Z O swa, Z O soa, Z O pdr, Z O pwa]), (gx, 46, [Zs xc, Z O (xd - xd * pa / 1000), Z O (xw - xw * pa / 1000)]), (gn, 46, [Zs other, Z O (xd * pa / 1000), Z O (xw * pa / 1000)])]) HLf.out hll HCAP5.out
        have hL5 := HL5.out
        subst hL5
        exact ⟨_, rfl, HLf.out.low, held_rowP HRg hll (by omega), .inr ⟨g7, 0, cap7, by rw [hll]⟩⟩
      by_cases k6 : kind = 6
      · subst k6
        by_cases hol : Yd.find l other < l.length
        · skip
          have hy : l[Yd.find l other]? = some l[Yd.find l other]! := by rw [getElem!_pos l _ hol, List.getElem?_eq_getElem hol]
          obtain ⟨⟨oc, od, ow⟩, ho⟩ : ∃ x, l[Yd.find l other]! = x := ⟨_, rfl⟩
          rw [ho] at hy
          obtain ⟨o, hfo⟩ : ∃ o, Yd.find l other = o := ⟨_, rfl⟩
          
          rw [hfo] at hol ho hy
          have HEA := Zh (show Yd.Real.act ⟨l, vap, bro, dus, sdr, swa, soa, pdr, pwa⟩ ⟨6, dy, code, other, ⟨al, ah⟩, ⟨bl, bh⟩⟩ pa pb = (some ⟨(l.set k ⟨xc, xd + od, xw + ow⟩).take o ++ (l.set k ⟨xc, xd + od, xw + ow⟩).drop (o + 1), vap, bro, dus, sdr, swa, soa, pdr, pwa⟩) from by
            rw [act_hit (by simp) HACT.out]
            rw [if_neg (fun hh => by cases hh.1), if_neg (fun hh => hh.2 (by simp only; rw [hfo]; exact hol))]
            simp only [hfo, hy, Option.getD_some, HFK.out]
            rw [← List.eraseIdx_eq_take_drop_succ]
            rfl)
          have HFO6 := Zh (show findInt l other = (o : Int) from by unfold findInt; rw [hfo, if_pos hol])
          have HOL := Zh hol; have HO := Zh ho
          have hoo : (0 ≤ od ∧ od ≤ 2000000000000000) ∧ (0 ≤ ow ∧ ow ≤ 2000000000000000) := by have := HPP.out _ (get_in hol); rw [ho] at this; exact this
          obtain ⟨⟨hod1, hod2⟩, ⟨how1, how2⟩⟩ := hoo
          have hon : o < n := by rw [HN.out]; exact hol
          have honI : (o : Int) < (n : Int) := by omega
          clear ho hol
          have s0 := (show v2.cell? ⟨gd, 0, none⟩ = some (Z O 6) from HL10.out.at 1 0 (v := Z O 6) rfl rfl)
          have s1 := (show v2.cell? ⟨gd, 3, none⟩ = some (Zs other) from HL10.out.at 1 3 (v := Zs other) rfl rfl)
          have s2 := (show v2.cell? ⟨gr, 0, none⟩ = some (Zl (some ⟨g, 0, none⟩) n cap) from HL10.out.at 0 0 (v := Zl (some ⟨g, 0, none⟩) n cap) rfl rfl)
          have s3 := (show v2.cell? ⟨gr, 1, none⟩ = some (Z O vap) from HL10.out.at 0 1 (v := Z O vap) rfl rfl)
          have s4 := (show v2.cell? ⟨gr, 2, none⟩ = some (Z O bro) from HL10.out.at 0 2 (v := Z O bro) rfl rfl)
          have s5 := (show v2.cell? ⟨gr, 3, none⟩ = some (Z O dus) from HL10.out.at 0 3 (v := Z O dus) rfl rfl)
          have s6 := (show v2.cell? ⟨gr, 4, none⟩ = some (Z O sdr) from HL10.out.at 0 4 (v := Z O sdr) rfl rfl)
          have s7 := (show v2.cell? ⟨gr, 5, none⟩ = some (Z O swa) from HL10.out.at 0 5 (v := Z O swa) rfl rfl)
          have s8 := (show v2.cell? ⟨gr, 6, none⟩ = some (Z O soa) from HL10.out.at 0 6 (v := Z O soa) rfl rfl)
          have s9 := (show v2.cell? ⟨gr, 7, none⟩ = some (Z O pdr) from HL10.out.at 0 7 (v := Z O pdr) rfl rfl)
          have s10 := (show v2.cell? ⟨gr, 8, none⟩ = some (Z O pwa) from HL10.out.at 0 8 (v := Z O pwa) rfl rfl)
          have HFI2 := Zh (find_calls (Zl (some ⟨g, 0, none⟩) n cap) (l) vap bro dus sdr swa soa pdr pwa other v2 (held_rowP (rowed_of (L := [(gr, 42, [Zl (some ⟨g, 0, none⟩) n cap, Z O vap, Z O bro, Z O dus, Z O sdr, Z O swa, Z O soa, Z O pdr, Z O pwa]), (gd, 55, [Z O 6, Z O dy, Zs code, Zs other, Z O al, Z O ah, Z O bl, Z O bh]), (ge, 42, [Zl none 0 0, Z O 0, Z O 0, Z O 0, Z O 0, Z O 0, Z O 0, Z O 0, Z O 0])]) (HL10.out.fewer (List.sublist_append_left ([(gr, 42, [Zl (some ⟨g, 0, none⟩) n cap, Z O vap, Z O bro, Z O dus, Z O sdr, Z O swa, Z O soa, Z O pdr, Z O pwa]), (gd, 55, [Z O 6, Z O dy, Zs code, Zs other, Z O al, Z O ah, Z O bl, Z O bh]), (ge, 42, [Zl none 0 0, Z O 0, Z O 0, Z O 0, Z O 0, Z O 0, Z O 0, Z O 0, Z O 0]), (g, 46, flat pileCells l ++ spare)] : List (Nat × TypeId × List Value)) _) (List.Sublist.refl _)) HN.out.symm HCAP.out) HN.out.symm (by omega)) (by rw [HN.out.symm]; omega))
          go_upto_region 32 with (go_at_call 64; refine HFI2.out.mono ?_; rintro e w5 ⟨rfl, hbF⟩; rw [HFO6.out]; have HLF := Zh (HL10.out.below hbF); clear hbF)
          clear s0 s1 s2 s3 s4 s5 s6 s7 s8 s9 s10 HFI2
          have HL11 := HLF
          clear HLF HL10
          have HW0 := Zh (show IntKind.i64.wrap (xd + od) = xd + od from by rw [IntKind.wrap_i64]; omega)
          have HW1 := Zh (show IntKind.i64.wrap (xw + ow) = xw + ow from by rw [IntKind.wrap_i64]; omega)
          have hb0 : (0 : Int) ≤ (o : Int) := by omega
          have hbc : n ≤ cap := HCAP.out.1
          have hmix : Try.prog.follows .mixedOrders = true := by kernel_rfl
          refine region_till2 [19, 21] (fun w' => Blk w' gx 46 #[Zs xc, Z O xd, Z O xw]) (fun w' => Blk w' gr 42 #[Zl (some ⟨g, 0, none⟩) n cap, Z O vap, Z O bro, Z O dus, Z O sdr, Z O swa, Z O soa, Z O pdr, Z O pwa] ∧ w'.cell? ⟨g, o * 3 + 1, none⟩ = some (Z O od) ∧ w'.cell? ⟨g, o * 3 + 2, none⟩ = some (Z O ow)) 22 [false, false, false, false, false, false, false, false, false, false, false, false, false, false, false, false, false, false, false, false, false, false] hmix rfl rfl ?_
          clear hmix
          have HL12 := Zh (HL11.out.drew)
          clear HL11
          generalize w5.drew = v3 at HL12 ⊢
          have HT := Zh (show (fun w' => Blk w' gx 46 #[Zs xc, Z O xd, Z O xw]) v3 from HL12.out.blk 4 rfl)
          have HS := Zh (show (fun w' => Blk w' gr 42 #[Zl (some ⟨g, 0, none⟩) n cap, Z O vap, Z O bro, Z O dus, Z O sdr, Z O swa, Z O soa, Z O pdr, Z O pwa] ∧ w'.cell? ⟨g, o * 3 + 1, none⟩ = some (Z O od) ∧ w'.cell? ⟨g, o * 3 + 2, none⟩ = some (Z O ow)) v3 from ⟨HL12.out.blk 0 rfl, (row_cellP HL12.out 3 rfl HOL.out 1 (by decide)).trans (by rw [HO.out]; rfl), (row_cellP HL12.out 3 rfl HOL.out 2 (by decide)).trans (by rw [HO.out]; rfl)⟩)
          refine till2_pure (i := 0) (v := .pointer (some ⟨gx, 1, none⟩)) rfl rfl (by kernel_rfl) (fun _ _ _ h => h) (yields_of rfl (fun w' _ => by simp [go_sem])) ⟨HS.out, fun _ => HT.out⟩ ?_
          try simp only [List.setIfInBounds_toArray, List.set_cons_succ, List.set_cons_zero]
          refine till2_load (i := 1) (v := Z O xd) rfl rfl (by kernel_rfl) (fun _ _ _ h => h) (yields_of rfl (fun w' hw' => by have hcx : w'.cell? ⟨gx, 1, none⟩ = some (Z O xd) := Blk.at hw' 1 _ rfl; simp [go_sem, hcx])) ⟨HS.out, fun _ => HT.out⟩ ?_
          try simp only [List.setIfInBounds_toArray, List.set_cons_succ, List.set_cons_zero]
          refine till2_pure (i := 2) (v := .pointer (some ⟨gr, 0, none⟩)) rfl rfl (by kernel_rfl) (fun _ _ _ h => h) (yields_of rfl (fun w' _ => by simp [go_sem])) ⟨HS.out, fun _ => HT.out⟩ ?_
          try simp only [List.setIfInBounds_toArray, List.set_cons_succ, List.set_cons_zero]
          refine till2_keep (i := 3) (v := Zl (some ⟨g, 0, none⟩) n cap) rfl rfl (by kernel_rfl) (fun _ _ _ h => h) (yields_of rfl (fun w' hw' => by have hcx : w'.cell? ⟨gr, 0, none⟩ = some (Zl (some ⟨g, 0, none⟩) n cap) := Blk.at hw'.1 0 _ rfl; simp [go_sem, hcx])) ⟨HS.out, fun _ => HT.out⟩ ?_
          try simp only [List.setIfInBounds_toArray, List.set_cons_succ, List.set_cons_zero]
          refine till2_pure (i := 4) (v := Z O (o : Int)) rfl rfl (by kernel_rfl) (fun _ _ _ h => h) (yields_of rfl (fun w' _ => by simp [go_sem])) ⟨HS.out, fun _ => HT.out⟩ ?_
          try simp only [List.setIfInBounds_toArray, List.set_cons_succ, List.set_cons_zero]
          refine till2_pure (i := 5) (v := .pointer (some ⟨g, o * 3, none⟩)) rfl rfl (by kernel_rfl) (fun _ _ _ h => h) (yields_of rfl (fun w' _ => by simp [go_sem, Try.underlying40, hb0, hon, honI, hbc])) ⟨HS.out, fun _ => HT.out⟩ ?_
          try simp only [List.setIfInBounds_toArray, List.set_cons_succ, List.set_cons_zero]
          refine till2_pure (i := 6) (v := .pointer (some ⟨g, o * 3 + 1, none⟩)) rfl rfl (by kernel_rfl) (fun _ _ _ h => h) (yields_of rfl (fun w' _ => by simp [go_sem])) ⟨HS.out, fun _ => HT.out⟩ ?_
          try simp only [List.setIfInBounds_toArray, List.set_cons_succ, List.set_cons_zero]
          refine till2_keep (i := 7) (v := Z O od) rfl rfl (by kernel_rfl) (fun _ _ _ h => h) (yields_of rfl (fun w' hw' => by have hcx : w'.cell? ⟨g, o * 3 + 1, none⟩ = some (Z O od) := hw'.2.1; simp [go_sem, hcx])) ⟨HS.out, fun _ => HT.out⟩ ?_
          try simp only [List.setIfInBounds_toArray, List.set_cons_succ, List.set_cons_zero]
          refine till2_pure (i := 8) (v := Z O (xd + od)) rfl rfl (by kernel_rfl) (fun _ _ _ h => h) (yields_of rfl (fun w' _ => by simp [go_sem, HW0.out])) ⟨HS.out, fun _ => HT.out⟩ ?_
          try simp only [List.setIfInBounds_toArray, List.set_cons_succ, List.set_cons_zero]
          refine till2_pure (i := 9) (v := .pointer (some ⟨gx, 2, none⟩)) rfl rfl (by kernel_rfl) (fun _ _ _ h => h) (yields_of rfl (fun w' _ => by simp [go_sem])) ⟨HS.out, fun _ => HT.out⟩ ?_
          try simp only [List.setIfInBounds_toArray, List.set_cons_succ, List.set_cons_zero]
          refine till2_load (i := 10) (v := Z O xw) rfl rfl (by kernel_rfl) (fun _ _ _ h => h) (yields_of rfl (fun w' hw' => by have hcx : w'.cell? ⟨gx, 2, none⟩ = some (Z O xw) := Blk.at hw' 2 _ rfl; simp [go_sem, hcx])) ⟨HS.out, fun _ => HT.out⟩ ?_
          try simp only [List.setIfInBounds_toArray, List.set_cons_succ, List.set_cons_zero]
          refine till2_pure (i := 11) (v := .pointer (some ⟨gr, 0, none⟩)) rfl rfl (by kernel_rfl) (fun _ _ _ h => h) (yields_of rfl (fun w' _ => by simp [go_sem])) ⟨HS.out, fun _ => HT.out⟩ ?_
          try simp only [List.setIfInBounds_toArray, List.set_cons_succ, List.set_cons_zero]
          refine till2_keep (i := 12) (v := Zl (some ⟨g, 0, none⟩) n cap) rfl rfl (by kernel_rfl) (fun _ _ _ h => h) (yields_of rfl (fun w' hw' => by have hcx : w'.cell? ⟨gr, 0, none⟩ = some (Zl (some ⟨g, 0, none⟩) n cap) := Blk.at hw'.1 0 _ rfl; simp [go_sem, hcx])) ⟨HS.out, fun _ => HT.out⟩ ?_
          try simp only [List.setIfInBounds_toArray, List.set_cons_succ, List.set_cons_zero]
          refine till2_pure (i := 13) (v := Z O (o : Int)) rfl rfl (by kernel_rfl) (fun _ _ _ h => h) (yields_of rfl (fun w' _ => by simp [go_sem])) ⟨HS.out, fun _ => HT.out⟩ ?_
          try simp only [List.setIfInBounds_toArray, List.set_cons_succ, List.set_cons_zero]
          refine till2_pure (i := 14) (v := .pointer (some ⟨g, o * 3, none⟩)) rfl rfl (by kernel_rfl) (fun _ _ _ h => h) (yields_of rfl (fun w' _ => by simp [go_sem, Try.underlying40, hb0, hon, honI, hbc])) ⟨HS.out, fun _ => HT.out⟩ ?_
          try simp only [List.setIfInBounds_toArray, List.set_cons_succ, List.set_cons_zero]
          refine till2_pure (i := 15) (v := .pointer (some ⟨g, o * 3 + 2, none⟩)) rfl rfl (by kernel_rfl) (fun _ _ _ h => h) (yields_of rfl (fun w' _ => by simp [go_sem])) ⟨HS.out, fun _ => HT.out⟩ ?_
          try simp only [List.setIfInBounds_toArray, List.set_cons_succ, List.set_cons_zero]
          refine till2_keep (i := 16) (v := Z O ow) rfl rfl (by kernel_rfl) (fun _ _ _ h => h) (yields_of rfl (fun w' hw' => by have hcx : w'.cell? ⟨g, o * 3 + 2, none⟩ = some (Z O ow) := hw'.2.2; simp [go_sem, hcx])) ⟨HS.out, fun _ => HT.out⟩ ?_
          try simp only [List.setIfInBounds_toArray, List.set_cons_succ, List.set_cons_zero]
          refine till2_pure (i := 17) (v := Z O (xw + ow)) rfl rfl (by kernel_rfl) (fun _ _ _ h => h) (yields_of rfl (fun w' _ => by simp [go_sem, HW1.out])) ⟨HS.out, fun _ => HT.out⟩ ?_
          try simp only [List.setIfInBounds_toArray, List.set_cons_succ, List.set_cons_zero]
          refine till2_pure (i := 18) (v := .pointer (some ⟨gx, 1, none⟩)) rfl rfl (by kernel_rfl) (fun _ _ _ h => h) (yields_of rfl (fun w' _ => by simp [go_sem])) ⟨HS.out, fun _ => HT.out⟩ ?_
          try simp only [List.setIfInBounds_toArray, List.set_cons_succ, List.set_cons_zero]
          refine till2_only (j := 19) (by kernel_rfl) rfl ?_
          clear HT HS
          have hc9 : v3.cell? ⟨gx, 1, none⟩ = some (Z O xd) := HL12.out.at 4 1 (v := Z O xd) rfl rfl
          have hf9 := HL12.out.frozen 4 rfl 1
          go_wp2_with fail
          clear hc9 hf9
          have HL13 := Zh (show Locs w (v3.setCell ⟨gx, 1, none⟩ (Z O (xd + od))) [(gr, 42, [Zl (some ⟨g, 0, none⟩) n cap, Z O vap, Z O bro, Z O dus, Z O sdr, Z O swa, Z O soa, Z O pdr, Z O pwa]), (gd, 55, [Z O 6, Z O dy, Zs code, Zs other, Z O al, Z O ah, Z O bl, Z O bh]), (ge, 42, [Zl none 0 0, Z O 0, Z O 0, Z O 0, Z O 0, Z O 0, Z O 0, Z O 0, Z O 0]), (g, 46, flat pileCells l ++ spare), (gx, 46, [Zs xc, Z O (xd + od), Z O xw])] [] from HL12.out.setLoc1 4 [Zs xc] [Z O xw] (Z O xd) (Z O (xd + od)) 1 rfl rfl)
          clear HL12
          generalize (v3.setCell ⟨gx, 1, none⟩ (Z O (xd + od))) = v4 at HL13 ⊢
          try change Till2 _ _ _ _ _ ∧ wpAny2 _ _ _ _ _ _ _ _ _ _ _
          have HS := Zh (show (fun w' => Blk w' gr 42 #[Zl (some ⟨g, 0, none⟩) n cap, Z O vap, Z O bro, Z O dus, Z O sdr, Z O swa, Z O soa, Z O pdr, Z O pwa] ∧ w'.cell? ⟨g, o * 3 + 1, none⟩ = some (Z O od) ∧ w'.cell? ⟨g, o * 3 + 2, none⟩ = some (Z O ow)) v4 from ⟨HL13.out.blk 0 rfl, (row_cellP HL13.out 3 rfl HOL.out 1 (by decide)).trans (by rw [HO.out]; rfl), (row_cellP HL13.out 3 rfl HOL.out 2 (by decide)).trans (by rw [HO.out]; rfl)⟩)
          refine ⟨⟨HS.out, fun h => by simp at h⟩, ?_⟩
          try simp only [List.setIfInBounds_toArray, List.set_cons_succ, List.set_cons_zero]
          refine till2_pure (i := 20) (v := .pointer (some ⟨gx, 2, none⟩)) rfl rfl (by kernel_rfl) (fun _ _ _ h => h) (yields_of rfl (fun w' _ => by simp [go_sem])) ⟨HS.out, fun h => by simp at h⟩ ?_
          try simp only [List.setIfInBounds_toArray, List.set_cons_succ, List.set_cons_zero]
          refine till2_only (j := 21) (by kernel_rfl) rfl ?_
          clear HS
          have hc9 : v4.cell? ⟨gx, 2, none⟩ = some (Z O xw) := HL13.out.at 4 2 (v := Z O xw) rfl rfl
          have hf9 := HL13.out.frozen 4 rfl 2
          go_wp2_with fail
          clear hc9 hf9
          have HL14 := Zh (show Locs w (v4.setCell ⟨gx, 2, none⟩ (Z O (xw + ow))) [(gr, 42, [Zl (some ⟨g, 0, none⟩) n cap, Z O vap, Z O bro, Z O dus, Z O sdr, Z O swa, Z O soa, Z O pdr, Z O pwa]), (gd, 55, [Z O 6, Z O dy, Zs code, Zs other, Z O al, Z O ah, Z O bl, Z O bh]), (ge, 42, [Zl none 0 0, Z O 0, Z O 0, Z O 0, Z O 0, Z O 0, Z O 0, Z O 0, Z O 0]), (g, 46, flat pileCells l ++ spare), (gx, 46, [Zs xc, Z O (xd + od), Z O (xw + ow)])] [] from HL13.out.setLoc1 4 [Zs xc, Z O (xd + od)] [] (Z O xw) (Z O (xw + ow)) 2 rfl rfl)
          clear HL13
          generalize (v4.setCell ⟨gx, 2, none⟩ (Z O (xw + ow))) = v5 at HL14 ⊢
          try change Till2 _ _ _ _ _ ∧ wpAny2 _ _ _ _ _ _ _ _ _ _ _
          have HS := Zh (show (fun w' => Blk w' gr 42 #[Zl (some ⟨g, 0, none⟩) n cap, Z O vap, Z O bro, Z O dus, Z O sdr, Z O swa, Z O soa, Z O pdr, Z O pwa] ∧ w'.cell? ⟨g, o * 3 + 1, none⟩ = some (Z O od) ∧ w'.cell? ⟨g, o * 3 + 2, none⟩ = some (Z O ow)) v5 from ⟨HL14.out.blk 0 rfl, (row_cellP HL14.out 3 rfl HOL.out 1 (by decide)).trans (by rw [HO.out]; rfl), (row_cellP HL14.out 3 rfl HOL.out 2 (by decide)).trans (by rw [HO.out]; rfl)⟩)
          refine ⟨⟨HS.out, fun h => by simp at h⟩, ?_⟩
          try simp only [List.setIfInBounds_toArray, List.set_cons_succ, List.set_cons_zero]
          refine till2_done (by kernel_rfl) ?_
          clear HS
          try simp only [Act.put]
          have s0 := (show v5.cell? ⟨gx, 0, none⟩ = some (Zs xc) from HL14.out.at 4 0 (v := Zs xc) rfl rfl)
          have s1 := (show v5.cell? ⟨gx, 1, none⟩ = some (Z O (xd + od)) from HL14.out.at 4 1 (v := Z O (xd + od)) rfl rfl)
          have s2 := (show v5.cell? ⟨gx, 2, none⟩ = some (Z O (xw + ow)) from HL14.out.at 4 2 (v := Z O (xw + ow)) rfl rfl)
          have s3 := (show v5.cell? ⟨gd, 0, none⟩ = some (Z O 6) from HL14.out.at 1 0 (v := Z O 6) rfl rfl)
          have s4 := (show v5.cell? ⟨gr, 0, none⟩ = some (Zl (some ⟨g, 0, none⟩) n cap) from HL14.out.at 0 0 (v := Zl (some ⟨g, 0, none⟩) n cap) rfl rfl)
          have HLr := Zh (show Locs w (v5.setCells g (k * 3) [Zs xc, Z O (xd + od), Z O (xw + ow)]) [(gr, 42, [Zl (some ⟨g, 0, none⟩) n cap, Z O vap, Z O bro, Z O dus, Z O sdr, Z O swa, Z O soa, Z O pdr, Z O pwa]), (gd, 55, [Z O 6, Z O dy, Zs code, Zs other, Z O al, Z O ah, Z O bl, Z O bh]), (ge, 42, [Zl none 0 0, Z O 0, Z O 0, Z O 0, Z O 0, Z O 0, Z O 0, Z O 0, Z O 0]), (g, 46, flat pileCells (l.set k ⟨xc, xd + od, xw + ow⟩) ++ spare), (gx, 46, [Zs xc, Z O (xd + od), Z O (xw + ow)])] [] from HL14.out.setRow 3 rfl HKL.out ⟨xc, xd + od, xw + ow⟩)
          have HTH := Zh (show v5.there g (k * 3) 3 from HL14.out.there 3 rfl (by have h1 := HKL.out; rw [List.length_append, flat_length pile_three]; omega))
          go_upto_region 42 with ((with_reducible refine at_store 46 (.tmp 246) (.tmp 245) ?_); go_must (refine wpList_store_mid rfl 46 (.tmp 246) (.tmp 245) rfl g (k * 3) #[Zs xc, Z O (xd + od), Z O (xw + ow)] rfl rfl HTH.out size_pile (by simp [Value.oneCell']) ?_); have HLs := HLr; clear s0 s1 s2 s3 s4; have td := HLs.out.at 1 0 (v := Z O 6) rfl rfl)
          clear td HLs HTH HL14
          have hlen6 : (l.set k ⟨xc, xd + od, xw + ow⟩).length = n := by rw [List.length_set, ← HN.out]
          have hfi6 : findInt (l.set k ⟨xc, xd + od, xw + ow⟩) other = (o : Int) := by
            unfold findInt
            rw [find_set other HKL.out (by rw [HX.out]), hfo, if_pos (by rw [hlen6]; exact hon)]
          obtain ⟨l6, hL6⟩ : ∃ l6, l6 = l.set k ⟨xc, xd + od, xw + ow⟩ := ⟨_, rfl⟩
          rw [← hL6] at HLr hlen6 hfi6
          have HL6 := Zh hL6
          clear hL6
          have HLEN := Zh hlen6; have HFO7 := Zh hfi6
          clear hlen6 hfi6
          have HL15 := HLr
          clear HLr
          generalize (v5.setCells g (k * 3) [Zs xc, Z O (xd + od), Z O (xw + ow)]) = wr at HL15 ⊢
          have s0 := (show wr.cell? ⟨gd, 0, none⟩ = some (Z O 6) from HL15.out.at 1 0 (v := Z O 6) rfl rfl)
          have s1 := (show wr.cell? ⟨gd, 3, none⟩ = some (Zs other) from HL15.out.at 1 3 (v := Zs other) rfl rfl)
          have s2 := (show wr.cell? ⟨gr, 0, none⟩ = some (Zl (some ⟨g, 0, none⟩) n cap) from HL15.out.at 0 0 (v := Zl (some ⟨g, 0, none⟩) n cap) rfl rfl)
          have s3 := (show wr.cell? ⟨gr, 1, none⟩ = some (Z O vap) from HL15.out.at 0 1 (v := Z O vap) rfl rfl)
          have s4 := (show wr.cell? ⟨gr, 2, none⟩ = some (Z O bro) from HL15.out.at 0 2 (v := Z O bro) rfl rfl)
          have s5 := (show wr.cell? ⟨gr, 3, none⟩ = some (Z O dus) from HL15.out.at 0 3 (v := Z O dus) rfl rfl)
          have s6 := (show wr.cell? ⟨gr, 4, none⟩ = some (Z O sdr) from HL15.out.at 0 4 (v := Z O sdr) rfl rfl)
          have s7 := (show wr.cell? ⟨gr, 5, none⟩ = some (Z O swa) from HL15.out.at 0 5 (v := Z O swa) rfl rfl)
          have s8 := (show wr.cell? ⟨gr, 6, none⟩ = some (Z O soa) from HL15.out.at 0 6 (v := Z O soa) rfl rfl)
          have s9 := (show wr.cell? ⟨gr, 7, none⟩ = some (Z O pdr) from HL15.out.at 0 7 (v := Z O pdr) rfl rfl)
          have s10 := (show wr.cell? ⟨gr, 8, none⟩ = some (Z O pwa) from HL15.out.at 0 8 (v := Z O pwa) rfl rfl)
          have HFI2 := Zh (find_calls (Zl (some ⟨g, 0, none⟩) n cap) (l6) vap bro dus sdr swa soa pdr pwa other wr (held_rowP (rowed_of (L := [(gr, 42, [Zl (some ⟨g, 0, none⟩) n cap, Z O vap, Z O bro, Z O dus, Z O sdr, Z O swa, Z O soa, Z O pdr, Z O pwa]), (gd, 55, [Z O 6, Z O dy, Zs code, Zs other, Z O al, Z O ah, Z O bl, Z O bh]), (ge, 42, [Zl none 0 0, Z O 0, Z O 0, Z O 0, Z O 0, Z O 0, Z O 0, Z O 0, Z O 0])]) (HL15.out.fewer (List.sublist_append_left ([(gr, 42, [Zl (some ⟨g, 0, none⟩) n cap, Z O vap, Z O bro, Z O dus, Z O sdr, Z O swa, Z O soa, Z O pdr, Z O pwa]), (gd, 55, [Z O 6, Z O dy, Zs code, Zs other, Z O al, Z O ah, Z O bl, Z O bh]), (ge, 42, [Zl none 0 0, Z O 0, Z O 0, Z O 0, Z O 0, Z O 0, Z O 0, Z O 0, Z O 0]), (g, 46, flat pileCells l6 ++ spare)] : List (Nat × TypeId × List Value)) _) (List.Sublist.refl _)) HLEN.out HCAP.out) HLEN.out (by omega)) (by rw [HLEN.out]; omega))
          go_upto_region 43 with (go_at_call 64; refine HFI2.out.mono ?_; rintro e w6 ⟨rfl, hbF⟩; rw [HFO7.out]; have HLF := Zh (HL15.out.below hbF); clear hbF)
          clear s0 s1 s2 s3 s4 s5 s6 s7 s8 s9 s10 HFI2
          have HL16 := HLF
          clear HLF HL15
          have hb1 : (0 : Int) ≤ (o : Int) := by omega
          have hb6 : (0 : Int) ≤ (o : Int) + 1 := by omega
          have hb7 : ((o : Int) + 1).toNat = o + 1 := by omega
          have HW5 := Zh (show IntKind.i64.wrap ((o : Int) + 1) = (o : Int) + 1 from by rw [IntKind.wrap_i64]; omega)
          have hb9 : n ≤ cap := HCAP.out.1
          have hb10 : o + 1 ≤ n := by omega
          have hb11 : o ≤ cap := by omega
          have hb2 : (o : Int) ≤ (n : Int) := by omega
          have hb3 : (n : Int) ≤ (cap : Int) := by omega
          have hb4 : (o : Int) + 1 ≤ (n : Int) := by omega
          have hb5 : (cap : Int) ≤ 9223372036854775807 := by have := HCAP.out.2.1; unfold maxLen at this; omega
          have hb8 : o ≤ n := by omega
          have HF1 := Zh (show (flat pileCells (l6.take o)).length = o * 3 from by rw [flat_length pile_three, List.length_take, HLEN.out, Nat.min_eq_left (by omega)])
          have HF2 := Zh (show (flat pileCells (l6.drop (o + 1))).length = (n - (o + 1)) * 3 from by rw [flat_length pile_three, List.length_drop, HLEN.out])
          have HO1 := Zh (show ∀ u ∈ flat pileCells (l6.take o), u.oneCell' = true from flat_ones pile_ones _)
          have HO2 := Zh (show ∀ u ∈ flat pileCells (l6.drop (o + 1)), u.oneCell' = true from flat_ones pile_ones _)
          have HP1 := Zh (show flat pileCells l6 ++ spare = [] ++ flat pileCells (l6.take o) ++ (flat pileCells (l6.drop o) ++ spare) from by rw [List.nil_append, ← List.append_assoc, ← flat_append, List.take_append_drop])
          have HP2 := Zh (show flat pileCells l6 ++ spare = flat pileCells (l6.take (o + 1)) ++ flat pileCells (l6.drop (o + 1)) ++ spare from by rw [← flat_append, List.take_append_drop])
          have HF3 := Zh (show (flat pileCells (l6.take (o + 1))).length = (o + 1) * 3 from by rw [flat_length pile_three, List.length_take, HLEN.out, Nat.min_eq_left (by omega)])
          have HRES := Zh (show flat pileCells (l6.take o) ++ flat pileCells (l6.drop (o + 1)) = flat pileCells (l6.take o ++ l6.drop (o + 1)) from by rw [← flat_append])
          obtain ⟨i1_, hi1, hi1a, hi1b, hi1c⟩ := info_parts info_pile
          have HI1 := Zh hi1; have HI1a := Zh hi1a; have HI1b := Zh hi1b; have HI1c := Zh hi1c
          clear hi1 hi1a hi1b hi1c
          obtain ⟨ad, had1, had2⟩ : ∃ ad : Addr, (cap = o + 1 → ad = ⟨g, 0, none⟩) ∧ (¬ cap = o + 1 → ad = ⟨g, (o + 1) * 3, none⟩) := by
            by_cases hcc : cap = o + 1
            · exact ⟨_, fun _ => rfl, fun h => absurd hcc h⟩
            · exact ⟨_, fun h => absurd h hcc, fun _ => rfl⟩
          have HAD1 := Zh had1; have HAD2 := Zh had2
          clear had1 had2
          have hmix : Try.prog.follows .mixedOrders = true := by kernel_rfl
          refine region_till [13] (fun w' => Blk w' gr 42 #[Zl (some ⟨g, 0, none⟩) n cap, Z O vap, Z O bro, Z O dus, Z O sdr, Z O swa, Z O soa, Z O pdr, Z O pwa]) 14 [false, false, false, false, false, false, false, false, false, false, false, false, false, false] hmix rfl rfl ?_
          clear hmix
          have HL17 := Zh (HL16.out.drew)
          generalize w6.drew = v6 at HL17 ⊢
          have HT := Zh (show (fun w' => Blk w' gr 42 #[Zl (some ⟨g, 0, none⟩) n cap, Z O vap, Z O bro, Z O dus, Z O sdr, Z O swa, Z O soa, Z O pdr, Z O pwa]) v6 from HL17.out.blk 0 rfl)
          refine till_pure (i := 1) (v := .pointer (some ⟨gr, 0, none⟩)) rfl rfl (by kernel_rfl) (fun _ _ _ h => h) (yields_of rfl (fun w' _ => by simp [go_sem])) (fun _ => HT.out) ?_
          try simp only [List.setIfInBounds_toArray, List.set_cons_succ, List.set_cons_zero]
          refine till_load (i := 2) (v := Zl (some ⟨g, 0, none⟩) n cap) rfl rfl (by kernel_rfl) (fun _ _ _ h => h) (yields_of rfl (fun w' hw' => by have hcx : w'.cell? ⟨gr, 0, none⟩ = some (Zl (some ⟨g, 0, none⟩) n cap) := Blk.at hw' 0 _ rfl; simp [go_sem, hcx])) (fun _ => HT.out) ?_
          try simp only [List.setIfInBounds_toArray, List.set_cons_succ, List.set_cons_zero]
          refine till_pure (i := 3) (v := Z O (o : Int)) rfl rfl (by kernel_rfl) (fun _ _ _ h => h) (yields_of rfl (fun w' _ => by simp [go_sem])) (fun _ => HT.out) ?_
          try simp only [List.setIfInBounds_toArray, List.set_cons_succ, List.set_cons_zero]
          refine till_pure (i := 4) (v := Zl (some ⟨g, 0, none⟩) o cap) rfl rfl (by kernel_rfl) (fun _ _ _ h => h) (yields_of rfl (fun w' _ => by simp [go_sem, Try.underlying40, hb1, hb2, hb3, hb4, hb5, hb6, hb7, hb8, hb9, hb10, hb11])) (fun _ => HT.out) ?_
          try simp only [List.setIfInBounds_toArray, List.set_cons_succ, List.set_cons_zero]
          refine till_pure (i := 6) (v := .pointer (some ⟨gr, 0, none⟩)) rfl rfl (by kernel_rfl) (fun _ _ _ h => h) (yields_of rfl (fun w' _ => by simp [go_sem])) (fun _ => HT.out) ?_
          try simp only [List.setIfInBounds_toArray, List.set_cons_succ, List.set_cons_zero]
          refine till_load (i := 7) (v := Zl (some ⟨g, 0, none⟩) n cap) rfl rfl (by kernel_rfl) (fun _ _ _ h => h) (yields_of rfl (fun w' hw' => by have hcx : w'.cell? ⟨gr, 0, none⟩ = some (Zl (some ⟨g, 0, none⟩) n cap) := Blk.at hw' 0 _ rfl; simp [go_sem, hcx])) (fun _ => HT.out) ?_
          try simp only [List.setIfInBounds_toArray, List.set_cons_succ, List.set_cons_zero]
          refine till_pure (i := 8) (v := Z O (o : Int)) rfl rfl (by kernel_rfl) (fun _ _ _ h => h) (yields_of rfl (fun w' _ => by simp [go_sem])) (fun _ => HT.out) ?_
          try simp only [List.setIfInBounds_toArray, List.set_cons_succ, List.set_cons_zero]
          refine till_pure (i := 9) (v := Z O ((o : Int) + 1)) rfl rfl (by kernel_rfl) (fun _ _ _ h => h) (yields_of rfl (fun w' _ => by simp [go_sem, HW5.out])) (fun _ => HT.out) ?_
          try simp only [List.setIfInBounds_toArray, List.set_cons_succ, List.set_cons_zero]
          refine till_pure (i := 10) (v := Zl (some ad) (n - (o + 1)) (cap - (o + 1))) rfl rfl (by kernel_rfl) (fun _ _ _ h => h) (yields_of rfl (fun w' _ => by by_cases hcc : cap = o + 1; (have hcd := HAD1.out hcc; subst hcd; simp [go_sem, Try.underlying40, hb1, hb2, hb3, hb4, hb5, hb6, hb7, hb8, hb9, hb10, hb11, hcc]); (have hcd := HAD2.out hcc; subst hcd; simp [go_sem, Try.underlying40, hb1, hb2, hb3, hb4, hb5, hb6, hb7, hb8, hb9, hb10, hb11, hcc]))) (fun _ => HT.out) ?_
          try simp only [List.setIfInBounds_toArray, List.set_cons_succ, List.set_cons_zero]
          refine till_only (j := 0) (by kernel_rfl) rfl ?_
          go_wp2_with fail
          have HOWN := Zh (owns_emptyB v6)
          have HLT := Zh (show ∀ x ∈ ([(gr, 42, [Zl (some ⟨g, 0, none⟩) n cap, Z O vap, Z O bro, Z O dus, Z O sdr, Z O swa, Z O soa, Z O pdr, Z O pwa]), (gd, 55, [Z O 6, Z O dy, Zs code, Zs other, Z O al, Z O ah, Z O bl, Z O bh]), (ge, 42, [Zl none 0 0, Z O 0, Z O 0, Z O 0, Z O 0, Z O 0, Z O 0, Z O 0, Z O 0]), (g, 46, flat pileCells l6 ++ spare), (gx, 46, [Zs xc, Z O (xd + od), Z O (xw + ow)])] : List (Nat × TypeId × List Value)), x.1 < v6.heap.size from fun x hx => (HL17.out.loc x hx).1.lt)
          have HLW := Zh HL17.out.low.size
          have HBS := Zh (show v6.heap.size ≤ (v6.alloc (.cells #[] 46)).heap.size from by rw [World.size_alloc]; omega)
          have HL18 := Zh (HL17.out.below ((Below.refl v6.heap.size v6).alloc (Nat.le_refl _) (.cells #[] 46)))
          clear HL17
          generalize (v6.alloc (.cells #[] 46)) = v7 at HL18 HOWN HBS ⊢
          generalize v6.heap.size = B at HOWN HBS HLT HLW ⊢
          have HT := Zh (show (fun w' => Blk w' gr 42 #[Zl (some ⟨g, 0, none⟩) n cap, Z O vap, Z O bro, Z O dus, Z O sdr, Z O swa, Z O soa, Z O pdr, Z O pwa]) v7 from HL18.out.blk 0 rfl)
          refine ⟨(fun _ => HT.out), ?_⟩
          try simp only [List.setIfInBounds_toArray, List.set_cons_succ, List.set_cons_zero]
          refine till_only (j := 5) (by kernel_rfl) rfl ?_
          refine wpList_append_own _ rfl (.tmp 270) (.tmp 274) 40 rfl B 46 i1_ (.agg #[Zs ⟨#[]⟩, Z O 0, Z O 0]) 3 32 Try.underlying40 HI1.out HI1a.out HI1b.out HI1c.out rfl (by decide) (Zl (some ⟨B, 0, none⟩) 0 0) (0) ([]) rfl HOWN.out (⟨g, 0, none⟩) (o) (cap) (flat pileCells (l6.take o)) rfl HF1.out (fun j u hu => cells_part (a := []) (b := flat pileCells (l6.take o)) (by rw [← HP1.out]; exact HL18.out.blk 3 rfl) j u hu) HO1.out (by unfold maxLen; omega) (by omega) HBS.out ?_
          intro va w7 hown7 hgrow7 hnil7
          simp only [Nat.zero_add, List.nil_append] at hown7
          have hne7 : va ≠ Zl none 0 0 := (fun hh => (by have := (hnil7.1 hh).1; cases this))
          obtain ⟨g7, cap7, cur7, hv7, hcur7, hcap7, hcapm7, hgw7, hcs7, hgtake7⟩ := row_blockP hown7 hne7
          subst hv7
          have HL19 := Zh (HL18.out.belowAt ((Below.refl B v7).grown hgrow7 HBS.out (fun k e => (by cases e; exact Nat.le_refl _))) HLW.out HLT.out)
          have HOWN2 := Zh hown7
          have HGE_g7 := Zh hgw7
          have HBS2 := Zh (Nat.le_trans HBS.out hgrow7.size)
          clear hown7 hgrow7 hnil7 hne7 hcur7 hcap7 hcapm7 hgw7 hcs7 hgtake7
          clear HL18 HOWN HBS
          have HOWN := HOWN2; have HBS := HBS2
          clear HOWN2 HBS2
          change Till _ _ _ _ ∧ wpAnyT _ _ _ _ _ _ _ _ _ _
          try simp only [Act.put, List.setIfInBounds_toArray, List.set_cons_succ, List.set_cons_zero]
          have HT := Zh (show (fun w' => Blk w' gr 42 #[Zl (some ⟨g, 0, none⟩) n cap, Z O vap, Z O bro, Z O dus, Z O sdr, Z O swa, Z O soa, Z O pdr, Z O pwa]) w7 from HL19.out.blk 0 rfl)
          refine ⟨(fun _ => HT.out), ?_⟩
          try simp only [List.setIfInBounds_toArray, List.set_cons_succ, List.set_cons_zero]
          refine till_only (j := 11) (by kernel_rfl) rfl ?_
          refine wpList_append_own _ rfl (.tmp 275) (.tmp 280) 40 rfl B 46 i1_ (.agg #[Zs ⟨#[]⟩, Z O 0, Z O 0]) 3 32 Try.underlying40 HI1.out HI1a.out HI1b.out HI1c.out rfl (by decide) (Zl (some ⟨g7, 0, none⟩) o cap7) (o) (flat pileCells (l6.take o)) rfl HOWN.out (ad) (n - (o + 1)) (cap - (o + 1)) (flat pileCells (l6.drop (o + 1))) rfl HF2.out (fun j u hu => by rcases Nat.eq_zero_or_pos (n - (o + 1)) with h0 | h0; (have h1 := (List.getElem?_eq_some_iff.1 hu).1; rw [HF2.out, h0] at h1; omega); (rw [HAD2.out (by omega), ← HF3.out]; exact cells_part (by rw [← HP2.out]; exact HL19.out.blk 3 rfl) j u hu)) HO2.out (by unfold maxLen; omega) (by omega) HBS.out ?_
          intro va w8 hown7 hgrow7 hnil7
          have hne7 : va ≠ Zl none 0 0 := (fun hh => (by have := (hnil7.1 hh).1; cases this))
          obtain ⟨g8, cap8, cur7, hv7, hcur7, hcap7, hcapm7, hgw7, hcs7, hgtake7⟩ := row_blockP hown7 hne7
          subst hv7
          have HL20 := Zh (HL19.out.belowAt ((Below.refl B w7).grown hgrow7 HBS.out (fun k e => (by cases e; exact HGE_g7.out))) HLW.out HLT.out)
          have HOWN2 := Zh hown7
          have HGE_g8 := Zh hgw7
          have HBS2 := Zh (Nat.le_trans HBS.out hgrow7.size)
          clear hown7 hgrow7 hnil7 hne7 hcur7 hcap7 hcapm7 hgw7 hcs7 hgtake7
          clear HL19 HOWN HBS
          have HOWN := HOWN2; have HBS := HBS2
          clear HOWN2 HBS2
          change Till _ _ _ _ ∧ wpAnyT _ _ _ _ _ _ _ _ _ _
          try simp only [Act.put, List.setIfInBounds_toArray, List.set_cons_succ, List.set_cons_zero]
          have HT := Zh (show (fun w' => Blk w' gr 42 #[Zl (some ⟨g, 0, none⟩) n cap, Z O vap, Z O bro, Z O dus, Z O sdr, Z O swa, Z O soa, Z O pdr, Z O pwa]) w8 from HL20.out.blk 0 rfl)
          refine ⟨(fun _ => HT.out), ?_⟩
          try simp only [List.setIfInBounds_toArray, List.set_cons_succ, List.set_cons_zero]
          refine till_pure (i := 12) (v := .pointer (some ⟨gr, 0, none⟩)) rfl rfl (by kernel_rfl) (fun _ _ _ h => h) (yields_of rfl (fun w' _ => by simp [go_sem])) (fun _ => HT.out) ?_
          try simp only [List.setIfInBounds_toArray, List.set_cons_succ, List.set_cons_zero]
          refine till_only (j := 13) (by kernel_rfl) rfl ?_
          have HR := Zh (show Rowed w w8 ([(gr, 42, [Zl (some ⟨g, 0, none⟩) n cap, Z O vap, Z O bro, Z O dus, Z O sdr, Z O swa, Z O soa, Z O pdr, Z O pwa]), (gd, 55, [Z O 6, Z O dy, Zs code, Zs other, Z O al, Z O ah, Z O bl, Z O bh]), (ge, 42, [Zl none 0 0, Z O 0, Z O 0, Z O 0, Z O 0, Z O 0, Z O 0, Z O 0, Z O 0]), (g, 46, flat pileCells l6 ++ spare), (gx, 46, [Zs xc, Z O (xd + od), Z O (xw + ow)])] : List (Nat × TypeId × List Value)) 46 3 (Zl (some ⟨g8, 0, none⟩) (o + (n - (o + 1))) cap8) (o + (n - (o + 1))) (flat pileCells (l6.take o) ++ flat pileCells (l6.drop (o + 1))) from ⟨owns_lower HOWN.out HLW.out, fun x hx e => by have q1 := HLT.out x hx; have q2 := HGE_g8.out; have e2 : g8 = x.1 := (by injection e); omega⟩)
          have hc9 : w8.cell? ⟨gr, 0, none⟩ = some (Zl (some ⟨g, 0, none⟩) n cap) := HL20.out.at 0 0 (v := Zl (some ⟨g, 0, none⟩) n cap) rfl rfl
          have hf9 := HL20.out.frozen 0 rfl 0
          go_wp2_with fail
          clear hc9 hf9
          have HR2 := Zh (show Rowed w (w8.setCell ⟨gr, 0, none⟩ (Zl (some ⟨g8, 0, none⟩) (o + (n - (o + 1))) cap8)) ([(gr, 42, [Zl (some ⟨g8, 0, none⟩) (o + (n - (o + 1))) cap8, Z O vap, Z O bro, Z O dus, Z O sdr, Z O swa, Z O soa, Z O pdr, Z O pwa]), (gd, 55, [Z O 6, Z O dy, Zs code, Zs other, Z O al, Z O ah, Z O bl, Z O bh]), (ge, 42, [Zl none 0 0, Z O 0, Z O 0, Z O 0, Z O 0, Z O 0, Z O 0, Z O 0, Z O 0]), (g, 46, flat pileCells l6 ++ spare), (gx, 46, [Zs xc, Z O (xd + od), Z O (xw + ow)])] : List (Nat × TypeId × List Value)) 46 3 (Zl (some ⟨g8, 0, none⟩) (o + (n - (o + 1))) cap8) (o + (n - (o + 1))) (flat pileCells (l6.take o) ++ flat pileCells (l6.drop (o + 1))) from HR.out.setLoc1 0 rfl 0 (Zl (some ⟨g8, 0, none⟩) (o + (n - (o + 1))) cap8) (cs' := [Zl (some ⟨g8, 0, none⟩) (o + (n - (o + 1))) cap8, Z O vap, Z O bro, Z O dus, Z O sdr, Z O swa, Z O soa, Z O pdr, Z O pwa]))
          clear HR HOWN HBS
          have HL21 := Zh (show Locs w (w8.setCell ⟨gr, 0, none⟩ (Zl (some ⟨g8, 0, none⟩) (o + (n - (o + 1))) cap8)) [(gr, 42, [Zl (some ⟨g8, 0, none⟩) (o + (n - (o + 1))) cap8, Z O vap, Z O bro, Z O dus, Z O sdr, Z O swa, Z O soa, Z O pdr, Z O pwa]), (gd, 55, [Z O 6, Z O dy, Zs code, Zs other, Z O al, Z O ah, Z O bl, Z O bh]), (ge, 42, [Zl none 0 0, Z O 0, Z O 0, Z O 0, Z O 0, Z O 0, Z O 0, Z O 0, Z O 0]), (g, 46, flat pileCells l6 ++ spare), (gx, 46, [Zs xc, Z O (xd + od), Z O (xw + ow)])] [] from HL20.out.setLoc1 0 [] [Z O vap, Z O bro, Z O dus, Z O sdr, Z O swa, Z O soa, Z O pdr, Z O pwa] (Zl (some ⟨g, 0, none⟩) n cap) (Zl (some ⟨g8, 0, none⟩) (o + (n - (o + 1))) cap8) 0 rfl rfl)
          clear HL20
          generalize (w8.setCell ⟨gr, 0, none⟩ (Zl (some ⟨g8, 0, none⟩) (o + (n - (o + 1))) cap8)) = v8 at HL21 HR2 ⊢
          refine ⟨(fun h => by simp at h), ?_⟩
          try simp only [List.setIfInBounds_toArray, List.set_cons_succ, List.set_cons_zero]
          refine till_done (by kernel_rfl) ?_
          clear HT
          try simp only [Act.put]
          have s0 := (show v8.cell? ⟨gd, 0, none⟩ = some (Z O 6) from HL21.out.at 1 0 (v := Z O 6) rfl rfl)
          have s1 := (show v8.cell? ⟨gr, 0, none⟩ = some (Zl (some ⟨g8, 0, none⟩) (o + (n - (o + 1))) cap8) from HL21.out.at 0 0 (v := Zl (some ⟨g8, 0, none⟩) (o + (n - (o + 1))) cap8) rfl rfl)
          have s2 := (show v8.cell? ⟨gr, 1, none⟩ = some (Z O vap) from HL21.out.at 0 1 (v := Z O vap) rfl rfl)
          have s3 := (show v8.cell? ⟨gr, 2, none⟩ = some (Z O bro) from HL21.out.at 0 2 (v := Z O bro) rfl rfl)
          have s4 := (show v8.cell? ⟨gr, 3, none⟩ = some (Z O dus) from HL21.out.at 0 3 (v := Z O dus) rfl rfl)
          have s5 := (show v8.cell? ⟨gr, 4, none⟩ = some (Z O sdr) from HL21.out.at 0 4 (v := Z O sdr) rfl rfl)
          have s6 := (show v8.cell? ⟨gr, 5, none⟩ = some (Z O swa) from HL21.out.at 0 5 (v := Z O swa) rfl rfl)
          have s7 := (show v8.cell? ⟨gr, 6, none⟩ = some (Z O soa) from HL21.out.at 0 6 (v := Z O soa) rfl rfl)
          have s8 := (show v8.cell? ⟨gr, 7, none⟩ = some (Z O pdr) from HL21.out.at 0 7 (v := Z O pdr) rfl rfl)
          have s9 := (show v8.cell? ⟨gr, 8, none⟩ = some (Z O pwa) from HL21.out.at 0 8 (v := Z O pwa) rfl rfl)
          go_wp2_with ((with_reducible refine at_store 42 (.tmp 8) (.tmp 283) ?_); go_must (refine wpList_store_mid rfl 42 (.tmp 8) (.tmp 283) rfl ge 0 #[Zl (some ⟨g8, 0, none⟩) (o + (n - (o + 1))) cap8, Z O vap, Z O bro, Z O dus, Z O sdr, Z O swa, Z O soa, Z O pdr, Z O pwa] rfl rfl (HL21.out.there 2 (o := 0) (n := 9) rfl (Nat.le_of_ble_eq_true rfl)) size_real (by simp [Value.oneCell']) ?_))
          clear s0 s1 s2 s3 s4 s5 s6 s7 s8 s9
          have HRf := Zh (show Rowed w (v8.setCells ge 0 [Zl (some ⟨g8, 0, none⟩) (o + (n - (o + 1))) cap8, Z O vap, Z O bro, Z O dus, Z O sdr, Z O swa, Z O soa, Z O pdr, Z O pwa]) ([(gr, 42, [Zl (some ⟨g8, 0, none⟩) (o + (n - (o + 1))) cap8, Z O vap, Z O bro, Z O dus, Z O sdr, Z O swa, Z O soa, Z O pdr, Z O pwa]), (gd, 55, [Z O 6, Z O dy, Zs code, Zs other, Z O al, Z O ah, Z O bl, Z O bh]), (ge, 42, [Zl (some ⟨g8, 0, none⟩) (o + (n - (o + 1))) cap8, Z O vap, Z O bro, Z O dus, Z O sdr, Z O swa, Z O soa, Z O pdr, Z O pwa]), (g, 46, flat pileCells l6 ++ spare), (gx, 46, [Zs xc, Z O (xd + od), Z O (xw + ow)])] : List (Nat × TypeId × List Value)) 46 3 (Zl (some ⟨g8, 0, none⟩) (o + (n - (o + 1))) cap8) (o + (n - (o + 1))) (flat pileCells (l6.take o) ++ flat pileCells (l6.drop (o + 1))) from HR2.out.setLoc 2 rfl 0 [Zl (some ⟨g8, 0, none⟩) (o + (n - (o + 1))) cap8, Z O vap, Z O bro, Z O dus, Z O sdr, Z O swa, Z O soa, Z O pdr, Z O pwa] (cs' := [Zl (some ⟨g8, 0, none⟩) (o + (n - (o + 1))) cap8, Z O vap, Z O bro, Z O dus, Z O sdr, Z O swa, Z O soa, Z O pdr, Z O pwa]))
          have HLf := Zh (show Locs w (v8.setCells ge 0 [Zl (some ⟨g8, 0, none⟩) (o + (n - (o + 1))) cap8, Z O vap, Z O bro, Z O dus, Z O sdr, Z O swa, Z O soa, Z O pdr, Z O pwa]) [(gr, 42, [Zl (some ⟨g8, 0, none⟩) (o + (n - (o + 1))) cap8, Z O vap, Z O bro, Z O dus, Z O sdr, Z O swa, Z O soa, Z O pdr, Z O pwa]), (gd, 55, [Z O 6, Z O dy, Zs code, Zs other, Z O al, Z O ah, Z O bl, Z O bh]), (ge, 42, [Zl (some ⟨g8, 0, none⟩) (o + (n - (o + 1))) cap8, Z O vap, Z O bro, Z O dus, Z O sdr, Z O swa, Z O soa, Z O pdr, Z O pwa]), (g, 46, flat pileCells l6 ++ spare), (gx, 46, [Zs xc, Z O (xd + od), Z O (xw + ow)])] [] from HL21.out.setLoc 2 [] [Zl none 0 0, Z O 0, Z O 0, Z O 0, Z O 0, Z O 0, Z O 0, Z O 0, Z O 0] [] [Zl (some ⟨g8, 0, none⟩) (o + (n - (o + 1))) cap8, Z O vap, Z O bro, Z O dus, Z O sdr, Z O swa, Z O soa, Z O pdr, Z O pwa] rfl rfl)
          have r0 := HLf.out.at 2 0 (v := Zl (some ⟨g8, 0, none⟩) (o + (n - (o + 1))) cap8) rfl rfl
          have r1 := HLf.out.at 2 1 (v := Z O vap) rfl rfl
          have r2 := HLf.out.at 2 2 (v := Z O bro) rfl rfl
          have r3 := HLf.out.at 2 3 (v := Z O dus) rfl rfl
          have r4 := HLf.out.at 2 4 (v := Z O sdr) rfl rfl
          have r5 := HLf.out.at 2 5 (v := Z O swa) rfl rfl
          have r6 := HLf.out.at 2 6 (v := Z O soa) rfl rfl
          have r7 := HLf.out.at 2 7 (v := Z O pdr) rfl rfl
          have r8 := HLf.out.at 2 8 (v := Z O pwa) rfl rfl
          refine bodyPost_ret (v := .tuple #[.agg #[Zl (some ⟨g8, 0, none⟩) (o + (n - (o + 1))) cap8, Z O vap, Z O bro, Z O dus, Z O sdr, Z O swa, Z O soa, Z O pdr, Z O pwa], .bool true]) (by simp [results, Try.results44, go_sem, r0, r1, r2, r3, r4, r5, r6, r7, r8]) rfl ?_
          rw [HEA.out]
          have HRg := HRf.out
          rw [HRES.out] at HRg
          have hll : (l6.take o ++ l6.drop (o + 1)).length = (o + (n - (o + 1))) := by rw [List.length_append, List.length_take, List.length_drop, HLEN.out]; omega
          have hL6 := HL6.out
          subst hL6
          exact ⟨_, rfl, HLf.out.low, held_rowP HRg hll (by omega), .inr ⟨g8, 0, cap8, by rw [hll]⟩⟩
        · skip
          have hmo := hol
          have HEA := Zh (show Yd.Real.act ⟨l, vap, bro, dus, sdr, swa, soa, pdr, pwa⟩ ⟨6, dy, code, other, ⟨al, ah⟩, ⟨bl, bh⟩⟩ pa pb = none from by
            rw [act_hit (by simp) HACT.out]
            rw [if_neg (fun hh => by cases hh.1), if_pos ⟨rfl, hmo⟩])
          have HFO6 := Zh (show findInt l other = -1 from by unfold findInt; rw [if_neg hmo])
          clear hmo
          have s0 := (show v2.cell? ⟨gd, 0, none⟩ = some (Z O 6) from HL10.out.at 1 0 (v := Z O 6) rfl rfl)
          have s1 := (show v2.cell? ⟨gd, 3, none⟩ = some (Zs other) from HL10.out.at 1 3 (v := Zs other) rfl rfl)
          have s2 := (show v2.cell? ⟨gr, 0, none⟩ = some (Zl (some ⟨g, 0, none⟩) n cap) from HL10.out.at 0 0 (v := Zl (some ⟨g, 0, none⟩) n cap) rfl rfl)
          have s3 := (show v2.cell? ⟨gr, 1, none⟩ = some (Z O vap) from HL10.out.at 0 1 (v := Z O vap) rfl rfl)
          have s4 := (show v2.cell? ⟨gr, 2, none⟩ = some (Z O bro) from HL10.out.at 0 2 (v := Z O bro) rfl rfl)
          have s5 := (show v2.cell? ⟨gr, 3, none⟩ = some (Z O dus) from HL10.out.at 0 3 (v := Z O dus) rfl rfl)
          have s6 := (show v2.cell? ⟨gr, 4, none⟩ = some (Z O sdr) from HL10.out.at 0 4 (v := Z O sdr) rfl rfl)
          have s7 := (show v2.cell? ⟨gr, 5, none⟩ = some (Z O swa) from HL10.out.at 0 5 (v := Z O swa) rfl rfl)
          have s8 := (show v2.cell? ⟨gr, 6, none⟩ = some (Z O soa) from HL10.out.at 0 6 (v := Z O soa) rfl rfl)
          have s9 := (show v2.cell? ⟨gr, 7, none⟩ = some (Z O pdr) from HL10.out.at 0 7 (v := Z O pdr) rfl rfl)
          have s10 := (show v2.cell? ⟨gr, 8, none⟩ = some (Z O pwa) from HL10.out.at 0 8 (v := Z O pwa) rfl rfl)
          have HFI2 := Zh (find_calls (Zl (some ⟨g, 0, none⟩) n cap) (l) vap bro dus sdr swa soa pdr pwa other v2 (held_rowP (rowed_of (L := [(gr, 42, [Zl (some ⟨g, 0, none⟩) n cap, Z O vap, Z O bro, Z O dus, Z O sdr, Z O swa, Z O soa, Z O pdr, Z O pwa]), (gd, 55, [Z O 6, Z O dy, Zs code, Zs other, Z O al, Z O ah, Z O bl, Z O bh]), (ge, 42, [Zl none 0 0, Z O 0, Z O 0, Z O 0, Z O 0, Z O 0, Z O 0, Z O 0, Z O 0])]) (HL10.out.fewer (List.sublist_append_left ([(gr, 42, [Zl (some ⟨g, 0, none⟩) n cap, Z O vap, Z O bro, Z O dus, Z O sdr, Z O swa, Z O soa, Z O pdr, Z O pwa]), (gd, 55, [Z O 6, Z O dy, Zs code, Zs other, Z O al, Z O ah, Z O bl, Z O bh]), (ge, 42, [Zl none 0 0, Z O 0, Z O 0, Z O 0, Z O 0, Z O 0, Z O 0, Z O 0, Z O 0]), (g, 46, flat pileCells l ++ spare)] : List (Nat × TypeId × List Value)) _) (List.Sublist.refl _)) HN.out.symm HCAP.out) HN.out.symm (by omega)) (by rw [HN.out.symm]; omega))
          go_wp2_with (first
            | (go_at_call 64; refine HFI2.out.mono ?_; rintro e w5 ⟨rfl, hbF⟩; rw [HFO6.out]; have HLF := Zh (HL10.out.below hbF); clear hbF; clear s0 s1 s2 s3 s4 s5 s6 s7 s8 s9 s10; have z0 := HLF.out.at 0 0 (v := Zl (some ⟨g, 0, none⟩) n cap) rfl rfl; have z1 := HLF.out.at 0 1 (v := Z O vap) rfl rfl; have z2 := HLF.out.at 0 2 (v := Z O bro) rfl rfl; have z3 := HLF.out.at 0 3 (v := Z O dus) rfl rfl; have z4 := HLF.out.at 0 4 (v := Z O sdr) rfl rfl; have z5 := HLF.out.at 0 5 (v := Z O swa) rfl rfl; have z6 := HLF.out.at 0 6 (v := Z O soa) rfl rfl; have z7 := HLF.out.at 0 7 (v := Z O pdr) rfl rfl; have z8 := HLF.out.at 0 8 (v := Z O pwa) rfl rfl)
            | ((with_reducible refine at_store 42 (.tmp 8) (.tmp 184) ?_); go_must (refine wpList_store_mid rfl 42 (.tmp 8) (.tmp 184) rfl ge 0 #[Zl (some ⟨g, 0, none⟩) n cap, Z O vap, Z O bro, Z O dus, Z O sdr, Z O swa, Z O soa, Z O pdr, Z O pwa] rfl rfl (HLF.out.there 2 (o := 0) (n := 9) rfl (Nat.le_of_ble_eq_true rfl)) size_real (by simp [Value.oneCell']) ?_)))
          clear z0 z1 z2 z3 z4 z5 z6 z7 z8
          have HLf := Zh (show Locs w (w5.setCells ge 0 [Zl (some ⟨g, 0, none⟩) n cap, Z O vap, Z O bro, Z O dus, Z O sdr, Z O swa, Z O soa, Z O pdr, Z O pwa]) [(gr, 42, [Zl (some ⟨g, 0, none⟩) n cap, Z O vap, Z O bro, Z O dus, Z O sdr, Z O swa, Z O soa, Z O pdr, Z O pwa]), (gd, 55, [Z O 6, Z O dy, Zs code, Zs other, Z O al, Z O ah, Z O bl, Z O bh]), (ge, 42, [Zl (some ⟨g, 0, none⟩) n cap, Z O vap, Z O bro, Z O dus, Z O sdr, Z O swa, Z O soa, Z O pdr, Z O pwa]), (g, 46, flat pileCells l ++ spare), (gx, 46, [Zs xc, Z O xd, Z O xw])] [] from HLF.out.setLoc 2 [] [Zl none 0 0, Z O 0, Z O 0, Z O 0, Z O 0, Z O 0, Z O 0, Z O 0, Z O 0] [] [Zl (some ⟨g, 0, none⟩) n cap, Z O vap, Z O bro, Z O dus, Z O sdr, Z O swa, Z O soa, Z O pdr, Z O pwa] rfl rfl)
          have r0 := HLf.out.at 2 0 (v := Zl (some ⟨g, 0, none⟩) n cap) rfl rfl
          have r1 := HLf.out.at 2 1 (v := Z O vap) rfl rfl
          have r2 := HLf.out.at 2 2 (v := Z O bro) rfl rfl
          have r3 := HLf.out.at 2 3 (v := Z O dus) rfl rfl
          have r4 := HLf.out.at 2 4 (v := Z O sdr) rfl rfl
          have r5 := HLf.out.at 2 5 (v := Z O swa) rfl rfl
          have r6 := HLf.out.at 2 6 (v := Z O soa) rfl rfl
          have r7 := HLf.out.at 2 7 (v := Z O pdr) rfl rfl
          have r8 := HLf.out.at 2 8 (v := Z O pwa) rfl rfl
          refine bodyPost_ret (v := .tuple #[.agg #[Zl (some ⟨g, 0, none⟩) n cap, Z O vap, Z O bro, Z O dus, Z O sdr, Z O swa, Z O soa, Z O pdr, Z O pwa], .bool false]) (by simp [results, Try.results44, go_sem, r0, r1, r2, r3, r4, r5, r6, r7, r8]) rfl ?_
          rw [HEA.out]
          exact ⟨_, _, _, _, _, _, _, _, _, _, _, rfl, HLf.out.low⟩
      by_cases k7 : kind = 7
      · subst k7
        by_cases hin : al ≤ xd + xw ∧ xd + xw ≤ ah
        · skip
          have HEA := Zh (show Yd.Real.act ⟨l, vap, bro, dus, sdr, swa, soa, pdr, pwa⟩ ⟨7, dy, code, other, ⟨al, ah⟩, ⟨bl, bh⟩⟩ pa pb = (some ⟨l.set k ⟨xc, xd, xw⟩, vap, bro, dus, sdr, swa, soa, pdr, pwa⟩) from by
            rw [act_hit (by simp) HACT.out]; try rw [HFK.out]
            rw [if_neg (fun hh => by cases hh.1), if_neg (fun hh => by cases hh.1), if_neg (fun hh => hh.2 hin)]
            rfl)
          obtain ⟨hi1, hi2⟩ := hin
          have e1 : decide (xd + xw < al) = false := by simp; omega
          have e2 : decide (ah < xd + xw) = false := by simp; omega
          have y0 := (show v2.cell? ⟨gd, 4, none⟩ = some (Z O al) from HL10.out.at 1 4 (v := Z O al) rfl rfl)
          have y1 := (show v2.cell? ⟨gd, 5, none⟩ = some (Z O ah) from HL10.out.at 1 5 (v := Z O ah) rfl rfl)
          have s0 := (show v2.cell? ⟨gx, 0, none⟩ = some (Zs xc) from HL10.out.at 4 0 (v := Zs xc) rfl rfl)
          have s1 := (show v2.cell? ⟨gx, 1, none⟩ = some (Z O xd) from HL10.out.at 4 1 (v := Z O xd) rfl rfl)
          have s2 := (show v2.cell? ⟨gx, 2, none⟩ = some (Z O xw) from HL10.out.at 4 2 (v := Z O xw) rfl rfl)
          have s3 := (show v2.cell? ⟨gd, 0, none⟩ = some (Z O 7) from HL10.out.at 1 0 (v := Z O 7) rfl rfl)
          have s4 := (show v2.cell? ⟨gr, 0, none⟩ = some (Zl (some ⟨g, 0, none⟩) n cap) from HL10.out.at 0 0 (v := Zl (some ⟨g, 0, none⟩) n cap) rfl rfl)
          have s5 := (show v2.cell? ⟨gr, 1, none⟩ = some (Z O vap) from HL10.out.at 0 1 (v := Z O vap) rfl rfl)
          have s6 := (show v2.cell? ⟨gr, 2, none⟩ = some (Z O bro) from HL10.out.at 0 2 (v := Z O bro) rfl rfl)
          have s7 := (show v2.cell? ⟨gr, 3, none⟩ = some (Z O dus) from HL10.out.at 0 3 (v := Z O dus) rfl rfl)
          have s8 := (show v2.cell? ⟨gr, 4, none⟩ = some (Z O sdr) from HL10.out.at 0 4 (v := Z O sdr) rfl rfl)
          have s9 := (show v2.cell? ⟨gr, 5, none⟩ = some (Z O swa) from HL10.out.at 0 5 (v := Z O swa) rfl rfl)
          have s10 := (show v2.cell? ⟨gr, 6, none⟩ = some (Z O soa) from HL10.out.at 0 6 (v := Z O soa) rfl rfl)
          have s11 := (show v2.cell? ⟨gr, 7, none⟩ = some (Z O pdr) from HL10.out.at 0 7 (v := Z O pdr) rfl rfl)
          have s12 := (show v2.cell? ⟨gr, 8, none⟩ = some (Z O pwa) from HL10.out.at 0 8 (v := Z O pwa) rfl rfl)
          have HLr := Zh (show Locs w (v2.setCells g (k * 3) [Zs xc, Z O xd, Z O xw]) [(gr, 42, [Zl (some ⟨g, 0, none⟩) n cap, Z O vap, Z O bro, Z O dus, Z O sdr, Z O swa, Z O soa, Z O pdr, Z O pwa]), (gd, 55, [Z O 7, Z O dy, Zs code, Zs other, Z O al, Z O ah, Z O bl, Z O bh]), (ge, 42, [Zl none 0 0, Z O 0, Z O 0, Z O 0, Z O 0, Z O 0, Z O 0, Z O 0, Z O 0]), (g, 46, flat pileCells (l.set k ⟨xc, xd, xw⟩) ++ spare), (gx, 46, [Zs xc, Z O xd, Z O xw])] [] from HL10.out.setRow 3 rfl HKL.out ⟨xc, xd, xw⟩)
          have HTH := Zh (show v2.there g (k * 3) 3 from HL10.out.there 3 rfl (by have h1 := HKL.out; rw [List.length_append, flat_length pile_three]; omega))
          go_wp2_with (first
            | ((with_reducible refine at_store 46 (.tmp 246) (.tmp 245) ?_); go_must (refine wpList_store_mid rfl 46 (.tmp 246) (.tmp 245) rfl g (k * 3) #[Zs xc, Z O xd, Z O xw] rfl rfl HTH.out size_pile (by simp [Value.oneCell']) ?_); have HLs := HLr; clear s0 s1 s2 s3 s4 s5 s6 s7 s8 s9 s10 s11 s12; have t0 := HLs.out.at 0 0 (v := Zl (some ⟨g, 0, none⟩) n cap) rfl rfl; have t1 := HLs.out.at 0 1 (v := Z O vap) rfl rfl; have t2 := HLs.out.at 0 2 (v := Z O bro) rfl rfl; have t3 := HLs.out.at 0 3 (v := Z O dus) rfl rfl; have t4 := HLs.out.at 0 4 (v := Z O sdr) rfl rfl; have t5 := HLs.out.at 0 5 (v := Z O swa) rfl rfl; have t6 := HLs.out.at 0 6 (v := Z O soa) rfl rfl; have t7 := HLs.out.at 0 7 (v := Z O pdr) rfl rfl; have t8 := HLs.out.at 0 8 (v := Z O pwa) rfl rfl; have td := HLs.out.at 1 0 (v := Z O 7) rfl rfl)
            | ((with_reducible refine at_store 42 (.tmp 8) (.tmp 283) ?_); go_must (refine wpList_store_mid rfl 42 (.tmp 8) (.tmp 283) rfl ge 0 #[Zl (some ⟨g, 0, none⟩) n cap, Z O vap, Z O bro, Z O dus, Z O sdr, Z O swa, Z O soa, Z O pdr, Z O pwa] rfl rfl (HLr.out.there 2 (o := 0) (n := 9) rfl (Nat.le_of_ble_eq_true rfl)) size_real (by simp [Value.oneCell']) ?_)))
          clear t0 t1 t2 t3 t4 t5 t6 t7 t8 td
          have HLf := Zh (show Locs w ((v2.setCells g (k * 3) [Zs xc, Z O xd, Z O xw]).setCells ge 0 [Zl (some ⟨g, 0, none⟩) n cap, Z O vap, Z O bro, Z O dus, Z O sdr, Z O swa, Z O soa, Z O pdr, Z O pwa]) [(gr, 42, [Zl (some ⟨g, 0, none⟩) n cap, Z O vap, Z O bro, Z O dus, Z O sdr, Z O swa, Z O soa, Z O pdr, Z O pwa]), (gd, 55, [Z O 7, Z O dy, Zs code, Zs other, Z O al, Z O ah, Z O bl, Z O bh]), (ge, 42, [Zl (some ⟨g, 0, none⟩) n cap, Z O vap, Z O bro, Z O dus, Z O sdr, Z O swa, Z O soa, Z O pdr, Z O pwa]), (g, 46, flat pileCells (l.set k ⟨xc, xd, xw⟩) ++ spare), (gx, 46, [Zs xc, Z O xd, Z O xw])] [] from HLr.out.setLoc 2 [] [Zl none 0 0, Z O 0, Z O 0, Z O 0, Z O 0, Z O 0, Z O 0, Z O 0, Z O 0] [] [Zl (some ⟨g, 0, none⟩) n cap, Z O vap, Z O bro, Z O dus, Z O sdr, Z O swa, Z O soa, Z O pdr, Z O pwa] rfl rfl)
          have r0 := HLf.out.at 2 0 (v := Zl (some ⟨g, 0, none⟩) n cap) rfl rfl
          have r1 := HLf.out.at 2 1 (v := Z O vap) rfl rfl
          have r2 := HLf.out.at 2 2 (v := Z O bro) rfl rfl
          have r3 := HLf.out.at 2 3 (v := Z O dus) rfl rfl
          have r4 := HLf.out.at 2 4 (v := Z O sdr) rfl rfl
          have r5 := HLf.out.at 2 5 (v := Z O swa) rfl rfl
          have r6 := HLf.out.at 2 6 (v := Z O soa) rfl rfl
          have r7 := HLf.out.at 2 7 (v := Z O pdr) rfl rfl
          have r8 := HLf.out.at 2 8 (v := Z O pwa) rfl rfl
          refine bodyPost_ret (v := .tuple #[.agg #[Zl (some ⟨g, 0, none⟩) n cap, Z O vap, Z O bro, Z O dus, Z O sdr, Z O swa, Z O soa, Z O pdr, Z O pwa], .bool true]) (by simp [results, Try.results44, go_sem, r0, r1, r2, r3, r4, r5, r6, r7, r8]) rfl ?_
          rw [HEA.out]
          have hll : (l.set k ⟨xc, xd, xw⟩).length = n := by rw [List.length_set, ← HN.out]
          have HRg := rowed_of (L := [(gr, 42, [Zl (some ⟨g, 0, none⟩) n cap, Z O vap, Z O bro, Z O dus, Z O sdr, Z O swa, Z O soa, Z O pdr, Z O pwa]), (gd, 55, [Z O 7, Z O dy, Zs code, Zs other, Z O al, Z O ah, Z O bl, Z O bh]), (ge, 42, [Zl (some ⟨g, 0, none⟩) n cap, Z O vap, Z O bro, Z O dus, Z O sdr, Z O swa, Z O soa, Z O pdr, Z O pwa])]) (HLf.out.fewer (List.sublist_append_left ([(gr, 42, [Zl (some ⟨g, 0, none⟩) n cap, Z O vap, Z O bro, Z O dus, Z O sdr, Z O swa, Z O soa, Z O pdr, Z O pwa]), (gd, 55, [Z O 7, Z O dy, Zs code, Zs other, Z O al, Z O ah, Z O bl, Z O bh]), (ge, 42, [Zl (some ⟨g, 0, none⟩) n cap, Z O vap, Z O bro, Z O dus, Z O sdr, Z O swa, Z O soa, Z O pdr, Z O pwa]), (g, 46, flat pileCells (l.set k ⟨xc, xd, xw⟩) ++ spare)] : List (Nat × TypeId × List Value)) _) (List.Sublist.refl _)) hll HCAP.out
          exact ⟨_, rfl, HLf.out.low, held_rowP HRg hll (by omega), .inr ⟨g, 0, cap, by rw [hll]⟩⟩
        · skip
          have hout : xd + xw < al ∨ ah < xd + xw := by omega
          clear hin
          have HEA := Zh (show Yd.Real.act ⟨l, vap, bro, dus, sdr, swa, soa, pdr, pwa⟩ ⟨7, dy, code, other, ⟨al, ah⟩, ⟨bl, bh⟩⟩ pa pb = none from by
            rw [act_hit (by simp) HACT.out]
            rw [if_neg (fun hh => by cases hh.1), if_neg (fun hh => by cases hh.1), if_pos ⟨rfl, by simp only; omega⟩])
          have y0 := (show v2.cell? ⟨gd, 0, none⟩ = some (Z O 7) from HL10.out.at 1 0 (v := Z O 7) rfl rfl)
          have y1 := (show v2.cell? ⟨gd, 4, none⟩ = some (Z O al) from HL10.out.at 1 4 (v := Z O al) rfl rfl)
          have y2 := (show v2.cell? ⟨gd, 5, none⟩ = some (Z O ah) from HL10.out.at 1 5 (v := Z O ah) rfl rfl)
          have y3 := (show v2.cell? ⟨gx, 1, none⟩ = some (Z O xd) from HL10.out.at 4 1 (v := Z O xd) rfl rfl)
          have y4 := (show v2.cell? ⟨gx, 2, none⟩ = some (Z O xw) from HL10.out.at 4 2 (v := Z O xw) rfl rfl)
          by_cases hlo : xd + xw < al
          · have e1 : decide (xd + xw < al) = true := by simpa using hlo
            have s0 := (show v2.cell? ⟨gr, 0, none⟩ = some (Zl (some ⟨g, 0, none⟩) n cap) from HL10.out.at 0 0 (v := Zl (some ⟨g, 0, none⟩) n cap) rfl rfl)
            have s1 := (show v2.cell? ⟨gr, 1, none⟩ = some (Z O vap) from HL10.out.at 0 1 (v := Z O vap) rfl rfl)
            have s2 := (show v2.cell? ⟨gr, 2, none⟩ = some (Z O bro) from HL10.out.at 0 2 (v := Z O bro) rfl rfl)
            have s3 := (show v2.cell? ⟨gr, 3, none⟩ = some (Z O dus) from HL10.out.at 0 3 (v := Z O dus) rfl rfl)
            have s4 := (show v2.cell? ⟨gr, 4, none⟩ = some (Z O sdr) from HL10.out.at 0 4 (v := Z O sdr) rfl rfl)
            have s5 := (show v2.cell? ⟨gr, 5, none⟩ = some (Z O swa) from HL10.out.at 0 5 (v := Z O swa) rfl rfl)
            have s6 := (show v2.cell? ⟨gr, 6, none⟩ = some (Z O soa) from HL10.out.at 0 6 (v := Z O soa) rfl rfl)
            have s7 := (show v2.cell? ⟨gr, 7, none⟩ = some (Z O pdr) from HL10.out.at 0 7 (v := Z O pdr) rfl rfl)
            have s8 := (show v2.cell? ⟨gr, 8, none⟩ = some (Z O pwa) from HL10.out.at 0 8 (v := Z O pwa) rfl rfl)
            go_wp2_with ((with_reducible refine at_store 42 (.tmp 8) (.tmp 227) ?_); go_must (refine wpList_store_mid rfl 42 (.tmp 8) (.tmp 227) rfl ge 0 #[Zl (some ⟨g, 0, none⟩) n cap, Z O vap, Z O bro, Z O dus, Z O sdr, Z O swa, Z O soa, Z O pdr, Z O pwa] rfl rfl (HL10.out.there 2 (o := 0) (n := 9) rfl (Nat.le_of_ble_eq_true rfl)) size_real (by simp [Value.oneCell']) ?_))
            clear s0 s1 s2 s3 s4 s5 s6 s7 s8
            have HLf := Zh (show Locs w (v2.setCells ge 0 [Zl (some ⟨g, 0, none⟩) n cap, Z O vap, Z O bro, Z O dus, Z O sdr, Z O swa, Z O soa, Z O pdr, Z O pwa]) [(gr, 42, [Zl (some ⟨g, 0, none⟩) n cap, Z O vap, Z O bro, Z O dus, Z O sdr, Z O swa, Z O soa, Z O pdr, Z O pwa]), (gd, 55, [Z O 7, Z O dy, Zs code, Zs other, Z O al, Z O ah, Z O bl, Z O bh]), (ge, 42, [Zl (some ⟨g, 0, none⟩) n cap, Z O vap, Z O bro, Z O dus, Z O sdr, Z O swa, Z O soa, Z O pdr, Z O pwa]), (g, 46, flat pileCells l ++ spare), (gx, 46, [Zs xc, Z O xd, Z O xw])] [] from HL10.out.setLoc 2 [] [Zl none 0 0, Z O 0, Z O 0, Z O 0, Z O 0, Z O 0, Z O 0, Z O 0, Z O 0] [] [Zl (some ⟨g, 0, none⟩) n cap, Z O vap, Z O bro, Z O dus, Z O sdr, Z O swa, Z O soa, Z O pdr, Z O pwa] rfl rfl)
            have r0 := HLf.out.at 2 0 (v := Zl (some ⟨g, 0, none⟩) n cap) rfl rfl
            have r1 := HLf.out.at 2 1 (v := Z O vap) rfl rfl
            have r2 := HLf.out.at 2 2 (v := Z O bro) rfl rfl
            have r3 := HLf.out.at 2 3 (v := Z O dus) rfl rfl
            have r4 := HLf.out.at 2 4 (v := Z O sdr) rfl rfl
            have r5 := HLf.out.at 2 5 (v := Z O swa) rfl rfl
            have r6 := HLf.out.at 2 6 (v := Z O soa) rfl rfl
            have r7 := HLf.out.at 2 7 (v := Z O pdr) rfl rfl
            have r8 := HLf.out.at 2 8 (v := Z O pwa) rfl rfl
            refine bodyPost_ret (v := .tuple #[.agg #[Zl (some ⟨g, 0, none⟩) n cap, Z O vap, Z O bro, Z O dus, Z O sdr, Z O swa, Z O soa, Z O pdr, Z O pwa], .bool false]) (by simp [results, Try.results44, go_sem, r0, r1, r2, r3, r4, r5, r6, r7, r8]) rfl ?_
            rw [HEA.out]
            exact ⟨_, _, _, _, _, _, _, _, _, _, _, rfl, HLf.out.low⟩
          · have e1 : decide (xd + xw < al) = false := by simpa using hlo
            have e2 : decide (ah < xd + xw) = true := by simp; omega
            have s0 := (show v2.cell? ⟨gr, 0, none⟩ = some (Zl (some ⟨g, 0, none⟩) n cap) from HL10.out.at 0 0 (v := Zl (some ⟨g, 0, none⟩) n cap) rfl rfl)
            have s1 := (show v2.cell? ⟨gr, 1, none⟩ = some (Z O vap) from HL10.out.at 0 1 (v := Z O vap) rfl rfl)
            have s2 := (show v2.cell? ⟨gr, 2, none⟩ = some (Z O bro) from HL10.out.at 0 2 (v := Z O bro) rfl rfl)
            have s3 := (show v2.cell? ⟨gr, 3, none⟩ = some (Z O dus) from HL10.out.at 0 3 (v := Z O dus) rfl rfl)
            have s4 := (show v2.cell? ⟨gr, 4, none⟩ = some (Z O sdr) from HL10.out.at 0 4 (v := Z O sdr) rfl rfl)
            have s5 := (show v2.cell? ⟨gr, 5, none⟩ = some (Z O swa) from HL10.out.at 0 5 (v := Z O swa) rfl rfl)
            have s6 := (show v2.cell? ⟨gr, 6, none⟩ = some (Z O soa) from HL10.out.at 0 6 (v := Z O soa) rfl rfl)
            have s7 := (show v2.cell? ⟨gr, 7, none⟩ = some (Z O pdr) from HL10.out.at 0 7 (v := Z O pdr) rfl rfl)
            have s8 := (show v2.cell? ⟨gr, 8, none⟩ = some (Z O pwa) from HL10.out.at 0 8 (v := Z O pwa) rfl rfl)
            go_wp2_with ((with_reducible refine at_store 42 (.tmp 8) (.tmp 227) ?_); go_must (refine wpList_store_mid rfl 42 (.tmp 8) (.tmp 227) rfl ge 0 #[Zl (some ⟨g, 0, none⟩) n cap, Z O vap, Z O bro, Z O dus, Z O sdr, Z O swa, Z O soa, Z O pdr, Z O pwa] rfl rfl (HL10.out.there 2 (o := 0) (n := 9) rfl (Nat.le_of_ble_eq_true rfl)) size_real (by simp [Value.oneCell']) ?_))
            clear s0 s1 s2 s3 s4 s5 s6 s7 s8
            have HLf := Zh (show Locs w (v2.setCells ge 0 [Zl (some ⟨g, 0, none⟩) n cap, Z O vap, Z O bro, Z O dus, Z O sdr, Z O swa, Z O soa, Z O pdr, Z O pwa]) [(gr, 42, [Zl (some ⟨g, 0, none⟩) n cap, Z O vap, Z O bro, Z O dus, Z O sdr, Z O swa, Z O soa, Z O pdr, Z O pwa]), (gd, 55, [Z O 7, Z O dy, Zs code, Zs other, Z O al, Z O ah, Z O bl, Z O bh]), (ge, 42, [Zl (some ⟨g, 0, none⟩) n cap, Z O vap, Z O bro, Z O dus, Z O sdr, Z O swa, Z O soa, Z O pdr, Z O pwa]), (g, 46, flat pileCells l ++ spare), (gx, 46, [Zs xc, Z O xd, Z O xw])] [] from HL10.out.setLoc 2 [] [Zl none 0 0, Z O 0, Z O 0, Z O 0, Z O 0, Z O 0, Z O 0, Z O 0, Z O 0] [] [Zl (some ⟨g, 0, none⟩) n cap, Z O vap, Z O bro, Z O dus, Z O sdr, Z O swa, Z O soa, Z O pdr, Z O pwa] rfl rfl)
            have r0 := HLf.out.at 2 0 (v := Zl (some ⟨g, 0, none⟩) n cap) rfl rfl
            have r1 := HLf.out.at 2 1 (v := Z O vap) rfl rfl
            have r2 := HLf.out.at 2 2 (v := Z O bro) rfl rfl
            have r3 := HLf.out.at 2 3 (v := Z O dus) rfl rfl
            have r4 := HLf.out.at 2 4 (v := Z O sdr) rfl rfl
            have r5 := HLf.out.at 2 5 (v := Z O swa) rfl rfl
            have r6 := HLf.out.at 2 6 (v := Z O soa) rfl rfl
            have r7 := HLf.out.at 2 7 (v := Z O pdr) rfl rfl
            have r8 := HLf.out.at 2 8 (v := Z O pwa) rfl rfl
            refine bodyPost_ret (v := .tuple #[.agg #[Zl (some ⟨g, 0, none⟩) n cap, Z O vap, Z O bro, Z O dus, Z O sdr, Z O swa, Z O soa, Z O pdr, Z O pwa], .bool false]) (by simp [results, Try.results44, go_sem, r0, r1, r2, r3, r4, r5, r6, r7, r8]) rfl ?_
            rw [HEA.out]
            exact ⟨_, _, _, _, _, _, _, _, _, _, _, rfl, HLf.out.low⟩
      obtain rfl : kind = 8 := by omega
      have HEA := Zh (show Yd.Real.act ⟨l, vap, bro, dus, sdr, swa, soa, pdr, pwa⟩ ⟨8, dy, code, other, ⟨al, ah⟩, ⟨bl, bh⟩⟩ pa pb = (some ⟨l.take k ++ l.drop (k + 1), vap, bro, dus, sdr + xd, swa + xw, soa, pdr, pwa⟩) from by
        rw [act_hit (by simp) HACT.out]; try rw [HFK.out]
        have e8 : l.take k ++ l.drop (k + 1) = (l.set k ⟨xc, xd, xw⟩).eraseIdx k := by
          rw [List.eraseIdx_eq_take_drop_succ, List.take_set_of_le (Nat.le_refl _), List.drop_set_of_lt (by omega)]
        rw [e8]
        rfl)
      have y0 := (show v2.cell? ⟨gd, 0, none⟩ = some (Z O 8) from HL10.out.at 1 0 (v := Z O 8) rfl rfl)
      go_upto_region 37 with fail
      clear y0
      have HW0 := Zh (show IntKind.i64.wrap (sdr + xd) = sdr + xd from by rw [IntKind.wrap_i64]; omega)
      have HW1 := Zh (show IntKind.i64.wrap (swa + xw) = swa + xw from by rw [IntKind.wrap_i64]; omega)
      have hmix : Try.prog.follows .mixedOrders = true := by kernel_rfl
      refine region_till2 [11, 13] (fun w' => Blk w' gr 42 #[Zl (some ⟨g, 0, none⟩) n cap, Z O vap, Z O bro, Z O dus, Z O sdr, Z O swa, Z O soa, Z O pdr, Z O pwa]) (fun w' => Blk w' gx 46 #[Zs xc, Z O xd, Z O xw]) 14 [false, false, false, false, false, false, false, false, false, false, false, false, false, false] hmix rfl rfl ?_
      clear hmix
      have HL11 := Zh (HL10.out.drew)
      clear HL10
      generalize v2.drew = v3 at HL11 ⊢
      have HT := Zh (show (fun w' => Blk w' gr 42 #[Zl (some ⟨g, 0, none⟩) n cap, Z O vap, Z O bro, Z O dus, Z O sdr, Z O swa, Z O soa, Z O pdr, Z O pwa]) v3 from HL11.out.blk 0 rfl)
      have HS := Zh (show (fun w' => Blk w' gx 46 #[Zs xc, Z O xd, Z O xw]) v3 from HL11.out.blk 4 rfl)
      refine till2_pure (i := 0) (v := .pointer (some ⟨gr, 4, none⟩)) rfl rfl (by kernel_rfl) (fun _ _ _ h => h) (yields_of rfl (fun w' _ => by simp [go_sem])) ⟨HS.out, fun _ => HT.out⟩ ?_
      try simp only [List.setIfInBounds_toArray, List.set_cons_succ, List.set_cons_zero]
      refine till2_load (i := 1) (v := Z O sdr) rfl rfl (by kernel_rfl) (fun _ _ _ h => h) (yields_of rfl (fun w' hw' => by have hcx : w'.cell? ⟨gr, 4, none⟩ = some (Z O sdr) := Blk.at hw' 4 _ rfl; simp [go_sem, hcx])) ⟨HS.out, fun _ => HT.out⟩ ?_
      try simp only [List.setIfInBounds_toArray, List.set_cons_succ, List.set_cons_zero]
      refine till2_pure (i := 2) (v := .pointer (some ⟨gx, 1, none⟩)) rfl rfl (by kernel_rfl) (fun _ _ _ h => h) (yields_of rfl (fun w' _ => by simp [go_sem])) ⟨HS.out, fun _ => HT.out⟩ ?_
      try simp only [List.setIfInBounds_toArray, List.set_cons_succ, List.set_cons_zero]
      refine till2_keep (i := 3) (v := Z O xd) rfl rfl (by kernel_rfl) (fun _ _ _ h => h) (yields_of rfl (fun w' hw' => by have hcx : w'.cell? ⟨gx, 1, none⟩ = some (Z O xd) := Blk.at hw' 1 _ rfl; simp [go_sem, hcx])) ⟨HS.out, fun _ => HT.out⟩ ?_
      try simp only [List.setIfInBounds_toArray, List.set_cons_succ, List.set_cons_zero]
      refine till2_pure (i := 4) (v := Z O (sdr + xd)) rfl rfl (by kernel_rfl) (fun _ _ _ h => h) (yields_of rfl (fun w' _ => by simp [go_sem, HW0.out])) ⟨HS.out, fun _ => HT.out⟩ ?_
      try simp only [List.setIfInBounds_toArray, List.set_cons_succ, List.set_cons_zero]
      refine till2_pure (i := 5) (v := .pointer (some ⟨gr, 5, none⟩)) rfl rfl (by kernel_rfl) (fun _ _ _ h => h) (yields_of rfl (fun w' _ => by simp [go_sem])) ⟨HS.out, fun _ => HT.out⟩ ?_
      try simp only [List.setIfInBounds_toArray, List.set_cons_succ, List.set_cons_zero]
      refine till2_load (i := 6) (v := Z O swa) rfl rfl (by kernel_rfl) (fun _ _ _ h => h) (yields_of rfl (fun w' hw' => by have hcx : w'.cell? ⟨gr, 5, none⟩ = some (Z O swa) := Blk.at hw' 5 _ rfl; simp [go_sem, hcx])) ⟨HS.out, fun _ => HT.out⟩ ?_
      try simp only [List.setIfInBounds_toArray, List.set_cons_succ, List.set_cons_zero]
      refine till2_pure (i := 7) (v := .pointer (some ⟨gx, 2, none⟩)) rfl rfl (by kernel_rfl) (fun _ _ _ h => h) (yields_of rfl (fun w' _ => by simp [go_sem])) ⟨HS.out, fun _ => HT.out⟩ ?_
      try simp only [List.setIfInBounds_toArray, List.set_cons_succ, List.set_cons_zero]
      refine till2_keep (i := 8) (v := Z O xw) rfl rfl (by kernel_rfl) (fun _ _ _ h => h) (yields_of rfl (fun w' hw' => by have hcx : w'.cell? ⟨gx, 2, none⟩ = some (Z O xw) := Blk.at hw' 2 _ rfl; simp [go_sem, hcx])) ⟨HS.out, fun _ => HT.out⟩ ?_
      try simp only [List.setIfInBounds_toArray, List.set_cons_succ, List.set_cons_zero]
      refine till2_pure (i := 9) (v := Z O (swa + xw)) rfl rfl (by kernel_rfl) (fun _ _ _ h => h) (yields_of rfl (fun w' _ => by simp [go_sem, HW1.out])) ⟨HS.out, fun _ => HT.out⟩ ?_
      try simp only [List.setIfInBounds_toArray, List.set_cons_succ, List.set_cons_zero]
      refine till2_pure (i := 10) (v := .pointer (some ⟨gr, 4, none⟩)) rfl rfl (by kernel_rfl) (fun _ _ _ h => h) (yields_of rfl (fun w' _ => by simp [go_sem])) ⟨HS.out, fun _ => HT.out⟩ ?_
      try simp only [List.setIfInBounds_toArray, List.set_cons_succ, List.set_cons_zero]
      refine till2_only (j := 11) (by kernel_rfl) rfl ?_
      clear HT HS
      have hc9 : v3.cell? ⟨gr, 4, none⟩ = some (Z O sdr) := HL11.out.at 0 4 (v := Z O sdr) rfl rfl
      have hf9 := HL11.out.frozen 0 rfl 4
      go_wp2_with fail
      clear hc9 hf9
      have HL12 := Zh (show Locs w (v3.setCell ⟨gr, 4, none⟩ (Z O (sdr + xd))) [(gr, 42, [Zl (some ⟨g, 0, none⟩) n cap, Z O vap, Z O bro, Z O dus, Z O (sdr + xd), Z O swa, Z O soa, Z O pdr, Z O pwa]), (gd, 55, [Z O 8, Z O dy, Zs code, Zs other, Z O al, Z O ah, Z O bl, Z O bh]), (ge, 42, [Zl none 0 0, Z O 0, Z O 0, Z O 0, Z O 0, Z O 0, Z O 0, Z O 0, Z O 0]), (g, 46, flat pileCells l ++ spare), (gx, 46, [Zs xc, Z O xd, Z O xw])] [] from HL11.out.setLoc1 0 [Zl (some ⟨g, 0, none⟩) n cap, Z O vap, Z O bro, Z O dus] [Z O swa, Z O soa, Z O pdr, Z O pwa] (Z O sdr) (Z O (sdr + xd)) 4 rfl rfl)
      clear HL11
      generalize (v3.setCell ⟨gr, 4, none⟩ (Z O (sdr + xd))) = v4 at HL12 ⊢
      try change Till2 _ _ _ _ _ ∧ wpAny2 _ _ _ _ _ _ _ _ _ _ _
      have HS := Zh (show (fun w' => Blk w' gx 46 #[Zs xc, Z O xd, Z O xw]) v4 from HL12.out.blk 4 rfl)
      refine ⟨⟨HS.out, fun h => by simp at h⟩, ?_⟩
      try simp only [List.setIfInBounds_toArray, List.set_cons_succ, List.set_cons_zero]
      refine till2_pure (i := 12) (v := .pointer (some ⟨gr, 5, none⟩)) rfl rfl (by kernel_rfl) (fun _ _ _ h => h) (yields_of rfl (fun w' _ => by simp [go_sem])) ⟨HS.out, fun h => by simp at h⟩ ?_
      try simp only [List.setIfInBounds_toArray, List.set_cons_succ, List.set_cons_zero]
      refine till2_only (j := 13) (by kernel_rfl) rfl ?_
      clear HS
      have hc9 : v4.cell? ⟨gr, 5, none⟩ = some (Z O swa) := HL12.out.at 0 5 (v := Z O swa) rfl rfl
      have hf9 := HL12.out.frozen 0 rfl 5
      go_wp2_with fail
      clear hc9 hf9
      have HL13 := Zh (show Locs w (v4.setCell ⟨gr, 5, none⟩ (Z O (swa + xw))) [(gr, 42, [Zl (some ⟨g, 0, none⟩) n cap, Z O vap, Z O bro, Z O dus, Z O (sdr + xd), Z O (swa + xw), Z O soa, Z O pdr, Z O pwa]), (gd, 55, [Z O 8, Z O dy, Zs code, Zs other, Z O al, Z O ah, Z O bl, Z O bh]), (ge, 42, [Zl none 0 0, Z O 0, Z O 0, Z O 0, Z O 0, Z O 0, Z O 0, Z O 0, Z O 0]), (g, 46, flat pileCells l ++ spare), (gx, 46, [Zs xc, Z O xd, Z O xw])] [] from HL12.out.setLoc1 0 [Zl (some ⟨g, 0, none⟩) n cap, Z O vap, Z O bro, Z O dus, Z O (sdr + xd)] [Z O soa, Z O pdr, Z O pwa] (Z O swa) (Z O (swa + xw)) 5 rfl rfl)
      clear HL12
      generalize (v4.setCell ⟨gr, 5, none⟩ (Z O (swa + xw))) = v5 at HL13 ⊢
      try change Till2 _ _ _ _ _ ∧ wpAny2 _ _ _ _ _ _ _ _ _ _ _
      have HS := Zh (show (fun w' => Blk w' gx 46 #[Zs xc, Z O xd, Z O xw]) v5 from HL13.out.blk 4 rfl)
      refine ⟨⟨HS.out, fun h => by simp at h⟩, ?_⟩
      try simp only [List.setIfInBounds_toArray, List.set_cons_succ, List.set_cons_zero]
      refine till2_done (by kernel_rfl) ?_
      clear HS
      have s0 := (show v5.cell? ⟨gx, 0, none⟩ = some (Zs xc) from HL13.out.at 4 0 (v := Zs xc) rfl rfl)
      have s1 := (show v5.cell? ⟨gx, 1, none⟩ = some (Z O xd) from HL13.out.at 4 1 (v := Z O xd) rfl rfl)
      have s2 := (show v5.cell? ⟨gx, 2, none⟩ = some (Z O xw) from HL13.out.at 4 2 (v := Z O xw) rfl rfl)
      have s3 := (show v5.cell? ⟨gd, 0, none⟩ = some (Z O 8) from HL13.out.at 1 0 (v := Z O 8) rfl rfl)
      have s4 := (show v5.cell? ⟨gr, 0, none⟩ = some (Zl (some ⟨g, 0, none⟩) n cap) from HL13.out.at 0 0 (v := Zl (some ⟨g, 0, none⟩) n cap) rfl rfl)
      have HLr := Zh (show Locs w (v5.setCells g (k * 3) [Zs xc, Z O xd, Z O xw]) [(gr, 42, [Zl (some ⟨g, 0, none⟩) n cap, Z O vap, Z O bro, Z O dus, Z O (sdr + xd), Z O (swa + xw), Z O soa, Z O pdr, Z O pwa]), (gd, 55, [Z O 8, Z O dy, Zs code, Zs other, Z O al, Z O ah, Z O bl, Z O bh]), (ge, 42, [Zl none 0 0, Z O 0, Z O 0, Z O 0, Z O 0, Z O 0, Z O 0, Z O 0, Z O 0]), (g, 46, flat pileCells (l.set k ⟨xc, xd, xw⟩) ++ spare), (gx, 46, [Zs xc, Z O xd, Z O xw])] [] from HL13.out.setRow 3 rfl HKL.out ⟨xc, xd, xw⟩)
      have HTH := Zh (show v5.there g (k * 3) 3 from HL13.out.there 3 rfl (by have h1 := HKL.out; rw [List.length_append, flat_length pile_three]; omega))
      go_upto_region 40 with ((with_reducible refine at_store 46 (.tmp 246) (.tmp 245) ?_); go_must (refine wpList_store_mid rfl 46 (.tmp 246) (.tmp 245) rfl g (k * 3) #[Zs xc, Z O xd, Z O xw] rfl rfl HTH.out size_pile (by simp [Value.oneCell']) ?_); have HLs := HLr; clear s0 s1 s2 s3 s4; have td := HLs.out.at 1 0 (v := Z O 8) rfl rfl)
      clear td HLs HTH HL13
      have HL14 := HLr
      clear HLr
      generalize (v5.setCells g (k * 3) [Zs xc, Z O xd, Z O xw]) = wr at HL14 ⊢
      have hb1 : (0 : Int) ≤ (k : Int) := by omega
      have hb6 : (0 : Int) ≤ (k : Int) + 1 := by omega
      have hb7 : ((k : Int) + 1).toNat = k + 1 := by omega
      have HW5 := Zh (show IntKind.i64.wrap ((k : Int) + 1) = (k : Int) + 1 from by rw [IntKind.wrap_i64]; omega)
      have hb9 : n ≤ cap := HCAP.out.1
      have hb10 : k + 1 ≤ n := by omega
      have hb11 : k ≤ cap := by omega
      have hb2 : (k : Int) ≤ (n : Int) := by omega
      have hb3 : (n : Int) ≤ (cap : Int) := by omega
      have hb4 : (k : Int) + 1 ≤ (n : Int) := by omega
      have hb5 : (cap : Int) ≤ 9223372036854775807 := by have := HCAP.out.2.1; unfold maxLen at this; omega
      have hb8 : k ≤ n := by omega
      have HLEN := Zh (show (l.set k ⟨xc, xd, xw⟩).length = n from by rw [List.length_set, ← HN.out])
      have HF1 := Zh (show (flat pileCells ((l.set k ⟨xc, xd, xw⟩).take k)).length = k * 3 from by rw [flat_length pile_three, List.length_take, HLEN.out, Nat.min_eq_left (by omega)])
      have HF2 := Zh (show (flat pileCells ((l.set k ⟨xc, xd, xw⟩).drop (k + 1))).length = (n - (k + 1)) * 3 from by rw [flat_length pile_three, List.length_drop, HLEN.out])
      have HO1 := Zh (show ∀ u ∈ flat pileCells ((l.set k ⟨xc, xd, xw⟩).take k), u.oneCell' = true from flat_ones pile_ones _)
      have HO2 := Zh (show ∀ u ∈ flat pileCells ((l.set k ⟨xc, xd, xw⟩).drop (k + 1)), u.oneCell' = true from flat_ones pile_ones _)
      have HP1 := Zh (show flat pileCells (l.set k ⟨xc, xd, xw⟩) ++ spare = [] ++ flat pileCells ((l.set k ⟨xc, xd, xw⟩).take k) ++ (flat pileCells ((l.set k ⟨xc, xd, xw⟩).drop k) ++ spare) from by rw [List.nil_append, ← List.append_assoc, ← flat_append, List.take_append_drop])
      have HP2 := Zh (show flat pileCells (l.set k ⟨xc, xd, xw⟩) ++ spare = flat pileCells ((l.set k ⟨xc, xd, xw⟩).take (k + 1)) ++ flat pileCells ((l.set k ⟨xc, xd, xw⟩).drop (k + 1)) ++ spare from by rw [← flat_append, List.take_append_drop])
      have HF3 := Zh (show (flat pileCells ((l.set k ⟨xc, xd, xw⟩).take (k + 1))).length = (k + 1) * 3 from by rw [flat_length pile_three, List.length_take, HLEN.out, Nat.min_eq_left (by omega)])
      have HRES := Zh (show flat pileCells ((l.set k ⟨xc, xd, xw⟩).take k) ++ flat pileCells ((l.set k ⟨xc, xd, xw⟩).drop (k + 1)) = flat pileCells (l.take k ++ l.drop (k + 1)) from by rw [← flat_append, List.take_set_of_le (Nat.le_refl _), List.drop_set_of_lt (by omega)])
      obtain ⟨i1_, hi1, hi1a, hi1b, hi1c⟩ := info_parts info_pile
      have HI1 := Zh hi1; have HI1a := Zh hi1a; have HI1b := Zh hi1b; have HI1c := Zh hi1c
      clear hi1 hi1a hi1b hi1c
      obtain ⟨ad, had1, had2⟩ : ∃ ad : Addr, (cap = k + 1 → ad = ⟨g, 0, none⟩) ∧ (¬ cap = k + 1 → ad = ⟨g, (k + 1) * 3, none⟩) := by
        by_cases hcc : cap = k + 1
        · exact ⟨_, fun _ => rfl, fun h => absurd hcc h⟩
        · exact ⟨_, fun h => absurd h hcc, fun _ => rfl⟩
      have HAD1 := Zh had1; have HAD2 := Zh had2
      clear had1 had2
      have hmix : Try.prog.follows .mixedOrders = true := by kernel_rfl
      refine region_till [13] (fun w' => Blk w' gr 42 #[Zl (some ⟨g, 0, none⟩) n cap, Z O vap, Z O bro, Z O dus, Z O (sdr + xd), Z O (swa + xw), Z O soa, Z O pdr, Z O pwa]) 14 [false, false, false, false, false, false, false, false, false, false, false, false, false, false] hmix rfl rfl ?_
      clear hmix
      have HL15 := Zh (HL14.out.drew)
      generalize wr.drew = v6 at HL15 ⊢
      have HT := Zh (show (fun w' => Blk w' gr 42 #[Zl (some ⟨g, 0, none⟩) n cap, Z O vap, Z O bro, Z O dus, Z O (sdr + xd), Z O (swa + xw), Z O soa, Z O pdr, Z O pwa]) v6 from HL15.out.blk 0 rfl)
      refine till_pure (i := 1) (v := .pointer (some ⟨gr, 0, none⟩)) rfl rfl (by kernel_rfl) (fun _ _ _ h => h) (yields_of rfl (fun w' _ => by simp [go_sem])) (fun _ => HT.out) ?_
      try simp only [List.setIfInBounds_toArray, List.set_cons_succ, List.set_cons_zero]
      refine till_load (i := 2) (v := Zl (some ⟨g, 0, none⟩) n cap) rfl rfl (by kernel_rfl) (fun _ _ _ h => h) (yields_of rfl (fun w' hw' => by have hcx : w'.cell? ⟨gr, 0, none⟩ = some (Zl (some ⟨g, 0, none⟩) n cap) := Blk.at hw' 0 _ rfl; simp [go_sem, hcx])) (fun _ => HT.out) ?_
      try simp only [List.setIfInBounds_toArray, List.set_cons_succ, List.set_cons_zero]
      refine till_pure (i := 3) (v := Z O (k : Int)) rfl rfl (by kernel_rfl) (fun _ _ _ h => h) (yields_of rfl (fun w' _ => by simp [go_sem])) (fun _ => HT.out) ?_
      try simp only [List.setIfInBounds_toArray, List.set_cons_succ, List.set_cons_zero]
      refine till_pure (i := 4) (v := Zl (some ⟨g, 0, none⟩) k cap) rfl rfl (by kernel_rfl) (fun _ _ _ h => h) (yields_of rfl (fun w' _ => by simp [go_sem, Try.underlying40, hb1, hb2, hb3, hb4, hb5, hb6, hb7, hb8, hb9, hb10, hb11])) (fun _ => HT.out) ?_
      try simp only [List.setIfInBounds_toArray, List.set_cons_succ, List.set_cons_zero]
      refine till_pure (i := 6) (v := .pointer (some ⟨gr, 0, none⟩)) rfl rfl (by kernel_rfl) (fun _ _ _ h => h) (yields_of rfl (fun w' _ => by simp [go_sem])) (fun _ => HT.out) ?_
      try simp only [List.setIfInBounds_toArray, List.set_cons_succ, List.set_cons_zero]
      refine till_load (i := 7) (v := Zl (some ⟨g, 0, none⟩) n cap) rfl rfl (by kernel_rfl) (fun _ _ _ h => h) (yields_of rfl (fun w' hw' => by have hcx : w'.cell? ⟨gr, 0, none⟩ = some (Zl (some ⟨g, 0, none⟩) n cap) := Blk.at hw' 0 _ rfl; simp [go_sem, hcx])) (fun _ => HT.out) ?_
      try simp only [List.setIfInBounds_toArray, List.set_cons_succ, List.set_cons_zero]
      refine till_pure (i := 8) (v := Z O (k : Int)) rfl rfl (by kernel_rfl) (fun _ _ _ h => h) (yields_of rfl (fun w' _ => by simp [go_sem])) (fun _ => HT.out) ?_
      try simp only [List.setIfInBounds_toArray, List.set_cons_succ, List.set_cons_zero]
      refine till_pure (i := 9) (v := Z O ((k : Int) + 1)) rfl rfl (by kernel_rfl) (fun _ _ _ h => h) (yields_of rfl (fun w' _ => by simp [go_sem, HW5.out])) (fun _ => HT.out) ?_
      try simp only [List.setIfInBounds_toArray, List.set_cons_succ, List.set_cons_zero]
      refine till_pure (i := 10) (v := Zl (some ad) (n - (k + 1)) (cap - (k + 1))) rfl rfl (by kernel_rfl) (fun _ _ _ h => h) (yields_of rfl (fun w' _ => by by_cases hcc : cap = k + 1; (have hcd := HAD1.out hcc; subst hcd; simp [go_sem, Try.underlying40, hb1, hb2, hb3, hb4, hb5, hb6, hb7, hb8, hb9, hb10, hb11, hcc]); (have hcd := HAD2.out hcc; subst hcd; simp [go_sem, Try.underlying40, hb1, hb2, hb3, hb4, hb5, hb6, hb7, hb8, hb9, hb10, hb11, hcc]))) (fun _ => HT.out) ?_
      try simp only [List.setIfInBounds_toArray, List.set_cons_succ, List.set_cons_zero]
      refine till_only (j := 0) (by kernel_rfl) rfl ?_
      go_wp2_with fail
      have HOWN := Zh (owns_emptyB v6)
      have HLT := Zh (show ∀ x ∈ ([(gr, 42, [Zl (some ⟨g, 0, none⟩) n cap, Z O vap, Z O bro, Z O dus, Z O (sdr + xd), Z O (swa + xw), Z O soa, Z O pdr, Z O pwa]), (gd, 55, [Z O 8, Z O dy, Zs code, Zs other, Z O al, Z O ah, Z O bl, Z O bh]), (ge, 42, [Zl none 0 0, Z O 0, Z O 0, Z O 0, Z O 0, Z O 0, Z O 0, Z O 0, Z O 0]), (g, 46, flat pileCells (l.set k ⟨xc, xd, xw⟩) ++ spare), (gx, 46, [Zs xc, Z O xd, Z O xw])] : List (Nat × TypeId × List Value)), x.1 < v6.heap.size from fun x hx => (HL15.out.loc x hx).1.lt)
      have HLW := Zh HL15.out.low.size
      have HBS := Zh (show v6.heap.size ≤ (v6.alloc (.cells #[] 46)).heap.size from by rw [World.size_alloc]; omega)
      have HL16 := Zh (HL15.out.below ((Below.refl v6.heap.size v6).alloc (Nat.le_refl _) (.cells #[] 46)))
      clear HL15
      generalize (v6.alloc (.cells #[] 46)) = v7 at HL16 HOWN HBS ⊢
      generalize v6.heap.size = B at HOWN HBS HLT HLW ⊢
      have HT := Zh (show (fun w' => Blk w' gr 42 #[Zl (some ⟨g, 0, none⟩) n cap, Z O vap, Z O bro, Z O dus, Z O (sdr + xd), Z O (swa + xw), Z O soa, Z O pdr, Z O pwa]) v7 from HL16.out.blk 0 rfl)
      refine ⟨(fun _ => HT.out), ?_⟩
      try simp only [List.setIfInBounds_toArray, List.set_cons_succ, List.set_cons_zero]
      refine till_only (j := 5) (by kernel_rfl) rfl ?_
      refine wpList_append_own _ rfl (.tmp 250) (.tmp 254) 40 rfl B 46 i1_ (.agg #[Zs ⟨#[]⟩, Z O 0, Z O 0]) 3 32 Try.underlying40 HI1.out HI1a.out HI1b.out HI1c.out rfl (by decide) (Zl (some ⟨B, 0, none⟩) 0 0) (0) ([]) rfl HOWN.out (⟨g, 0, none⟩) (k) (cap) (flat pileCells ((l.set k ⟨xc, xd, xw⟩).take k)) rfl HF1.out (fun j u hu => cells_part (a := []) (b := flat pileCells ((l.set k ⟨xc, xd, xw⟩).take k)) (by rw [← HP1.out]; exact HL16.out.blk 3 rfl) j u hu) HO1.out (by unfold maxLen; omega) (by omega) HBS.out ?_
      intro va w7 hown7 hgrow7 hnil7
      simp only [Nat.zero_add, List.nil_append] at hown7
      have hne7 : va ≠ Zl none 0 0 := (fun hh => (by have := (hnil7.1 hh).1; cases this))
      obtain ⟨g7, cap7, cur7, hv7, hcur7, hcap7, hcapm7, hgw7, hcs7, hgtake7⟩ := row_blockP hown7 hne7
      subst hv7
      have HL17 := Zh (HL16.out.belowAt ((Below.refl B v7).grown hgrow7 HBS.out (fun k e => (by cases e; exact Nat.le_refl _))) HLW.out HLT.out)
      have HOWN2 := Zh hown7
      have HGE_g7 := Zh hgw7
      have HBS2 := Zh (Nat.le_trans HBS.out hgrow7.size)
      clear hown7 hgrow7 hnil7 hne7 hcur7 hcap7 hcapm7 hgw7 hcs7 hgtake7
      clear HL16 HOWN HBS
      have HOWN := HOWN2; have HBS := HBS2
      clear HOWN2 HBS2
      change Till _ _ _ _ ∧ wpAnyT _ _ _ _ _ _ _ _ _ _
      try simp only [Act.put, List.setIfInBounds_toArray, List.set_cons_succ, List.set_cons_zero]
      have HT := Zh (show (fun w' => Blk w' gr 42 #[Zl (some ⟨g, 0, none⟩) n cap, Z O vap, Z O bro, Z O dus, Z O (sdr + xd), Z O (swa + xw), Z O soa, Z O pdr, Z O pwa]) w7 from HL17.out.blk 0 rfl)
      refine ⟨(fun _ => HT.out), ?_⟩
      try simp only [List.setIfInBounds_toArray, List.set_cons_succ, List.set_cons_zero]
      refine till_only (j := 11) (by kernel_rfl) rfl ?_
      refine wpList_append_own _ rfl (.tmp 255) (.tmp 260) 40 rfl B 46 i1_ (.agg #[Zs ⟨#[]⟩, Z O 0, Z O 0]) 3 32 Try.underlying40 HI1.out HI1a.out HI1b.out HI1c.out rfl (by decide) (Zl (some ⟨g7, 0, none⟩) k cap7) (k) (flat pileCells ((l.set k ⟨xc, xd, xw⟩).take k)) rfl HOWN.out (ad) (n - (k + 1)) (cap - (k + 1)) (flat pileCells ((l.set k ⟨xc, xd, xw⟩).drop (k + 1))) rfl HF2.out (fun j u hu => by rcases Nat.eq_zero_or_pos (n - (k + 1)) with h0 | h0; (have h1 := (List.getElem?_eq_some_iff.1 hu).1; rw [HF2.out, h0] at h1; omega); (rw [HAD2.out (by omega), ← HF3.out]; exact cells_part (by rw [← HP2.out]; exact HL17.out.blk 3 rfl) j u hu)) HO2.out (by unfold maxLen; omega) (by omega) HBS.out ?_
      intro va w8 hown7 hgrow7 hnil7
      have hne7 : va ≠ Zl none 0 0 := (fun hh => (by have := (hnil7.1 hh).1; cases this))
      obtain ⟨g8, cap8, cur7, hv7, hcur7, hcap7, hcapm7, hgw7, hcs7, hgtake7⟩ := row_blockP hown7 hne7
      subst hv7
      have HL18 := Zh (HL17.out.belowAt ((Below.refl B w7).grown hgrow7 HBS.out (fun k e => (by cases e; exact HGE_g7.out))) HLW.out HLT.out)
      have HOWN2 := Zh hown7
      have HGE_g8 := Zh hgw7
      have HBS2 := Zh (Nat.le_trans HBS.out hgrow7.size)
      clear hown7 hgrow7 hnil7 hne7 hcur7 hcap7 hcapm7 hgw7 hcs7 hgtake7
      clear HL17 HOWN HBS
      have HOWN := HOWN2; have HBS := HBS2
      clear HOWN2 HBS2
      change Till _ _ _ _ ∧ wpAnyT _ _ _ _ _ _ _ _ _ _
      try simp only [Act.put, List.setIfInBounds_toArray, List.set_cons_succ, List.set_cons_zero]
      have HT := Zh (show (fun w' => Blk w' gr 42 #[Zl (some ⟨g, 0, none⟩) n cap, Z O vap, Z O bro, Z O dus, Z O (sdr + xd), Z O (swa + xw), Z O soa, Z O pdr, Z O pwa]) w8 from HL18.out.blk 0 rfl)
      refine ⟨(fun _ => HT.out), ?_⟩
      try simp only [List.setIfInBounds_toArray, List.set_cons_succ, List.set_cons_zero]
      refine till_pure (i := 12) (v := .pointer (some ⟨gr, 0, none⟩)) rfl rfl (by kernel_rfl) (fun _ _ _ h => h) (yields_of rfl (fun w' _ => by simp [go_sem])) (fun _ => HT.out) ?_
      try simp only [List.setIfInBounds_toArray, List.set_cons_succ, List.set_cons_zero]
      refine till_only (j := 13) (by kernel_rfl) rfl ?_
      have HR := Zh (show Rowed w w8 ([(gr, 42, [Zl (some ⟨g, 0, none⟩) n cap, Z O vap, Z O bro, Z O dus, Z O (sdr + xd), Z O (swa + xw), Z O soa, Z O pdr, Z O pwa]), (gd, 55, [Z O 8, Z O dy, Zs code, Zs other, Z O al, Z O ah, Z O bl, Z O bh]), (ge, 42, [Zl none 0 0, Z O 0, Z O 0, Z O 0, Z O 0, Z O 0, Z O 0, Z O 0, Z O 0]), (g, 46, flat pileCells (l.set k ⟨xc, xd, xw⟩) ++ spare), (gx, 46, [Zs xc, Z O xd, Z O xw])] : List (Nat × TypeId × List Value)) 46 3 (Zl (some ⟨g8, 0, none⟩) (k + (n - (k + 1))) cap8) (k + (n - (k + 1))) (flat pileCells ((l.set k ⟨xc, xd, xw⟩).take k) ++ flat pileCells ((l.set k ⟨xc, xd, xw⟩).drop (k + 1))) from ⟨owns_lower HOWN.out HLW.out, fun x hx e => by have q1 := HLT.out x hx; have q2 := HGE_g8.out; have e2 : g8 = x.1 := (by injection e); omega⟩)
      have hc9 : w8.cell? ⟨gr, 0, none⟩ = some (Zl (some ⟨g, 0, none⟩) n cap) := HL18.out.at 0 0 (v := Zl (some ⟨g, 0, none⟩) n cap) rfl rfl
      have hf9 := HL18.out.frozen 0 rfl 0
      go_wp2_with fail
      clear hc9 hf9
      have HR2 := Zh (show Rowed w (w8.setCell ⟨gr, 0, none⟩ (Zl (some ⟨g8, 0, none⟩) (k + (n - (k + 1))) cap8)) ([(gr, 42, [Zl (some ⟨g8, 0, none⟩) (k + (n - (k + 1))) cap8, Z O vap, Z O bro, Z O dus, Z O (sdr + xd), Z O (swa + xw), Z O soa, Z O pdr, Z O pwa]), (gd, 55, [Z O 8, Z O dy, Zs code, Zs other, Z O al, Z O ah, Z O bl, Z O bh]), (ge, 42, [Zl none 0 0, Z O 0, Z O 0, Z O 0, Z O 0, Z O 0, Z O 0, Z O 0, Z O 0]), (g, 46, flat pileCells (l.set k ⟨xc, xd, xw⟩) ++ spare), (gx, 46, [Zs xc, Z O xd, Z O xw])] : List (Nat × TypeId × List Value)) 46 3 (Zl (some ⟨g8, 0, none⟩) (k + (n - (k + 1))) cap8) (k + (n - (k + 1))) (flat pileCells ((l.set k ⟨xc, xd, xw⟩).take k) ++ flat pileCells ((l.set k ⟨xc, xd, xw⟩).drop (k + 1))) from HR.out.setLoc1 0 rfl 0 (Zl (some ⟨g8, 0, none⟩) (k + (n - (k + 1))) cap8) (cs' := [Zl (some ⟨g8, 0, none⟩) (k + (n - (k + 1))) cap8, Z O vap, Z O bro, Z O dus, Z O (sdr + xd), Z O (swa + xw), Z O soa, Z O pdr, Z O pwa]))
      clear HR HOWN HBS
      have HL19 := Zh (show Locs w (w8.setCell ⟨gr, 0, none⟩ (Zl (some ⟨g8, 0, none⟩) (k + (n - (k + 1))) cap8)) [(gr, 42, [Zl (some ⟨g8, 0, none⟩) (k + (n - (k + 1))) cap8, Z O vap, Z O bro, Z O dus, Z O (sdr + xd), Z O (swa + xw), Z O soa, Z O pdr, Z O pwa]), (gd, 55, [Z O 8, Z O dy, Zs code, Zs other, Z O al, Z O ah, Z O bl, Z O bh]), (ge, 42, [Zl none 0 0, Z O 0, Z O 0, Z O 0, Z O 0, Z O 0, Z O 0, Z O 0, Z O 0]), (g, 46, flat pileCells (l.set k ⟨xc, xd, xw⟩) ++ spare), (gx, 46, [Zs xc, Z O xd, Z O xw])] [] from HL18.out.setLoc1 0 [] [Z O vap, Z O bro, Z O dus, Z O (sdr + xd), Z O (swa + xw), Z O soa, Z O pdr, Z O pwa] (Zl (some ⟨g, 0, none⟩) n cap) (Zl (some ⟨g8, 0, none⟩) (k + (n - (k + 1))) cap8) 0 rfl rfl)
      clear HL18
      generalize (w8.setCell ⟨gr, 0, none⟩ (Zl (some ⟨g8, 0, none⟩) (k + (n - (k + 1))) cap8)) = v8 at HL19 HR2 ⊢
      refine ⟨(fun h => by simp at h), ?_⟩
      try simp only [List.setIfInBounds_toArray, List.set_cons_succ, List.set_cons_zero]
      refine till_done (by kernel_rfl) ?_
      clear HT
      try simp only [Act.put]
      have s0 := (show v8.cell? ⟨gd, 0, none⟩ = some (Z O 8) from HL19.out.at 1 0 (v := Z O 8) rfl rfl)
      have s1 := (show v8.cell? ⟨gr, 0, none⟩ = some (Zl (some ⟨g8, 0, none⟩) (k + (n - (k + 1))) cap8) from HL19.out.at 0 0 (v := Zl (some ⟨g8, 0, none⟩) (k + (n - (k + 1))) cap8) rfl rfl)
      have s2 := (show v8.cell? ⟨gr, 1, none⟩ = some (Z O vap) from HL19.out.at 0 1 (v := Z O vap) rfl rfl)
      have s3 := (show v8.cell? ⟨gr, 2, none⟩ = some (Z O bro) from HL19.out.at 0 2 (v := Z O bro) rfl rfl)
      have s4 := (show v8.cell? ⟨gr, 3, none⟩ = some (Z O dus) from HL19.out.at 0 3 (v := Z O dus) rfl rfl)
      have s5 := (show v8.cell? ⟨gr, 4, none⟩ = some (Z O (sdr + xd)) from HL19.out.at 0 4 (v := Z O (sdr + xd)) rfl rfl)
      have s6 := (show v8.cell? ⟨gr, 5, none⟩ = some (Z O (swa + xw)) from HL19.out.at 0 5 (v := Z O (swa + xw)) rfl rfl)
      have s7 := (show v8.cell? ⟨gr, 6, none⟩ = some (Z O soa) from HL19.out.at 0 6 (v := Z O soa) rfl rfl)
      have s8 := (show v8.cell? ⟨gr, 7, none⟩ = some (Z O pdr) from HL19.out.at 0 7 (v := Z O pdr) rfl rfl)
      have s9 := (show v8.cell? ⟨gr, 8, none⟩ = some (Z O pwa) from HL19.out.at 0 8 (v := Z O pwa) rfl rfl)
      go_wp2_with ((with_reducible refine at_store 42 (.tmp 8) (.tmp 283) ?_); go_must (refine wpList_store_mid rfl 42 (.tmp 8) (.tmp 283) rfl ge 0 #[Zl (some ⟨g8, 0, none⟩) (k + (n - (k + 1))) cap8, Z O vap, Z O bro, Z O dus, Z O (sdr + xd), Z O (swa + xw), Z O soa, Z O pdr, Z O pwa] rfl rfl (HL19.out.there 2 (o := 0) (n := 9) rfl (Nat.le_of_ble_eq_true rfl)) size_real (by simp [Value.oneCell']) ?_))
      clear s0 s1 s2 s3 s4 s5 s6 s7 s8 s9
      have HRf := Zh (show Rowed w (v8.setCells ge 0 [Zl (some ⟨g8, 0, none⟩) (k + (n - (k + 1))) cap8, Z O vap, Z O bro, Z O dus, Z O (sdr + xd), Z O (swa + xw), Z O soa, Z O pdr, Z O pwa]) ([(gr, 42, [Zl (some ⟨g8, 0, none⟩) (k + (n - (k + 1))) cap8, Z O vap, Z O bro, Z O dus, Z O (sdr + xd), Z O (swa + xw), Z O soa, Z O pdr, Z O pwa]), (gd, 55, [Z O 8, Z O dy, Zs code, Zs other, Z O al, Z O ah, Z O bl, Z O bh]), (ge, 42, [Zl (some ⟨g8, 0, none⟩) (k + (n - (k + 1))) cap8, Z O vap, Z O bro, Z O dus, Z O (sdr + xd), Z O (swa + xw), Z O soa, Z O pdr, Z O pwa]), (g, 46, flat pileCells (l.set k ⟨xc, xd, xw⟩) ++ spare), (gx, 46, [Zs xc, Z O xd, Z O xw])] : List (Nat × TypeId × List Value)) 46 3 (Zl (some ⟨g8, 0, none⟩) (k + (n - (k + 1))) cap8) (k + (n - (k + 1))) (flat pileCells ((l.set k ⟨xc, xd, xw⟩).take k) ++ flat pileCells ((l.set k ⟨xc, xd, xw⟩).drop (k + 1))) from HR2.out.setLoc 2 rfl 0 [Zl (some ⟨g8, 0, none⟩) (k + (n - (k + 1))) cap8, Z O vap, Z O bro, Z O dus, Z O (sdr + xd), Z O (swa + xw), Z O soa, Z O pdr, Z O pwa] (cs' := [Zl (some ⟨g8, 0, none⟩) (k + (n - (k + 1))) cap8, Z O vap, Z O bro, Z O dus, Z O (sdr + xd), Z O (swa + xw), Z O soa, Z O pdr, Z O pwa]))
      have HLf := Zh (show Locs w (v8.setCells ge 0 [Zl (some ⟨g8, 0, none⟩) (k + (n - (k + 1))) cap8, Z O vap, Z O bro, Z O dus, Z O (sdr + xd), Z O (swa + xw), Z O soa, Z O pdr, Z O pwa]) [(gr, 42, [Zl (some ⟨g8, 0, none⟩) (k + (n - (k + 1))) cap8, Z O vap, Z O bro, Z O dus, Z O (sdr + xd), Z O (swa + xw), Z O soa, Z O pdr, Z O pwa]), (gd, 55, [Z O 8, Z O dy, Zs code, Zs other, Z O al, Z O ah, Z O bl, Z O bh]), (ge, 42, [Zl (some ⟨g8, 0, none⟩) (k + (n - (k + 1))) cap8, Z O vap, Z O bro, Z O dus, Z O (sdr + xd), Z O (swa + xw), Z O soa, Z O pdr, Z O pwa]), (g, 46, flat pileCells (l.set k ⟨xc, xd, xw⟩) ++ spare), (gx, 46, [Zs xc, Z O xd, Z O xw])] [] from HL19.out.setLoc 2 [] [Zl none 0 0, Z O 0, Z O 0, Z O 0, Z O 0, Z O 0, Z O 0, Z O 0, Z O 0] [] [Zl (some ⟨g8, 0, none⟩) (k + (n - (k + 1))) cap8, Z O vap, Z O bro, Z O dus, Z O (sdr + xd), Z O (swa + xw), Z O soa, Z O pdr, Z O pwa] rfl rfl)
      have r0 := HLf.out.at 2 0 (v := Zl (some ⟨g8, 0, none⟩) (k + (n - (k + 1))) cap8) rfl rfl
      have r1 := HLf.out.at 2 1 (v := Z O vap) rfl rfl
      have r2 := HLf.out.at 2 2 (v := Z O bro) rfl rfl
      have r3 := HLf.out.at 2 3 (v := Z O dus) rfl rfl
      have r4 := HLf.out.at 2 4 (v := Z O (sdr + xd)) rfl rfl
      have r5 := HLf.out.at 2 5 (v := Z O (swa + xw)) rfl rfl
      have r6 := HLf.out.at 2 6 (v := Z O soa) rfl rfl
      have r7 := HLf.out.at 2 7 (v := Z O pdr) rfl rfl
      have r8 := HLf.out.at 2 8 (v := Z O pwa) rfl rfl
      refine bodyPost_ret (v := .tuple #[.agg #[Zl (some ⟨g8, 0, none⟩) (k + (n - (k + 1))) cap8, Z O vap, Z O bro, Z O dus, Z O (sdr + xd), Z O (swa + xw), Z O soa, Z O pdr, Z O pwa], .bool true]) (by simp [results, Try.results44, go_sem, r0, r1, r2, r3, r4, r5, r6, r7, r8]) rfl ?_
      rw [HEA.out]
      have HRg := HRf.out
      rw [HRES.out] at HRg
      have hll : (l.take k ++ l.drop (k + 1)).length = (k + (n - (k + 1))) := by rw [List.length_append, List.length_take, List.length_drop, ← HN.out]; omega
      exact ⟨_, rfl, HLf.out.low, held_rowP HRg hll (by omega), .inr ⟨g8, 0, cap8, by rw [hll]⟩⟩
    · skip
      have HFIND := Zh (show findInt l code = -1 from by unfold findInt; rw [if_neg hf])
      have HEA := Zh (show Yd.Real.act ⟨l, vap, bro, dus, sdr, swa, soa, pdr, pwa⟩ ⟨kind, dy, code, other, ⟨al, ah⟩, ⟨bl, bh⟩⟩ pa pb = none from act_miss (by simp only; omega) hf)
      clear hf
      have hk1 : (kind == 1) = false := by simp; omega
      have f0 := (show v1.cell? ⟨gd, 0, none⟩ = some (Z O kind) from HL2.out.at 1 0 (v := Z O kind) rfl rfl)
      have f1 := (show v1.cell? ⟨gd, 2, none⟩ = some (Zs code) from HL2.out.at 1 2 (v := Zs code) rfl rfl)
      have f2 := (show v1.cell? ⟨gr, 0, none⟩ = some (Zl (some ⟨g, 0, none⟩) n cap) from HL2.out.at 0 0 (v := Zl (some ⟨g, 0, none⟩) n cap) rfl rfl)
      have f3 := (show v1.cell? ⟨gr, 1, none⟩ = some (Z O vap) from HL2.out.at 0 1 (v := Z O vap) rfl rfl)
      have f4 := (show v1.cell? ⟨gr, 2, none⟩ = some (Z O bro) from HL2.out.at 0 2 (v := Z O bro) rfl rfl)
      have f5 := (show v1.cell? ⟨gr, 3, none⟩ = some (Z O dus) from HL2.out.at 0 3 (v := Z O dus) rfl rfl)
      have f6 := (show v1.cell? ⟨gr, 4, none⟩ = some (Z O sdr) from HL2.out.at 0 4 (v := Z O sdr) rfl rfl)
      have f7 := (show v1.cell? ⟨gr, 5, none⟩ = some (Z O swa) from HL2.out.at 0 5 (v := Z O swa) rfl rfl)
      have f8 := (show v1.cell? ⟨gr, 6, none⟩ = some (Z O soa) from HL2.out.at 0 6 (v := Z O soa) rfl rfl)
      have f9 := (show v1.cell? ⟨gr, 7, none⟩ = some (Z O pdr) from HL2.out.at 0 7 (v := Z O pdr) rfl rfl)
      have f10 := (show v1.cell? ⟨gr, 8, none⟩ = some (Z O pwa) from HL2.out.at 0 8 (v := Z O pwa) rfl rfl)
      have HFI := Zh (find_calls (Zl (some ⟨g, 0, none⟩) n cap) l vap bro dus sdr swa soa pdr pwa code v1 (held_rowP (rowed_of (L := [(gr, 42, [Zl (some ⟨g, 0, none⟩) n cap, Z O vap, Z O bro, Z O dus, Z O sdr, Z O swa, Z O soa, Z O pdr, Z O pwa]), (gd, 55, [Z O kind, Z O dy, Zs code, Zs other, Z O al, Z O ah, Z O bl, Z O bh]), (ge, 42, [Zl none 0 0, Z O 0, Z O 0, Z O 0, Z O 0, Z O 0, Z O 0, Z O 0, Z O 0])]) HL2.out HN.out.symm HCAP.out) HN.out.symm (by omega)) (by rw [← HN.out]; omega))
      go_wp2_with (first
        | (go_at_call 64; refine HFI.out.mono ?_; rintro e w3 ⟨rfl, hb3⟩; rw [HFIND.out]; have HL9 := Zh (HL2.out.below hb3); clear hb3; have z0 := HL9.out.at 0 0 (v := Zl (some ⟨g, 0, none⟩) n cap) rfl rfl; have z1 := HL9.out.at 0 1 (v := Z O vap) rfl rfl; have z2 := HL9.out.at 0 2 (v := Z O bro) rfl rfl; have z3 := HL9.out.at 0 3 (v := Z O dus) rfl rfl; have z4 := HL9.out.at 0 4 (v := Z O sdr) rfl rfl; have z5 := HL9.out.at 0 5 (v := Z O swa) rfl rfl; have z6 := HL9.out.at 0 6 (v := Z O soa) rfl rfl; have z7 := HL9.out.at 0 7 (v := Z O pdr) rfl rfl; have z8 := HL9.out.at 0 8 (v := Z O pwa) rfl rfl)
        | ((with_reducible refine at_store 42 (.tmp 8) (.tmp 60) ?_); go_must (refine wpList_store_mid rfl 42 (.tmp 8) (.tmp 60) rfl ge 0 #[Zl (some ⟨g, 0, none⟩) n cap, Z O vap, Z O bro, Z O dus, Z O sdr, Z O swa, Z O soa, Z O pdr, Z O pwa] rfl rfl (HL9.out.there 2 (o := 0) (n := 9) rfl (Nat.le_of_ble_eq_true rfl)) size_real (by simp [Value.oneCell']) ?_)))
      have HLf := Zh (show Locs w (w3.setCells ge 0 [Zl (some ⟨g, 0, none⟩) n cap, Z O vap, Z O bro, Z O dus, Z O sdr, Z O swa, Z O soa, Z O pdr, Z O pwa]) [(gr, 42, [Zl (some ⟨g, 0, none⟩) n cap, Z O vap, Z O bro, Z O dus, Z O sdr, Z O swa, Z O soa, Z O pdr, Z O pwa]), (gd, 55, [Z O kind, Z O dy, Zs code, Zs other, Z O al, Z O ah, Z O bl, Z O bh]), (ge, 42, [Zl (some ⟨g, 0, none⟩) n cap, Z O vap, Z O bro, Z O dus, Z O sdr, Z O swa, Z O soa, Z O pdr, Z O pwa]), (g, 46, flat pileCells l ++ spare)] [] from HL9.out.setLoc 2 [] [Zl none 0 0, Z O 0, Z O 0, Z O 0, Z O 0, Z O 0, Z O 0, Z O 0, Z O 0] [] [Zl (some ⟨g, 0, none⟩) n cap, Z O vap, Z O bro, Z O dus, Z O sdr, Z O swa, Z O soa, Z O pdr, Z O pwa] rfl rfl)
      have r0 := HLf.out.at 2 0 (v := Zl (some ⟨g, 0, none⟩) n cap) rfl rfl
      have r1 := HLf.out.at 2 1 (v := Z O vap) rfl rfl
      have r2 := HLf.out.at 2 2 (v := Z O bro) rfl rfl
      have r3 := HLf.out.at 2 3 (v := Z O dus) rfl rfl
      have r4 := HLf.out.at 2 4 (v := Z O sdr) rfl rfl
      have r5 := HLf.out.at 2 5 (v := Z O swa) rfl rfl
      have r6 := HLf.out.at 2 6 (v := Z O soa) rfl rfl
      have r7 := HLf.out.at 2 7 (v := Z O pdr) rfl rfl
      have r8 := HLf.out.at 2 8 (v := Z O pwa) rfl rfl
      refine bodyPost_ret (v := .tuple #[.agg #[Zl (some ⟨g, 0, none⟩) n cap, Z O vap, Z O bro, Z O dus, Z O sdr, Z O swa, Z O soa, Z O pdr, Z O pwa], .bool false]) (by simp [results, Try.results44, go_sem, r0, r1, r2, r3, r4, r5, r6, r7, r8]) rfl ?_
      rw [HEA.out]
      exact ⟨_, _, _, _, _, _, _, _, _, _, _, rfl, HLf.out.low⟩
end Go.Proofs.Ytadhheahiamnoaa
