/- The least and the greatest year of each strip. Dates at the example. The chapter's example. -/
import Derived.Test.YtnoofdjlocadbaaGreatDoorSpans
import Derived.Test.YtnoofdjlocadbaaGreatDoorRound
import Derived.StillTactics
/-! The least and the greatest year of each strip. -/
namespace Go.Proofs.YtnoofdjlocadbaaGreatDoor
open Go.RowKit Go.Shelf Go.Maps

attribute [local go_sem] Oper.semAt_some

def earlyD (D : DataW Unit) (latest : Int) : DataW Unit :=
  match D with
  | .map es => early es latest
  | _ => D
/-- The years that are early enough, in their order. -/
def spanKeys (D : DataW Unit) (latest : Int) : List Int := (intKeys (earlyD D latest)).mergeSort (fun x y => decide (x ≤ y))
def spanLo (D : DataW Unit) (latest : Int) : Int := (spanKeys D latest).getD 0 0
def spanHi (D : DataW Unit) (latest : Int) : Int := (spanKeys D latest).getD ((spanKeys D latest).length - 1) 0
/-- The year by which a strip must lie, the strips behind it given. -/
def latAt (Ds : List (DataW Unit)) (rest latest : Int) : Nat → Int
  | 0 => latest
  | k + 1 => spanHi (Ds.getD (Ds.length - 1 - k) (.map [])) (latAt Ds rest latest k) - rest

theorem Sp.drew {w W : World} {s len ga N n0 : Nat} {bs : List Nat} {Ds : List (DataW Unit)} {v : Value} {rest : Int} {lat lo hi : Nat → Int} {k k' : Nat} (h : Sp w s len ga N n0 bs Ds v rest lat lo hi k k' W) : Sp w s len ga N n0 bs Ds v rest lat lo hi k k' W.drew :=
  ⟨h.c0, h.c1, h.arr, h.c3, h.c4, h.maps, h.kept, h.bel.drew⟩
theorem addr_add (g j : Nat) : (⟨g, 0, none⟩ : Addr).add j = ⟨g, j, none⟩ := by cases j <;> simp [Addr.add]
theorem Blk.new' {w : World} {g : Nat} (h : w.heap.size = g) (t : TypeId) (cs : Array Value) : Blk (w.alloc (.cells cs t)) g t cs := h ▸ Blk.new w t cs
theorem kept2_t {B g : Nat} {X Y Z : World} (h : Kept2 B g X Y) (k : Kept2 B g Y Z) : Kept2 B g X Z := ⟨Eq.trans k.1 h.1, Eq.trans k.2 h.2⟩
theorem kept2_b {B g n : Nat} (hB : B < n) (hg : g < n) (W : World) (l : Nat) (o' : Obj) (hl : n ≤ l) : Kept2 B g W (W.putObj l o') := ⟨World.putObj_heap_other (by omega), World.putObj_heap_other (by omega)⟩
theorem inj_of_nodup {bs : List Nat} (h : bs.Nodup) (i j : Nat) (hi : i < bs.length) (hj : j < bs.length) (e : bs.getD i 0 = bs.getD j 0) : i = j := by
  have hp := List.pairwise_iff_getElem.1 h
  simp only [List.getD, List.getElem?_eq_getElem hi, List.getElem?_eq_getElem hj, Option.getD_some] at e
  rcases Nat.lt_trichotomy i j with hlt | he | hgt
  · exact absurd e (hp i j hi hj hlt)
  · exact he
  · exact absurd e.symm (hp j i hj hi hgt)

/-- What the sorted years look like in memory. -/
theorem sorted_span {w2 : World} {base : Nat} {v2 : Value} {ss : List Int} {D : DataW Unit} {lat : Int} (hperm : ss.Perm (intKeys (earlyD D lat))) (hrow : w2.ownsRow base 3 1 v2 ss.length ((ss.mergeSort (fun x y => decide (x ≤ y))).map encZ)) (h0 : 0 < (spanKeys D lat).length) :
    ∃ g2 q n2 cap2, v2 = .slice (some ⟨g2, 0, none⟩) n2 cap2 ∧ n2 = q + 1 ∧ n2 ≤ cap2 ∧ cap2 ≤ maxLen ∧ base ≤ g2 ∧ w2.cell? ⟨g2, 0, none⟩ = some (.int .i64 (spanLo D lat)) ∧ w2.cell? ⟨g2, q, none⟩ = some (.int .i64 (spanHi D lat)) := by
  have hms : ss.mergeSort (fun x y => decide (x ≤ y)) = spanKeys D lat := mergeSort_of_perm_i hperm
  have hlen : (spanKeys D lat).length = ss.length := by rw [← hms, List.length_mergeSort]
  rw [hms] at hrow
  rcases hrow.2 with ⟨_, hz⟩ | ⟨g2, cap2, cur, hv, hg, hb, hle, hcap, hsz, htk⟩
  · omega
  obtain ⟨q, hq⟩ : ∃ q, ss.length = q + 1 := ⟨ss.length - 1, by omega⟩
  have hcell : ∀ j, j < ss.length → w2.cell? ⟨g2, j, none⟩ = some (.int .i64 ((spanKeys D lat).getD j 0)) := fun j hj => by
    have := hrow.cells (g := g2) (by rw [hv]; rfl) j (.int .i64 ((spanKeys D lat).getD j 0)) (by
      rw [List.getElem?_map, List.getElem?_eq_getElem (by omega)]
      simp [encZ, List.getD, List.getElem?_eq_getElem (show j < (spanKeys D lat).length by omega)])
    rwa [addr_add] at this
  refine ⟨g2, q, ss.length, cap2, hv, hq, by omega, hcap, hg, hcell 0 (by omega), ?_⟩
  have := hcell q (by omega)
  unfold spanHi
  rwa [hlen, hq]

set_option maxRecDepth 100000 in
set_option maxHeartbeats 2000000 in
theorem spans_calls (n0 N : Nat) (Ds : List (DataW Unit)) (v : Value) (bs : List Nat) (rest latest : Int) (w : World) (hfit : Fit' w n0 N Ds v bs) (hl0 : 0 < Ds.length) (hl : Ds.length ≤ 1000) (hN : N ≤ 1000)
    (hne : ∀ k, k < Ds.length → 0 < (spanKeys (Ds.getD (Ds.length - 1 - k) (.map [])) (latAt Ds rest latest k)).length ∧ -1000 ≤ spanHi (Ds.getD (Ds.length - 1 - k) (.map [])) (latAt Ds rest latest k) ∧ spanHi (Ds.getD (Ds.length - 1 - k) (.map [])) (latAt Ds rest latest k) ≤ 1000)
    (hr0 : 1 ≤ rest) (hr1 : rest ≤ 30) (hn0 : n0 ≤ w.heap.size) :
    Calls Tryz.prog 40 #[v, .int .i64 rest, .int .i64 latest] w fun e W' =>
      ∃ (g : Nat) (cs : Array Value), w.heap.size ≤ g ∧ e = .returned (.slice (some ⟨g, 0, none⟩) Ds.length Ds.length) ∧ Blk W' g 41 cs ∧
        (∀ j, j < Ds.length → cs[j * 2]? = some (.int .i64 (spanLo (Ds.getD j (.map [])) (latAt Ds rest latest (Ds.length - 1 - j)))) ∧ cs[j * 2 + 1]? = some (.int .i64 (spanHi (Ds.getD j (.map [])) (latAt Ds rest latest (Ds.length - 1 - j))))) ∧ Below n0 w W' := by
  obtain ⟨ga, cap, cur, rfl, hga0, hcur, hlc, hcap⟩ : ∃ ga cap cur, v = .slice (some ⟨ga, 0, none⟩) Ds.length cap ∧ n0 ≤ ga ∧ w.heap[ga]? = some (.cells cur 129 (0, 0)) ∧ Ds.length ≤ cap ∧ cap ≤ maxLen := by
    rcases hfit.row.2 with ⟨_, h0⟩ | ⟨g, cap, cur, h1, h2, h3, h4, h5, _⟩
    · omega
    · exact ⟨g, cap, cur, h1, h2, h3, h4, h5⟩
  have hmk := make_bounds Ds.length hl
  refine (callsIn_wide (n := 6)).1 ?_
  have hro : Fence.wide.round = none := rfl
  refine callsIn_of_wp_marks Tryz.func40 rfl trivial ?_ hro
  simp only [Tryz.ntmps40, List.size_toArray, List.length_cons, List.length_nil, Nat.reduceAdd, Nat.reduceSub, Array.replicate_succ, Array.replicate_zero, List.push_toArray, List.append_toArray, List.nil_append, List.cons_append]
  gi_wp2_with (refine ⟨trivial, ?_⟩; gi_at_call 70; refine (callsIn_wide.2 (backward_calls _ ⟨_, _, _, rfl⟩ _)).mono ?_; rintro e w' ⟨rfl, rfl⟩)
  have hlb := hfit.len
  have hat : ∀ j, j < Ds.length → n0 ≤ bs.getD j 0 ∧ bs.getD j 0 < w.heap.size := fun j hj => ⟨(hfit.at_ j (by omega)).1, (hfit.at_ j (by omega)).2.lt⟩
  have hinj : ∀ i j, i < Ds.length → j < Ds.length → bs.getD i 0 = bs.getD j 0 → i = j := fun i j hi hj => inj_of_nodup hfit.apart i j (by omega) (by omega)
  have hgl : ga < w.heap.size := (Array.getElem?_eq_some_iff.1 hcur).1
  have hgb : ∀ j, j < Ds.length → ga ≠ bs.getD j 0 := fun j hj e => map_not_row hfit.row (hfit.at_ j (by omega)).2 (by rw [← e]; rfl)
  have hcells : ∀ j, j < Ds.length → w.cell? ⟨ga, j, none⟩ = some (.map (some (bs.getD j 0))) := fun j hj => by
    have := hfit.row.cells (g := ga) rfl j (.map (some (bs.getD j 0))) (by
      rw [List.getElem?_map, List.getElem?_eq_getElem (by omega)]
      simp [List.getD, List.getElem?_eq_getElem (show j < bs.length by omega)])
    rwa [addr_add] at this
  have bB : Below w.heap.size w (((((w.alloc (.cells #[.int .i64 rest] 3)).alloc (.cells #[.int .i64 latest] 3)).alloc (.cells (boundsCells Ds.length) 41)).alloc (.cells #[.slice (some ⟨w.heap.size + 1 + 1, 0, none⟩) Ds.length Ds.length] 53)).alloc (.cells #[.slice (some ⟨ga, 0, none⟩) Ds.length cap] 89)) := by
    refine Below.alloc (Below.alloc (Below.alloc (Below.alloc (Below.alloc (Below.refl _ _) ?_ _) ?_ _) ?_ _) ?_ _) ?_ _ <;> (try simp only [World.size_alloc]) <;> omega
  have k0 := ((((Blk.new w 3 #[.int .i64 rest]).alloc (.cells #[.int .i64 latest] 3)).alloc (.cells (boundsCells Ds.length) 41)).alloc (.cells #[.slice (some ⟨w.heap.size + 1 + 1, 0, none⟩) Ds.length Ds.length] 53)).alloc (.cells #[.slice (some ⟨ga, 0, none⟩) Ds.length cap] 89)
  have k1 := (((Blk.new' (w := w.alloc (.cells #[.int .i64 rest] 3)) (g := w.heap.size + 1) (by simp only [World.size_alloc]) 3 #[.int .i64 latest]).alloc (.cells (boundsCells Ds.length) 41)).alloc (.cells #[.slice (some ⟨w.heap.size + 1 + 1, 0, none⟩) Ds.length Ds.length] 53)).alloc (.cells #[.slice (some ⟨ga, 0, none⟩) Ds.length cap] 89)
  have k2 := ((Blk.new' (w := (w.alloc (.cells #[.int .i64 rest] 3)).alloc (.cells #[.int .i64 latest] 3)) (g := w.heap.size + 1 + 1) (by simp only [World.size_alloc]) 41 (boundsCells Ds.length)).alloc (.cells #[.slice (some ⟨w.heap.size + 1 + 1, 0, none⟩) Ds.length Ds.length] 53)).alloc (.cells #[.slice (some ⟨ga, 0, none⟩) Ds.length cap] 89)
  have k3 := (Blk.new' (w := ((w.alloc (.cells #[.int .i64 rest] 3)).alloc (.cells #[.int .i64 latest] 3)).alloc (.cells (boundsCells Ds.length) 41)) (g := w.heap.size + 1 + 1 + 1) (by simp only [World.size_alloc]) 53 #[.slice (some ⟨w.heap.size + 1 + 1, 0, none⟩) Ds.length Ds.length]).alloc (.cells #[.slice (some ⟨ga, 0, none⟩) Ds.length cap] 89)
  have k4 := Blk.new' (w := (((w.alloc (.cells #[.int .i64 rest] 3)).alloc (.cells #[.int .i64 latest] 3)).alloc (.cells (boundsCells Ds.length) 41)).alloc (.cells #[.slice (some ⟨w.heap.size + 1 + 1, 0, none⟩) Ds.length Ds.length] 53)) (g := w.heap.size + 1 + 1 + 1 + 1) (by simp only [World.size_alloc]) 89 #[.slice (some ⟨ga, 0, none⟩) Ds.length cap]
  have hz : (((((w.alloc (.cells #[.int .i64 rest] 3)).alloc (.cells #[.int .i64 latest] 3)).alloc (.cells (boundsCells Ds.length) 41)).alloc (.cells #[.slice (some ⟨w.heap.size + 1 + 1, 0, none⟩) Ds.length Ds.length] 53)).alloc (.cells #[.slice (some ⟨ga, 0, none⟩) Ds.length cap] 89)).heap.size = w.heap.size + 5 := by simp only [World.size_alloc]
  generalize (((((w.alloc (.cells #[.int .i64 rest] 3)).alloc (.cells #[.int .i64 latest] 3)).alloc (.cells (boundsCells Ds.length) 41)).alloc (.cells #[.slice (some ⟨w.heap.size + 1 + 1, 0, none⟩) Ds.length Ds.length] 53)).alloc (.cells #[.slice (some ⟨ga, 0, none⟩) Ds.length cap] 89)) = w5 at bB k0 k1 k2 k3 k4 hz ⊢
  have hS0 : Sp w w.heap.size Ds.length ga N n0 bs Ds (.slice (some ⟨ga, 0, none⟩) Ds.length cap) rest (latAt Ds rest latest) (fun j => spanLo (Ds.getD j (.map [])) (latAt Ds rest latest (Ds.length - 1 - j))) (fun j => spanHi (Ds.getD j (.map [])) (latAt Ds rest latest (Ds.length - 1 - j))) 0 0 w5 :=
    ⟨k0, k1, ⟨_, k2, boundsCells_size _, fun j h1 h2 => by omega⟩, k3, k4, fun j hj => ownsMap_below (hfit.at_ j (by omega)).2 bB, bB.block ga hgl, bB.mono hn0⟩
  refine wpIn_rangeFunc_nth hro (by omega) (gf := 99) (lb := #[.pointer (some ⟨w.heap.size + 1 + 1 + 1 + 1, 0, none⟩)]) rfl trivial (enters_of Tryz.func99 (by kernel_rfl) rfl)
    (back_nth Fence.wide 5 trivial hro (by omega) (w.heap.size + 1 + 1 + 1 + 1) ga Ds.length cap bs hl0 hlc hl w5 k4 (by omega) (fun j hj => (bB.cell hgl).trans (hcells j hj))) kept2_t (fun W l o' hl' => kept2_b (n := w5.heap.size) (by omega) (by omega) W l o' hl') (Below.refl _ _) (fun _ => rfl)
    (fun k W => Sp w w.heap.size Ds.length ga N n0 bs Ds (.slice (some ⟨ga, 0, none⟩) Ds.length cap) rest (latAt Ds rest latest) (fun j => spanLo (Ds.getD j (.map [])) (latAt Ds rest latest (Ds.length - 1 - j))) (fun j => spanHi (Ds.getD j (.map [])) (latAt Ds rest latest (Ds.length - 1 - j))) k k W)
    (fun k A B row hs hg hr => hs.grown hg (fun r e => by have := (hr r e).1; omega) hgl (fun j hj => (hat j hj).2) hn0) hS0
    (fun k => { tmps := #[.slice (some ⟨ga, 0, none⟩) Ds.length cap, .int .i64 rest, .int .i64 latest, undef, .pointer (some ⟨w.heap.size, 0, none⟩), .pointer (some ⟨w.heap.size + 1, 0, none⟩), .slice none 0 0, .pointer (some ⟨w.heap.size + 1 + 1 + 1, 0, none⟩), .int .i64 ((Ds.length - 1 - k : Nat) : Int), .map (some (bs.getD (Ds.length - 1 - k) 0)), undef, .slice (some ⟨ga, 0, none⟩) Ds.length cap, .int .i64 (Ds.length : Int), .slice (some ⟨w.heap.size + 1 + 1, 0, none⟩) Ds.length Ds.length, .slice (some ⟨ga, 0, none⟩) Ds.length cap, .func (.func 99) #[] #[.pointer (some ⟨w.heap.size + 1 + 1 + 1 + 1, 0, none⟩)], .int .i64 ((Ds.length - 1 - k : Nat) : Int), .map (some (bs.getD (Ds.length - 1 - k) 0)), undef, undef, undef, undef, undef, undef, undef, undef, undef, undef, undef, undef, undef, undef, undef, undef, undef, undef, undef, undef, undef, undef, undef, undef, undef, undef, undef], defers := [] }) ?assign ?body ?done
  case assign =>
    intro l k W K hK
    generalize Ds.length - 1 - k = m at hK ⊢
    generalize bs.getD m 0 = bm at hK ⊢
    gi_wp2
    exact hK
  case body =>
    intro l k W hk hS
    have hm : (Ds.length - 1 - k) + k + 1 = Ds.length := by omega
    have hmm : Ds.length - 1 - (Ds.length - 1 - k) = k := by omega
    obtain ⟨hn1, hn2, hn3⟩ := hne k hk
    have hown := hS.maps (Ds.length - 1 - k) (by omega)
    have hbm := hat (Ds.length - 1 - k) (by omega)
    have hsp := fun W' hg => Sp.struck (W' := W') hS hg hm hgl (hgb _ (by omega)) hat hinj
    have hlatS : latAt Ds rest latest (k + 1) = spanHi (Ds.getD (Ds.length - 1 - k) (.map [])) (latAt Ds rest latest k) - rest := rfl
    generalize Ds.length - 1 - k = m at hm hmm hn1 hn2 hn3 hown hbm hsp hlatS ⊢
    have c1 := hS.c1
    generalize bs.getD m 0 = bm at hown hbm hsp ⊢
    generalize hD : Ds.getD m (.map []) = D at hn1 hn2 hn3 hown hlatS
    obtain ⟨es, rfl, hrise, hkeys⟩ := World.ownsMap.canon hown lawI
    have HDel := Lib.hid (deleteFunc_calls bm N (w.heap.size + 1) (latAt Ds rest latest k) es W c1.lt (by omega) (c1.cell 0) hown hkeys)
    have HS := Lib.hid hS
    have HN := Lib.hid hn1
    have HSP := Lib.hid hsp
    clear hS hsp hown c1 hn1
    gi_wp2_with (first
      | (refine ⟨trivial, ?_⟩; gi_at_call 71; refine (CallsIn.inRound l (callsIn_wide.2 HDel.out)).mono ?_; rintro e W1 ⟨rfl, hown1, hg1⟩; have HS1 := Lib.hid (HSP.out W1 hg1); have HO1 := Lib.hid hown1; have HG1 := Lib.hid hg1; clear hown1 hg1)
      | (refine ⟨trivial, ?_⟩; gi_at_call 74; refine (CallsIn.inRound l (callsIn_wide.2 (keys_calls bm _))).mono ?_; rintro e w' ⟨rfl, rfl⟩)
      | (refine ⟨trivial, ?_⟩; gi_at_call 73; refine (CallsIn.inRound l (callsIn_wide.2 (sorted_calls bm N (early es (latAt Ds rest latest k)) _ W1 HO1.out (by have := HO1.out.size_le; unfold maxLen; omega) (by have := HO1.out.size_le; omega)))).mono ?_; rintro e W2 ⟨v2, ss, rfl, hperm, hrow, hnil, hB2⟩; obtain ⟨g2, q, n2, cap2, rfl, hqn, hq, hcap2, hg2, cLo, cHi⟩ := sorted_span (D := .map es) hperm hrow HN.out
         have HB2 := Lib.hid hB2
         have HS2 := Lib.hid ((HS1.out.grown (World.grownBy_alloc _ (.cells #[.map (some bm)] 129) none) (fun r e => by cases e) hgl (fun j hj => (hat j hj).2) hn0).grown (grown_of_below (by rw [World.size_alloc]; exact hB2)) (fun r e => by cases e) hgl (fun j hj => (hat j hj).2) hn0)
         have f0 : W2.cell? ⟨w.heap.size, 0, none⟩ = some (.int .i64 rest) := HS2.out.c0.cell 0
         have f1 : W2.cell? ⟨w.heap.size + 1, 0, none⟩ = some (.int .i64 (latAt Ds rest latest k)) := HS2.out.c1.cell 0
         have f2 : W2.frozen? ⟨w.heap.size + 1, 0, none⟩ = false := HS2.out.c1.frozen 0
         have f3 : W2.cell? ⟨w.heap.size + 1 + 1 + 1, 0, none⟩ = some (.slice (some ⟨w.heap.size + 1 + 1, 0, none⟩) Ds.length Ds.length) := HS2.out.c3.cell 0
         have hml : m < Ds.length := by omega
         have hq63 : n2 ≤ 9223372036854775807 := Nat.le_trans hq (by unfold maxLen at hcap2; omega)
         have w1 : IntKind.i64.wrap ((n2 : Int) - 1) = (q : Int) := by rw [IntKind.wrap_i64]; omega
         have w2 : wrap64 ((n2 : Int) - 1) = (q : Int) := by unfold wrap64; omega
         have w3 : (n2 : Int) - 1 = (q : Int) := by omega
         have w4 : q < n2 := by omega
         have w17 : IntKind.i64.wrap (q : Int) = (q : Int) := by rw [IntKind.wrap_i64]; omega
         have w5' : 0 < n2 := by omega
         have w6 : (q : Int) < (n2 : Int) := by omega
         have w7 : ¬ ((n2 : Int) ≤ (q : Int)) := by omega
         have w8 : ¬ (n2 ≤ q) := by omega
         have w9 : (0 : Int) ≤ (q : Int) := by omega
         have w10 : (0 : Int) ≤ (n2 : Int) - 1 := by omega
         have w11 : (n2 : Int) - 1 < (n2 : Int) := by omega
         have w12 : ¬ ((n2 : Int) - 1 < 0) := by omega
         have w13 : ((n2 : Int) - 1).toNat = q := by omega
         have w14 : n2 - 1 = q := by omega
         have w15 : n2 - 1 < n2 := by omega
         have w16 : (m : Int) < (Ds.length : Int) := by omega
         have cHi' : W2.cell? ⟨g2, n2 - 1, none⟩ = some (.int .i64 (spanHi (.map es) (latAt Ds rest latest k))) := by rw [w14]; exact cHi
         clear hqn
         obtain ⟨cs, ca, hcs, _⟩ := HS2.out.arr
         obtain ⟨u0, hu0⟩ : ∃ u, cs[m * 2]? = some u := ⟨_, Array.getElem?_eq_getElem (by omega)⟩
         obtain ⟨u1, hu1⟩ : ∃ u, cs[m * 2 + 1]? = some u := ⟨_, Array.getElem?_eq_getElem (by omega)⟩
         have a0 := (ca.cell (m * 2)).trans hu0
         have a1 := (ca.cell (m * 2 + 1)).trans hu1
         have z0 := ca.frozen (m * 2)
         have z1 := ca.frozen (m * 2 + 1)
         clear hperm hrow hnil hB2 ca hcs hu0 hu1))
    have hmix : Tryz.prog.follows .mixedOrders = true := by kernel_rfl
    refine region_tail_in l _ 13 hmix (by kernel_rfl) (no_defer (by rfl)) (fun ⟨_, _, h⟩ => h) ?_
    simp only [List.take_succ_cons, List.take_zero, List.drop_succ_cons, List.drop_zero]
    repeat still_step
    try refine wpStill_nil ?_
    go_wp2
    refine region_tail_in l _ 7 hmix (by kernel_rfl) (no_defer (by rfl)) (fun ⟨_, _, h⟩ => h) ?_
    simp only [List.take_succ_cons, List.take_zero, List.drop_succ_cons, List.drop_zero]
    repeat still_step
    try refine wpStill_nil ?_
    go_wp2
    have hst := HS2.out.stored (m := m) hm hgl hat hn0
    simp only [hmm, hD, hlatS] at hst
    have hS3 := hst.drew.drew
    refine ⟨?_, ⟨Eq.trans hS3.c4 (Eq.symm HS.out.c4), Eq.trans hS3.kept (Eq.symm HS.out.kept)⟩, hS3⟩
    refine KeepsFrom.trans (KeepsFrom.of_grownBy HG1.out (fun j e => by cases e; omega)) (KeepsFrom.trans (KeepsFrom.of_grownBy (World.grownBy_alloc W1 (.cells #[.map (some bm)] 129) none) (fun j e => by cases e)) (KeepsFrom.trans (KeepsFrom.of_grownBy (grown_of_below (by rw [World.size_alloc]; exact HB2.out)) (fun j e => by cases e)) ?_))
    exact KeepsFrom.trans ((KeepsOthers.setCell _ _ _).from _) (KeepsFrom.trans ((KeepsOthers.setCell _ _ _).from _) (KeepsFrom.trans ((KeepsOthers.setCell _ _ _).from _) (KeepsFrom.trans ((KeepsOthers.drew _).from _) ((KeepsOthers.drew _).from _))))
  case done =>
    rintro D2 W hD hS hK
    have f3 : W.cell? ⟨w.heap.size + 1 + 1 + 1, 0, none⟩ = some (.slice (some ⟨w.heap.size + 1 + 1, 0, none⟩) Ds.length Ds.length) := hS.c3.cell 0
    have hsw := hS.c4.lt
    gi_wp2
    obtain ⟨cs, ca, hcs, hv⟩ := hS.arr
    refine ⟨by simp, .inl ⟨_, _, rfl, run_takeDeferred hK, ?_⟩⟩
    exact ⟨_, results_tmp rfl _ _ _, w.heap.size + 1 + 1, cs, by omega, rfl, ca.putObj (by omega) _, fun j hj => hv j (by omega) hj, hS.bel.grown (grownBy_putObj' W D2 (.deferred none)) (by omega) (fun r e => by cases e; omega)⟩
end Go.Proofs.YtnoofdjlocadbaaGreatDoor

/-! Dates at the example. -/
namespace Go.Proofs.YtnoofdjlocadbaaGreatDoor
open Go.RowKit Go.Shelf Go.Maps

def one (y : Int) : Lit × DataW Unit := (.int .i64 y, .lit (.int .i64 1))
theorem rows1 : rowsRun 9 40 55 [2] = .map [one 42, one 52] := by kernel_rfl
theorem rows2 : rowsRun 9 40 55 [2, -1] = .map [one 51, one 52, one 53, one 54, one 55] := by kernel_rfl
theorem keys2 : spanKeys (rowsRun 9 40 55 [2, -1]) 55 = [51, 52, 53, 54, 55] := by
  rw [rows2]
  exact List.mergeSort_of_pairwise (l := [51, 52, 53, 54, 55]) (by decide)
theorem keys1 : spanKeys (rowsRun 9 40 55 [2]) 46 = [42] := by
  rw [rows1]
  exact List.mergeSort_of_pairwise (l := [42]) (by decide)
theorem ways2 : wrap64 (total (rowsRun 9 40 55 [2, -1])) = 5 := by
  rw [rows2]
  kernel_rfl

theorem lat1 : latAt (fits 9 40 55 [2, -1] 2) 9 55 1 = 46 := by
  show (spanKeys (rowsRun 9 40 55 [2, -1]) 55).getD ((spanKeys (rowsRun 9 40 55 [2, -1]) 55).length - 1) 0 - 9 = 46
  rw [keys2]
  decide
theorem lo0 : spanLo ((fits 9 40 55 [2, -1] 2).getD 0 (.map [])) (latAt (fits 9 40 55 [2, -1] 2) 9 55 ((fits 9 40 55 [2, -1] 2).length - 1 - 0)) = 42 := by
  show (spanKeys (rowsRun 9 40 55 [2]) (latAt (fits 9 40 55 [2, -1] 2) 9 55 1)).getD 0 0 = 42
  rw [lat1, keys1]
  decide
theorem hi0 : spanHi ((fits 9 40 55 [2, -1] 2).getD 0 (.map [])) (latAt (fits 9 40 55 [2, -1] 2) 9 55 ((fits 9 40 55 [2, -1] 2).length - 1 - 0)) = 42 := by
  show (spanKeys (rowsRun 9 40 55 [2]) (latAt (fits 9 40 55 [2, -1] 2) 9 55 1)).getD ((spanKeys (rowsRun 9 40 55 [2]) (latAt (fits 9 40 55 [2, -1] 2) 9 55 1)).length - 1) 0 = 42
  rw [lat1, keys1]
  decide
theorem lo1 : spanLo ((fits 9 40 55 [2, -1] 2).getD 1 (.map [])) (latAt (fits 9 40 55 [2, -1] 2) 9 55 ((fits 9 40 55 [2, -1] 2).length - 1 - 1)) = 51 := by
  show (spanKeys (rowsRun 9 40 55 [2, -1]) 55).getD 0 0 = 51
  rw [keys2]
  decide
theorem hi1 : spanHi ((fits 9 40 55 [2, -1] 2).getD 1 (.map [])) (latAt (fits 9 40 55 [2, -1] 2) 9 55 ((fits 9 40 55 [2, -1] 2).length - 1 - 1)) = 55 := by
  show (spanKeys (rowsRun 9 40 55 [2, -1]) 55).getD ((spanKeys (rowsRun 9 40 55 [2, -1]) 55).length - 1) 0 = 55
  rw [keys2]
  decide

set_option maxRecDepth 100000 in
set_option maxHeartbeats 1000000 in
theorem dates_example (b off c : Nat) (w : World) (hb : b < w.heap.size) (d0 : w.cell? ⟨b, off, none⟩ = some (.int .i64 2)) (d1 : w.cell? ⟨b, off + 1, none⟩ = some (.int .i64 (-1))) :
    Calls Tryz.prog 17 #[.int .i64 9, .slice (some ⟨b, off, none⟩) 2 c, .agg #[.int .i64 40, .int .i64 55]] w fun e w' =>
      ∃ (g : Nat) (cs : Array Value), w.heap.size ≤ g ∧ e = .returned (.tuple #[.slice (some ⟨g, 0, none⟩) 2 2, .int .i64 5, .int .i64 0]) ∧ Blk w' g 41 cs ∧ (cs[0]? = some (.int .i64 42) ∧ cs[1]? = some (.int .i64 42)) ∧ (cs[2]? = some (.int .i64 51) ∧ cs[3]? = some (.int .i64 55)) ∧ Below w.heap.size w w' := by
  have HC := Lib.hid (show ∀ W, Below w.heap.size w W → _ from fun W (hW : Below w.heap.size w W) => checkDates_example b off c W (Nat.lt_of_lt_of_le hb hW.size) ((hW.cell hb).trans d0) ((hW.cell hb).trans d1))
  have D0 := Lib.hid d0
  have D1 := Lib.hid d1
  clear d0 d1
  go_enter Tryz.func17, Tryz.ntmps17
  go_wp2_with (first
    | (go_at_call 38; refine (HC.out _ ((Below.refl _ _).alloc (Nat.le_refl _) _)).mono ?_; rintro e w1 ⟨rfl, hw1⟩
       have hB1 : Below w.heap.size w w1 := ((Below.refl _ _).alloc (Nat.le_refl _) (.cells #[.int .i64 40, .int .i64 55] 41)).trans (hw1.mono (by simp))
       have k1 : Blk w1 w.heap.size 41 #[.int .i64 40, .int .i64 55] := Blk.below (Blk.new w _ _) hw1 (by simp)
       have b0 : w1.cell? ⟨w.heap.size, 0, none⟩ = some (.int .i64 40) := k1.cell 0
       have b1 : w1.cell? ⟨w.heap.size, 1, none⟩ = some (.int .i64 55) := k1.cell 1
       clear hw1)
    | (go_at_call 39; refine (follow_calls b off c [2, -1] 9 40 55 w1 (by omega) (by omega) (by omega) (by omega) (by omega) (Nat.lt_of_lt_of_le hb hB1.size) (by simp) (fun j hj => by
         match j, hj with
         | 0, _ => exact (hB1.cell hb).trans D0.out
         | 1, _ => exact (hB1.cell hb).trans D1.out)).mono ?_
       rintro e w2 ⟨v, bs, rfl, hfit, hB2⟩
       rw [ways2]
       have k2 := k1.below hB2 k1.lt
       have c0 : w2.cell? ⟨w.heap.size, 0, none⟩ = some (.int .i64 40) := k2.cell 0
       have c1 : w2.cell? ⟨w.heap.size, 1, none⟩ = some (.int .i64 55) := k2.cell 1
       obtain ⟨va, vn, vc, rfl⟩ : ∃ a n c, v = .slice a n c := by
         rcases hfit.row.2 with ⟨h, _⟩ | ⟨g, cap, _, h, _⟩
         · exact ⟨_, _, _, h⟩
         · exact ⟨_, _, _, h⟩)
    | (go_at_call 40; refine (spans_calls (w1.heap.size + 1) 16 (fits 9 40 55 [2, -1] 2) _ bs 9 55 w2 hfit (by decide) (by decide) (by omega) (fun k hk => by
         match k, hk with
         | 0, _ =>
           show 0 < (spanKeys (rowsRun 9 40 55 [2, -1]) 55).length ∧ _ ≤ (spanKeys (rowsRun 9 40 55 [2, -1]) 55).getD ((spanKeys (rowsRun 9 40 55 [2, -1]) 55).length - 1) 0 ∧ (spanKeys (rowsRun 9 40 55 [2, -1]) 55).getD ((spanKeys (rowsRun 9 40 55 [2, -1]) 55).length - 1) 0 ≤ _
           rw [keys2]; decide
         | 1, _ =>
           rw [lat1]
           show 0 < (spanKeys (rowsRun 9 40 55 [2]) 46).length ∧ _ ≤ (spanKeys (rowsRun 9 40 55 [2]) 46).getD ((spanKeys (rowsRun 9 40 55 [2]) 46).length - 1) 0 ∧ (spanKeys (rowsRun 9 40 55 [2]) 46).getD ((spanKeys (rowsRun 9 40 55 [2]) 46).length - 1) 0 ≤ _
           rw [keys1]; decide) (by omega) (by omega) (by have h2 := hfit.at_ 0 (by rw [hfit.len]; decide); have := h2.1; have := h2.2.lt; omega)).mono ?_
       rintro e w3 ⟨g, cs, hg, rfl, hblk, hcs, hB3⟩))
  have q0 := hcs 0 (by decide)
  have q1 := hcs 1 (by decide)
  rw [lo0, hi0] at q0
  rw [lo1, hi1] at q1
  have hs1 := hB1.size
  have hs2 := hB2.size
  refine bodyPost_ret (results_tmp3 rfl _ _ _) rfl ?_
  exact ⟨g, cs, by omega, rfl, hblk, q0, q1, (hB1.trans (hB2.mono hs1)).trans (hB3.mono (by omega))⟩
end Go.Proofs.YtnoofdjlocadbaaGreatDoor

/-! The chapter's example. -/
namespace Go.Proofs.YtnoofdjlocadbaaGreatDoor
open Go.RowKit Go.Shelf

def exLaw : Law := { age := 25, rest := 9, girth := 700, f0 := 20, f1 := 25, f2 := 30, heal := 3 }
def exTree : Tree := { code := ⟨#[83, 49]⟩, bmin := 10, bmax := 14, taped := 40, gmin := 690, gmax := 700, wmin := 5, wmax := 8, sv := .slice none 0 0, wv := .slice none 0 0, dead := -1, strips := [], wounds := [] }

theorem ex_verdict (h : Int) : verdictOn exLaw exTree 42 h = if h ≤ 1400 then (1, 0) else if h ≤ 1432 then (0, 6) else (2, 6) := by
  have e0 : jv exLaw exTree 42 h 0 = 1 := by kernel_rfl
  have e1 : jv exLaw exTree 42 h 1 = 1 := by kernel_rfl
  have e2 : jv exLaw exTree 42 h 2 = 1 := by kernel_rfl
  have e3 : jv exLaw exTree 42 h 3 = 1 := by kernel_rfl
  have e4 : jv exLaw exTree 42 h 4 = 1 := by kernel_rfl
  have e5 : jv exLaw exTree 42 h 5 = if h ≤ 1400 then 1 else if h ≤ 1432 then 0 else 2 := by
    show judged (decide (10 * h ≤ 14000)) (decide (10 * h ≤ 14320)) = _
    unfold judged
    by_cases h1 : h ≤ 1400
    · rw [if_pos (by simp; omega), if_pos h1]
    · rw [if_neg (by simp; omega), if_neg h1]
      by_cases h2 : h ≤ 1432
      · rw [if_pos (by simp; omega), if_pos h2]
      · rw [if_neg (by simp; omega), if_neg h2]
  have place : ∀ p : Fin 6 → Bool, firstPlace p = [0, 1, 2, 3, 4, 5].find? p := fun p => by kernel_rfl
  unfold verdictOn verdictV
  rw [place, place]
  generalize jv exLaw exTree 42 h = j at e0 e1 e2 e3 e4 e5
  have f0 : j (0 : Fin 6).val = 1 := e0
  have f1 : j (1 : Fin 6).val = 1 := e1
  have f2 : j (2 : Fin 6).val = 1 := e2
  have f3 : j (3 : Fin 6).val = 1 := e3
  have f4 : j (4 : Fin 6).val = 1 := e4
  have f5 : j (5 : Fin 6).val = if h ≤ 1400 then 1 else if h ≤ 1432 then 0 else 2 := e5
  simp only [List.find?_cons, List.find?_nil, f0, f1, f2, f3, f4, f5]
  by_cases h1 : h ≤ 1400
  · simp [h1]
  · by_cases h2 : h ≤ 1432
    · simp [h1, h2]
      rfl
    · simp [h1, h2]
      rfl

theorem ex_sure (k : Nat) : (!((verdictOn exLaw exTree 42 ((k : Int) + 1)).1 == 1)) = decide (1400 ≤ k) := by
  rw [ex_verdict]
  by_cases h1 : (k : Int) + 1 ≤ 1400
  · rw [if_pos h1, decide_eq_false (by omega)]; rfl
  · rw [if_neg h1, decide_eq_true (by omega)]
    by_cases h2 : (k : Int) + 1 ≤ 1432
    · rw [if_pos h2]; rfl
    · rw [if_neg h2]; rfl
theorem ex_possible (k : Nat) : (!((verdictOn exLaw exTree 42 ((k : Int) + 1)).1 != 2)) = decide (1432 ≤ k) := by
  rw [ex_verdict]
  by_cases h1 : (k : Int) + 1 ≤ 1400
  · rw [if_pos h1, decide_eq_false (by omega)]; rfl
  · rw [if_neg h1]
    by_cases h2 : (k : Int) + 1 ≤ 1432
    · rw [if_pos h2, decide_eq_false (by omega)]; rfl
    · rw [if_neg h2, decide_eq_true (by omega)]; rfl
theorem ex_heights {w w' : World} {e : Ending} (h : SomeHeights (fun k => !((verdictOn exLaw exTree 42 ((k : Int) + 1)).1 == 1)) (fun k => !((verdictOn exLaw exTree 42 ((k : Int) + 1)).1 != 2)) w e w') :
    e = .returned (.tuple #[.int .i64 1400, .int .i64 1432, .int .i64 0]) ∧ Below w.heap.size w w' := by
  simp only [ex_sure, ex_possible] at h
  obtain ⟨r, s, he, hr, hs, hb⟩ := h
  obtain ⟨r0, r1, r2⟩ := hr.out
  obtain ⟨s0, s1, s2⟩ := hs.out
  simp only [decide_eq_false_iff_not, decide_eq_true_iff] at r1 r2 s1 s2
  obtain rfl : r = 1400 := by omega
  obtain rfl : s = 1432 := by omega
  exact ⟨he, hb⟩
end Go.Proofs.YtnoofdjlocadbaaGreatDoor
