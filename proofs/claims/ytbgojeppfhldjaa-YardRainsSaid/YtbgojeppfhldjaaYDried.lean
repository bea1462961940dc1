/- The law's times and dried: a yard whose only stack dries as the air does. -/
import Derived.Test.YtbgojeppfhldjaaYDryness
namespace Go.Proofs.Ytbgojeppfhldjaa
open Go Go.RowKit Go.Shelf Yd
set_option maxHeartbeats 1000000 in
theorem times_calls (lo hi : Int) (w : World) (h : 0 ≤ lo ∧ lo ≤ hi ∧ hi ≤ 9) :
    Calls Try.prog 28 #[.agg #[.int .i64 lo, .int .i64 hi], .int .i64 50] w fun e w' => e = .returned (.agg #[.int .i64 (lo * 50), .int .i64 (hi * 50)]) ∧ Below w.heap.size w w' := by
  have HR0 := Lib.hid (Blk.new (w.alloc (.cells #[.int .i64 lo, .int .i64 hi] 23)) 23 #[.int .i64 0, .int .i64 0])
  rw [World.size_alloc] at HR0
  have HW0 := Lib.hid (((Below.refl w.heap.size w).alloc (Nat.le_refl _) (.cells #[.int .i64 lo, .int .i64 hi] 23)).alloc (by rw [World.size_alloc]; omega) (.cells #[.int .i64 0, .int .i64 0] 23))
  obtain ⟨h1, h2, h3⟩ := h
  go_enter Try.func28, Try.ntmps28
  go_wp2_with (first
    | (go_at_call 21; refine (bounds_calls _ _ _).mono ?_; rintro e w2 ⟨rfl, hb2⟩; have HR2 := Lib.hid (HR0.out.below hb2); have HW2 := Lib.hid (HW0.out.trans (hb2.mono HW0.out.size)); clear hb2)
    | ((with_reducible refine at_store 23 (.tmp 4) (.tmp 13) ?_); go_must (refine wpList_store_mid rfl 23 (.tmp 4) (.tmp 13) rfl (w.heap.size + 1) 0 #[.int .i64 (lo * 50), .int .i64 (hi * 50)] rfl rfl (HR2.out.there (o := 0) (n := 2) (Nat.le_of_ble_eq_true rfl)) size_bounds (show (#[.int .i64 (lo * 50), .int .i64 (hi * 50)] : Array Value).all (·.oneCell') = true from by simp [Value.oneCell']) ?_)))
  have hk2 := HR2.out.stored (old := [.int .i64 0, .int .i64 0]) [.int .i64 (lo * 50), .int .i64 (hi * 50)] rfl
  exact bodyPost_ret (results_cell_row rfl _ _ (w.heap.size + 1) 23 _ (0, 0) _ rfl hk2 Try.underlying23 rfl size_bounds) rfl ⟨rfl, below_setCells HW2.out (Nat.le_succ _) _ 0⟩
/-- A deed of the yard that dries. -/
abbrev codeS : Code := ⟨#[83]⟩
abbrev noCode : Code := ⟨#[]⟩
theorem rests_more {κ : Type} (c e : κ) : ∀ (xs ys : List Bd) (i : Nat), rests c e i (xs ++ ys) = rests c e i xs ++ rests c e (i + xs.length) ys
  | [], ys, i => rfl
  | x :: xs, ys, i => by
    rw [List.cons_append, rests, rests, rests_more c e xs ys (i + 1), List.length_cons, show i + 1 + xs.length = i + (xs.length + 1) from by omega]
    rfl
/-- The deeds of the first days. -/
def driedUpto (dlo dhi wlo whi : Int) (l : List Bd) (q : Nat) : List (Deed Code) := driedDeeds codeS noCode ⟨dlo, dhi⟩ ⟨wlo, whi⟩ (l.take q)
theorem dried_step {dlo dhi wlo whi : Int} {l : List Bd} {q : Nat} (h : q < l.length) : flat deedCells (driedUpto dlo dhi wlo whi l (q + 1)) = flat deedCells (driedUpto dlo dhi wlo whi l q) ++ [.int .i64 2, .int .i64 (q : Int), .string ⟨#[83]⟩, .string ⟨#[]⟩, .int .i64 (l[q]!.lo * 50), .int .i64 (l[q]!.hi * 50), .int .i64 0, .int .i64 0] := by
  unfold driedUpto driedDeeds
  rw [← List.take_append_getElem h, rests_more, ← List.cons_append, flat_append, List.length_take, Nat.zero_add, Nat.min_eq_left (by omega), getElem!_pos l q h]
  rfl
theorem two_cells {w : World} {b o : Nat} {x y : Value} (h1 : w.cell? ⟨b, o, none⟩ = some x) (h2 : w.cell? ⟨b, o + 1, none⟩ = some y) : w.rangeAt b o [x, y] := fun k v hv => by
  match k, hv with
  | 0, hv => cases hv; exact h1
  | 1, hv => cases hv; exact h2
theorem perm5 {α : Type} (a b c d e : α) : [c, e, d, a, b].Perm [a, b, c, d, e] :=
  (List.perm_append_comm (l₁ := [c, e, d]) (l₂ := [a, b])).trans (.cons _ (.cons _ (.cons _ (.swap _ _ _))))
/-- A block of the call's own that is a row of one. -/
theorem Rowed.ofBlk {w0 W : World} {L : List (Nat × TypeId × List Value)} {S : List (List SRow × Value)} {g : Nat} {e : TypeId} {cs : List Value} {k : Nat} (h : Locs w0 W (L ++ [(g, e, cs)]) S) (hk : cs.length = k) : Rowed w0 W L e k (.slice (some ⟨g, 0, none⟩) 1 1) 1 cs := by
  have hm : (g, e, cs) ∈ L ++ [(g, e, cs)] := by simp
  refine ⟨⟨by omega, .inr ⟨g, 1, cs.toArray, rfl, (h.loc _ hm).2, (h.loc _ hm).1, Nat.le_refl _, by unfold maxLen; omega, by simp; omega, by rw [← hk]; simp⟩⟩, fun x hx e2 => ?_⟩
  have hn := h.nodup
  rw [List.map_append, List.nodup_append] at hn
  have e3 : g = x.1 := by injection e2
  exact hn.2.2 x.1 (List.mem_map_of_mem hx) g (by simp) e3.symm
/-- What dried leaves. -/
def DriedDone (w : World) (ds : List (Deed Code)) (e : Ending) (w' : World) : Prop :=
  ∃ v, e = .returned (.agg #[.int .i64 0, .int .i64 0, v]) ∧ Below w.heap.size w w' ∧ w'.ownsRow w.heap.size 57 8 v ds.length (flat deedCells ds)

set_option linter.unusedSimpArgs false in
set_option maxRecDepth 100000 in
set_option maxHeartbeats 4000000 in
theorem dried_calls (dlo dhi wlo whi : Int) (v : Value) (l : List Bd) (w : World) (h : Held w.heap.size w 2 bdCells v l) (h60 : l.length ≤ 60) (hok : ∀ b ∈ l, Air b) :
    Calls Try.prog 10 #[.agg #[.int .i64 dlo, .int .i64 dhi], .agg #[.int .i64 wlo, .int .i64 whi], v] w (DriedDone w (driedDeeds codeS noCode ⟨dlo, dhi⟩ ⟨wlo, whi⟩ l)) := by
  obtain ⟨a, cp, rfl, _, hcs⟩ := h.slice
  have HCS := Lib.hid hcs; have HOK := Lib.hid hok
  obtain ⟨n, hn⟩ : ∃ n, n = l.length := ⟨_, rfl⟩
  have HN := Lib.hid hn
  rw [← hn] at h60 ⊢
  clear h hcs hn hok
  go_enter Try.func10, Try.ntmps10
  go_upto_region 1 with fail
  have HL0 := Lib.hid (show Locs w (((w.alloc (.cells #[.int .i64 dlo, .int .i64 dhi] 23)).alloc (.cells #[.int .i64 wlo, .int .i64 whi] 23)).alloc (.cells #[.int .i64 0, .int .i64 0, .slice none 0 0] 43)) [(w.heap.size, 23, [.int .i64 dlo, .int .i64 dhi]), (w.heap.size + 1, 23, [.int .i64 wlo, .int .i64 whi]), (w.heap.size + 1 + 1, 43, [.int .i64 0, .int .i64 0, .slice none 0 0])] [] from (((Locs.start w).alloc 23 [.int .i64 dlo, .int .i64 dhi] rfl).alloc 23 [.int .i64 wlo, .int .i64 whi] (World.size_alloc _ _)).alloc 43 [.int .i64 0, .int .i64 0, .slice none 0 0] (by rw [World.size_alloc, World.size_alloc]))
  generalize (((w.alloc (.cells #[.int .i64 dlo, .int .i64 dhi] 23)).alloc (.cells #[.int .i64 wlo, .int .i64 whi] 23)).alloc (.cells #[.int .i64 0, .int .i64 0, .slice none 0 0] 43)) = v0 at HL0 ⊢
  generalize w.heap.size + 1 + 1 = gr at HL0 ⊢
  generalize w.heap.size + 1 = g1 at HL0 ⊢
  generalize w.heap.size = g0 at HL0 ⊢
  try simp only [Act.put]
  have y0 := HL0.out.at 0 0 (v := .int .i64 dlo) rfl rfl
  have y1 := HL0.out.at 0 1 (v := .int .i64 dhi) rfl rfl
  have y2 := HL0.out.at 1 0 (v := .int .i64 wlo) rfl rfl
  have y3 := HL0.out.at 1 1 (v := .int .i64 whi) rfl rfl
  have HL1 := Lib.hid (show Locs w ((v0.alloc (.cells #[.int .i64 1, .int .i64 0, .string ⟨#[83]⟩, .string ⟨#[]⟩, .int .i64 dlo, .int .i64 dhi, .int .i64 wlo, .int .i64 whi] 57)).alloc (.cells #[.int .i64 0, .int .i64 0, .slice none 0 0] 43)) [(g0, 23, [.int .i64 dlo, .int .i64 dhi]), (g1, 23, [.int .i64 wlo, .int .i64 whi]), (gr, 43, [.int .i64 0, .int .i64 0, .slice none 0 0]), (v0.heap.size, 57, [.int .i64 1, .int .i64 0, .string ⟨#[83]⟩, .string ⟨#[]⟩, .int .i64 dlo, .int .i64 dhi, .int .i64 wlo, .int .i64 whi]), (v0.heap.size + 1, 43, [.int .i64 0, .int .i64 0, .slice none 0 0])] [] from (HL0.out.alloc 57 [.int .i64 1, .int .i64 0, .string ⟨#[83]⟩, .string ⟨#[]⟩, .int .i64 dlo, .int .i64 dhi, .int .i64 wlo, .int .i64 whi] rfl).alloc 43 [.int .i64 0, .int .i64 0, .slice none 0 0] (World.size_alloc _ _))
  clear HL0
  go_upto_region 2 with ((with_reducible refine at_store 43 (.tmp 7) (.tmp 13) ?_); go_must (refine wpList_store_mid rfl 43 (.tmp 7) (.tmp 13) rfl (v0.heap.size + 1) 0 #[.int .i64 0, .int .i64 0, .slice (some ⟨v0.heap.size, 0, none⟩) 1 1] rfl rfl (HL1.out.there 4 (o := 0) (n := 3) rfl (Nat.le_of_ble_eq_true rfl)) size_yard (by simp [Value.oneCell']) ?_))
  have HL2 := Lib.hid (show Locs w (((v0.alloc (.cells #[.int .i64 1, .int .i64 0, .string ⟨#[83]⟩, .string ⟨#[]⟩, .int .i64 dlo, .int .i64 dhi, .int .i64 wlo, .int .i64 whi] 57)).alloc (.cells #[.int .i64 0, .int .i64 0, .slice none 0 0] 43)).setCells (v0.heap.size + 1) 0 [.int .i64 0, .int .i64 0, .slice (some ⟨v0.heap.size, 0, none⟩) 1 1]) [(g0, 23, [.int .i64 dlo, .int .i64 dhi]), (g1, 23, [.int .i64 wlo, .int .i64 whi]), (gr, 43, [.int .i64 0, .int .i64 0, .slice none 0 0]), (v0.heap.size, 57, [.int .i64 1, .int .i64 0, .string ⟨#[83]⟩, .string ⟨#[]⟩, .int .i64 dlo, .int .i64 dhi, .int .i64 wlo, .int .i64 whi]), (v0.heap.size + 1, 43, [.int .i64 0, .int .i64 0, .slice (some ⟨v0.heap.size, 0, none⟩) 1 1])] [] from HL1.out.setLoc 4 [] [.int .i64 0, .int .i64 0, .slice none 0 0] [] [.int .i64 0, .int .i64 0, .slice (some ⟨v0.heap.size, 0, none⟩) 1 1] rfl rfl)
  clear HL1 y0 y1 y2 y3
  generalize (((v0.alloc (.cells #[.int .i64 1, .int .i64 0, .string ⟨#[83]⟩, .string ⟨#[]⟩, .int .i64 dlo, .int .i64 dhi, .int .i64 wlo, .int .i64 whi] 57)).alloc (.cells #[.int .i64 0, .int .i64 0, .slice none 0 0] 43)).setCells (v0.heap.size + 1) 0 [.int .i64 0, .int .i64 0, .slice (some ⟨v0.heap.size, 0, none⟩) 1 1]) = v1 at HL2 ⊢
  generalize v0.heap.size + 1 = gy at HL2 ⊢
  generalize v0.heap.size = gf at HL2 ⊢
  try simp only [Act.put]
  have HL3 := Lib.hid (show Locs w v1 [(gr, 43, [.int .i64 0, .int .i64 0, .slice none 0 0]), (gy, 43, [.int .i64 0, .int .i64 0, .slice (some ⟨gf, 0, none⟩) 1 1]), (gf, 57, [.int .i64 1, .int .i64 0, .string ⟨#[83]⟩, .string ⟨#[]⟩, .int .i64 dlo, .int .i64 dhi, .int .i64 wlo, .int .i64 whi])] [] from (HL2.out.perm (L' := [(gr, 43, [.int .i64 0, .int .i64 0, .slice none 0 0]), (gy, 43, [.int .i64 0, .int .i64 0, .slice (some ⟨gf, 0, none⟩) 1 1]), (gf, 57, [.int .i64 1, .int .i64 0, .string ⟨#[83]⟩, .string ⟨#[]⟩, .int .i64 dlo, .int .i64 dhi, .int .i64 wlo, .int .i64 whi]), (g0, 23, [.int .i64 dlo, .int .i64 dhi]), (g1, 23, [.int .i64 wlo, .int .i64 whi])]) (perm5 _ _ _ _ _)).fewer (List.sublist_append_left ([(gr, 43, [.int .i64 0, .int .i64 0, .slice none 0 0]), (gy, 43, [.int .i64 0, .int .i64 0, .slice (some ⟨gf, 0, none⟩) 1 1]), (gf, 57, [.int .i64 1, .int .i64 0, .string ⟨#[83]⟩, .string ⟨#[]⟩, .int .i64 dlo, .int .i64 dhi, .int .i64 wlo, .int .i64 whi])] : List (Nat × TypeId × List Value)) ([(g0, 23, [.int .i64 dlo, .int .i64 dhi]), (g1, 23, [.int .i64 wlo, .int .i64 whi])] : List (Nat × TypeId × List Value))) (List.Sublist.refl _))
  clear HL2
  have HR0 := Lib.hid (Rowed.ofBlk (L := [(gr, 43, [.int .i64 0, .int .i64 0, .slice none 0 0]), (gy, 43, [.int .i64 0, .int .i64 0, .slice (some ⟨gf, 0, none⟩) 1 1])]) HL3.out rfl)
  have HL4 := Lib.hid (HL3.out.fewer (List.sublist_append_left ([(gr, 43, [.int .i64 0, .int .i64 0, .slice none 0 0]), (gy, 43, [.int .i64 0, .int .i64 0, .slice (some ⟨gf, 0, none⟩) 1 1])] : List (Nat × TypeId × List Value)) ([(gf, 57, [.int .i64 1, .int .i64 0, .string ⟨#[83]⟩, .string ⟨#[]⟩, .int .i64 dlo, .int .i64 dhi, .int .i64 wlo, .int .i64 whi])] : List (Nat × TypeId × List Value))) (List.Sublist.refl _))
  clear HL3
  go_wp2
  go_loopw [8] (fun iv wr => ∃ (q : Nat) (sv : Value), q ≤ n ∧ iv = .int .i64 q ∧ Hid (Rowed w wr ([(gr, 43, [.int .i64 0, .int .i64 0, .slice none 0 0]), (gy, 43, [.int .i64 0, .int .i64 0, sv])] : List (Nat × TypeId × List Value)) 57 8 (sv) (q + 1) (flat deedCells (driedUpto dlo dhi wlo whi l q))) ∧ Hid (Locs w wr [(gr, 43, [.int .i64 0, .int .i64 0, .slice none 0 0]), (gy, 43, [.int .i64 0, .int .i64 0, sv])] [])) (fun iv _ => n - (intOf iv).toNat)
  case atStart => exact ⟨0, _, Nat.zero_le _, rfl, HR0, HL4⟩
  case round =>
    clear HL4 HR0
    obtain ⟨q, sv, hq, rfl, HR, HL5⟩ := hrel
    obtain ⟨sa, sn, sc, rfl⟩ := row_slice HR.out.own
    obtain rfl := row_len HR.out.own
    by_cases hlt : q < n
    · skip
      have hqI : (q : Int) < (n : Int) := by omega
      have hq0 : (0 : Int) ≤ (q : Int) := by omega
      have hql : q < l.length := by rw [← HN.out]; exact hlt
      obtain ⟨b, off, rfl, hbl, ⟨hnc, hcm⟩, hcells⟩ := HCS.out (by omega)
      obtain ⟨⟨lo, hi⟩, hd⟩ : ∃ d, d = l[q]! := ⟨_, rfl⟩
      have hdo := HOK.out _ (get_in hql)
      have hst := dried_step (dlo := dlo) (dhi := dhi) (wlo := wlo) (whi := whi) hql
      rw [← hd] at hdo hst
      have HST := Lib.hid hst
      have HTI := Lib.hid (fun W => times_calls lo hi W hdo)
      have HF0 := Lib.hid (show ∀ W, Below w.heap.size w W → W.cell? ⟨b, off + q * 2, none⟩ = some (.int .i64 lo) from fun W hW => (hW.cell (p := ⟨b, off + q * 2 + 0, none⟩) hbl).trans (hcells q hql 0 _ (by rw [← hd]; rfl)))
      have HF1 := Lib.hid (show ∀ W, Below w.heap.size w W → W.cell? ⟨b, off + q * 2 + 1, none⟩ = some (.int .i64 hi) from fun W hW => (hW.cell (p := ⟨b, off + q * 2 + 1, none⟩) hbl).trans (hcells q hql 1 _ (by rw [← hd]; rfl)))
      rw [← HN.out] at hnc
      clear hcells hd hdo hst hql
      obtain ⟨i1_, hi1, hi1a, hi1b, hi1c⟩ := info_parts info_deedz
      have HI1 := Lib.hid hi1; have HI1a := Lib.hid hi1a; have HI1b := Lib.hid hi1b; have HI1c := Lib.hid hi1c
      have HA1 := Lib.hid (show q + 1 + 1 ≤ maxLen ∧ (q + 1 + 1) * 80 ≤ 140737488355328 by unfold maxLen; omega)
      clear hi1 hi1a hi1b hi1c
      go_upto_region 5 with fail
      have hmix : Try.prog.follows .mixedOrders = true := by kernel_rfl
      refine region_till [12] (fun w' => w'.cell? ⟨gy, 2, none⟩ = some (.slice sa (q + 1) sc) ∧ w'.cell? ⟨b, off + q * 2, none⟩ = some (.int .i64 lo) ∧ w'.cell? ⟨b, off + q * 2 + 1, none⟩ = some (.int .i64 hi)) 13 [false, false, false, false, false, false, false, false, false, false, false, false, false] hmix rfl rfl ?_
      clear hmix
      have HL6 := Lib.hid (HL5.out.drew)
      have HRd := Lib.hid (HR.out.below (Below.refl wr.heap.size wr).drew)
      generalize wr.drew = v2 at HL6 HRd ⊢
      have HT := Lib.hid (show (fun w' => w'.cell? ⟨gy, 2, none⟩ = some (.slice sa (q + 1) sc) ∧ w'.cell? ⟨b, off + q * 2, none⟩ = some (.int .i64 lo) ∧ w'.cell? ⟨b, off + q * 2 + 1, none⟩ = some (.int .i64 hi)) v2 from ⟨HL6.out.at 1 2 (v := .slice sa (q + 1) sc) rfl rfl, HF0.out _ HL6.out.low, HF1.out _ HL6.out.low⟩)
      refine till_pure (i := 0) (v := .pointer (some ⟨gy, 2, none⟩)) rfl rfl (by kernel_rfl) (fun _ _ _ h => h) (yields_of rfl (fun w' _ => by simp [go_sem])) (fun _ => HT.out) ?_
      try simp only [List.setIfInBounds_toArray, List.set_cons_succ, List.set_cons_zero]
      refine till_load (i := 1) (v := .slice sa (q + 1) sc) rfl rfl (by kernel_rfl) (fun _ _ _ h => h) (yields_of rfl (fun w' hw' => by have hcx : w'.cell? ⟨gy, 2, none⟩ = some (.slice sa (q + 1) sc) := hw'.1; simp [go_sem, hcx])) (fun _ => HT.out) ?_
      try simp only [List.setIfInBounds_toArray, List.set_cons_succ, List.set_cons_zero]
      refine till_pure (i := 2) (v := .int .i64 (q : Int)) rfl rfl (by kernel_rfl) (fun _ _ _ h => h) (yields_of rfl (fun w' _ => by simp [go_sem])) (fun _ => HT.out) ?_
      try simp only [List.setIfInBounds_toArray, List.set_cons_succ, List.set_cons_zero]
      refine till_pure (i := 3) (v := .slice (some ⟨b, off, none⟩) n cp) rfl rfl (by kernel_rfl) (fun _ _ _ h => h) (yields_of rfl (fun w' _ => by simp [go_sem])) (fun _ => HT.out) ?_
      try simp only [List.setIfInBounds_toArray, List.set_cons_succ, List.set_cons_zero]
      refine till_pure (i := 4) (v := .int .i64 (q : Int)) rfl rfl (by kernel_rfl) (fun _ _ _ h => h) (yields_of rfl (fun w' _ => by simp [go_sem])) (fun _ => HT.out) ?_
      try simp only [List.setIfInBounds_toArray, List.set_cons_succ, List.set_cons_zero]
      refine till_pure (i := 5) (v := .pointer (some ⟨b, off + q * 2, none⟩)) rfl rfl (by kernel_rfl) (fun _ _ _ h => h) (yields_of rfl (fun w' _ => by simp [go_sem, Try.underlying24, hq0, hlt, hqI, hnc])) (fun _ => HT.out) ?_
      try simp only [List.setIfInBounds_toArray, List.set_cons_succ, List.set_cons_zero]
      refine till_load (i := 6) (v := .agg #[.int .i64 lo, .int .i64 hi]) rfl rfl (by kernel_rfl) (fun _ _ _ h => h) (yields_mid rfl 23 (.tmp 25) rfl (b) (off + q * 2) rfl [.int .i64 lo, .int .i64 hi] _ (fun w' hw' => two_cells hw'.2.1 hw'.2.2) Try.underlying23 rfl (by kernel_rfl)) (fun _ => HT.out) ?_
      try simp only [List.setIfInBounds_toArray, List.set_cons_succ, List.set_cons_zero]
      refine till_only (j := 7) (by kernel_rfl) rfl ?_
      go_wp2_with (go_at_call 28; refine (HTI.out _).mono ?_; rintro e v3 ⟨rfl, hb⟩; have HRe := Lib.hid (HRd.out.below hb); have HL7 := Lib.hid (HL6.out.below hb); clear hb)
      have HT := Lib.hid (show (fun w' => w'.cell? ⟨gy, 2, none⟩ = some (.slice sa (q + 1) sc) ∧ w'.cell? ⟨b, off + q * 2, none⟩ = some (.int .i64 lo) ∧ w'.cell? ⟨b, off + q * 2 + 1, none⟩ = some (.int .i64 hi)) v3 from ⟨HL7.out.at 1 2 (v := .slice sa (q + 1) sc) rfl rfl, HF0.out _ HL7.out.low, HF1.out _ HL7.out.low⟩)
      refine ⟨(fun _ => HT.out), ?_⟩
      try simp only [List.setIfInBounds_toArray, List.set_cons_succ, List.set_cons_zero]
      refine till_pure (i := 8) (v := .agg #[.int .i64 2, .int .i64 (q : Int), .string ⟨#[83]⟩, .string ⟨#[]⟩, .int .i64 (lo * 50), .int .i64 (hi * 50), .int .i64 0, .int .i64 0]) rfl rfl (by kernel_rfl) (fun _ _ _ h => h) (yields_of rfl (fun w' _ => by simp [go_sem])) (fun _ => HT.out) ?_
      try simp only [List.setIfInBounds_toArray, List.set_cons_succ, List.set_cons_zero]
      refine till_only (j := 9) (by kernel_rfl) rfl ?_
      go_wp2_with fail
      have HRa := Lib.hid (show Rowed w (v3.alloc (.cells #[.int .i64 2, .int .i64 (q : Int), .string ⟨#[83]⟩, .string ⟨#[]⟩, .int .i64 (lo * 50), .int .i64 (hi * 50), .int .i64 0, .int .i64 0] 57)) ([(gr, 43, [.int .i64 0, .int .i64 0, .slice none 0 0]), (gy, 43, [.int .i64 0, .int .i64 0, .slice sa (q + 1) sc]), (v3.heap.size, 57, [.int .i64 2, .int .i64 (q : Int), .string ⟨#[83]⟩, .string ⟨#[]⟩, .int .i64 (lo * 50), .int .i64 (hi * 50), .int .i64 0, .int .i64 0])] : List (Nat × TypeId × List Value)) 57 8 (.slice sa (q + 1) sc) (q + 1) (flat deedCells (driedUpto dlo dhi wlo whi l q)) from HRe.out.alloc 57 [.int .i64 2, .int .i64 (q : Int), .string ⟨#[83]⟩, .string ⟨#[]⟩, .int .i64 (lo * 50), .int .i64 (hi * 50), .int .i64 0, .int .i64 0] rfl)
      have HL8 := Lib.hid (show Locs w (v3.alloc (.cells #[.int .i64 2, .int .i64 (q : Int), .string ⟨#[83]⟩, .string ⟨#[]⟩, .int .i64 (lo * 50), .int .i64 (hi * 50), .int .i64 0, .int .i64 0] 57)) [(gr, 43, [.int .i64 0, .int .i64 0, .slice none 0 0]), (gy, 43, [.int .i64 0, .int .i64 0, .slice sa (q + 1) sc]), (v3.heap.size, 57, [.int .i64 2, .int .i64 (q : Int), .string ⟨#[83]⟩, .string ⟨#[]⟩, .int .i64 (lo * 50), .int .i64 (hi * 50), .int .i64 0, .int .i64 0])] [] from HL7.out.alloc 57 [.int .i64 2, .int .i64 (q : Int), .string ⟨#[83]⟩, .string ⟨#[]⟩, .int .i64 (lo * 50), .int .i64 (hi * 50), .int .i64 0, .int .i64 0] rfl)
      have HT := Lib.hid (show (fun w' => w'.cell? ⟨gy, 2, none⟩ = some (.slice sa (q + 1) sc) ∧ w'.cell? ⟨b, off + q * 2, none⟩ = some (.int .i64 lo) ∧ w'.cell? ⟨b, off + q * 2 + 1, none⟩ = some (.int .i64 hi)) (v3.alloc (.cells #[.int .i64 2, .int .i64 (q : Int), .string ⟨#[83]⟩, .string ⟨#[]⟩, .int .i64 (lo * 50), .int .i64 (hi * 50), .int .i64 0, .int .i64 0] 57)) from ⟨HL8.out.at 1 2 (v := .slice sa (q + 1) sc) rfl rfl, HF0.out _ HL8.out.low, HF1.out _ HL8.out.low⟩)
      refine ⟨(fun _ => HT.out), ?_⟩
      try simp only [List.setIfInBounds_toArray, List.set_cons_succ, List.set_cons_zero]
      refine till_only (j := 10) (by kernel_rfl) rfl ?_
      refine wpList_append_lies _ rfl (.tmp 21) (.tmp 29) 41 rfl w.heap.size 57 i1_ (.agg #[.int .i64 0, .int .i64 0, .string ⟨#[]⟩, .string ⟨#[]⟩, .int .i64 0, .int .i64 0, .int .i64 0, .int .i64 0]) 8 80 Try.underlying41 HI1.out HI1a.out HI1b.out HI1c.out rfl (by decide) (.slice sa (q + 1) sc) (q + 1) (flat deedCells (driedUpto dlo dhi wlo whi l q)) rfl HRa.out.own ⟨v3.heap.size, 0, none⟩ 1 1 [.int .i64 2, .int .i64 (q : Int), .string ⟨#[83]⟩, .string ⟨#[]⟩, .int .i64 (lo * 50), .int .i64 (hi * 50), .int .i64 0, .int .i64 0] rfl rfl (World.news_of_block (heap_alloc_new v3 _)) (by simp [Value.oneCell']) (by decide) HA1.out.1 HA1.out.2 HL8.out.low.size (v3.heap.size + 1) (World.size_alloc _ _) ?_
      intro g cap w7 hown7 hg7 hat7 hlt7
      have HL9 := Lib.hid (HL8.out.appended HRa.out hg7)
      have HR7 := Lib.hid (Rowed.appended HL8.out HRa.out hown7 (by rw [World.size_alloc]; exact hat7))
      clear hown7 hg7 hat7 hlt7
      change Till _ _ _ _ ∧ wpAnyT _ _ _ _ _ _ _ _ _ _
      try simp only [Act.put, List.setIfInBounds_toArray, List.set_cons_succ, List.set_cons_zero]
      have HT := Lib.hid (show (fun w' => w'.cell? ⟨gy, 2, none⟩ = some (.slice sa (q + 1) sc) ∧ w'.cell? ⟨b, off + q * 2, none⟩ = some (.int .i64 lo) ∧ w'.cell? ⟨b, off + q * 2 + 1, none⟩ = some (.int .i64 hi)) w7 from ⟨HL9.out.at 1 2 (v := .slice sa (q + 1) sc) rfl rfl, HF0.out _ HL9.out.low, HF1.out _ HL9.out.low⟩)
      refine ⟨(fun _ => HT.out), ?_⟩
      try simp only [List.setIfInBounds_toArray, List.set_cons_succ, List.set_cons_zero]
      refine till_pure (i := 11) (v := .pointer (some ⟨gy, 2, none⟩)) rfl rfl (by kernel_rfl) (fun _ _ _ h => h) (yields_of rfl (fun w' _ => by simp [go_sem])) (fun _ => HT.out) ?_
      try simp only [List.setIfInBounds_toArray, List.set_cons_succ, List.set_cons_zero]
      refine till_only (j := 12) (by kernel_rfl) rfl ?_
      have hc9 : w7.cell? ⟨gy, 2, none⟩ = some (.slice sa (q + 1) sc) := HL9.out.at 1 2 (v := .slice sa (q + 1) sc) rfl rfl
      have hf9 := HL9.out.frozen 1 rfl 2
      go_wp2_with fail
      clear hc9 hf9
      have HL10 := Lib.hid (show Locs w (w7.setCell ⟨gy, 2, none⟩ (.slice (some ⟨g, 0, none⟩) (q + 1 + 1) cap)) [(gr, 43, [.int .i64 0, .int .i64 0, .slice none 0 0]), (gy, 43, [.int .i64 0, .int .i64 0, .slice (some ⟨g, 0, none⟩) (q + 1 + 1) cap]), (v3.heap.size, 57, [.int .i64 2, .int .i64 (q : Int), .string ⟨#[83]⟩, .string ⟨#[]⟩, .int .i64 (lo * 50), .int .i64 (hi * 50), .int .i64 0, .int .i64 0])] [] from HL9.out.setLoc1 1 [.int .i64 0, .int .i64 0] [] (.slice sa (q + 1) sc) (.slice (some ⟨g, 0, none⟩) (q + 1 + 1) cap) 2 rfl rfl)
      have HR8 := Lib.hid (show Rowed w (w7.setCell ⟨gy, 2, none⟩ (.slice (some ⟨g, 0, none⟩) (q + 1 + 1) cap)) ([(gr, 43, [.int .i64 0, .int .i64 0, .slice none 0 0]), (gy, 43, [.int .i64 0, .int .i64 0, .slice (some ⟨g, 0, none⟩) (q + 1 + 1) cap]), (v3.heap.size, 57, [.int .i64 2, .int .i64 (q : Int), .string ⟨#[83]⟩, .string ⟨#[]⟩, .int .i64 (lo * 50), .int .i64 (hi * 50), .int .i64 0, .int .i64 0])] : List (Nat × TypeId × List Value)) 57 8 (.slice (some ⟨g, 0, none⟩) (q + 1 + 1) cap) (q + 1 + 1) (flat deedCells (driedUpto dlo dhi wlo whi l q) ++ [.int .i64 2, .int .i64 (q : Int), .string ⟨#[83]⟩, .string ⟨#[]⟩, .int .i64 (lo * 50), .int .i64 (hi * 50), .int .i64 0, .int .i64 0]) from HR7.out.setLoc1 1 rfl 2 (.slice (some ⟨g, 0, none⟩) (q + 1 + 1) cap))
      clear HL9 HR7
      generalize (w7.setCell ⟨gy, 2, none⟩ (.slice (some ⟨g, 0, none⟩) (q + 1 + 1) cap)) = v4 at HL10 HR8 ⊢
      refine ⟨(fun h => by simp at h), ?_⟩
      try simp only [List.setIfInBounds_toArray, List.set_cons_succ, List.set_cons_zero]
      refine till_done (by kernel_rfl) ?_
      try simp only [Act.put]
      go_wp2
      go_roundw
      case rel =>
        refine ⟨q + 1, .slice (some ⟨g, 0, none⟩) (q + 1 + 1) cap, by omega, by go_num, Lib.hid ?_, Lib.hid (HL10.out.fewer (List.sublist_append_left ([(gr, 43, [.int .i64 0, .int .i64 0, .slice none 0 0]), (gy, 43, [.int .i64 0, .int .i64 0, .slice (some ⟨g, 0, none⟩) (q + 1 + 1) cap])] : List (Nat × TypeId × List Value)) ([(v3.heap.size, 57, [.int .i64 2, .int .i64 (q : Int), .string ⟨#[83]⟩, .string ⟨#[]⟩, .int .i64 (lo * 50), .int .i64 (hi * 50), .int .i64 0, .int .i64 0])] : List (Nat × TypeId × List Value))) (List.Sublist.refl _))⟩
        rw [HST.out]
        exact HR8.out.fewer (List.sublist_append_left ([(gr, 43, [.int .i64 0, .int .i64 0, .slice none 0 0]), (gy, 43, [.int .i64 0, .int .i64 0, .slice (some ⟨g, 0, none⟩) (q + 1 + 1) cap])] : List (Nat × TypeId × List Value)) ([(v3.heap.size, 57, [.int .i64 2, .int .i64 (q : Int), .string ⟨#[83]⟩, .string ⟨#[]⟩, .int .i64 (lo * 50), .int .i64 (hi * 50), .int .i64 0, .int .i64 0])] : List (Nat × TypeId × List Value)))
      case measure => simp [intOf]; omega
    · skip
      have hqn : n = q := by omega
      have s0 := (show wr.cell? ⟨gy, 0, none⟩ = some (.int .i64 0) from HL5.out.at 1 0 (v := .int .i64 0) rfl rfl)
      have s1 := (show wr.cell? ⟨gy, 1, none⟩ = some (.int .i64 0) from HL5.out.at 1 1 (v := .int .i64 0) rfl rfl)
      have s2 := (show wr.cell? ⟨gy, 2, none⟩ = some (.slice sa (q + 1) sc) from HL5.out.at 1 2 (v := .slice sa (q + 1) sc) rfl rfl)
      subst hqn
      have hr := HL5.out.there 0 (o := 0) (n := 3) rfl (Nat.le_of_ble_eq_true rfl)
      have hk2 := (HL5.out.blk 0 rfl).stored (old := [.int .i64 0, .int .i64 0, .slice none 0 0]) [.int .i64 0, .int .i64 0, .slice sa (n + 1) sc] rfl
      have hb2 := below_setCells HL5.out.low (HL5.out.far 0 rfl).1 [.int .i64 0, .int .i64 0, .slice sa (n + 1) sc] 0
      have ho2 := (HR.out.setLoc 0 (cs' := [.int .i64 0, .int .i64 0, .slice sa (n + 1) sc]) rfl 0 [.int .i64 0, .int .i64 0, .slice sa (n + 1) sc]).own
      have hlen : (driedDeeds codeS noCode ⟨dlo, dhi⟩ ⟨wlo, whi⟩ l).length = n + 1 := by unfold driedDeeds; rw [List.length_cons, rests_len, ← HN.out]
      have hall : driedUpto dlo dhi wlo whi l n = driedDeeds codeS noCode ⟨dlo, dhi⟩ ⟨wlo, whi⟩ l := by unfold driedUpto; rw [List.take_of_length_le (by rw [← HN.out]; exact Nat.le_refl _)]
      rw [hall] at ho2
      go_wp2_with ((with_reducible refine at_store 43 (.tmp 6) (.tmp 32) ?_); go_must (refine wpList_store_mid rfl 43 (.tmp 6) (.tmp 32) rfl gr 0 #[.int .i64 0, .int .i64 0, .slice sa (n + 1) sc] rfl rfl hr size_yard (by simp [Value.oneCell']) ?_))
      exact bodyPost_ret (results_cell_row rfl _ _ gr 43 _ (0, 0) _ rfl hk2 Try.underlying43 rfl size_yard) rfl ⟨_, rfl, hb2, by rw [hlen]; exact ho2⟩
end Go.Proofs.Ytbgojeppfhldjaa
