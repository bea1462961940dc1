/- Two standings of the same stacks are equal. Two standings of the same stacks are equal. -/
import Derived.Test.YtbgojeppfhldjaaYFollow
namespace Go.Proofs.Ytbgojeppfhldjaa
open Go Go.RowKit Go.Shelf Yd

/-- A row of numbers, and where each of them lies. -/
theorem ints_at {w : World} {v : Value} {l : List Int} (h : w.ownsRow 0 3 1 v l.length (intCells l)) :
    ∃ (a : Option Addr) (c : Nat), v = .slice a l.length c ∧ (0 < l.length → ∃ g, a = some ⟨g, 0, none⟩ ∧ g < w.heap.size ∧ ∀ k, k < l.length → w.cell? ⟨g, k, none⟩ = some (.int .i64 l[k]!)) := by
  rcases Nat.eq_zero_or_pos l.length with h0 | h0
  · obtain ⟨a, n, c, rfl⟩ := row_slice h
    have := row_len h
    subst this
    exact ⟨a, c, rfl, fun h1 => by omega⟩
  · obtain ⟨g, cap, cur, hv, hb, hc, _, hs, ht⟩ := row_block h h0
    refine ⟨_, cap, hv, fun _ => ⟨g, rfl, hb.lt, fun k hk => ?_⟩⟩
    rw [hb.cell]
    have e : (intCells l)[k]? = some (.int .i64 l[k]!) := by
      unfold intCells
      rw [List.getElem?_map, List.getElem?_eq_getElem hk, getElem!_pos l k hk]; rfl
    rw [← ht, Nat.mul_one, List.getElem?_take, if_pos (by omega)] at e
    simpa using e

set_option maxRecDepth 100000 in
set_option maxHeartbeats 1000000 in
theorem equal_calls {v v' : Value} {l : List Int} {w : World} (h : w.ownsRow 0 3 1 v l.length (intCells l)) (h' : w.ownsRow 0 3 1 v' l.length (intCells l)) (hl : l.length ≤ 1000) :
    Calls Try.prog 32 #[v, v'] w fun e w' => e = .returned (.bool true) ∧ Below w.heap.size w w' := by
  obtain ⟨a, c, rfl, hc⟩ := ints_at h
  obtain ⟨a', c', rfl, hc'⟩ := ints_at h'
  have HC := Lib.hid hc; have HC' := Lib.hid hc'
  obtain ⟨n, hn⟩ : ∃ n, n = l.length := ⟨_, rfl⟩
  have HN := Lib.hid hn
  rw [← hn] at hl ⊢
  clear h h' hc hc' hn
  go_enter Try.func32, Try.ntmps32
  go_wp2
  go_loopw [5] (fun iv wr => ∃ (k : Nat), k ≤ n ∧ iv = .int .i64 k ∧ Hid (Below w.heap.size w wr)) (fun iv _ => n - (intOf iv).toNat)
  case atStart => exact ⟨0, Nat.zero_le _, rfl, Lib.hid (Below.refl _ _)⟩
  case round =>
    obtain ⟨k, hk, rfl, HB⟩ := hrel
    by_cases hlt : k < n
    · obtain ⟨g, rfl, hg, hgc⟩ := HC.out (by rw [← HN.out]; omega)
      obtain ⟨g', rfl, hg', hgc'⟩ := HC'.out (by rw [← HN.out]; omega)
      have q0 := cell_regrown ((HB.out.cell (p := ⟨g, k, none⟩) hg).trans (hgc k (by rw [← HN.out]; exact hlt)))
      have q1 := cell_regrown ((HB.out.cell (p := ⟨g', k, none⟩) hg').trans (hgc' k (by rw [← HN.out]; exact hlt)))
      have hkI : (k : Int) < (n : Int) := by omega
      clear hgc hgc'
      go_upto_region 6 with (fail)
      refine wp_region_quiet_below (by kernel_rfl) (by kernel_rfl) ?_
      repeat (go_big_quiet_step (fail))
      refine wpQuiet_nil ?_
      intro v0 hw'
      have hb8 : Below wr.heap.size wr v0 := by obtain ⟨⟨dq, osq⟩, hw''⟩ := hw'; rw [hw'']; exact below_regrown wr dq osq
      clear hw' q0 q1
      go_wp2
      go_roundw
      case rel => exact ⟨k + 1, by omega, by go_num, Lib.hid (HB.out.trans (hb8.mono HB.out.size))⟩
      case measure => simp [intOf]; omega
    · have hkn : k = n := by omega
      subst hkn
      go_wp2
      go_ret
      exact ⟨rfl, HB.out⟩
end Go.Proofs.Ytbgojeppfhldjaa
namespace Go.Proofs.Ytbgojeppfhldjaa
open Go Go.RowKit Go.Shelf Yd

theorem Stands.row {w : World} {l : List SRow} {tv : Value} (h : Stands w l tv) {k : Nat} {p : SRow} (hk : l[k]? = some p) :
    ∃ g cap, tv = .slice (some ⟨g, 0, none⟩) l.length cap ∧ g < w.heap.size ∧ ∀ i, i < 8 → w.cell? ⟨g, k * 8 + i, none⟩ = (rowCells p)[i]? := by
  have hlt : k < l.length := (List.getElem?_eq_some_iff.1 hk).1
  obtain ⟨g, cap, cur, hv, hb, hc, _, hs, ht⟩ := row_block h.things (by omega)
  refine ⟨g, cap, hv, hb.lt, fun i hi => ?_⟩
  rw [hb.cell, ← rows_get hk i hi, ← ht, Nat.mul_comm k 8, List.getElem?_take, if_pos (by omega)]
  simp
theorem stands_slice {w : World} {l : List SRow} {tv : Value} (h : Stands w l tv) : ∃ a c, tv = .slice a l.length c := by
  obtain ⟨a, n, c, rfl⟩ := row_slice h.things
  exact ⟨a, c, by rw [row_len h.things]⟩

set_option maxRecDepth 100000 in
set_option maxHeartbeats 4000000 in
theorem same_rows {w : World} {rows rows' : List SRow} {a a' : Option Addr} {n c c' : Nat} {vapour0 vapour1 broth0 broth1 dust0 dust1 soldDry0 soldDry1 soldWater0 soldWater1 soaked0 soaked1 : Int} (h : Stands w rows (.slice a n c)) (h' : Stands w rows' (.slice a' n c')) (he : rows.map (·.1) = rows'.map (·.1)) :
    Calls Try.prog 18 #[.agg #[.slice a n c, .int .i64 vapour0, .int .i64 vapour1, .int .i64 broth0, .int .i64 broth1, .int .i64 dust0, .int .i64 dust1, .int .i64 soldDry0, .int .i64 soldDry1, .int .i64 soldWater0, .int .i64 soldWater1, .int .i64 soaked0, .int .i64 soaked1], .agg #[.slice a' n c', .int .i64 vapour0, .int .i64 vapour1, .int .i64 broth0, .int .i64 broth1, .int .i64 dust0, .int .i64 dust1, .int .i64 soldDry0, .int .i64 soldDry1, .int .i64 soldWater0, .int .i64 soldWater1, .int .i64 soaked0, .int .i64 soaked1]] w fun e w' => e = .returned (.bool true) ∧ Below w.heap.size w w' := by
  have hn1 := row_len h.things
  have hn2 := row_len h'.things
  have hlen : rows.length = rows'.length := by have := congrArg List.length he; simpa using this
  have hfew := h.few
  have hmix : Try.prog.follows .mixedOrders = true := by kernel_rfl
  have HH := Lib.hid h; have HH' := Lib.hid h'; have HE := Lib.hid he; have HN := Lib.hid hn1; have HN' := Lib.hid hn2
  have hn8 : n ≤ 8 := by omega
  have HK0 := Lib.hid ((Blk.new w 37 #[.slice a n c, .int .i64 vapour0, .int .i64 vapour1, .int .i64 broth0, .int .i64 broth1, .int .i64 dust0, .int .i64 dust1, .int .i64 soldDry0, .int .i64 soldDry1, .int .i64 soldWater0, .int .i64 soldWater1, .int .i64 soaked0, .int .i64 soaked1]).alloc (.cells #[.slice a' n c', .int .i64 vapour0, .int .i64 vapour1, .int .i64 broth0, .int .i64 broth1, .int .i64 dust0, .int .i64 dust1, .int .i64 soldDry0, .int .i64 soldDry1, .int .i64 soldWater0, .int .i64 soldWater1, .int .i64 soaked0, .int .i64 soaked1] 37))
  have HL0 := Lib.hid (Blk.new (w.alloc (.cells #[.slice a n c, .int .i64 vapour0, .int .i64 vapour1, .int .i64 broth0, .int .i64 broth1, .int .i64 dust0, .int .i64 dust1, .int .i64 soldDry0, .int .i64 soldDry1, .int .i64 soldWater0, .int .i64 soldWater1, .int .i64 soaked0, .int .i64 soaked1] 37)) 37 #[.slice a' n c', .int .i64 vapour0, .int .i64 vapour1, .int .i64 broth0, .int .i64 broth1, .int .i64 dust0, .int .i64 dust1, .int .i64 soldDry0, .int .i64 soldDry1, .int .i64 soldWater0, .int .i64 soldWater1, .int .i64 soaked0, .int .i64 soaked1])
  rw [World.size_alloc] at HL0
  have HB0 := Lib.hid (((Below.refl w.heap.size w).alloc (Nat.le_refl _) (.cells #[.slice a n c, .int .i64 vapour0, .int .i64 vapour1, .int .i64 broth0, .int .i64 broth1, .int .i64 dust0, .int .i64 dust1, .int .i64 soldDry0, .int .i64 soldDry1, .int .i64 soldWater0, .int .i64 soldWater1, .int .i64 soaked0, .int .i64 soaked1] 37)).alloc (by rw [World.size_alloc]; omega) (.cells #[.slice a' n c', .int .i64 vapour0, .int .i64 vapour1, .int .i64 broth0, .int .i64 broth1, .int .i64 dust0, .int .i64 dust1, .int .i64 soldDry0, .int .i64 soldDry1, .int .i64 soldWater0, .int .i64 soldWater1, .int .i64 soaked0, .int .i64 soaked1] 37))
  clear h h' he hn1 hn2 hfew hlen
  go_enter Try.func18, Try.ntmps18
  go_wp2
  obtain ⟨g3, hg3⟩ : ∃ g, g = w.heap.size + 1 := ⟨_, rfl⟩
  rw [← hg3] at HL0 ⊢
  obtain ⟨g2, hg2⟩ : ∃ g, g = w.heap.size := ⟨_, rfl⟩
  rw [← hg2] at HK0 ⊢
  have HG2 := Lib.hid hg2
  clear hg2 hg3
  go_loopw [5] (fun iv wr => ∃ (k : Nat), k ≤ n ∧ iv = .int .i64 k ∧ Hid (Blk wr g2 37 #[.slice a n c, .int .i64 vapour0, .int .i64 vapour1, .int .i64 broth0, .int .i64 broth1, .int .i64 dust0, .int .i64 dust1, .int .i64 soldDry0, .int .i64 soldDry1, .int .i64 soldWater0, .int .i64 soldWater1, .int .i64 soaked0, .int .i64 soaked1]) ∧ Hid (Blk wr g3 37 #[.slice a' n c', .int .i64 vapour0, .int .i64 vapour1, .int .i64 broth0, .int .i64 broth1, .int .i64 dust0, .int .i64 dust1, .int .i64 soldDry0, .int .i64 soldDry1, .int .i64 soldWater0, .int .i64 soldWater1, .int .i64 soaked0, .int .i64 soaked1]) ∧ Hid (Below w.heap.size w wr)) (fun iv _ => n - (intOf iv).toNat)
  case atStart => exact ⟨0, Nat.zero_le _, rfl, HK0, HL0, by rw [HG2.out] at *; exact HB0⟩
  case round =>
    obtain ⟨k, hk, rfl, HK, HL, HB⟩ := hrel
    have y0 := HK.out.at 0 _ rfl
    have z0 := HL.out.at 0 _ rfl
    by_cases hlt : k < n
    · have hkr : k < rows.length := by rw [← HN.out]; exact hlt
      have hkr' : k < rows'.length := by rw [← HN'.out]; exact hlt
      obtain ⟨p, hp⟩ : ∃ p, rows[k]? = some p := ⟨_, List.getElem?_eq_getElem hkr⟩
      obtain ⟨q, hq⟩ : ∃ q, rows'[k]? = some q := ⟨_, List.getElem?_eq_getElem hkr'⟩
      have hpq : p.1 = q.1 := by
        have e1 := row_map hp
        have e2 := row_map hq
        rw [HE.out, e2] at e1
        exact (Option.some.inj e1).symm
      have HSr := Lib.hid (HH.out.below HB.out)
      have HSr' := Lib.hid (HH'.out.below HB.out)
      obtain ⟨gp, cp, hvp, hgp, hcp⟩ := HSr.out.row hp
      obtain ⟨gq, cq, hvq, hgq, hcq⟩ := HSr'.out.row hq
      have hfp := HSr.out.froms p (List.mem_of_getElem? hp)
      have hfq := HSr'.out.froms q (List.mem_of_getElem? hq)
      have hle := HSr.out.fromsLen p (List.mem_of_getElem? hp)
      obtain ⟨fpa, fpn, fpc, hfpv⟩ := row_slice hfp
      obtain ⟨fqa, fqn, fqc, hfqv⟩ := row_slice hfq
      obtain ⟨⟨code, ⟨dl, dh⟩, ⟨wl, wh⟩, pil, boi, src⟩, pv⟩ := p
      obtain ⟨qs, qv⟩ := q
      simp only at hpq hfp hfq hle hfpv hfqv
      subst hpq hfpv hfqv
      have HFP := Lib.hid hfp; have HFQ := Lib.hid hfq; have HLEN := Lib.hid hle
      have HCP := Lib.hid hcp; have HCQ := Lib.hid hcq
      have HOp := Lib.hid (show (#[.string code, .int .i64 dl, .int .i64 dh, .int .i64 wl, .int .i64 wh, .int .i64 pil, .int .i64 boi, .slice fpa fpn fpc] : Array Value).all (·.oneCell') = true from by simp [Value.oneCell'])
      have HOq := Lib.hid (show (#[.string code, .int .i64 dl, .int .i64 dh, .int .i64 wl, .int .i64 wh, .int .i64 pil, .int .i64 boi, .slice fqa fqn fqc] : Array Value).all (·.oneCell') = true from by simp [Value.oneCell'])
      injection hvp with ea en ec
      injection hvq with ea' en' ec'
      subst ea ec ea' ec'
      have hkI : (k : Int) < (n : Int) := by omega
      clear hfp hfq hle hcp hcq hp hq en en'
      go_upto_region 6 with (fail)
      refine region_till [] (fun w' => Below wr.heap.size wr w') 14 [false, false, false, false, false, false, false, false, false, false, false, false, false, false] hmix rfl rfl ?_
      have HBd := Lib.hid ((Below.refl wr.heap.size wr).drew)
      have HT := HBd
      generalize wr.drew = Wd at HBd HT ⊢
      refine till_pure (i := 0) (v := .pointer (some ⟨g2, 0, none⟩)) rfl rfl (by kernel_rfl) (fun _ _ _ h => h) (yields_of rfl (fun w' _ => by simp [go_sem])) (fun _ => HT.out) ?_
      simp only [List.setIfInBounds_toArray, List.set_cons_succ, List.set_cons_zero]
      refine till_load (i := 1) (v := .slice (some ⟨gp, 0, none⟩) n c) rfl rfl (by kernel_rfl) (fun _ _ _ h => h) (yields_of rfl (fun w' hw' => by have hcx : w'.cell? ⟨g2, 0, none⟩ = some (.slice (some ⟨gp, 0, none⟩) n c) := (hw'.cell (p := ⟨g2, 0, none⟩) (Blk.lt HK.out)).trans (HK.out.at 0 _ rfl); simp [go_sem, hcx])) (fun _ => HT.out) ?_
      simp only [List.setIfInBounds_toArray, List.set_cons_succ, List.set_cons_zero]
      refine till_pure (i := 2) (v := .int .i64 k) rfl rfl (by kernel_rfl) (fun _ _ _ h => h) (yields_of rfl (fun w' _ => by simp [go_sem])) (fun _ => HT.out) ?_
      simp only [List.setIfInBounds_toArray, List.set_cons_succ, List.set_cons_zero]
      refine till_pure (i := 3) (v := .pointer (some ⟨gp, k * 8, none⟩)) rfl rfl (by kernel_rfl) (fun _ _ _ h => h) (yields_of rfl (fun w' _ => by simp [go_sem, hkI])) (fun _ => HT.out) ?_
      simp only [List.setIfInBounds_toArray, List.set_cons_succ, List.set_cons_zero]
      refine till_load (i := 4) (v := .agg #[.string code, .int .i64 dl, .int .i64 dh, .int .i64 wl, .int .i64 wh, .int .i64 pil, .int .i64 boi, .slice fpa fpn fpc]) rfl rfl (by kernel_rfl) (fun _ _ _ h => h) (yields_mid rfl 48 (.tmp 32) rfl (gp) (k * 8) rfl [.string code, .int .i64 dl, .int .i64 dh, .int .i64 wl, .int .i64 wh, .int .i64 pil, .int .i64 boi, .slice fpa fpn fpc] _ (fun w' hw' => fun j v hv => (hw'.cell (p := ⟨gp, k * 8 + j, none⟩) hgp).trans ((HCP.out j (by have := (List.getElem?_eq_some_iff.1 hv).1; simpa using this)).trans hv)) Try.underlying48 rfl (by kernel_rfl)) (fun _ => HT.out) ?_
      simp only [List.setIfInBounds_toArray, List.set_cons_succ, List.set_cons_zero]
      refine till_pure (i := 5) (v := .pointer (some ⟨g3, 0, none⟩)) rfl rfl (by kernel_rfl) (fun _ _ _ h => h) (yields_of rfl (fun w' _ => by simp [go_sem])) (fun _ => HT.out) ?_
      simp only [List.setIfInBounds_toArray, List.set_cons_succ, List.set_cons_zero]
      refine till_load (i := 6) (v := .slice (some ⟨gq, 0, none⟩) n c') rfl rfl (by kernel_rfl) (fun _ _ _ h => h) (yields_of rfl (fun w' hw' => by have hcx : w'.cell? ⟨g3, 0, none⟩ = some (.slice (some ⟨gq, 0, none⟩) n c') := (hw'.cell (p := ⟨g3, 0, none⟩) (Blk.lt HL.out)).trans (HL.out.at 0 _ rfl); simp [go_sem, hcx])) (fun _ => HT.out) ?_
      simp only [List.setIfInBounds_toArray, List.set_cons_succ, List.set_cons_zero]
      refine till_pure (i := 7) (v := .int .i64 k) rfl rfl (by kernel_rfl) (fun _ _ _ h => h) (yields_of rfl (fun w' _ => by simp [go_sem])) (fun _ => HT.out) ?_
      simp only [List.setIfInBounds_toArray, List.set_cons_succ, List.set_cons_zero]
      refine till_pure (i := 8) (v := .pointer (some ⟨gq, k * 8, none⟩)) rfl rfl (by kernel_rfl) (fun _ _ _ h => h) (yields_of rfl (fun w' _ => by simp [go_sem, hkI])) (fun _ => HT.out) ?_
      simp only [List.setIfInBounds_toArray, List.set_cons_succ, List.set_cons_zero]
      refine till_load (i := 9) (v := .agg #[.string code, .int .i64 dl, .int .i64 dh, .int .i64 wl, .int .i64 wh, .int .i64 pil, .int .i64 boi, .slice fqa fqn fqc]) rfl rfl (by kernel_rfl) (fun _ _ _ h => h) (yields_mid rfl 48 (.tmp 37) rfl (gq) (k * 8) rfl [.string code, .int .i64 dl, .int .i64 dh, .int .i64 wl, .int .i64 wh, .int .i64 pil, .int .i64 boi, .slice fqa fqn fqc] _ (fun w' hw' => fun j v hv => (hw'.cell (p := ⟨gq, k * 8 + j, none⟩) hgq).trans ((HCQ.out j (by have := (List.getElem?_eq_some_iff.1 hv).1; simpa using this)).trans hv)) Try.underlying48 rfl (by kernel_rfl)) (fun _ => HT.out) ?_
      simp only [List.setIfInBounds_toArray, List.set_cons_succ, List.set_cons_zero]
      clear HT
      refine till_two (i := 10) (j := 11) (by kernel_rfl) rfl rfl ?_ ?_
      · go_wp2_with fail
        refine ⟨fun _ => (HBd.out.alloc HBd.out.size _), ?_⟩
        try simp only [List.setIfInBounds_toArray, List.set_cons_succ, List.set_cons_zero]
        refine till_only (j := 11) (by kernel_rfl) rfl ?_
        go_wp2_with fail
        have HT2 := Lib.hid (show Below wr.heap.size wr ((Wd.alloc (.cells #[.string ⟨#[]⟩, .int .i64 0, .int .i64 0, .int .i64 0, .int .i64 0, .int .i64 0, .int .i64 0, .slice none 0 0] 48)).alloc (.cells #[.string ⟨#[]⟩, .int .i64 0, .int .i64 0, .int .i64 0, .int .i64 0, .int .i64 0, .int .i64 0, .slice none 0 0] 48)) from (HBd.out.alloc HBd.out.size _).alloc (HBd.out.alloc HBd.out.size _).size _)
        refine ⟨fun _ => HT2.out, ?_⟩
        try simp only [List.setIfInBounds_toArray, List.set_cons_succ, List.set_cons_zero]
        have HgA := Lib.hid ((Blk.new Wd 48 #[.string ⟨#[]⟩, .int .i64 0, .int .i64 0, .int .i64 0, .int .i64 0, .int .i64 0, .int .i64 0, .slice none 0 0]).alloc (.cells #[.string ⟨#[]⟩, .int .i64 0, .int .i64 0, .int .i64 0, .int .i64 0, .int .i64 0, .int .i64 0, .slice none 0 0] 48))
        have HgB := Lib.hid (Blk.new (Wd.alloc (.cells #[.string ⟨#[]⟩, .int .i64 0, .int .i64 0, .int .i64 0, .int .i64 0, .int .i64 0, .int .i64 0, .slice none 0 0] 48)) 48 #[.string ⟨#[]⟩, .int .i64 0, .int .i64 0, .int .i64 0, .int .i64 0, .int .i64 0, .int .i64 0, .slice none 0 0])
        rw [World.size_alloc] at HgB
        have HGA := Lib.hid (show wr.heap.size ≤ Wd.heap.size ∧ Wd.heap.size ≠ Wd.heap.size + 1 from ⟨HBd.out.size, by omega⟩)
        generalize (Wd.alloc (.cells #[.string ⟨#[]⟩, .int .i64 0, .int .i64 0, .int .i64 0, .int .i64 0, .int .i64 0, .int .i64 0, .slice none 0 0] 48)).alloc (.cells #[.string ⟨#[]⟩, .int .i64 0, .int .i64 0, .int .i64 0, .int .i64 0, .int .i64 0, .int .i64 0, .slice none 0 0] 48) = W2 at HT2 HgA HgB ⊢
        obtain ⟨gB, hgb⟩ : ∃ g, g = Wd.heap.size + 1 := ⟨_, rfl⟩
        rw [← hgb] at HgB HGA ⊢
        obtain ⟨gA, hga⟩ : ∃ g, g = Wd.heap.size := ⟨_, rfl⟩
        rw [← hga] at HgA HGA ⊢
        have HNE := Lib.hid (show gB ≠ gA from HGA.out.2.symm)
        have HGE := Lib.hid (show wr.heap.size ≤ gA ∧ wr.heap.size ≤ gB from by have h1 := HGA.out.1; omega)
        clear hga hgb HGA
        refine till_only (j := 12) (by kernel_rfl) rfl ?_
        refine wpList_store_mid rfl 48 (.tmp 6) (.tmp 33) rfl gA 0 #[.string code, .int .i64 dl, .int .i64 dh, .int .i64 wl, .int .i64 wh, .int .i64 pil, .int .i64 boi, .slice fpa fpn fpc] rfl rfl (HgA.out.there (o := 0) (n := 8) (Nat.le_of_ble_eq_true rfl)) size_stack HOp.out ?_
        change wpList _ _ _ _ _ (W2.setCells gA 0 [.string code, .int .i64 dl, .int .i64 dh, .int .i64 wl, .int .i64 wh, .int .i64 pil, .int .i64 boi, .slice fpa fpn fpc])
        have HN1 := Lib.hid (HgA.out.stored (old := [.string ⟨#[]⟩, .int .i64 0, .int .i64 0, .int .i64 0, .int .i64 0, .int .i64 0, .int .i64 0, .slice none 0 0]) [.string code, .int .i64 dl, .int .i64 dh, .int .i64 wl, .int .i64 wh, .int .i64 pil, .int .i64 boi, .slice fpa fpn fpc] rfl)
        have HN2 := Lib.hid (HgB.out.apart (HNE.out) 0 [.string code, .int .i64 dl, .int .i64 dh, .int .i64 wl, .int .i64 wh, .int .i64 pil, .int .i64 boi, .slice fpa fpn fpc])
        have HT3 := Lib.hid (below_setCells HT2.out HGE.out.1 [.string code, .int .i64 dl, .int .i64 dh, .int .i64 wl, .int .i64 wh, .int .i64 pil, .int .i64 boi, .slice fpa fpn fpc] 0)
        clear HgA HgB HT2
        change Till _ _ _ _ ∧ wpAnyT _ _ _ _ _ _ _ _ _ _
        generalize W2.setCells gA 0 [.string code, .int .i64 dl, .int .i64 dh, .int .i64 wl, .int .i64 wh, .int .i64 pil, .int .i64 boi, .slice fpa fpn fpc] = W3 at HN1 HN2 HT3 ⊢
        refine ⟨fun _ => HT3.out, ?_⟩
        try simp only [List.setIfInBounds_toArray, List.set_cons_succ, List.set_cons_zero]
        have HgA := HN1
        have HgB := HN2
        clear HN1 HN2
        refine till_only (j := 13) (by kernel_rfl) rfl ?_
        refine wpList_store_mid rfl 48 (.tmp 7) (.tmp 38) rfl gB 0 #[.string code, .int .i64 dl, .int .i64 dh, .int .i64 wl, .int .i64 wh, .int .i64 pil, .int .i64 boi, .slice fqa fqn fqc] rfl rfl (HgB.out.there (o := 0) (n := 8) (Nat.le_of_ble_eq_true rfl)) size_stack HOq.out ?_
        change wpList _ _ _ _ _ (W3.setCells gB 0 [.string code, .int .i64 dl, .int .i64 dh, .int .i64 wl, .int .i64 wh, .int .i64 pil, .int .i64 boi, .slice fqa fqn fqc])
        have HN1 := Lib.hid (HgB.out.stored (old := [.string ⟨#[]⟩, .int .i64 0, .int .i64 0, .int .i64 0, .int .i64 0, .int .i64 0, .int .i64 0, .slice none 0 0]) [.string code, .int .i64 dl, .int .i64 dh, .int .i64 wl, .int .i64 wh, .int .i64 pil, .int .i64 boi, .slice fqa fqn fqc] rfl)
        have HN2 := Lib.hid (HgA.out.apart (HNE.out.symm) 0 [.string code, .int .i64 dl, .int .i64 dh, .int .i64 wl, .int .i64 wh, .int .i64 pil, .int .i64 boi, .slice fqa fqn fqc])
        have HT4 := Lib.hid (below_setCells HT3.out HGE.out.2 [.string code, .int .i64 dl, .int .i64 dh, .int .i64 wl, .int .i64 wh, .int .i64 pil, .int .i64 boi, .slice fqa fqn fqc] 0)
        clear HgA HgB HT3
        change Till _ _ _ _ ∧ wpAnyT _ _ _ _ _ _ _ _ _ _
        generalize W3.setCells gB 0 [.string code, .int .i64 dl, .int .i64 dh, .int .i64 wl, .int .i64 wh, .int .i64 pil, .int .i64 boi, .slice fqa fqn fqc] = W4 at HN1 HN2 HT4 ⊢
        refine ⟨fun _ => HT4.out, ?_⟩
        try simp only [List.setIfInBounds_toArray, List.set_cons_succ, List.set_cons_zero]
        have HgB := HN1
        have HgA := HN2
        clear HN1 HN2
        refine till_done (by kernel_rfl) ?_
        have p0 := HgA.out.at 0 (.string code) rfl
        have p1 := HgA.out.at 1 (.int .i64 dl) rfl
        have p2 := HgA.out.at 2 (.int .i64 dh) rfl
        have p3 := HgA.out.at 3 (.int .i64 wl) rfl
        have p4 := HgA.out.at 4 (.int .i64 wh) rfl
        have p5 := HgA.out.at 5 (.int .i64 pil) rfl
        have p6 := HgA.out.at 6 (.int .i64 boi) rfl
        have p7 := HgA.out.at 7 (.slice fpa fpn fpc) rfl
        have q0 := HgB.out.at 0 (.string code) rfl
        have q1 := HgB.out.at 1 (.int .i64 dl) rfl
        have q2 := HgB.out.at 2 (.int .i64 dh) rfl
        have q3 := HgB.out.at 3 (.int .i64 wl) rfl
        have q4 := HgB.out.at 4 (.int .i64 wh) rfl
        have q5 := HgB.out.at 5 (.int .i64 pil) rfl
        have q6 := HgB.out.at 6 (.int .i64 boi) rfl
        have q7 := HgB.out.at 7 (.slice fqa fqn fqc) rfl
        have HSA := Lib.hid (show W4.ownsRow 0 3 1 (.slice fpa fpn fpc) src.length (intCells src) from row_same HFP.out (fun g hg => HT4.out.block g (row_lt HFP.out hg)))
        have HSB := Lib.hid (show W4.ownsRow 0 3 1 (.slice fqa fqn fqc) src.length (intCells src) from row_same HFQ.out (fun g hg => HT4.out.block g (row_lt HFQ.out hg)))
        have HK4 := Lib.hid (HK.out.below HT4.out)
        have HL4 := Lib.hid (HL.out.below HT4.out)
        have HW4 := Lib.hid (HB.out.trans (HT4.out.mono HB.out.size))
        go_wp2_with (go_at_call 32; refine (equal_calls HSA.out HSB.out HLEN.out).mono ?_; rintro e w8 ⟨rfl, hb8⟩; have HK8 := Lib.hid (HK4.out.below hb8); have HL8 := Lib.hid (HL4.out.below hb8); have HW8 := Lib.hid (HW4.out.trans (hb8.mono HW4.out.size)); clear hb8)
        go_roundw
        case rel => exact ⟨k + 1, by omega, by go_num, HK8, HL8, HW8⟩
        case measure => simp [intOf]; omega
      · go_wp2_with fail
        refine ⟨fun _ => (HBd.out.alloc HBd.out.size _), ?_⟩
        try simp only [List.setIfInBounds_toArray, List.set_cons_succ, List.set_cons_zero]
        refine till_only (j := 10) (by kernel_rfl) rfl ?_
        go_wp2_with fail
        have HT2 := Lib.hid (show Below wr.heap.size wr ((Wd.alloc (.cells #[.string ⟨#[]⟩, .int .i64 0, .int .i64 0, .int .i64 0, .int .i64 0, .int .i64 0, .int .i64 0, .slice none 0 0] 48)).alloc (.cells #[.string ⟨#[]⟩, .int .i64 0, .int .i64 0, .int .i64 0, .int .i64 0, .int .i64 0, .int .i64 0, .slice none 0 0] 48)) from (HBd.out.alloc HBd.out.size _).alloc (HBd.out.alloc HBd.out.size _).size _)
        refine ⟨fun _ => HT2.out, ?_⟩
        try simp only [List.setIfInBounds_toArray, List.set_cons_succ, List.set_cons_zero]
        have HgB := Lib.hid ((Blk.new Wd 48 #[.string ⟨#[]⟩, .int .i64 0, .int .i64 0, .int .i64 0, .int .i64 0, .int .i64 0, .int .i64 0, .slice none 0 0]).alloc (.cells #[.string ⟨#[]⟩, .int .i64 0, .int .i64 0, .int .i64 0, .int .i64 0, .int .i64 0, .int .i64 0, .slice none 0 0] 48))
        have HgA := Lib.hid (Blk.new (Wd.alloc (.cells #[.string ⟨#[]⟩, .int .i64 0, .int .i64 0, .int .i64 0, .int .i64 0, .int .i64 0, .int .i64 0, .slice none 0 0] 48)) 48 #[.string ⟨#[]⟩, .int .i64 0, .int .i64 0, .int .i64 0, .int .i64 0, .int .i64 0, .int .i64 0, .slice none 0 0])
        rw [World.size_alloc] at HgA
        have HGA := Lib.hid (show wr.heap.size ≤ Wd.heap.size ∧ Wd.heap.size ≠ Wd.heap.size + 1 from ⟨HBd.out.size, by omega⟩)
        generalize (Wd.alloc (.cells #[.string ⟨#[]⟩, .int .i64 0, .int .i64 0, .int .i64 0, .int .i64 0, .int .i64 0, .int .i64 0, .slice none 0 0] 48)).alloc (.cells #[.string ⟨#[]⟩, .int .i64 0, .int .i64 0, .int .i64 0, .int .i64 0, .int .i64 0, .int .i64 0, .slice none 0 0] 48) = W2 at HT2 HgA HgB ⊢
        obtain ⟨gA, hgb⟩ : ∃ g, g = Wd.heap.size + 1 := ⟨_, rfl⟩
        rw [← hgb] at HgA HGA ⊢
        obtain ⟨gB, hga⟩ : ∃ g, g = Wd.heap.size := ⟨_, rfl⟩
        rw [← hga] at HgB HGA ⊢
        have HNE := Lib.hid (show gB ≠ gA from HGA.out.2)
        have HGE := Lib.hid (show wr.heap.size ≤ gA ∧ wr.heap.size ≤ gB from by have h1 := HGA.out.1; omega)
        clear hga hgb HGA
        refine till_only (j := 12) (by kernel_rfl) rfl ?_
        refine wpList_store_mid rfl 48 (.tmp 6) (.tmp 33) rfl gA 0 #[.string code, .int .i64 dl, .int .i64 dh, .int .i64 wl, .int .i64 wh, .int .i64 pil, .int .i64 boi, .slice fpa fpn fpc] rfl rfl (HgA.out.there (o := 0) (n := 8) (Nat.le_of_ble_eq_true rfl)) size_stack HOp.out ?_
        change wpList _ _ _ _ _ (W2.setCells gA 0 [.string code, .int .i64 dl, .int .i64 dh, .int .i64 wl, .int .i64 wh, .int .i64 pil, .int .i64 boi, .slice fpa fpn fpc])
        have HN1 := Lib.hid (HgA.out.stored (old := [.string ⟨#[]⟩, .int .i64 0, .int .i64 0, .int .i64 0, .int .i64 0, .int .i64 0, .int .i64 0, .slice none 0 0]) [.string code, .int .i64 dl, .int .i64 dh, .int .i64 wl, .int .i64 wh, .int .i64 pil, .int .i64 boi, .slice fpa fpn fpc] rfl)
        have HN2 := Lib.hid (HgB.out.apart (HNE.out) 0 [.string code, .int .i64 dl, .int .i64 dh, .int .i64 wl, .int .i64 wh, .int .i64 pil, .int .i64 boi, .slice fpa fpn fpc])
        have HT3 := Lib.hid (below_setCells HT2.out HGE.out.1 [.string code, .int .i64 dl, .int .i64 dh, .int .i64 wl, .int .i64 wh, .int .i64 pil, .int .i64 boi, .slice fpa fpn fpc] 0)
        clear HgA HgB HT2
        change Till _ _ _ _ ∧ wpAnyT _ _ _ _ _ _ _ _ _ _
        generalize W2.setCells gA 0 [.string code, .int .i64 dl, .int .i64 dh, .int .i64 wl, .int .i64 wh, .int .i64 pil, .int .i64 boi, .slice fpa fpn fpc] = W3 at HN1 HN2 HT3 ⊢
        refine ⟨fun _ => HT3.out, ?_⟩
        try simp only [List.setIfInBounds_toArray, List.set_cons_succ, List.set_cons_zero]
        have HgA := HN1
        have HgB := HN2
        clear HN1 HN2
        refine till_only (j := 13) (by kernel_rfl) rfl ?_
        refine wpList_store_mid rfl 48 (.tmp 7) (.tmp 38) rfl gB 0 #[.string code, .int .i64 dl, .int .i64 dh, .int .i64 wl, .int .i64 wh, .int .i64 pil, .int .i64 boi, .slice fqa fqn fqc] rfl rfl (HgB.out.there (o := 0) (n := 8) (Nat.le_of_ble_eq_true rfl)) size_stack HOq.out ?_
        change wpList _ _ _ _ _ (W3.setCells gB 0 [.string code, .int .i64 dl, .int .i64 dh, .int .i64 wl, .int .i64 wh, .int .i64 pil, .int .i64 boi, .slice fqa fqn fqc])
        have HN1 := Lib.hid (HgB.out.stored (old := [.string ⟨#[]⟩, .int .i64 0, .int .i64 0, .int .i64 0, .int .i64 0, .int .i64 0, .int .i64 0, .slice none 0 0]) [.string code, .int .i64 dl, .int .i64 dh, .int .i64 wl, .int .i64 wh, .int .i64 pil, .int .i64 boi, .slice fqa fqn fqc] rfl)
        have HN2 := Lib.hid (HgA.out.apart (HNE.out.symm) 0 [.string code, .int .i64 dl, .int .i64 dh, .int .i64 wl, .int .i64 wh, .int .i64 pil, .int .i64 boi, .slice fqa fqn fqc])
        have HT4 := Lib.hid (below_setCells HT3.out HGE.out.2 [.string code, .int .i64 dl, .int .i64 dh, .int .i64 wl, .int .i64 wh, .int .i64 pil, .int .i64 boi, .slice fqa fqn fqc] 0)
        clear HgA HgB HT3
        change Till _ _ _ _ ∧ wpAnyT _ _ _ _ _ _ _ _ _ _
        generalize W3.setCells gB 0 [.string code, .int .i64 dl, .int .i64 dh, .int .i64 wl, .int .i64 wh, .int .i64 pil, .int .i64 boi, .slice fqa fqn fqc] = W4 at HN1 HN2 HT4 ⊢
        refine ⟨fun _ => HT4.out, ?_⟩
        try simp only [List.setIfInBounds_toArray, List.set_cons_succ, List.set_cons_zero]
        have HgB := HN1
        have HgA := HN2
        clear HN1 HN2
        refine till_done (by kernel_rfl) ?_
        have p0 := HgA.out.at 0 (.string code) rfl
        have p1 := HgA.out.at 1 (.int .i64 dl) rfl
        have p2 := HgA.out.at 2 (.int .i64 dh) rfl
        have p3 := HgA.out.at 3 (.int .i64 wl) rfl
        have p4 := HgA.out.at 4 (.int .i64 wh) rfl
        have p5 := HgA.out.at 5 (.int .i64 pil) rfl
        have p6 := HgA.out.at 6 (.int .i64 boi) rfl
        have p7 := HgA.out.at 7 (.slice fpa fpn fpc) rfl
        have q0 := HgB.out.at 0 (.string code) rfl
        have q1 := HgB.out.at 1 (.int .i64 dl) rfl
        have q2 := HgB.out.at 2 (.int .i64 dh) rfl
        have q3 := HgB.out.at 3 (.int .i64 wl) rfl
        have q4 := HgB.out.at 4 (.int .i64 wh) rfl
        have q5 := HgB.out.at 5 (.int .i64 pil) rfl
        have q6 := HgB.out.at 6 (.int .i64 boi) rfl
        have q7 := HgB.out.at 7 (.slice fqa fqn fqc) rfl
        have HSA := Lib.hid (show W4.ownsRow 0 3 1 (.slice fpa fpn fpc) src.length (intCells src) from row_same HFP.out (fun g hg => HT4.out.block g (row_lt HFP.out hg)))
        have HSB := Lib.hid (show W4.ownsRow 0 3 1 (.slice fqa fqn fqc) src.length (intCells src) from row_same HFQ.out (fun g hg => HT4.out.block g (row_lt HFQ.out hg)))
        have HK4 := Lib.hid (HK.out.below HT4.out)
        have HL4 := Lib.hid (HL.out.below HT4.out)
        have HW4 := Lib.hid (HB.out.trans (HT4.out.mono HB.out.size))
        go_wp2_with (go_at_call 32; refine (equal_calls HSA.out HSB.out HLEN.out).mono ?_; rintro e w8 ⟨rfl, hb8⟩; have HK8 := Lib.hid (HK4.out.below hb8); have HL8 := Lib.hid (HL4.out.below hb8); have HW8 := Lib.hid (HW4.out.trans (hb8.mono HW4.out.size)); clear hb8)
        go_roundw
        case rel => exact ⟨k + 1, by omega, by go_num, HK8, HL8, HW8⟩
        case measure => simp [intOf]; omega
    · have hkn : k = n := by omega
      subst hkn
      go_wp2
      go_ret
      exact ⟨rfl, HB.out⟩

theorem same_calls {w : World} {rows rows' : List SRow} {tv tv' : Value} (h : Stands w rows tv) (h' : Stands w rows' tv') (he : rows.map (·.1) = rows'.map (·.1)) (c : Yd.Acc) :
    Calls Try.prog 18 #[.agg (tv :: accCells c).toArray, .agg (tv' :: accCells c).toArray] w fun e w' => e = .returned (.bool true) ∧ Below w.heap.size w w' := by
  have hl : rows.length = rows'.length := by have := congrArg List.length he; simpa using this
  obtain ⟨a, c1, rfl⟩ := stands_slice h
  obtain ⟨a', c2, rfl⟩ := stands_slice h'
  obtain ⟨⟨_, _⟩, ⟨_, _⟩, ⟨_, _⟩, ⟨_, _⟩, ⟨_, _⟩, ⟨_, _⟩⟩ := c
  rw [hl] at h ⊢
  exact same_rows h h' he
end Go.Proofs.Ytbgojeppfhldjaa
