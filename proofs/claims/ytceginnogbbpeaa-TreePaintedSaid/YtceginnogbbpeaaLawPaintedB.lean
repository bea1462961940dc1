/- TreePainted: the walk. -/
import Derived.Test.YtceginnogbbpeaaLawPaintedA
namespace Go.Proofs.Ytceginnogbbpeaa
open Go.RowKit Go.Shelf
set_option linter.unusedSimpArgs false
set_option linter.unusedVariables false

theorem pairs_at {w : World} {v : Value} {n : Nat} {m0 m1 : Nat → Int} (h : Held w.heap.size w 2 stripCells v ((List.range n).map fun j => (m0 j, m1 j))) (hn : 0 < n) :
    ∃ b off c : Nat, v = .slice (some ⟨b, off, none⟩) n c ∧ b < w.heap.size ∧ ∀ j, j < n → w.cell? ⟨b, off + j * 2, none⟩ = some (.int .i64 (m0 j)) ∧ w.cell? ⟨b, off + j * 2 + 1, none⟩ = some (.int .i64 (m1 j)) := by
  rcases h with ⟨_, h2⟩ | ⟨b, off, c, h1, hb, _, hc⟩
  · have := congrArg List.length h2
    simp at this; omega
  · have hl : ((List.range n).map fun j => (m0 j, m1 j)).length = n := by simp
    rw [hl] at h1 hc
    refine ⟨b, off, c, h1, hb, fun j hj => ?_⟩
    have hx : ((List.range n).map fun j => (m0 j, m1 j))[j]! = (m0 j, m1 j) := by
      rw [getElem!_pos _ j (by rw [hl]; exact hj)]; simp
    exact ⟨hc j hj 0 _ (by rw [hx]; rfl), hc j hj 1 _ (by rw [hx]; rfl)⟩

/-- Two values that do not lie in one block. -/
def Apart (v o : Value) : Prop := ∀ b, v.ownBlock = some b → o.ownBlock ≠ some b
theorem Apart.symm {v o : Value} (h : Apart v o) : Apart o v := fun b hb hv => h b hv hb
theorem Apart.nil (o : Value) : Apart (.slice none 0 0) o := fun b hb => by simp [Value.ownBlock] at hb
theorem app_apart {w : World} {base : Nat} {e : TypeId} {n size : Nat} {xs : List Value} {v o : Value} (ho : w.ownsRow base e size o n xs) (ha : Apart v o) {g m c : Nat} (hat : v.ownBlock = some g ∨ g = w.heap.size + 1) : Apart (.slice (some ⟨g, 0, none⟩) m c) o := fun b hb hob => by
  have e : g = b := Option.some.inj hb
  subst e
  rcases hat with h | h
  · exact ha g h hob
  · have := (ho.lt g hob).2; omega
theorem app_far {w : World} {v : Value} {z g m c : Nat} (hz : z < w.heap.size) (h : v.ownBlock ≠ some z) (hat : v.ownBlock = some g ∨ g = w.heap.size + 1) : (Value.slice (some ⟨g, 0, none⟩) m c).ownBlock ≠ some z := fun e => by
  have e' : g = z := Option.some.inj e
  subst e'
  rcases hat with h' | h'
  · exact h h'
  · omega
theorem app_kept {w w1 : World} {base : Nat} {e : TypeId} {n size : Nat} {xs : List Value} {v o : Value} (ho : w.ownsRow base e size o n xs) (ha : Apart v o) (ob : Obj) (hg : (w.alloc ob).grownBy w1 v.ownBlock) : w1.ownsRow base e size o n xs := by
  refine (ho.alloc ob).kept hg ?_
  cases h : o.ownBlock with
  | none => exact .inl rfl
  | some b => exact .inr fun h' => ha b h'.symm h

set_option maxRecDepth 100000 in
set_option maxHeartbeats 8000000 in
theorem painted_walk (rest first un s0 s1 r lo hi N1 N2 : Int) (a : Option Addr) (b off n c : Nat) (ha : 0 < n → a = some ⟨b, off, none⟩) (Y gp P m0 m1 p0 p1 : Nat → Int) (w : World) (hn10 : (n : Int) < 10) (hr : 1 + rest % 30 = r) (hr0 : 1 ≤ r) (hr1 : r ≤ 30) (hrest : 0 ≤ rest ∧ rest ≤ 255) (hfirst : 0 ≤ first ∧ first ≤ 255) (hun : 0 ≤ un ∧ un ≤ 65535) (hs0 : 0 ≤ s0 ∧ s0 ≤ 255) (hs1 : 0 ≤ s1 ∧ s1 ≤ 255)
    (hgap : ∀ W, Below w.heap.size w W → ∀ k, k < n → W.cell? ⟨b, off + k, none⟩ = some (.int .u8 (gp k))) (hgp : ∀ k, k < n → 0 ≤ gp k ∧ gp k ≤ 255)
    (hY0 : Y 0 = first) (hYs : ∀ k, k < n → Y k + r + gp k % 12 = Y (k + 1)) (hYb : ∀ k, k ≤ n → 0 ≤ Y k ∧ Y k ≤ 1000)
    (hlast : Y n ≤ 300) (hlo : max 0 (first - s0) = lo) (hhi : min 300 (Y n + s1) = hi)
    (bt : Nat → Bool) (hbt : ∀ k, k ≤ n → (bits BinOp.and IntKind.u16 (un / 2 ^ k) 1 == 1) = bt k) (hP : ∀ k, k ≤ n → P k = if bt k then -1 else Y k % 10)
    (hN1 : 1 ≤ N1) (hN2 : N1 ≤ N2)
    (hD1 : (∀ W v, Below w.heap.size w W → Held W.heap.size W 1 intCells v (listOf (fun k => Y k % 10) 0 (n + 1)) → Calls Try.prog 18 #[.int .i64 r, v, .agg #[.int .i64 lo, .int .i64 hi]] W fun e w' => ∃ v' : Value, e = .returned (.tuple #[v', .int .i64 N1, .int .i64 0]) ∧ Held w'.heap.size w' 2 stripCells v' ((List.range (n + 1)).map fun j => (m0 j, m1 j)) ∧ Below W.heap.size W w'))
    (hD2 : (∀ W v, Below w.heap.size w W → Held W.heap.size W 1 intCells v (listOf P 0 (n + 1)) → Calls Try.prog 18 #[.int .i64 r, v, .agg #[.int .i64 lo, .int .i64 hi]] W fun e w' => ∃ v' : Value, e = .returned (.tuple #[v', .int .i64 N2, .int .i64 0]) ∧ Held w'.heap.size w' 2 stripCells v' ((List.range (n + 1)).map fun j => (p0 j, p1 j)) ∧ Below W.heap.size W w'))
    (hF : ∀ k, k ≤ n → 0 ≤ m0 k ∧ 0 ≤ m1 k ∧ m0 k ≤ Y k ∧ Y k ≤ m1 k ∧ p0 k ≤ m0 k ∧ m1 k ≤ p1 k ∧ m0 k % 10 = Y k % 10 ∧ m1 k % 10 = Y k % 10)
    (hone : ((List.range (n + 1)).all fun j => m0 j == m1 j) = (N1 == 1)) :
    Calls Try.prog 7 #[.int .u8 rest, .int .u8 first, .slice a n c, .int .u16 un, .agg #[.int .u8 s0, .int .u8 s1]] w fun e w' => e = .returned (.bool true) ∧ Below w.heap.size w w' := by
  have HA := Lib.hid ha; clear ha
  have HGAP := Lib.hid hgap; clear hgap
  have HGP := Lib.hid hgp; clear hgp
  have HY0 := Lib.hid hY0; clear hY0
  have HYS := Lib.hid hYs; clear hYs
  have HYB := Lib.hid hYb; clear hYb
  obtain ⟨i1, hi1, hi1a, hi1b, hi1c⟩ := info_parts info_int
  have HJ1 := Lib.hid hi1; clear hi1
  have HJ1a := Lib.hid hi1a; clear hi1a
  have HJ1b := Lib.hid hi1b; clear hi1b
  have HJ1c := Lib.hid hi1c; clear hi1c
  have hB0 := Lib.hid (show Below w.heap.size w (w.alloc (.cells #[.int .u8 s0, .int .u8 s1] 62)) from (Below.refl _ _).alloc (Nat.le_refl _) _)
  have K0 := Lib.hid (Blk.new w 62 #[.int .u8 s0, .int .u8 s1])
  have HLA := Lib.hid hlast; clear hlast
  have HP := Lib.hid hP; clear hP
  have HBT := Lib.hid hbt; clear hbt
  have HLO := Lib.hid hlo; clear hlo
  have HHI := Lib.hid hhi; clear hhi
  have HD1 := Lib.hid hD1; clear hD1
  have HD2 := Lib.hid hD2; clear hD2
  have HF := Lib.hid hF; clear hF
  have HON := Lib.hid hone; clear hone
  obtain ⟨hrest0, hrest1⟩ := hrest
  obtain ⟨hfirst0, hfirst1⟩ := hfirst
  obtain ⟨hun0, hun1⟩ := hun
  obtain ⟨hs00, hs01⟩ := hs0
  obtain ⟨hs10, hs11⟩ := hs1
  go_enter Try.func7, Try.ntmps7
  go_wp2_with fail
  have O0 := Lib.hid (show Years ((w.alloc (.cells #[.int .u8 s0, .int .u8 s1] 62)).alloc (.cells #[.int .i64 first] 3)) (w.heap.size + 1) Y (.slice (some ⟨w.heap.size + 1, 0, none⟩) 1 1) 1 from by
    have := World.ownsRow_lit (e := 3) (base := w.heap.size + 1) (size := 1) (w.alloc (.cells #[.int .u8 s0, .int .u8 s1] 62)) #[.int .i64 first] 1 (by rw [World.size_alloc]; omega) (by unfold maxLen; omega) rfl
    rw [World.size_alloc] at this
    show World.ownsRow _ _ _ _ _ _ (cellsOf Y 1)
    rw [show cellsOf Y 1 = [.int .i64 first] from by simp [cellsOf, HY0.out]]
    exact this)
  go_loopw [12, 13, 14] (fun y v i wr => ∃ (k g cap : Nat), k ≤ n ∧ i = .int .i64 k ∧ y = .int .i64 (Y k) ∧ v = .slice (some ⟨g, 0, none⟩) (k + 1) cap ∧ Hid (Years wr (w.heap.size + 1) Y (.slice (some ⟨g, 0, none⟩) (k + 1) cap) (k + 1)) ∧ Hid (Below w.heap.size w wr) ∧ Hid (Blk wr w.heap.size 62 #[.int .u8 s0, .int .u8 s1])) (fun _ _ i _ => n - (intOf i).toNat)
  case atStart => exact ⟨0, w.heap.size + 1, 1, by omega, rfl, by rw [HY0.out], rfl, O0, Lib.hid (hB0.out.alloc hB0.out.size _), Lib.hid (K0.out.alloc _)⟩
  case round =>
    clear O0
    obtain ⟨k, g, cap, hk, rfl, rfl, rfl, OW, HB, HK⟩ := hrel
    have hk9 : (k : Int) ≤ 9 := by omega
    obtain ⟨hyk0, hyk1⟩ := HYB.out k hk
    by_cases hlt : k < n
    · have cg : wr.cell? ⟨b, off + k, none⟩ = some (.int .u8 (gp k)) := HGAP.out _ HB.out k hlt
      obtain ⟨hg0, hg1⟩ := HGP.out k hlt
      have hae := HA.out (by omega)
      subst hae
      have hkl : (k : Int) < (n : Int) := by omega
      have hyv := HYS.out k hlt
      have hm0 : 0 ≤ gp k % 12 := Int.emod_nonneg _ (by omega)
      have hm1 : gp k % 12 < 12 := Int.emod_lt_of_pos _ (by omega)
      generalize hgk : gp k = gk at cg hg0 hg1 hyv hm0 hm1
      clear hgk
      obtain ⟨yv, hyv'⟩ : ∃ yv, Y (k + 1) = yv := ⟨_, rfl⟩
      obtain ⟨yk, hyk⟩ : ∃ yk, Y k = yk := ⟨_, rfl⟩
      have HYV := Lib.hid hyv'
      have HYK := Lib.hid hyk
      rw [hyv', hyk] at hyv
      rw [hyk] at hyk0 hyk1 ⊢
      clear hyv' hyk
      have hlast := Lib.hid (show World.ownsRow _ _ _ _ _ _ _ from OW.out)
      have hsz := HK.out.lt
      have hln := Lib.hid (show wr.heap.size + 1 = (wr.alloc (.cells #[.int .i64 yv] 3)).heap.size from by rw [World.size_alloc])
      go_wp2_with (at_builtin; refine wpList_append_lies _ rfl (.tmp 55) (.tmp 57) 46 rfl (w.heap.size + 1) 3 i1 (.int .i64 0) 1 8 Try.underlying46 HJ1.out HJ1a.out HJ1b.out HJ1c.out rfl (by decide) (.slice (some ⟨g, 0, none⟩) (k + 1) cap) (k + 1) (cellsOf Y (k + 1)) rfl (hlast.out.alloc _) ⟨wr.heap.size, 0, none⟩ 1 1 [.int .i64 yv] rfl rfl (one_new wr 3 (.int .i64 yv)) (by intro u hu; simp at hu; subst hu; rfl) (by decide) (by unfold maxLen; omega) (by omega) (by rw [World.size_alloc]; omega) (wr.heap.size + 1) hln.out.symm ?_; intro g' cap' w1 hown hgrow hat hg'; have OW' := Lib.hid (show Years w1 (w.heap.size + 1) Y (.slice (some ⟨g', 0, none⟩) (k + 1 + 1) cap') (k + 1 + 1) from (by unfold Years; rw [cellsOf_snoc, HYV.out]; exact hown)); have HB' := Lib.hid ((HB.out.alloc HB.out.size (.cells #[.int .i64 yv] 3)).grown hgrow (by rw [World.size_alloc]; have := HB.out.size; omega) (own_le' hlast.out)); have HK' := Lib.hid ((HK.out.alloc (.cells #[.int .i64 yv] 3)).grown hgrow (own_far hlast.out)); clear hown hgrow hat hg' hlast)
      exact ⟨⟨k + 1, g', cap', by omega, by go_num, by rw [HYV.out], rfl, OW', HB', HK'⟩, by simp [intOf]; omega⟩
    · have hkn : k = n := by omega
      subst hkn
      have hla := HLA.out
      have hhi := HHI.out
      have hlo := HLO.out
      have t0 : wr.cell? ⟨w.heap.size, 0, none⟩ = some (.int .u8 s0) := HK.out.cell 0
      have t1 : wr.cell? ⟨w.heap.size, 1, none⟩ = some (.int .u8 s1) := HK.out.cell 1
      have hZ := HK.out.lt
      generalize hyk : Y k = yk at hla hyk0 hyk1 hhi ⊢
      have HYK := Lib.hid hyk; clear hyk
      go_wp2_with fail
      clear t0 t1 hlo hhi
      obtain ⟨wo, hwo⟩ : ∃ wo : World, wo = wr.alloc (.cells #[.int .i64 lo, .int .i64 hi] 41) := ⟨_, rfl⟩
      have OWo := Lib.hid (show Years wo (w.heap.size + 1) Y (.slice (some ⟨g, 0, none⟩) (k + 1) cap) (k + 1) from by rw [hwo]; exact World.ownsRow.alloc OW.out _)
      have HBo := Lib.hid (show Below w.heap.size w wo from by rw [hwo]; exact HB.out.alloc HB.out.size _)
      have HSo := Lib.hid (show Blk wo wr.heap.size 41 #[.int .i64 lo, .int .i64 hi] from by rw [hwo]; exact Blk.new wr _ _)
      have hgo : g < wr.heap.size := (World.ownsRow.lt OW.out g rfl).2
      rw [← hwo]
      clear OW HB HK hwo
      generalize hwz : wr.heap.size = z at HSo hgo hZ ⊢
      clear hwz
      go_loopw [16, 17, 18] (fun v u i wq => ∃ (j : Nat), j ≤ k + 1 ∧ i = .int .i64 j ∧ Hid (Years wq (w.heap.size + 1) (fun k => Y k % 10) v j) ∧ Hid (Years wq (w.heap.size + 1) P u j) ∧ Hid (Years wq (w.heap.size + 1) Y (.slice (some ⟨g, 0, none⟩) (k + 1) cap) (k + 1)) ∧ Hid (Apart v u) ∧ Hid (Apart v (.slice (some ⟨g, 0, none⟩) (k + 1) cap)) ∧ Hid (Apart u (.slice (some ⟨g, 0, none⟩) (k + 1) cap)) ∧ Hid (v.ownBlock ≠ some z) ∧ Hid (u.ownBlock ≠ some z) ∧ Hid (Below w.heap.size w wq) ∧ Hid (Blk wq z 41 #[.int .i64 lo, .int .i64 hi])) (fun _ _ i _ => (k + 1) - (intOf i).toNat)
      case atStart => exact ⟨0, by omega, rfl, Lib.hid (World.ownsRow_nil _ _ _ _), Lib.hid (World.ownsRow_nil _ _ _ _), OWo, Lib.hid (Apart.nil _), Lib.hid (Apart.nil _), Lib.hid (Apart.nil _), Lib.hid (by simp [Value.ownBlock]), Lib.hid (by simp [Value.ownBlock]), HBo, HSo⟩
      case round =>
        clear OWo HBo HSo
        obtain ⟨j, hj, rfl, OV, OU, OY, A1, A2, A3, Z1, Z2, HB, HS⟩ := hrel
        have hj9 : (j : Int) ≤ 10 := by omega
        have hsq := HS.out.lt
        by_cases hlt : j < k + 1
        · have cy : wr.cell? ⟨g, j, none⟩ = some (.int .i64 (Y j)) := OY.out.cell hlt
          obtain ⟨hj0, hj1⟩ := HYB.out j (by omega)
          have hjl : (j : Int) < (k : Int) + 1 := by omega
          generalize hyj : Y j = yj at cy hj0 hj1
          have HYJ := Lib.hid hyj; clear hyj
          have ht0 : 0 ≤ yj % 10 := Int.emod_nonneg _ (by omega)
          have ht1 : yj % 10 < 10 := Int.emod_lt_of_pos _ (by omega)
          have hbt := HBT.out j (by omega)
          have hPj := HP.out j (by omega)
          rw [HYJ.out] at hPj
          cases hbj : bt j with
          | true =>
            rw [hbj] at hbt hPj
            have HPJ := Lib.hid (show P j = -1 from hPj)
            clear hPj hbj
            go_wp2_with (first | (at_builtin; refine wpList_append_lies _ rfl (.tmp 82) (.tmp 88) 46 rfl (w.heap.size + 1) 3 i1 (.int .i64 0) 1 8 Try.underlying46 HJ1.out HJ1a.out HJ1b.out HJ1c.out rfl (by decide) u16 j (cellsOf (fun k => Y k % 10) j) rfl (OV.out.alloc _) ⟨wr.heap.size, 0, none⟩ 1 1 [.int .i64 (yj % 10)] rfl rfl (one_new wr 3 (.int .i64 (yj % 10))) (by intro u hu; simp at hu; subst hu; rfl) (by decide) (by unfold maxLen; omega) (by omega) (by rw [World.size_alloc]; omega) (wr.heap.size + 1) (by rw [World.size_alloc]) ?_; intro g1 c1 wr1 hown hgrow hat hg1; have OV1 := Lib.hid (show Years wr1 (w.heap.size + 1) (fun k => Y k % 10) (.slice (some ⟨g1, 0, none⟩) (j + 1) c1) (j + 1) from (by unfold Years; rw [cellsOf_snoc]; simp only [HYJ.out]; exact hown)); have OU1 := Lib.hid (app_kept OU.out A1.out _ hgrow); have OY1 := Lib.hid (show Years wr1 (w.heap.size + 1) Y (.slice (some ⟨g, 0, none⟩) (k + 1) cap) (k + 1) from app_kept OY.out A2.out _ hgrow); have cy1 : wr1.cell? ⟨g, j, none⟩ = some (.int .i64 yj) := (OY1.out.cell hlt).trans (by rw [HYJ.out]); have B1 := Lib.hid (app_apart OU.out A1.out (m := j + 1) (c := c1) hat); have B2 := Lib.hid (app_apart OY.out A2.out (m := j + 1) (c := c1) hat); have HB1 := Lib.hid ((HB.out.alloc HB.out.size (.cells #[.int .i64 (yj % 10)] 3)).grown hgrow (by rw [World.size_alloc]; have := HB.out.size; omega) (own_le' OV.out)); have HS1 := Lib.hid ((HS.out.alloc (.cells #[.int .i64 (yj % 10)] 3)).grown hgrow (fun e => Z1.out e.symm)); have Z11 := Lib.hid (app_far HS.out.lt Z1.out (m := j + 1) (c := c1) hat); have hsq1 := HS1.out.lt; clear hown hgrow hat hg1) | (at_builtin; refine wpList_append_lies _ rfl (.tmp 95) (.tmp 96) 46 rfl (w.heap.size + 1) 3 i1 (.int .i64 0) 1 8 Try.underlying46 HJ1.out HJ1a.out HJ1b.out HJ1c.out rfl (by decide) u17 j (cellsOf P j) rfl (OU1.out.alloc _) ⟨wr1.heap.size, 0, none⟩ 1 1 [.int .i64 (-1)] rfl rfl (one_new wr1 3 (.int .i64 (-1))) (by intro u hu; simp at hu; subst hu; rfl) (by decide) (by unfold maxLen; omega) (by omega) (by rw [World.size_alloc]; omega) (wr1.heap.size + 1) (by rw [World.size_alloc]) ?_; intro g2 c2 wr2 hown hgrow hat hg2; have OU2 := Lib.hid (show Years wr2 (w.heap.size + 1) P (.slice (some ⟨g2, 0, none⟩) (j + 1) c2) (j + 1) from (by unfold Years; rw [cellsOf_snoc, HPJ.out]; exact hown)); have OV2 := Lib.hid (app_kept OV1.out B1.out.symm _ hgrow); have OY2 := Lib.hid (app_kept OY1.out A3.out _ hgrow); have C1 := Lib.hid (app_apart OV1.out B1.out.symm (m := j + 1) (c := c2) hat).symm; have C2 := Lib.hid (app_apart OY1.out A3.out (m := j + 1) (c := c2) hat); have HB2 := Lib.hid ((HB1.out.alloc HB1.out.size (.cells #[.int .i64 ((-1))] 3)).grown hgrow (by rw [World.size_alloc]; have := HB1.out.size; omega) (own_le' OU1.out)); have HS2 := Lib.hid ((HS1.out.alloc (.cells #[.int .i64 ((-1))] 3)).grown hgrow (fun e => Z2.out e.symm)); have Z22 := Lib.hid (app_far HS1.out.lt Z2.out (m := j + 1) (c := c2) hat); clear hown hgrow hat hg2))
            exact ⟨⟨j + 1, by omega, by go_num, OV2, OU2, OY2, C1, B2, C2, Z11, Z22, HB2, HS2⟩, by simp [intOf]; omega⟩
          | false =>
            rw [hbj] at hbt hPj
            have HPJ := Lib.hid (show P j = yj % 10 from hPj)
            clear hPj hbj
            go_wp2_with (first | (at_builtin; refine wpList_append_lies _ rfl (.tmp 82) (.tmp 88) 46 rfl (w.heap.size + 1) 3 i1 (.int .i64 0) 1 8 Try.underlying46 HJ1.out HJ1a.out HJ1b.out HJ1c.out rfl (by decide) u16 j (cellsOf (fun k => Y k % 10) j) rfl (OV.out.alloc _) ⟨wr.heap.size, 0, none⟩ 1 1 [.int .i64 (yj % 10)] rfl rfl (one_new wr 3 (.int .i64 (yj % 10))) (by intro u hu; simp at hu; subst hu; rfl) (by decide) (by unfold maxLen; omega) (by omega) (by rw [World.size_alloc]; omega) (wr.heap.size + 1) (by rw [World.size_alloc]) ?_; intro g1 c1 wr1 hown hgrow hat hg1; have OV1 := Lib.hid (show Years wr1 (w.heap.size + 1) (fun k => Y k % 10) (.slice (some ⟨g1, 0, none⟩) (j + 1) c1) (j + 1) from (by unfold Years; rw [cellsOf_snoc]; simp only [HYJ.out]; exact hown)); have OU1 := Lib.hid (app_kept OU.out A1.out _ hgrow); have OY1 := Lib.hid (show Years wr1 (w.heap.size + 1) Y (.slice (some ⟨g, 0, none⟩) (k + 1) cap) (k + 1) from app_kept OY.out A2.out _ hgrow); have cy1 : wr1.cell? ⟨g, j, none⟩ = some (.int .i64 yj) := (OY1.out.cell hlt).trans (by rw [HYJ.out]); have B1 := Lib.hid (app_apart OU.out A1.out (m := j + 1) (c := c1) hat); have B2 := Lib.hid (app_apart OY.out A2.out (m := j + 1) (c := c1) hat); have HB1 := Lib.hid ((HB.out.alloc HB.out.size (.cells #[.int .i64 (yj % 10)] 3)).grown hgrow (by rw [World.size_alloc]; have := HB.out.size; omega) (own_le' OV.out)); have HS1 := Lib.hid ((HS.out.alloc (.cells #[.int .i64 (yj % 10)] 3)).grown hgrow (fun e => Z1.out e.symm)); have Z11 := Lib.hid (app_far HS.out.lt Z1.out (m := j + 1) (c := c1) hat); have hsq1 := HS1.out.lt; clear hown hgrow hat hg1) | (at_builtin; refine wpList_append_lies _ rfl (.tmp 98) (.tmp 104) 46 rfl (w.heap.size + 1) 3 i1 (.int .i64 0) 1 8 Try.underlying46 HJ1.out HJ1a.out HJ1b.out HJ1c.out rfl (by decide) u17 j (cellsOf P j) rfl (OU1.out.alloc _) ⟨wr1.heap.size, 0, none⟩ 1 1 [.int .i64 (yj % 10)] rfl rfl (one_new wr1 3 (.int .i64 (yj % 10))) (by intro u hu; simp at hu; subst hu; rfl) (by decide) (by unfold maxLen; omega) (by omega) (by rw [World.size_alloc]; omega) (wr1.heap.size + 1) (by rw [World.size_alloc]) ?_; intro g2 c2 wr2 hown hgrow hat hg2; have OU2 := Lib.hid (show Years wr2 (w.heap.size + 1) P (.slice (some ⟨g2, 0, none⟩) (j + 1) c2) (j + 1) from (by unfold Years; rw [cellsOf_snoc, HPJ.out]; exact hown)); have OV2 := Lib.hid (app_kept OV1.out B1.out.symm _ hgrow); have OY2 := Lib.hid (app_kept OY1.out A3.out _ hgrow); have C1 := Lib.hid (app_apart OV1.out B1.out.symm (m := j + 1) (c := c2) hat).symm; have C2 := Lib.hid (app_apart OY1.out A3.out (m := j + 1) (c := c2) hat); have HB2 := Lib.hid ((HB1.out.alloc HB1.out.size (.cells #[.int .i64 ((yj % 10))] 3)).grown hgrow (by rw [World.size_alloc]; have := HB1.out.size; omega) (own_le' OU1.out)); have HS2 := Lib.hid ((HS1.out.alloc (.cells #[.int .i64 ((yj % 10))] 3)).grown hgrow (fun e => Z2.out e.symm)); have Z22 := Lib.hid (app_far HS1.out.lt Z2.out (m := j + 1) (c := c2) hat); clear hown hgrow hat hg2))
            exact ⟨⟨j + 1, by omega, by go_num, OV2, OU2, OY2, C1, B2, C2, Z11, Z22, HB2, HS2⟩, by simp [intOf]; omega⟩
        · have hjk : j = k + 1 := by omega
          subst hjk
          obtain ⟨g1, c1, rfl, _, hg1, _, hv1⟩ := Years.held OV.out (by omega) (by omega)
          obtain ⟨g2, c2, rfl, _, hg2, _, hv2⟩ := Years.held OU.out (by omega) (by omega)
          have HV1 := Lib.hid hv1
          have HV2 := Lib.hid hv2
          have HCF := Lib.hid (fun W (hW : Below wr.heap.size wr W) j (hj : j < k + 1) => (hW.cell (p := ⟨g1, j, none⟩) hg1).trans (OV.out.cell hj))
          have hgr : g < wr.heap.size := (World.ownsRow.lt OY.out g rfl).2
          have HCY := Lib.hid (fun W (hW : Below wr.heap.size wr W) j (hj : j < k + 1) => (hW.cell (p := ⟨g, j, none⟩) hgr).trans (OY.out.cell hj))
          have z0 : wr.cell? ⟨z, 0, none⟩ = some (.int .i64 lo) := HS.out.cell 0
          have z1 : wr.cell? ⟨z, 1, none⟩ = some (.int .i64 hi) := HS.out.cell 1
          clear hv1 hv2 OV OU OY A1 A2 A3 Z1 Z2
          go_wp2_with fail
          refine (HD1.out _ _ HB.out HV1.out).mono ?_
          rintro e wa ⟨va, rfl, hva, hwa⟩
          obtain ⟨ba, oa, ca, rfl, hba, hca⟩ := pairs_at hva (by omega)
          have HBa := Lib.hid (HB.out.trans (hwa.mono HB.out.size))
          have HSa := Lib.hid (HS.out.below hwa hsq)
          have HWa := Lib.hid hwa
          have HV2a := Lib.hid ((Held.below HV2.out hwa).mono hwa.size)
          have HCA := Lib.hid hca
          clear z0 z1 hva hca HV1 HV2 HB HS
          have z0 : wa.cell? ⟨z, 0, none⟩ = some (.int .i64 lo) := HSa.out.cell 0
          have z1 : wa.cell? ⟨z, 1, none⟩ = some (.int .i64 hi) := HSa.out.cell 1
          have hwz := hwa.size
          clear hwa
          go_wp2_with fail
          refine (HD2.out _ _ HBa.out HV2a.out).mono ?_
          rintro e wb ⟨vb, rfl, hvb, hwb⟩
          obtain ⟨bb, ob, cb, rfl, hbb, hcb⟩ := pairs_at hvb (by omega)
          have HBb := Lib.hid (HBa.out.trans (hwb.mono HBa.out.size))
          have HCB := Lib.hid hcb
          have HCA' := Lib.hid (fun W (hW : Below wb.heap.size wb W) j (hj : j < k + 1) => (show W.cell? ⟨ba, oa + j * 2, none⟩ = some (.int .i64 (m0 j)) ∧ W.cell? ⟨ba, oa + j * 2 + 1, none⟩ = some (.int .i64 (m1 j)) from ⟨((hwb.trans (hW.mono hwb.size)).cell (p := ⟨ba, oa + j * 2, none⟩) hba).trans (HCA.out j hj).1, ((hwb.trans (hW.mono hwb.size)).cell (p := ⟨ba, oa + j * 2 + 1, none⟩) hba).trans (HCA.out j hj).2⟩))
          have HCB' := Lib.hid (fun W (hW : Below wb.heap.size wb W) j (hj : j < k + 1) => (show W.cell? ⟨bb, ob + j * 2, none⟩ = some (.int .i64 (p0 j)) ∧ W.cell? ⟨bb, ob + j * 2 + 1, none⟩ = some (.int .i64 (p1 j)) from ⟨(hW.cell (p := ⟨bb, ob + j * 2, none⟩) hbb).trans (HCB.out j hj).1, (hW.cell (p := ⟨bb, ob + j * 2 + 1, none⟩) hbb).trans (HCB.out j hj).2⟩))
          have hwrb := HWa.out.trans (hwb.mono hwz)
          have HCF' := Lib.hid (fun W (hW : Below wb.heap.size wb W) j (hj : j < k + 1) => HCF.out W (hwrb.trans (hW.mono hwrb.size)) j hj)
          have HCY' := Lib.hid (fun W (hW : Below wb.heap.size wb W) j (hj : j < k + 1) => HCY.out W (hwrb.trans (hW.mono hwrb.size)) j hj)
          clear z0 z1 hvb hcb HSa HWa HV2a HCA HCB HBa HCF HCY hwrb hwb hbb hba hwz hg1 hg2 hgr hsq
          have hn1b : decide (N1 < 1) = false := decide_eq_false (by omega)
          have hn2b : decide (N2 < N1) = false := decide_eq_false (by omega)
          go_wp2_with fail
          clear hn1b hn2b
          go_loopw [25, 26] (fun o i wq => ∃ (j : Nat), j ≤ k + 1 ∧ i = .int .i64 j ∧ o = .bool ((List.range j).all fun t => m0 t == m1 t) ∧ Hid (Below w.heap.size w wq) ∧ Hid (Below wb.heap.size wb wq)) (fun _ i _ => (k + 1) - (intOf i).toNat)
          case atStart => exact ⟨0, by omega, rfl, rfl, HBb, Lib.hid (Below.refl _ _)⟩
          case round =>
            obtain ⟨j, hj, rfl, rfl, HB, HW⟩ := hrel
            by_cases hlt : j < k + 1
            · have cy := HCY'.out wr HW.out j hlt
              have cf := HCF'.out wr HW.out j hlt
              obtain ⟨ca0, ca1⟩ := HCA'.out wr HW.out j hlt
              obtain ⟨cb0, cb1⟩ := HCB'.out wr HW.out j hlt
              obtain ⟨f0, f1, f2, f3, f4, f5, f6, f7⟩ := HF.out j (by omega)
              have HS := Lib.hid (show ((List.range (j + 1)).all fun t => m0 t == m1 t) = (((List.range j).all fun t => m0 t == m1 t) && (m0 j == m1 j)) from by rw [List.range_succ, List.all_append]; simp)
              obtain ⟨hyj0, hyj1⟩ := HYB.out j (by omega)
              generalize hacc : ((List.range j).all fun t => m0 t == m1 t) = acc at HS ⊢
              clear hacc
              generalize Y j = yj at cy cf f2 f3 f6 f7 hyj0 hyj1
              generalize m0 j = a0 at ca0 f0 f2 f4 f6 HS
              generalize m1 j = a1 at ca1 f1 f3 f5 f7 HS
              generalize p0 j = b0 at cb0 f4
              generalize p1 j = b1 at cb1 f5
              generalize yj % 10 = fj at cf f6 f7
              have t1 : decide (yj < a0) = false := decide_eq_false (by omega)
              have t2 : decide (a1 < yj) = false := decide_eq_false (by omega)
              have t3 : decide (a0 < b0) = false := decide_eq_false (by omega)
              have t4 : decide (b1 < a1) = false := decide_eq_false (by omega)
              have t5 : a0.tmod 10 = fj := by rw [Int.tmod_eq_emod_of_nonneg f0]; exact f6
              have t6 : a1.tmod 10 = fj := by rw [Int.tmod_eq_emod_of_nonneg f1]; exact f7
              have hjl : (j : Int) < (k : Int) + 1 := by omega
              go_wp2_with fail
              go_quiet (fail)
              go_wp2_with fail
              clear t1 t2 t3 t4 t5 t6 f6 f7 cy cf cb0 cb1
              cases acc with
              | false =>
                go_quiet (fail)
                go_wp2_with fail
                exact ⟨⟨j + 1, by omega, by go_num, by rw [HS.out]; rfl, Lib.hid (by first | exact below_drewN HB.out _ | exact below_drewN (below_drewN HB.out _) _), Lib.hid (by first | exact below_drewN HW.out _ | exact below_drewN (below_drewN HW.out _) _)⟩, by simp [intOf]; omega⟩
              | true =>
                by_cases heq : a0 = a1
                · have hq : (a0 == a1) = true := by simp [heq]
                  clear heq
                  go_quiet (fail)
                  go_wp2_with fail
                  exact ⟨⟨j + 1, by omega, by go_num, by rw [HS.out, hq]; rfl, Lib.hid (by first | exact below_drewN HB.out _ | exact below_drewN (below_drewN HB.out _) _), Lib.hid (by first | exact below_drewN HW.out _ | exact below_drewN (below_drewN HW.out _) _)⟩, by simp [intOf]; omega⟩
                · have hq : (a0 == a1) = false := by simp [heq]
                  clear heq
                  go_quiet (fail)
                  go_wp2_with fail
                  exact ⟨⟨j + 1, by omega, by go_num, by rw [HS.out, hq]; rfl, Lib.hid (by first | exact below_drewN HB.out _ | exact below_drewN (below_drewN HB.out _) _), Lib.hid (by first | exact below_drewN HW.out _ | exact below_drewN (below_drewN HW.out _) _)⟩, by simp [intOf]; omega⟩
            · have hjk : j = k + 1 := by omega
              subst hjk
              obtain ⟨o, ho⟩ : ∃ o, ((List.range (k + 1)).all fun t => m0 t == m1 t) = o := ⟨_, rfl⟩
              have hon := HON.out
              rw [ho] at hon ⊢
              clear ho
              by_cases hN : N1 = 1
              · have hb : (N1 == 1) = true := by simp [hN]
                rw [hb] at hon
                subst hon
                clear hN
                go_wp2_with fail
                refine (grows_calls _).mono ?_
                rintro e w9 ⟨rfl, hw9⟩
                go_wp2
                go_ret
                exact ⟨rfl, HB.out.trans (hw9.mono HB.out.size)⟩
              · have hb : (N1 == 1) = false := by simp [hN]
                rw [hb] at hon
                subst hon
                clear hN
                go_wp2_with fail
                refine (grows_calls _).mono ?_
                rintro e w9 ⟨rfl, hw9⟩
                go_wp2
                go_ret
                exact ⟨rfl, HB.out.trans (hw9.mono HB.out.size)⟩
end Go.Proofs.Ytceginnogbbpeaa
