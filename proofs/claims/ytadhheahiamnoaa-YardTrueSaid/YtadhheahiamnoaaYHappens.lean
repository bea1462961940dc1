/- What really happens. -/
import Derived.Test.YtadhheahiamnoaaYRealAct
import Derived.Test.YtadhheahiamnoaaYOpen
namespace Go.Proofs.Ytadhheahiamnoaa
open Go Go.RowKit Go.Shelf Yd
open _root_.Go.Value renaming int → Z, string → Zs, slice → Zl
open _root_.Go.IntKind renaming i64 → O
open _root_.Go.Lib renaming hid → Zh

/-- What happens leaves. -/
def HappensDone (w : World) (bef aft : Int) (ds : List (Deed Code)) (K : Nat) (e : Ending) (w' : World) : Prop :=
  (∃ (a : Option Addr) (n c : Nat) (i1 i2 i3 i4 i5 i6 i7 i8 : Int), e = .returned (.tuple #[.agg #[Zl a n c, Z O i1, Z O i2, Z O i3, Z O i4, Z O i5, Z O i6, Z O i7, Z O i8], .bool false]) ∧ Below w.heap.size w w') ∨
  (∃ (r : Yd.Real Code) (s : St Code) (a : Option Addr) (n c : Nat), Yd.run bef aft .empty 0 (ds.take K) = (s, K, 0) ∧ True_ r s ∧ Balance r ∧ SmallSt K s ∧ Moderate r ∧ n = r.stacks.length ∧ e = .returned (.tuple #[.agg (realCells (Zl a n c) r).toArray, .bool true]) ∧ Below w.heap.size w w' ∧ Held w'.heap.size w' 3 pileCells (Zl a n c) r.stacks)
theorem real_no_string (a : Option Addr) (n c : Nat) (r : Yd.Real Code) : ∀ u ∈ realCells (Zl a n c) r, ∀ s, u ≠ Zs s := by
  intro u hu s
  simp only [realCells, List.mem_cons, List.not_mem_nil, or_false] at hu
  rcases hu with rfl | rfl | rfl | rfl | rfl | rfl | rfl | rfl | rfl <;> (intro e; cases e)
theorem wrap_u16_in (x : Int) : 0 ≤ IntKind.u16.wrap x ∧ IntKind.u16.wrap x ≤ 65535 := by
  rw [IntKind.wrap_u16]
  omega

set_option linter.unusedSimpArgs false in
set_option maxRecDepth 100000 in
set_option maxHeartbeats 8000000 in
theorem happens_calls (bef aft : Int) (v pv : Value) (ds : List (Deed Code)) (xs : List Int) (K : Nat) (w : World) (h : Held w.heap.size w 8 deedCells v ds) (hpv : Held w.heap.size w 1 pickCells pv xs) (hxs : ∀ x ∈ xs, 0 ≤ x ∧ x ≤ 65535) (hok : errYard bef aft ds = 0) (h12 : ds.length ≤ 12) (hK : K ≤ ds.length) (hz : (Yd.run bef aft .empty 0 (ds.take K)).2.2 = 0) :
    Calls Try.prog 17 #[.agg #[Z O bef, Z O aft, v], Z O K, pv] w (HappensDone w bef aft ds K) := by
  obtain ⟨pa, pc, rfl, hpm, hpcs⟩ := hpv.slice
  have HPC := Zh hpcs
  obtain ⟨m, hm⟩ : ∃ m, m = xs.length := ⟨_, rfl⟩
  have HM := Zh hm
  rw [← hm] at hpm ⊢
  clear hpv hpcs hm
  obtain ⟨a, c, rfl, _, hcs⟩ := h.slice
  have HCS := Zh hcs
  obtain ⟨n, hn⟩ : ∃ n, n = ds.length := ⟨_, rfl⟩
  have HN := Zh hn
  rw [← hn] at h12 hK ⊢
  have HZ := Zh hz; have HOK := Zh hok; have HXS := Zh hxs
  have HFITS := Zh (show ∀ d ∈ ds, Fits d from errDeeds_all (errYard_ok hok).2.2.2)
  clear h hcs hn hz hok hxs
  have HL0 := Zh (show Locs w (((w.alloc (.cells #[Z O bef, Z O aft, Zl a n c] 24)).alloc (.cells #[Zl none 0 0, Z O 0, Z O 0, Z O 0, Z O 0, Z O 0, Z O 0, Z O 0, Z O 0] 42)).alloc (.cells #[Zl none 0 0, Z O 0, Z O 0, Z O 0, Z O 0, Z O 0, Z O 0, Z O 0, Z O 0] 42)) [(w.heap.size, 24, [Z O bef, Z O aft, Zl a n c]), (w.heap.size + 1, 42, [Zl none 0 0, Z O 0, Z O 0, Z O 0, Z O 0, Z O 0, Z O 0, Z O 0, Z O 0]), (w.heap.size + 1 + 1, 42, [Zl none 0 0, Z O 0, Z O 0, Z O 0, Z O 0, Z O 0, Z O 0, Z O 0, Z O 0])] [] from (((Locs.start w).alloc 24 [Z O bef, Z O aft, Zl a n c] rfl).alloc 42 [Zl none 0 0, Z O 0, Z O 0, Z O 0, Z O 0, Z O 0, Z O 0, Z O 0, Z O 0] (World.size_alloc _ _)).alloc 42 [Zl none 0 0, Z O 0, Z O 0, Z O 0, Z O 0, Z O 0, Z O 0, Z O 0, Z O 0] (by rw [World.size_alloc, World.size_alloc]))
  have HSZ0 := Zh (show (((w.alloc (.cells #[Z O bef, Z O aft, Zl a n c] 24)).alloc (.cells #[Zl none 0 0, Z O 0, Z O 0, Z O 0, Z O 0, Z O 0, Z O 0, Z O 0, Z O 0] 42)).alloc (.cells #[Zl none 0 0, Z O 0, Z O 0, Z O 0, Z O 0, Z O 0, Z O 0, Z O 0, Z O 0] 42)).heap.size = w.heap.size + 3 from by rw [World.size_alloc, World.size_alloc, World.size_alloc])
  go_enter Try.func17, Try.ntmps17
  go_wp2
  generalize (((w.alloc (.cells #[Z O bef, Z O aft, Zl a n c] 24)).alloc (.cells #[Zl none 0 0, Z O 0, Z O 0, Z O 0, Z O 0, Z O 0, Z O 0, Z O 0, Z O 0] 42)).alloc (.cells #[Zl none 0 0, Z O 0, Z O 0, Z O 0, Z O 0, Z O 0, Z O 0, Z O 0, Z O 0] 42)) = w1 at HL0 HSZ0 ⊢
  generalize w.heap.size + 1 + 1 = gr at HL0 ⊢
  generalize w.heap.size + 1 = ge at HL0 ⊢
  clear HSZ0
  obtain ⟨gy, hgy⟩ : ∃ g, g = w.heap.size := ⟨_, rfl⟩
  rw [← hgy] at HL0 ⊢
  clear hgy
  go_loopw [9] (fun iv wr => ∃ (i : Nat) (r : Yd.Real Code) (s : St Code) (sa : Option Addr) (sn sc : Nat), i ≤ K ∧ iv = Z O i ∧ Hid (Yd.run bef aft .empty 0 (ds.take i) = (s, i, 0)) ∧ Hid (True_ r s) ∧ Hid (Balance r) ∧ Hid (SmallSt i s) ∧ Hid (0 ≤ r.piledDry ∧ r.piledDry ≤ 100000000 * (i : Int)) ∧ Hid (0 ≤ r.piledWater ∧ r.piledWater ≤ 100000000 * (i : Int)) ∧ Hid (sn = r.stacks.length ∧ sn ≤ i) ∧ Hid (PileSlice (Zl sa sn sc) r.stacks) ∧ Hid (Held wr.heap.size wr 3 pileCells (Zl sa sn sc) r.stacks) ∧
      Hid (Locs w wr [(gy, 24, [Z O bef, Z O aft, Zl a n c]), (ge, 42, [Zl none 0 0, Z O 0, Z O 0, Z O 0, Z O 0, Z O 0, Z O 0, Z O 0, Z O 0]), (gr, 42, realCells (Zl sa sn sc) r)] [])) (fun iv _ => K - (intOf iv).toNat)
  case atStart => exact ⟨0, .empty, .empty, none, 0, 0, Nat.zero_le _, rfl, Zh (by rw [List.take_zero]; rfl), Zh true_empty, Zh balance_empty, Zh small_empty, Zh ⟨by simp [Yd.Real.empty], by simp [Yd.Real.empty]⟩, Zh ⟨by simp [Yd.Real.empty], by simp [Yd.Real.empty]⟩, Zh ⟨rfl, Nat.le_refl _⟩, Zh (.inl ⟨rfl, rfl⟩), Zh (.inl ⟨⟨_, _, rfl⟩, rfl⟩), HL0⟩
  case round =>
    clear HL0
    obtain ⟨i, r, s, sa, sn, sc, hi, rfl, HRUN, HTR, HBA, HSM, HPD, HPW, HSN, HPS, HH, HLr⟩ := hrel
    have HMO := Zh (moderate_of HTR.out HSM.out (by omega) HPD.out HPW.out (by have := HSN.out; omega))
    obtain ⟨l, vap, bro, dus, sdr, swa, soa, pdr, pwa⟩ := r
    have HL1 := Zh (show Locs w wr [(gy, 24, [Z O bef, Z O aft, Zl a n c]), (ge, 42, [Zl none 0 0, Z O 0, Z O 0, Z O 0, Z O 0, Z O 0, Z O 0, Z O 0, Z O 0]), (gr, 42, [Zl sa sn sc, Z O vap, Z O bro, Z O dus, Z O sdr, Z O swa, Z O soa, Z O pdr, Z O pwa])] [] from HLr.out)
    clear HLr
    by_cases hlt : i < K
    · skip
      have hlt' : i < ds.length := by rw [← HN.out]; omega
      obtain ⟨b, off, rfl, hbl, ⟨hnc, hcm⟩, hcells⟩ := HCS.out (by omega)
      have hin : i < n := by omega
      have hltI : (i : Int) < (K : Int) := by omega
      have hinI : (i : Int) < (n : Int) := by omega
      obtain ⟨d, hd⟩ : ∃ d, d = ds[i]! := ⟨_, rfl⟩
      have hd := hd.symm
      have HROW := Zh (show ∀ W, Below w.heap.size w W → W.rangeAt b (off + i * 8) (deedCells d) from fun W hW q u hu => (hW.cell (p := ⟨b, off + i * 8 + q, none⟩) hbl).trans (hcells i hlt' q u (by rw [hd]; exact hu)))
      have hft := HFITS.out _ (get_in hlt')
      obtain ⟨f0, hrun1⟩ := run_upto (by rw [← HN.out]; exact hK) hlt HZ.out HRUN.out
      rw [hd] at hft f0 hrun1
      rw [← HN.out] at hnc
      have HFT := Zh hft; have HF0 := Zh f0; have HRUN1 := Zh hrun1
      clear hcells hft f0 hrun1 hd
      go_upto_if 30 with (fail)
      generalize hbb : decide (2 * (i : Int) + 1 < (m : Int)) = bb
      go_cut [10, 11] from 31 to 41 (fun sa1 sb1 wx => ∃ (one two : Int), sa1 = .int .u16 one ∧ sb1 = .int .u16 two ∧ Hid (0 ≤ one ∧ one ≤ 65535) ∧ Hid (0 ≤ two ∧ two ≤ 65535) ∧ Hid (Held wx.heap.size wx 3 pileCells (Zl sa sn sc) l) ∧ Hid (Locs w wx [(gy, 24, [Z O bef, Z O aft, Zl (some ⟨b, off, none⟩) n c]), (ge, 42, [Zl none 0 0, Z O 0, Z O 0, Z O 0, Z O 0, Z O 0, Z O 0, Z O 0, Z O 0]), (gr, 42, [Zl sa sn sc, Z O vap, Z O bro, Z O dus, Z O sdr, Z O swa, Z O soa, Z O pdr, Z O pwa])] []))
      case first =>
        rcases Bool.eq_false_or_eq_true bb with rfl | rfl
        · have hpkI : 2 * (i : Int) + 1 < (m : Int) := by simpa using hbb
          have hpk : 2 * i + 1 < m := by omega
          clear hbb
          obtain ⟨b', off', rfl, hb', _, hpc⟩ := HPC.out (by rw [← HM.out]; omega)
          obtain ⟨p1, hpe1⟩ : ∃ p, p = xs[2 * i]! := ⟨_, rfl⟩
          obtain ⟨p2, hpe2⟩ : ∃ p, p = xs[2 * i + 1]! := ⟨_, rfl⟩
          have hp1 : 0 ≤ p1 ∧ p1 ≤ 65535 := by rw [hpe1]; exact HXS.out _ (get_in (by rw [← HM.out]; omega))
          have hp2 : 0 ≤ p2 ∧ p2 ≤ 65535 := by rw [hpe2]; exact HXS.out _ (get_in (by rw [← HM.out]; omega))
          have q0 := cell_regrown (show wr.cell? ⟨b', off' + 2 * i, none⟩ = some (.int .u16 p1) from (HL1.out.low.cell (p := ⟨b', off' + 2 * i, none⟩) hb').trans (by have := hpc (2 * i) (by rw [← HM.out]; omega) 0 (.int .u16 p1) (by rw [← hpe1]; rfl); simpa using this))
          have q1 := cell_regrown (show wr.cell? ⟨b', off' + (2 * i + 1), none⟩ = some (.int .u16 p2) from (HL1.out.low.cell (p := ⟨b', off' + (2 * i + 1), none⟩) hb').trans (by have := hpc (2 * i + 1) (by rw [← HM.out]; omega) 0 (.int .u16 p2) (by rw [← hpe2]; rfl); simpa using this))
          have hi0 : (0 : Int) ≤ 2 * (i : Int) := by omega
          have hi1 : (0 : Int) ≤ 2 * (i : Int) + 1 := by omega
          have hi2 : 2 * (i : Int) < (m : Int) := by omega
          have en1 : (2 * (i : Int)).toNat = 2 * i := by omega
          have en2 : (2 * (i : Int) + 1).toNat = 2 * i + 1 := by omega
          have HP1 := Zh hp1; have HP2 := Zh hp2
          clear hpc hpe1 hpe2 hp1 hp2
          go_upto_region 7 with (fail)
          refine wp_region_quiet_below (by kernel_rfl) (by kernel_rfl) ?_
          repeat (go_big_quiet_step (fail))
          refine wpQuiet_nil ?_
          intro w3 hw'
          have hb3 : Below wr.heap.size wr w3 := by obtain ⟨⟨dq, osq⟩, hw''⟩ := hw'; rw [hw'']; exact below_regrown _ dq osq
          clear hw' q0 q1 hi0 hi1 hi2 en1 en2
          go_wp2_with fail
          go_meet
          case rel => exact ⟨_, _, rfl, rfl, HP1, HP2, Zh ((HH.out.below hb3).mono hb3.size), Zh (HL1.out.below hb3)⟩
        · clear hbb
          go_wp2
          go_meet
          case rel => exact ⟨_, _, rfl, rfl, Zh (by first | exact wrap_u16_in _ | omega), Zh (by first | exact wrap_u16_in _ | omega), HH, HL1⟩
      case rest =>
        clear HL1 HH
        obtain ⟨one, two, rfl, rfl, HO1, HO2, HH, HL2⟩ := hcut
        have HDO := Zh (show ∀ W, Below wc.heap.size wc W → Calls Try.prog 44 #[.agg #[Zl sa sn sc, Z O vap, Z O bro, Z O dus, Z O sdr, Z O swa, Z O soa, Z O pdr, Z O pwa], .agg (deedCells d).toArray, .int .u16 one, .int .u16 two] W (RealDone W (Yd.Real.act ⟨l, vap, bro, dus, sdr, swa, soa, pdr, pwa⟩ d (pickOf d.a.lo d.a.hi one) (pickOf d.b.lo d.b.hi two))) from fun W hW => do_calls (Zl sa sn sc) ⟨l, vap, bro, dus, sdr, swa, soa, pdr, pwa⟩ d one two W ((HH.out.below hW).mono hW.size) HPS.out HFT.out HMO.out HO1.out HO2.out)
        have ha := pick_in (b := one) HFT.out.fine.a.2
        have hb := pick_in (b := two) HFT.out.fine.b.2
        have HTN := Zh (fun r' (hr : Yd.Real.act ⟨l, vap, bro, dus, sdr, swa, soa, pdr, pwa⟩ d (pickOf d.a.lo d.a.hi one) (pickOf d.b.lo d.b.hi two) = some r') => true_next HTR.out HBA.out HFT.out.fine ha hb HF0.out i hr)
        have HAD := Zh (fun r' (hr : Yd.Real.act ⟨l, vap, bro, dus, sdr, swa, soa, pdr, pwa⟩ d (pickOf d.a.lo d.a.hi one) (pickOf d.b.lo d.b.hi two) = some r') => act_adds hr)
        have hpab : (0 ≤ pickOf d.a.lo d.a.hi one ∧ pickOf d.a.lo d.a.hi one ≤ 100000000) ∧ (0 ≤ pickOf d.b.lo d.b.hi two ∧ pickOf d.b.lo d.b.hi two ≤ 100000000) := by
          have h1 := HFT.out.fine.a; have h2 := HFT.out.fine.b; have h3 := HFT.out.a8; have h4 := HFT.out.b8
          unfold Bd.Ok at h1 h2
          omega
        have HPAB := Zh hpab
        clear ha hb hpab HO1 HO2 HH HPS
        generalize pickOf d.a.lo d.a.hi one = na1 at HDO HTN HAD HPAB
        generalize pickOf d.b.lo d.b.hi two = nb1 at HDO HTN HAD HPAB
        have HSM1 := Zh (small_step HSM.out HFT.out HF0.out)
        have HDD := Zh (show deedCells d = deedCells d from rfl)
        obtain ⟨⟨kind, dy, code, other, ⟨al, ah⟩, ⟨bl, bh⟩⟩, hdd⟩ : ∃ e, e = d := ⟨_, rfl⟩
        have HDE := Zh hdd
        have HROW2 := Zh (show ∀ W, Below wc.heap.size wc W → W.rangeAt b (off + i * 8) [Z O kind, Z O dy, Zs code, Zs other, Z O al, Z O ah, Z O bl, Z O bh] from fun W hW => by have := HROW.out W (HL2.out.low.trans (hW.mono HL2.out.low.size)); rw [← hdd] at this; exact this)
        have HDO2 := Zh (show ∀ W, Below wc.heap.size wc W → Calls Try.prog 44 #[.agg #[Zl sa sn sc, Z O vap, Z O bro, Z O dus, Z O sdr, Z O swa, Z O soa, Z O pdr, Z O pwa], .agg #[Z O kind, Z O dy, Zs code, Zs other, Z O al, Z O ah, Z O bl, Z O bh], .int .u16 one, .int .u16 two] W (RealDone W (Yd.Real.act ⟨l, vap, bro, dus, sdr, swa, soa, pdr, pwa⟩ d na1 nb1)) from fun W hW => by have := HDO.out W hW; rw [← hdd] at this ⊢; exact this)
        clear HDO HROW hdd HDD
        have hi0 : (0 : Int) ≤ (i : Int) := by omega
        go_upto_region 8 with (fail)
        cases hact : Yd.Real.act ⟨l, vap, bro, dus, sdr, swa, soa, pdr, pwa⟩ d na1 nb1 with
        | none =>
          rw [hact] at HDO2
          clear HTN HAD
          have hmix : Try.prog.follows .mixedOrders = true := by kernel_rfl
          refine region_till [] (fun w' => Below wc.heap.size wc w') 15 [false, false, false, false, false, false, false, false, false, false, false, false, false, false, false] hmix rfl rfl ?_
          clear hmix
          have HT := Zh ((Below.refl wc.heap.size wc).drew)
          have HL3 := Zh (HL2.out.drew)
          generalize wc.drew = v1 at HT HL3 ⊢
          refine till_load (i := 0) (v := .agg #[Zl sa sn sc, Z O vap, Z O bro, Z O dus, Z O sdr, Z O swa, Z O soa, Z O pdr, Z O pwa]) rfl rfl (by kernel_rfl) (fun _ _ _ h => h) (yields_mid rfl 42 (.tmp 8) rfl (gr) 0 rfl [Zl sa sn sc, Z O vap, Z O bro, Z O dus, Z O sdr, Z O swa, Z O soa, Z O pdr, Z O pwa] _ (fun w' hw' => HL2.out.rangeB hw' 2 0 _ rfl rfl) Try.underlying42 rfl (by kernel_rfl)) (fun _ => HT.out) ?_
          try simp only [List.setIfInBounds_toArray, List.set_cons_succ, List.set_cons_zero]
          refine till_pure (i := 1) (v := .pointer (some ⟨gy, 2, none⟩)) rfl rfl (by kernel_rfl) (fun _ _ _ h => h) (yields_of rfl (fun w' _ => by simp [go_sem])) (fun _ => HT.out) ?_
          try simp only [List.setIfInBounds_toArray, List.set_cons_succ, List.set_cons_zero]
          refine till_load (i := 2) (v := Zl (some ⟨b, off, none⟩) n c) rfl rfl (by kernel_rfl) (fun _ _ _ h => h) (yields_of rfl (fun w' hw' => by have hcx : w'.cell? ⟨gy, 2, none⟩ = some (Zl (some ⟨b, off, none⟩) n c) := HL2.out.atB hw' 0 2 rfl rfl; simp [go_sem, hcx])) (fun _ => HT.out) ?_
          try simp only [List.setIfInBounds_toArray, List.set_cons_succ, List.set_cons_zero]
          refine till_pure (i := 3) (v := Z O (i : Int)) rfl rfl (by kernel_rfl) (fun _ _ _ h => h) (yields_of rfl (fun w' _ => by simp [go_sem])) (fun _ => HT.out) ?_
          try simp only [List.setIfInBounds_toArray, List.set_cons_succ, List.set_cons_zero]
          refine till_pure (i := 4) (v := .pointer (some ⟨b, off + i * 8, none⟩)) rfl rfl (by kernel_rfl) (fun _ _ _ h => h) (yields_of rfl (fun w' _ => by simp [go_sem, Try.underlying22, hi0, hin, hinI, hnc])) (fun _ => HT.out) ?_
          try simp only [List.setIfInBounds_toArray, List.set_cons_succ, List.set_cons_zero]
          refine till_load (i := 5) (v := .agg #[Z O kind, Z O dy, Zs code, Zs other, Z O al, Z O ah, Z O bl, Z O bh]) rfl rfl (by kernel_rfl) (fun _ _ _ h => h) (yields_mid rfl 55 (.tmp 47) rfl b (off + i * 8) rfl [Z O kind, Z O dy, Zs code, Zs other, Z O al, Z O ah, Z O bl, Z O bh] _ (fun w' hw' => HROW2.out w' hw') Try.underlying55 rfl (by kernel_rfl)) (fun _ => HT.out) ?_
          try simp only [List.setIfInBounds_toArray, List.set_cons_succ, List.set_cons_zero]
          refine till_pure (i := 6) (v := .int .u16 one) rfl rfl (by kernel_rfl) (fun _ _ _ h => h) (yields_of rfl (fun w' _ => by simp [go_sem])) (fun _ => HT.out) ?_
          try simp only [List.setIfInBounds_toArray, List.set_cons_succ, List.set_cons_zero]
          refine till_pure (i := 7) (v := .int .u16 two) rfl rfl (by kernel_rfl) (fun _ _ _ h => h) (yields_of rfl (fun w' _ => by simp [go_sem])) (fun _ => HT.out) ?_
          try simp only [List.setIfInBounds_toArray, List.set_cons_succ, List.set_cons_zero]
          refine till_two (i := 8) (j := 12) (by kernel_rfl) rfl rfl ?_ ?_
          · go_wp2_with (go_at_call 44; refine (HDO2.out _ HT.out).mono ?_; rintro e v2 ⟨na, nn, nc, i1, i2, i3, i4, i5, i6, i7, i8, rfl, hb⟩; have HL4 := Zh (HL3.out.below hb); have HT := Zh (HT.out.trans (hb.mono HT.out.size)); clear hb)
            refine ⟨(fun _ => HT.out), ?_⟩
            try simp only [List.setIfInBounds_toArray, List.set_cons_succ, List.set_cons_zero]
            refine till_pure (i := 9) (v := .tuple #[.agg #[Zl na nn nc, Z O i1, Z O i2, Z O i3, Z O i4, Z O i5, Z O i6, Z O i7, Z O i8], .bool false]) rfl rfl (by kernel_rfl) (fun _ _ _ h => h) (yields_of rfl (fun w' _ => by simp [go_sem, accCells])) (fun _ => HT.out) ?_
            try simp only [List.setIfInBounds_toArray, List.set_cons_succ, List.set_cons_zero]
            refine till_pure (i := 10) (v := .agg #[Zl na nn nc, Z O i1, Z O i2, Z O i3, Z O i4, Z O i5, Z O i6, Z O i7, Z O i8]) rfl rfl (by kernel_rfl) (fun _ _ _ h => h) (yields_of rfl (fun w' _ => by simp [go_sem])) (fun _ => HT.out) ?_
            try simp only [List.setIfInBounds_toArray, List.set_cons_succ, List.set_cons_zero]
            refine till_pure (i := 11) (v := .bool false) rfl rfl (by kernel_rfl) (fun _ _ _ h => h) (yields_of rfl (fun w' _ => by simp [go_sem])) (fun _ => HT.out) ?_
            try simp only [List.setIfInBounds_toArray, List.set_cons_succ, List.set_cons_zero]
            refine till_only (j := 12) (by kernel_rfl) rfl ?_
            go_wp2_with fail
            have HGE_gn := Zh (show wc.heap.size ≤ v2.heap.size from HT.out.size)
            have HT2 := Zh (HT.out.alloc HT.out.size (.cells #[Zl none 0 0, Z O 0, Z O 0, Z O 0, Z O 0, Z O 0, Z O 0, Z O 0, Z O 0] 42))
            have HL5 := Zh (show Locs w (v2.alloc (.cells #[Zl none 0 0, Z O 0, Z O 0, Z O 0, Z O 0, Z O 0, Z O 0, Z O 0, Z O 0] 42)) [(gy, 24, [Z O bef, Z O aft, Zl (some ⟨b, off, none⟩) n c]), (ge, 42, [Zl none 0 0, Z O 0, Z O 0, Z O 0, Z O 0, Z O 0, Z O 0, Z O 0, Z O 0]), (gr, 42, [Zl sa sn sc, Z O vap, Z O bro, Z O dus, Z O sdr, Z O swa, Z O soa, Z O pdr, Z O pwa]), (v2.heap.size, 42, [Zl none 0 0, Z O 0, Z O 0, Z O 0, Z O 0, Z O 0, Z O 0, Z O 0, Z O 0])] [] from HL4.out.alloc 42 [Zl none 0 0, Z O 0, Z O 0, Z O 0, Z O 0, Z O 0, Z O 0, Z O 0, Z O 0] rfl)
            clear HL4 HT
            generalize (v2.alloc (.cells #[Zl none 0 0, Z O 0, Z O 0, Z O 0, Z O 0, Z O 0, Z O 0, Z O 0, Z O 0] 42)) = v3 at HL5 HT2 ⊢
            have HT := HT2; clear HT2
            generalize v2.heap.size = gn at HL5 HGE_gn ⊢
            refine ⟨(fun _ => HT.out), ?_⟩
            try simp only [List.setIfInBounds_toArray, List.set_cons_succ, List.set_cons_zero]
            refine till_only (j := 13) (by kernel_rfl) rfl ?_
            refine wpList_store_mid rfl 42 (.tmp 12) (.tmp 52) rfl gn 0 #[Zl na nn nc, Z O i1, Z O i2, Z O i3, Z O i4, Z O i5, Z O i6, Z O i7, Z O i8] rfl rfl (HL5.out.there 3 (o := 0) (n := 9) rfl (Nat.le_of_ble_eq_true rfl)) size_real (by simp [Value.oneCell']) ?_
            change wpList _ _ _ _ _ (v3.setCells gn 0 [Zl na nn nc, Z O i1, Z O i2, Z O i3, Z O i4, Z O i5, Z O i6, Z O i7, Z O i8])
            have HT2 := Zh (below_setCells HT.out (HGE_gn.out) [Zl na nn nc, Z O i1, Z O i2, Z O i3, Z O i4, Z O i5, Z O i6, Z O i7, Z O i8] 0)
            have HL6 := Zh (show Locs w (v3.setCells gn 0 [Zl na nn nc, Z O i1, Z O i2, Z O i3, Z O i4, Z O i5, Z O i6, Z O i7, Z O i8]) [(gy, 24, [Z O bef, Z O aft, Zl (some ⟨b, off, none⟩) n c]), (ge, 42, [Zl none 0 0, Z O 0, Z O 0, Z O 0, Z O 0, Z O 0, Z O 0, Z O 0, Z O 0]), (gr, 42, [Zl sa sn sc, Z O vap, Z O bro, Z O dus, Z O sdr, Z O swa, Z O soa, Z O pdr, Z O pwa]), (gn, 42, [Zl na nn nc, Z O i1, Z O i2, Z O i3, Z O i4, Z O i5, Z O i6, Z O i7, Z O i8])] [] from HL5.out.setLoc 3 [] [Zl none 0 0, Z O 0, Z O 0, Z O 0, Z O 0, Z O 0, Z O 0, Z O 0, Z O 0] [] [Zl na nn nc, Z O i1, Z O i2, Z O i3, Z O i4, Z O i5, Z O i6, Z O i7, Z O i8] rfl rfl)
            clear HL5 HT
            generalize (v3.setCells gn 0 [Zl na nn nc, Z O i1, Z O i2, Z O i3, Z O i4, Z O i5, Z O i6, Z O i7, Z O i8]) = v4 at HL6 HT2 ⊢
            have HT := HT2; clear HT2
            change Till _ _ _ _ ∧ wpAnyT _ _ _ _ _ _ _ _ _ _
            refine ⟨(fun _ => HT.out), ?_⟩
            try simp only [List.setIfInBounds_toArray, List.set_cons_succ, List.set_cons_zero]
            refine till_pure (i := 14) (v := .bool false) rfl rfl (by kernel_rfl) (fun _ _ _ h => h) (yields_of rfl (fun w' _ => by simp [go_sem])) (fun _ => HT.out) ?_
            try simp only [List.setIfInBounds_toArray, List.set_cons_succ, List.set_cons_zero]
            refine till_done (by kernel_rfl) ?_
            try simp only [Act.put]
            have s0 := (show v4.cell? ⟨gr, 0, none⟩ = some (Zl sa sn sc) from HL6.out.at 2 0 (v := Zl sa sn sc) rfl rfl)
            have s1 := (show v4.cell? ⟨gr, 1, none⟩ = some (Z O vap) from HL6.out.at 2 1 (v := Z O vap) rfl rfl)
            have s2 := (show v4.cell? ⟨gr, 2, none⟩ = some (Z O bro) from HL6.out.at 2 2 (v := Z O bro) rfl rfl)
            have s3 := (show v4.cell? ⟨gr, 3, none⟩ = some (Z O dus) from HL6.out.at 2 3 (v := Z O dus) rfl rfl)
            have s4 := (show v4.cell? ⟨gr, 4, none⟩ = some (Z O sdr) from HL6.out.at 2 4 (v := Z O sdr) rfl rfl)
            have s5 := (show v4.cell? ⟨gr, 5, none⟩ = some (Z O swa) from HL6.out.at 2 5 (v := Z O swa) rfl rfl)
            have s6 := (show v4.cell? ⟨gr, 6, none⟩ = some (Z O soa) from HL6.out.at 2 6 (v := Z O soa) rfl rfl)
            have s7 := (show v4.cell? ⟨gr, 7, none⟩ = some (Z O pdr) from HL6.out.at 2 7 (v := Z O pdr) rfl rfl)
            have s8 := (show v4.cell? ⟨gr, 8, none⟩ = some (Z O pwa) from HL6.out.at 2 8 (v := Z O pwa) rfl rfl)
            go_wp2_with ((with_reducible refine at_store 42 (.tmp 6) (.tmp 56) ?_); go_must (refine wpList_store_mid rfl 42 (.tmp 6) (.tmp 56) rfl ge 0 #[Zl sa sn sc, Z O vap, Z O bro, Z O dus, Z O sdr, Z O swa, Z O soa, Z O pdr, Z O pwa] rfl rfl (HL6.out.there 1 (o := 0) (n := 9) rfl (Nat.le_of_ble_eq_true rfl)) size_real (by simp [Value.oneCell']) ?_))
            clear s0 s1 s2 s3 s4 s5 s6 s7 s8
            have HLf := Zh (show Locs w (v4.setCells ge 0 [Zl sa sn sc, Z O vap, Z O bro, Z O dus, Z O sdr, Z O swa, Z O soa, Z O pdr, Z O pwa]) [(gy, 24, [Z O bef, Z O aft, Zl (some ⟨b, off, none⟩) n c]), (ge, 42, [Zl sa sn sc, Z O vap, Z O bro, Z O dus, Z O sdr, Z O swa, Z O soa, Z O pdr, Z O pwa]), (gr, 42, [Zl sa sn sc, Z O vap, Z O bro, Z O dus, Z O sdr, Z O swa, Z O soa, Z O pdr, Z O pwa]), (gn, 42, [Zl na nn nc, Z O i1, Z O i2, Z O i3, Z O i4, Z O i5, Z O i6, Z O i7, Z O i8])] [] from HL6.out.setLoc 1 [] [Zl none 0 0, Z O 0, Z O 0, Z O 0, Z O 0, Z O 0, Z O 0, Z O 0, Z O 0] [] [Zl sa sn sc, Z O vap, Z O bro, Z O dus, Z O sdr, Z O swa, Z O soa, Z O pdr, Z O pwa] rfl rfl)
            have r0 := HLf.out.at 1 0 (v := Zl sa sn sc) rfl rfl
            have r1 := HLf.out.at 1 1 (v := Z O vap) rfl rfl
            have r2 := HLf.out.at 1 2 (v := Z O bro) rfl rfl
            have r3 := HLf.out.at 1 3 (v := Z O dus) rfl rfl
            have r4 := HLf.out.at 1 4 (v := Z O sdr) rfl rfl
            have r5 := HLf.out.at 1 5 (v := Z O swa) rfl rfl
            have r6 := HLf.out.at 1 6 (v := Z O soa) rfl rfl
            have r7 := HLf.out.at 1 7 (v := Z O pdr) rfl rfl
            have r8 := HLf.out.at 1 8 (v := Z O pwa) rfl rfl
            refine bodyPost_ret (v := .tuple #[.agg #[Zl sa sn sc, Z O vap, Z O bro, Z O dus, Z O sdr, Z O swa, Z O soa, Z O pdr, Z O pwa], .bool false]) (by simp [results, Try.results17, go_sem, r0, r1, r2, r3, r4, r5, r6, r7, r8]) rfl ?_
            exact .inl ⟨_, _, _, _, _, _, _, _, _, _, _, rfl, HLf.out.low⟩
          · go_wp2_with fail
            have HGE_gn := Zh (show wc.heap.size ≤ v1.heap.size from HT.out.size)
            have HT2 := Zh (HT.out.alloc HT.out.size (.cells #[Zl none 0 0, Z O 0, Z O 0, Z O 0, Z O 0, Z O 0, Z O 0, Z O 0, Z O 0] 42))
            have HL4 := Zh (show Locs w (v1.alloc (.cells #[Zl none 0 0, Z O 0, Z O 0, Z O 0, Z O 0, Z O 0, Z O 0, Z O 0, Z O 0] 42)) [(gy, 24, [Z O bef, Z O aft, Zl (some ⟨b, off, none⟩) n c]), (ge, 42, [Zl none 0 0, Z O 0, Z O 0, Z O 0, Z O 0, Z O 0, Z O 0, Z O 0, Z O 0]), (gr, 42, [Zl sa sn sc, Z O vap, Z O bro, Z O dus, Z O sdr, Z O swa, Z O soa, Z O pdr, Z O pwa]), (v1.heap.size, 42, [Zl none 0 0, Z O 0, Z O 0, Z O 0, Z O 0, Z O 0, Z O 0, Z O 0, Z O 0])] [] from HL3.out.alloc 42 [Zl none 0 0, Z O 0, Z O 0, Z O 0, Z O 0, Z O 0, Z O 0, Z O 0, Z O 0] rfl)
            clear HL3 HT
            generalize (v1.alloc (.cells #[Zl none 0 0, Z O 0, Z O 0, Z O 0, Z O 0, Z O 0, Z O 0, Z O 0, Z O 0] 42)) = v5 at HL4 HT2 ⊢
            have HT := HT2; clear HT2
            generalize v1.heap.size = gn at HL4 HGE_gn ⊢
            refine ⟨(fun _ => HT.out), ?_⟩
            try simp only [List.setIfInBounds_toArray, List.set_cons_succ, List.set_cons_zero]
            refine till_only (j := 8) (by kernel_rfl) rfl ?_
            go_wp2_with (go_at_call 44; refine (HDO2.out _ HT.out).mono ?_; rintro e v6 ⟨na, nn, nc, i1, i2, i3, i4, i5, i6, i7, i8, rfl, hb⟩; have HL5 := Zh (HL4.out.below hb); have HT := Zh (HT.out.trans (hb.mono HT.out.size)); clear hb)
            refine ⟨(fun _ => HT.out), ?_⟩
            try simp only [List.setIfInBounds_toArray, List.set_cons_succ, List.set_cons_zero]
            refine till_pure (i := 9) (v := .tuple #[.agg #[Zl na nn nc, Z O i1, Z O i2, Z O i3, Z O i4, Z O i5, Z O i6, Z O i7, Z O i8], .bool false]) rfl rfl (by kernel_rfl) (fun _ _ _ h => h) (yields_of rfl (fun w' _ => by simp [go_sem, accCells])) (fun _ => HT.out) ?_
            try simp only [List.setIfInBounds_toArray, List.set_cons_succ, List.set_cons_zero]
            refine till_pure (i := 10) (v := .agg #[Zl na nn nc, Z O i1, Z O i2, Z O i3, Z O i4, Z O i5, Z O i6, Z O i7, Z O i8]) rfl rfl (by kernel_rfl) (fun _ _ _ h => h) (yields_of rfl (fun w' _ => by simp [go_sem])) (fun _ => HT.out) ?_
            try simp only [List.setIfInBounds_toArray, List.set_cons_succ, List.set_cons_zero]
            refine till_pure (i := 11) (v := .bool false) rfl rfl (by kernel_rfl) (fun _ _ _ h => h) (yields_of rfl (fun w' _ => by simp [go_sem])) (fun _ => HT.out) ?_
            try simp only [List.setIfInBounds_toArray, List.set_cons_succ, List.set_cons_zero]
            refine till_only (j := 13) (by kernel_rfl) rfl ?_
            refine wpList_store_mid rfl 42 (.tmp 12) (.tmp 52) rfl gn 0 #[Zl na nn nc, Z O i1, Z O i2, Z O i3, Z O i4, Z O i5, Z O i6, Z O i7, Z O i8] rfl rfl (HL5.out.there 3 (o := 0) (n := 9) rfl (Nat.le_of_ble_eq_true rfl)) size_real (by simp [Value.oneCell']) ?_
            change wpList _ _ _ _ _ (v6.setCells gn 0 [Zl na nn nc, Z O i1, Z O i2, Z O i3, Z O i4, Z O i5, Z O i6, Z O i7, Z O i8])
            have HT2 := Zh (below_setCells HT.out (HGE_gn.out) [Zl na nn nc, Z O i1, Z O i2, Z O i3, Z O i4, Z O i5, Z O i6, Z O i7, Z O i8] 0)
            have HL6 := Zh (show Locs w (v6.setCells gn 0 [Zl na nn nc, Z O i1, Z O i2, Z O i3, Z O i4, Z O i5, Z O i6, Z O i7, Z O i8]) [(gy, 24, [Z O bef, Z O aft, Zl (some ⟨b, off, none⟩) n c]), (ge, 42, [Zl none 0 0, Z O 0, Z O 0, Z O 0, Z O 0, Z O 0, Z O 0, Z O 0, Z O 0]), (gr, 42, [Zl sa sn sc, Z O vap, Z O bro, Z O dus, Z O sdr, Z O swa, Z O soa, Z O pdr, Z O pwa]), (gn, 42, [Zl na nn nc, Z O i1, Z O i2, Z O i3, Z O i4, Z O i5, Z O i6, Z O i7, Z O i8])] [] from HL5.out.setLoc 3 [] [Zl none 0 0, Z O 0, Z O 0, Z O 0, Z O 0, Z O 0, Z O 0, Z O 0, Z O 0] [] [Zl na nn nc, Z O i1, Z O i2, Z O i3, Z O i4, Z O i5, Z O i6, Z O i7, Z O i8] rfl rfl)
            clear HL5 HT
            generalize (v6.setCells gn 0 [Zl na nn nc, Z O i1, Z O i2, Z O i3, Z O i4, Z O i5, Z O i6, Z O i7, Z O i8]) = v7 at HL6 HT2 ⊢
            have HT := HT2; clear HT2
            change Till _ _ _ _ ∧ wpAnyT _ _ _ _ _ _ _ _ _ _
            refine ⟨(fun _ => HT.out), ?_⟩
            try simp only [List.setIfInBounds_toArray, List.set_cons_succ, List.set_cons_zero]
            refine till_pure (i := 14) (v := .bool false) rfl rfl (by kernel_rfl) (fun _ _ _ h => h) (yields_of rfl (fun w' _ => by simp [go_sem])) (fun _ => HT.out) ?_
            try simp only [List.setIfInBounds_toArray, List.set_cons_succ, List.set_cons_zero]
            refine till_done (by kernel_rfl) ?_
            try simp only [Act.put]
            have s0 := (show v7.cell? ⟨gr, 0, none⟩ = some (Zl sa sn sc) from HL6.out.at 2 0 (v := Zl sa sn sc) rfl rfl)
            have s1 := (show v7.cell? ⟨gr, 1, none⟩ = some (Z O vap) from HL6.out.at 2 1 (v := Z O vap) rfl rfl)
            have s2 := (show v7.cell? ⟨gr, 2, none⟩ = some (Z O bro) from HL6.out.at 2 2 (v := Z O bro) rfl rfl)
            have s3 := (show v7.cell? ⟨gr, 3, none⟩ = some (Z O dus) from HL6.out.at 2 3 (v := Z O dus) rfl rfl)
            have s4 := (show v7.cell? ⟨gr, 4, none⟩ = some (Z O sdr) from HL6.out.at 2 4 (v := Z O sdr) rfl rfl)
            have s5 := (show v7.cell? ⟨gr, 5, none⟩ = some (Z O swa) from HL6.out.at 2 5 (v := Z O swa) rfl rfl)
            have s6 := (show v7.cell? ⟨gr, 6, none⟩ = some (Z O soa) from HL6.out.at 2 6 (v := Z O soa) rfl rfl)
            have s7 := (show v7.cell? ⟨gr, 7, none⟩ = some (Z O pdr) from HL6.out.at 2 7 (v := Z O pdr) rfl rfl)
            have s8 := (show v7.cell? ⟨gr, 8, none⟩ = some (Z O pwa) from HL6.out.at 2 8 (v := Z O pwa) rfl rfl)
            go_wp2_with ((with_reducible refine at_store 42 (.tmp 6) (.tmp 56) ?_); go_must (refine wpList_store_mid rfl 42 (.tmp 6) (.tmp 56) rfl ge 0 #[Zl sa sn sc, Z O vap, Z O bro, Z O dus, Z O sdr, Z O swa, Z O soa, Z O pdr, Z O pwa] rfl rfl (HL6.out.there 1 (o := 0) (n := 9) rfl (Nat.le_of_ble_eq_true rfl)) size_real (by simp [Value.oneCell']) ?_))
            clear s0 s1 s2 s3 s4 s5 s6 s7 s8
            have HLf := Zh (show Locs w (v7.setCells ge 0 [Zl sa sn sc, Z O vap, Z O bro, Z O dus, Z O sdr, Z O swa, Z O soa, Z O pdr, Z O pwa]) [(gy, 24, [Z O bef, Z O aft, Zl (some ⟨b, off, none⟩) n c]), (ge, 42, [Zl sa sn sc, Z O vap, Z O bro, Z O dus, Z O sdr, Z O swa, Z O soa, Z O pdr, Z O pwa]), (gr, 42, [Zl sa sn sc, Z O vap, Z O bro, Z O dus, Z O sdr, Z O swa, Z O soa, Z O pdr, Z O pwa]), (gn, 42, [Zl na nn nc, Z O i1, Z O i2, Z O i3, Z O i4, Z O i5, Z O i6, Z O i7, Z O i8])] [] from HL6.out.setLoc 1 [] [Zl none 0 0, Z O 0, Z O 0, Z O 0, Z O 0, Z O 0, Z O 0, Z O 0, Z O 0] [] [Zl sa sn sc, Z O vap, Z O bro, Z O dus, Z O sdr, Z O swa, Z O soa, Z O pdr, Z O pwa] rfl rfl)
            have r0 := HLf.out.at 1 0 (v := Zl sa sn sc) rfl rfl
            have r1 := HLf.out.at 1 1 (v := Z O vap) rfl rfl
            have r2 := HLf.out.at 1 2 (v := Z O bro) rfl rfl
            have r3 := HLf.out.at 1 3 (v := Z O dus) rfl rfl
            have r4 := HLf.out.at 1 4 (v := Z O sdr) rfl rfl
            have r5 := HLf.out.at 1 5 (v := Z O swa) rfl rfl
            have r6 := HLf.out.at 1 6 (v := Z O soa) rfl rfl
            have r7 := HLf.out.at 1 7 (v := Z O pdr) rfl rfl
            have r8 := HLf.out.at 1 8 (v := Z O pwa) rfl rfl
            refine bodyPost_ret (v := .tuple #[.agg #[Zl sa sn sc, Z O vap, Z O bro, Z O dus, Z O sdr, Z O swa, Z O soa, Z O pdr, Z O pwa], .bool false]) (by simp [results, Try.results17, go_sem, r0, r1, r2, r3, r4, r5, r6, r7, r8]) rfl ?_
            exact .inl ⟨_, _, _, _, _, _, _, _, _, _, _, rfl, HLf.out.low⟩
        | some r2 =>
          obtain ⟨l2, vap2, bro2, dus2, sdr2, swa2, soa2, pdr2, pwa2⟩ := r2
          rw [hact] at HDO2
          have hmix : Try.prog.follows .mixedOrders = true := by kernel_rfl
          refine region_till [] (fun w' => Below wc.heap.size wc w') 15 [false, false, false, false, false, false, false, false, false, false, false, false, false, false, false] hmix rfl rfl ?_
          clear hmix
          have HT := Zh ((Below.refl wc.heap.size wc).drew)
          have HL3 := Zh (HL2.out.drew)
          generalize wc.drew = v8 at HT HL3 ⊢
          refine till_load (i := 0) (v := .agg #[Zl sa sn sc, Z O vap, Z O bro, Z O dus, Z O sdr, Z O swa, Z O soa, Z O pdr, Z O pwa]) rfl rfl (by kernel_rfl) (fun _ _ _ h => h) (yields_mid rfl 42 (.tmp 8) rfl (gr) 0 rfl [Zl sa sn sc, Z O vap, Z O bro, Z O dus, Z O sdr, Z O swa, Z O soa, Z O pdr, Z O pwa] _ (fun w' hw' => HL2.out.rangeB hw' 2 0 _ rfl rfl) Try.underlying42 rfl (by kernel_rfl)) (fun _ => HT.out) ?_
          try simp only [List.setIfInBounds_toArray, List.set_cons_succ, List.set_cons_zero]
          refine till_pure (i := 1) (v := .pointer (some ⟨gy, 2, none⟩)) rfl rfl (by kernel_rfl) (fun _ _ _ h => h) (yields_of rfl (fun w' _ => by simp [go_sem])) (fun _ => HT.out) ?_
          try simp only [List.setIfInBounds_toArray, List.set_cons_succ, List.set_cons_zero]
          refine till_load (i := 2) (v := Zl (some ⟨b, off, none⟩) n c) rfl rfl (by kernel_rfl) (fun _ _ _ h => h) (yields_of rfl (fun w' hw' => by have hcx : w'.cell? ⟨gy, 2, none⟩ = some (Zl (some ⟨b, off, none⟩) n c) := HL2.out.atB hw' 0 2 rfl rfl; simp [go_sem, hcx])) (fun _ => HT.out) ?_
          try simp only [List.setIfInBounds_toArray, List.set_cons_succ, List.set_cons_zero]
          refine till_pure (i := 3) (v := Z O (i : Int)) rfl rfl (by kernel_rfl) (fun _ _ _ h => h) (yields_of rfl (fun w' _ => by simp [go_sem])) (fun _ => HT.out) ?_
          try simp only [List.setIfInBounds_toArray, List.set_cons_succ, List.set_cons_zero]
          refine till_pure (i := 4) (v := .pointer (some ⟨b, off + i * 8, none⟩)) rfl rfl (by kernel_rfl) (fun _ _ _ h => h) (yields_of rfl (fun w' _ => by simp [go_sem, Try.underlying22, hi0, hin, hinI, hnc])) (fun _ => HT.out) ?_
          try simp only [List.setIfInBounds_toArray, List.set_cons_succ, List.set_cons_zero]
          refine till_load (i := 5) (v := .agg #[Z O kind, Z O dy, Zs code, Zs other, Z O al, Z O ah, Z O bl, Z O bh]) rfl rfl (by kernel_rfl) (fun _ _ _ h => h) (yields_mid rfl 55 (.tmp 47) rfl b (off + i * 8) rfl [Z O kind, Z O dy, Zs code, Zs other, Z O al, Z O ah, Z O bl, Z O bh] _ (fun w' hw' => HROW2.out w' hw') Try.underlying55 rfl (by kernel_rfl)) (fun _ => HT.out) ?_
          try simp only [List.setIfInBounds_toArray, List.set_cons_succ, List.set_cons_zero]
          refine till_pure (i := 6) (v := .int .u16 one) rfl rfl (by kernel_rfl) (fun _ _ _ h => h) (yields_of rfl (fun w' _ => by simp [go_sem])) (fun _ => HT.out) ?_
          try simp only [List.setIfInBounds_toArray, List.set_cons_succ, List.set_cons_zero]
          refine till_pure (i := 7) (v := .int .u16 two) rfl rfl (by kernel_rfl) (fun _ _ _ h => h) (yields_of rfl (fun w' _ => by simp [go_sem])) (fun _ => HT.out) ?_
          try simp only [List.setIfInBounds_toArray, List.set_cons_succ, List.set_cons_zero]
          refine till_two (i := 8) (j := 12) (by kernel_rfl) rfl rfl ?_ ?_
          · go_wp2_with (go_at_call 44; refine (HDO2.out _ HT.out).mono ?_; rintro e v9 ⟨v2, rfl, hb, hheld, hps⟩; obtain ⟨ta, tc, rfl, _, _⟩ := hheld.slice; obtain ⟨tn, htn⟩ : ∃ n, n = l2.length := ⟨_, rfl⟩; rw [← htn] at hheld hps ⊢; have HTNN := Zh htn; have HNH := Zh hheld; have HPS2 := Zh hps; clear hheld hps htn; have HL4 := Zh (HL3.out.below hb); have HT := Zh (HT.out.trans (hb.mono HT.out.size)); clear hb)
            refine ⟨(fun _ => HT.out), ?_⟩
            try simp only [List.setIfInBounds_toArray, List.set_cons_succ, List.set_cons_zero]
            refine till_pure (i := 9) (v := .tuple #[.agg #[Zl ta tn tc, Z O vap2, Z O bro2, Z O dus2, Z O sdr2, Z O swa2, Z O soa2, Z O pdr2, Z O pwa2], .bool true]) rfl rfl (by kernel_rfl) (fun _ _ _ h => h) (yields_of rfl (fun w' _ => by simp [go_sem, accCells])) (fun _ => HT.out) ?_
            try simp only [List.setIfInBounds_toArray, List.set_cons_succ, List.set_cons_zero]
            refine till_pure (i := 10) (v := .agg #[Zl ta tn tc, Z O vap2, Z O bro2, Z O dus2, Z O sdr2, Z O swa2, Z O soa2, Z O pdr2, Z O pwa2]) rfl rfl (by kernel_rfl) (fun _ _ _ h => h) (yields_of rfl (fun w' _ => by simp [go_sem])) (fun _ => HT.out) ?_
            try simp only [List.setIfInBounds_toArray, List.set_cons_succ, List.set_cons_zero]
            refine till_pure (i := 11) (v := .bool true) rfl rfl (by kernel_rfl) (fun _ _ _ h => h) (yields_of rfl (fun w' _ => by simp [go_sem])) (fun _ => HT.out) ?_
            try simp only [List.setIfInBounds_toArray, List.set_cons_succ, List.set_cons_zero]
            refine till_only (j := 12) (by kernel_rfl) rfl ?_
            go_wp2_with fail
            have HGE_gn := Zh (show wc.heap.size ≤ v9.heap.size from HT.out.size)
            have HT2 := Zh (HT.out.alloc HT.out.size (.cells #[Zl none 0 0, Z O 0, Z O 0, Z O 0, Z O 0, Z O 0, Z O 0, Z O 0, Z O 0] 42))
            have HNH2 := Zh (show Held (v9.alloc (.cells #[Zl none 0 0, Z O 0, Z O 0, Z O 0, Z O 0, Z O 0, Z O 0, Z O 0, Z O 0] 42)).heap.size (v9.alloc (.cells #[Zl none 0 0, Z O 0, Z O 0, Z O 0, Z O 0, Z O 0, Z O 0, Z O 0, Z O 0] 42)) 3 pileCells (Zl ta tn tc) l2 from (HNH.out.below ((Below.refl v9.heap.size v9).alloc (Nat.le_refl _) (.cells #[Zl none 0 0, Z O 0, Z O 0, Z O 0, Z O 0, Z O 0, Z O 0, Z O 0, Z O 0] 42))).mono (by rw [World.size_alloc]; omega))
            clear HNH
            have HL5 := Zh (show Locs w (v9.alloc (.cells #[Zl none 0 0, Z O 0, Z O 0, Z O 0, Z O 0, Z O 0, Z O 0, Z O 0, Z O 0] 42)) [(gy, 24, [Z O bef, Z O aft, Zl (some ⟨b, off, none⟩) n c]), (ge, 42, [Zl none 0 0, Z O 0, Z O 0, Z O 0, Z O 0, Z O 0, Z O 0, Z O 0, Z O 0]), (gr, 42, [Zl sa sn sc, Z O vap, Z O bro, Z O dus, Z O sdr, Z O swa, Z O soa, Z O pdr, Z O pwa]), (v9.heap.size, 42, [Zl none 0 0, Z O 0, Z O 0, Z O 0, Z O 0, Z O 0, Z O 0, Z O 0, Z O 0])] [] from HL4.out.alloc 42 [Zl none 0 0, Z O 0, Z O 0, Z O 0, Z O 0, Z O 0, Z O 0, Z O 0, Z O 0] rfl)
            clear HL4 HT
            generalize (v9.alloc (.cells #[Zl none 0 0, Z O 0, Z O 0, Z O 0, Z O 0, Z O 0, Z O 0, Z O 0, Z O 0] 42)) = v10 at HL5 HT2 HNH2 ⊢
            have HT := HT2; clear HT2
            have HNH := HNH2; clear HNH2
            generalize v9.heap.size = gn at HL5 HGE_gn ⊢
            refine ⟨(fun _ => HT.out), ?_⟩
            try simp only [List.setIfInBounds_toArray, List.set_cons_succ, List.set_cons_zero]
            refine till_only (j := 13) (by kernel_rfl) rfl ?_
            refine wpList_store_mid rfl 42 (.tmp 12) (.tmp 52) rfl gn 0 #[Zl ta tn tc, Z O vap2, Z O bro2, Z O dus2, Z O sdr2, Z O swa2, Z O soa2, Z O pdr2, Z O pwa2] rfl rfl (HL5.out.there 3 (o := 0) (n := 9) rfl (Nat.le_of_ble_eq_true rfl)) size_real (by simp [Value.oneCell']) ?_
            change wpList _ _ _ _ _ (v10.setCells gn 0 [Zl ta tn tc, Z O vap2, Z O bro2, Z O dus2, Z O sdr2, Z O swa2, Z O soa2, Z O pdr2, Z O pwa2])
            have HT2 := Zh (below_setCells HT.out (HGE_gn.out) [Zl ta tn tc, Z O vap2, Z O bro2, Z O dus2, Z O sdr2, Z O swa2, Z O soa2, Z O pdr2, Z O pwa2] 0)
            have HNH2 := Zh (show Held (v10.setCells gn 0 [Zl ta tn tc, Z O vap2, Z O bro2, Z O dus2, Z O sdr2, Z O swa2, Z O soa2, Z O pdr2, Z O pwa2]).heap.size (v10.setCells gn 0 [Zl ta tn tc, Z O vap2, Z O bro2, Z O dus2, Z O sdr2, Z O swa2, Z O soa2, Z O pdr2, Z O pwa2]) 3 pileCells (Zl ta tn tc) l2 from held_apart HNH.out (HL5.out.blk 3 rfl) (real_no_string none 0 0 .empty) _ _)
            clear HNH
            have HL6 := Zh (show Locs w (v10.setCells gn 0 [Zl ta tn tc, Z O vap2, Z O bro2, Z O dus2, Z O sdr2, Z O swa2, Z O soa2, Z O pdr2, Z O pwa2]) [(gy, 24, [Z O bef, Z O aft, Zl (some ⟨b, off, none⟩) n c]), (ge, 42, [Zl none 0 0, Z O 0, Z O 0, Z O 0, Z O 0, Z O 0, Z O 0, Z O 0, Z O 0]), (gr, 42, [Zl sa sn sc, Z O vap, Z O bro, Z O dus, Z O sdr, Z O swa, Z O soa, Z O pdr, Z O pwa]), (gn, 42, [Zl ta tn tc, Z O vap2, Z O bro2, Z O dus2, Z O sdr2, Z O swa2, Z O soa2, Z O pdr2, Z O pwa2])] [] from HL5.out.setLoc 3 [] [Zl none 0 0, Z O 0, Z O 0, Z O 0, Z O 0, Z O 0, Z O 0, Z O 0, Z O 0] [] [Zl ta tn tc, Z O vap2, Z O bro2, Z O dus2, Z O sdr2, Z O swa2, Z O soa2, Z O pdr2, Z O pwa2] rfl rfl)
            clear HL5 HT
            generalize (v10.setCells gn 0 [Zl ta tn tc, Z O vap2, Z O bro2, Z O dus2, Z O sdr2, Z O swa2, Z O soa2, Z O pdr2, Z O pwa2]) = v11 at HL6 HT2 HNH2 ⊢
            have HT := HT2; clear HT2
            change Till _ _ _ _ ∧ wpAnyT _ _ _ _ _ _ _ _ _ _
            have HNH := HNH2; clear HNH2
            refine ⟨(fun _ => HT.out), ?_⟩
            try simp only [List.setIfInBounds_toArray, List.set_cons_succ, List.set_cons_zero]
            refine till_pure (i := 14) (v := .bool true) rfl rfl (by kernel_rfl) (fun _ _ _ h => h) (yields_of rfl (fun w' _ => by simp [go_sem])) (fun _ => HT.out) ?_
            try simp only [List.setIfInBounds_toArray, List.set_cons_succ, List.set_cons_zero]
            refine till_done (by kernel_rfl) ?_
            try simp only [Act.put]
            have s0 := (show v11.cell? ⟨gn, 0, none⟩ = some (Zl ta tn tc) from HL6.out.at 3 0 (v := Zl ta tn tc) rfl rfl)
            have s1 := (show v11.cell? ⟨gn, 1, none⟩ = some (Z O vap2) from HL6.out.at 3 1 (v := Z O vap2) rfl rfl)
            have s2 := (show v11.cell? ⟨gn, 2, none⟩ = some (Z O bro2) from HL6.out.at 3 2 (v := Z O bro2) rfl rfl)
            have s3 := (show v11.cell? ⟨gn, 3, none⟩ = some (Z O dus2) from HL6.out.at 3 3 (v := Z O dus2) rfl rfl)
            have s4 := (show v11.cell? ⟨gn, 4, none⟩ = some (Z O sdr2) from HL6.out.at 3 4 (v := Z O sdr2) rfl rfl)
            have s5 := (show v11.cell? ⟨gn, 5, none⟩ = some (Z O swa2) from HL6.out.at 3 5 (v := Z O swa2) rfl rfl)
            have s6 := (show v11.cell? ⟨gn, 6, none⟩ = some (Z O soa2) from HL6.out.at 3 6 (v := Z O soa2) rfl rfl)
            have s7 := (show v11.cell? ⟨gn, 7, none⟩ = some (Z O pdr2) from HL6.out.at 3 7 (v := Z O pdr2) rfl rfl)
            have s8 := (show v11.cell? ⟨gn, 8, none⟩ = some (Z O pwa2) from HL6.out.at 3 8 (v := Z O pwa2) rfl rfl)
            go_wp2_with ((with_reducible refine at_store 42 (.tmp 8) (.tmp 57) ?_); go_must (refine wpList_store_mid rfl 42 (.tmp 8) (.tmp 57) rfl gr 0 #[Zl ta tn tc, Z O vap2, Z O bro2, Z O dus2, Z O sdr2, Z O swa2, Z O soa2, Z O pdr2, Z O pwa2] rfl rfl (HL6.out.there 2 (o := 0) (n := 9) rfl (Nat.le_of_ble_eq_true rfl)) size_real (by simp [Value.oneCell']) ?_))
            clear s0 s1 s2 s3 s4 s5 s6 s7 s8
            have HLf := Zh (show Locs w (v11.setCells gr 0 [Zl ta tn tc, Z O vap2, Z O bro2, Z O dus2, Z O sdr2, Z O swa2, Z O soa2, Z O pdr2, Z O pwa2]) [(gy, 24, [Z O bef, Z O aft, Zl (some ⟨b, off, none⟩) n c]), (ge, 42, [Zl none 0 0, Z O 0, Z O 0, Z O 0, Z O 0, Z O 0, Z O 0, Z O 0, Z O 0]), (gr, 42, [Zl ta tn tc, Z O vap2, Z O bro2, Z O dus2, Z O sdr2, Z O swa2, Z O soa2, Z O pdr2, Z O pwa2])] [] from (HL6.out.setLoc 2 [] [Zl sa sn sc, Z O vap, Z O bro, Z O dus, Z O sdr, Z O swa, Z O soa, Z O pdr, Z O pwa] [] [Zl ta tn tc, Z O vap2, Z O bro2, Z O dus2, Z O sdr2, Z O swa2, Z O soa2, Z O pdr2, Z O pwa2] rfl rfl).fewer (List.sublist_append_left ([(gy, 24, [Z O bef, Z O aft, Zl (some ⟨b, off, none⟩) n c]), (ge, 42, [Zl none 0 0, Z O 0, Z O 0, Z O 0, Z O 0, Z O 0, Z O 0, Z O 0, Z O 0]), (gr, 42, [Zl ta tn tc, Z O vap2, Z O bro2, Z O dus2, Z O sdr2, Z O swa2, Z O soa2, Z O pdr2, Z O pwa2])] : List (Nat × TypeId × List Value)) _) (List.Sublist.refl _))
            have HNHf := Zh (show Held (v11.setCells gr 0 [Zl ta tn tc, Z O vap2, Z O bro2, Z O dus2, Z O sdr2, Z O swa2, Z O soa2, Z O pdr2, Z O pwa2]).heap.size (v11.setCells gr 0 [Zl ta tn tc, Z O vap2, Z O bro2, Z O dus2, Z O sdr2, Z O swa2, Z O soa2, Z O pdr2, Z O pwa2]) 3 pileCells (Zl ta tn tc) l2 from held_apart HNH.out (HL6.out.blk 2 rfl) (real_no_string sa sn sc ⟨l, vap, bro, dus, sdr, swa, soa, pdr, pwa⟩) _ _)
            go_roundw
            case rel =>
              have h1 := HTN.out _ hact
              obtain ⟨h2, h3, h4⟩ := HAD.out _ hact
              try simp only at h2 h3 h4
              have h5 := HPD.out; have h6 := HPW.out; have h7 := HSN.out; have h8 := HPAB.out
              try simp only at h5 h6 h7
              refine ⟨i + 1, ⟨l2, vap2, bro2, dus2, sdr2, swa2, soa2, pdr2, pwa2⟩, deed s d i, ta, tn, tc, by omega, by go_num, HRUN1, Zh h1.1, Zh h1.2, HSM1, Zh ?_, Zh ?_, Zh ?_, HPS2, HNHf, HLf⟩
              · first | omega | (simp only; omega)
              · first | omega | (simp only; omega)
              · have h9 := HTNN.out; first | omega | (simp only; omega)
            case measure => simp [intOf]; omega
          · go_wp2_with fail
            have HGE_gn := Zh (show wc.heap.size ≤ v8.heap.size from HT.out.size)
            have HT2 := Zh (HT.out.alloc HT.out.size (.cells #[Zl none 0 0, Z O 0, Z O 0, Z O 0, Z O 0, Z O 0, Z O 0, Z O 0, Z O 0] 42))
            have HL4 := Zh (show Locs w (v8.alloc (.cells #[Zl none 0 0, Z O 0, Z O 0, Z O 0, Z O 0, Z O 0, Z O 0, Z O 0, Z O 0] 42)) [(gy, 24, [Z O bef, Z O aft, Zl (some ⟨b, off, none⟩) n c]), (ge, 42, [Zl none 0 0, Z O 0, Z O 0, Z O 0, Z O 0, Z O 0, Z O 0, Z O 0, Z O 0]), (gr, 42, [Zl sa sn sc, Z O vap, Z O bro, Z O dus, Z O sdr, Z O swa, Z O soa, Z O pdr, Z O pwa]), (v8.heap.size, 42, [Zl none 0 0, Z O 0, Z O 0, Z O 0, Z O 0, Z O 0, Z O 0, Z O 0, Z O 0])] [] from HL3.out.alloc 42 [Zl none 0 0, Z O 0, Z O 0, Z O 0, Z O 0, Z O 0, Z O 0, Z O 0, Z O 0] rfl)
            clear HL3 HT
            generalize (v8.alloc (.cells #[Zl none 0 0, Z O 0, Z O 0, Z O 0, Z O 0, Z O 0, Z O 0, Z O 0, Z O 0] 42)) = v12 at HL4 HT2 ⊢
            have HT := HT2; clear HT2
            generalize v8.heap.size = gn at HL4 HGE_gn ⊢
            refine ⟨(fun _ => HT.out), ?_⟩
            try simp only [List.setIfInBounds_toArray, List.set_cons_succ, List.set_cons_zero]
            refine till_only (j := 8) (by kernel_rfl) rfl ?_
            go_wp2_with (go_at_call 44; refine (HDO2.out _ HT.out).mono ?_; rintro e v13 ⟨v2, rfl, hb, hheld, hps⟩; obtain ⟨ta, tc, rfl, _, _⟩ := hheld.slice; obtain ⟨tn, htn⟩ : ∃ n, n = l2.length := ⟨_, rfl⟩; rw [← htn] at hheld hps ⊢; have HTNN := Zh htn; have HNH := Zh hheld; have HPS2 := Zh hps; clear hheld hps htn; have HL5 := Zh (HL4.out.below hb); have HT := Zh (HT.out.trans (hb.mono HT.out.size)); clear hb)
            refine ⟨(fun _ => HT.out), ?_⟩
            try simp only [List.setIfInBounds_toArray, List.set_cons_succ, List.set_cons_zero]
            refine till_pure (i := 9) (v := .tuple #[.agg #[Zl ta tn tc, Z O vap2, Z O bro2, Z O dus2, Z O sdr2, Z O swa2, Z O soa2, Z O pdr2, Z O pwa2], .bool true]) rfl rfl (by kernel_rfl) (fun _ _ _ h => h) (yields_of rfl (fun w' _ => by simp [go_sem, accCells])) (fun _ => HT.out) ?_
            try simp only [List.setIfInBounds_toArray, List.set_cons_succ, List.set_cons_zero]
            refine till_pure (i := 10) (v := .agg #[Zl ta tn tc, Z O vap2, Z O bro2, Z O dus2, Z O sdr2, Z O swa2, Z O soa2, Z O pdr2, Z O pwa2]) rfl rfl (by kernel_rfl) (fun _ _ _ h => h) (yields_of rfl (fun w' _ => by simp [go_sem])) (fun _ => HT.out) ?_
            try simp only [List.setIfInBounds_toArray, List.set_cons_succ, List.set_cons_zero]
            refine till_pure (i := 11) (v := .bool true) rfl rfl (by kernel_rfl) (fun _ _ _ h => h) (yields_of rfl (fun w' _ => by simp [go_sem])) (fun _ => HT.out) ?_
            try simp only [List.setIfInBounds_toArray, List.set_cons_succ, List.set_cons_zero]
            refine till_only (j := 13) (by kernel_rfl) rfl ?_
            refine wpList_store_mid rfl 42 (.tmp 12) (.tmp 52) rfl gn 0 #[Zl ta tn tc, Z O vap2, Z O bro2, Z O dus2, Z O sdr2, Z O swa2, Z O soa2, Z O pdr2, Z O pwa2] rfl rfl (HL5.out.there 3 (o := 0) (n := 9) rfl (Nat.le_of_ble_eq_true rfl)) size_real (by simp [Value.oneCell']) ?_
            change wpList _ _ _ _ _ (v13.setCells gn 0 [Zl ta tn tc, Z O vap2, Z O bro2, Z O dus2, Z O sdr2, Z O swa2, Z O soa2, Z O pdr2, Z O pwa2])
            have HT2 := Zh (below_setCells HT.out (HGE_gn.out) [Zl ta tn tc, Z O vap2, Z O bro2, Z O dus2, Z O sdr2, Z O swa2, Z O soa2, Z O pdr2, Z O pwa2] 0)
            have HNH2 := Zh (show Held (v13.setCells gn 0 [Zl ta tn tc, Z O vap2, Z O bro2, Z O dus2, Z O sdr2, Z O swa2, Z O soa2, Z O pdr2, Z O pwa2]).heap.size (v13.setCells gn 0 [Zl ta tn tc, Z O vap2, Z O bro2, Z O dus2, Z O sdr2, Z O swa2, Z O soa2, Z O pdr2, Z O pwa2]) 3 pileCells (Zl ta tn tc) l2 from held_apart HNH.out (HL5.out.blk 3 rfl) (real_no_string none 0 0 .empty) _ _)
            clear HNH
            have HL6 := Zh (show Locs w (v13.setCells gn 0 [Zl ta tn tc, Z O vap2, Z O bro2, Z O dus2, Z O sdr2, Z O swa2, Z O soa2, Z O pdr2, Z O pwa2]) [(gy, 24, [Z O bef, Z O aft, Zl (some ⟨b, off, none⟩) n c]), (ge, 42, [Zl none 0 0, Z O 0, Z O 0, Z O 0, Z O 0, Z O 0, Z O 0, Z O 0, Z O 0]), (gr, 42, [Zl sa sn sc, Z O vap, Z O bro, Z O dus, Z O sdr, Z O swa, Z O soa, Z O pdr, Z O pwa]), (gn, 42, [Zl ta tn tc, Z O vap2, Z O bro2, Z O dus2, Z O sdr2, Z O swa2, Z O soa2, Z O pdr2, Z O pwa2])] [] from HL5.out.setLoc 3 [] [Zl none 0 0, Z O 0, Z O 0, Z O 0, Z O 0, Z O 0, Z O 0, Z O 0, Z O 0] [] [Zl ta tn tc, Z O vap2, Z O bro2, Z O dus2, Z O sdr2, Z O swa2, Z O soa2, Z O pdr2, Z O pwa2] rfl rfl)
            clear HL5 HT
            generalize (v13.setCells gn 0 [Zl ta tn tc, Z O vap2, Z O bro2, Z O dus2, Z O sdr2, Z O swa2, Z O soa2, Z O pdr2, Z O pwa2]) = v14 at HL6 HT2 HNH2 ⊢
            have HT := HT2; clear HT2
            change Till _ _ _ _ ∧ wpAnyT _ _ _ _ _ _ _ _ _ _
            have HNH := HNH2; clear HNH2
            refine ⟨(fun _ => HT.out), ?_⟩
            try simp only [List.setIfInBounds_toArray, List.set_cons_succ, List.set_cons_zero]
            refine till_pure (i := 14) (v := .bool true) rfl rfl (by kernel_rfl) (fun _ _ _ h => h) (yields_of rfl (fun w' _ => by simp [go_sem])) (fun _ => HT.out) ?_
            try simp only [List.setIfInBounds_toArray, List.set_cons_succ, List.set_cons_zero]
            refine till_done (by kernel_rfl) ?_
            try simp only [Act.put]
            have s0 := (show v14.cell? ⟨gn, 0, none⟩ = some (Zl ta tn tc) from HL6.out.at 3 0 (v := Zl ta tn tc) rfl rfl)
            have s1 := (show v14.cell? ⟨gn, 1, none⟩ = some (Z O vap2) from HL6.out.at 3 1 (v := Z O vap2) rfl rfl)
            have s2 := (show v14.cell? ⟨gn, 2, none⟩ = some (Z O bro2) from HL6.out.at 3 2 (v := Z O bro2) rfl rfl)
            have s3 := (show v14.cell? ⟨gn, 3, none⟩ = some (Z O dus2) from HL6.out.at 3 3 (v := Z O dus2) rfl rfl)
            have s4 := (show v14.cell? ⟨gn, 4, none⟩ = some (Z O sdr2) from HL6.out.at 3 4 (v := Z O sdr2) rfl rfl)
            have s5 := (show v14.cell? ⟨gn, 5, none⟩ = some (Z O swa2) from HL6.out.at 3 5 (v := Z O swa2) rfl rfl)
            have s6 := (show v14.cell? ⟨gn, 6, none⟩ = some (Z O soa2) from HL6.out.at 3 6 (v := Z O soa2) rfl rfl)
            have s7 := (show v14.cell? ⟨gn, 7, none⟩ = some (Z O pdr2) from HL6.out.at 3 7 (v := Z O pdr2) rfl rfl)
            have s8 := (show v14.cell? ⟨gn, 8, none⟩ = some (Z O pwa2) from HL6.out.at 3 8 (v := Z O pwa2) rfl rfl)
            go_wp2_with ((with_reducible refine at_store 42 (.tmp 8) (.tmp 57) ?_); go_must (refine wpList_store_mid rfl 42 (.tmp 8) (.tmp 57) rfl gr 0 #[Zl ta tn tc, Z O vap2, Z O bro2, Z O dus2, Z O sdr2, Z O swa2, Z O soa2, Z O pdr2, Z O pwa2] rfl rfl (HL6.out.there 2 (o := 0) (n := 9) rfl (Nat.le_of_ble_eq_true rfl)) size_real (by simp [Value.oneCell']) ?_))
            clear s0 s1 s2 s3 s4 s5 s6 s7 s8
            have HLf := Zh (show Locs w (v14.setCells gr 0 [Zl ta tn tc, Z O vap2, Z O bro2, Z O dus2, Z O sdr2, Z O swa2, Z O soa2, Z O pdr2, Z O pwa2]) [(gy, 24, [Z O bef, Z O aft, Zl (some ⟨b, off, none⟩) n c]), (ge, 42, [Zl none 0 0, Z O 0, Z O 0, Z O 0, Z O 0, Z O 0, Z O 0, Z O 0, Z O 0]), (gr, 42, [Zl ta tn tc, Z O vap2, Z O bro2, Z O dus2, Z O sdr2, Z O swa2, Z O soa2, Z O pdr2, Z O pwa2])] [] from (HL6.out.setLoc 2 [] [Zl sa sn sc, Z O vap, Z O bro, Z O dus, Z O sdr, Z O swa, Z O soa, Z O pdr, Z O pwa] [] [Zl ta tn tc, Z O vap2, Z O bro2, Z O dus2, Z O sdr2, Z O swa2, Z O soa2, Z O pdr2, Z O pwa2] rfl rfl).fewer (List.sublist_append_left ([(gy, 24, [Z O bef, Z O aft, Zl (some ⟨b, off, none⟩) n c]), (ge, 42, [Zl none 0 0, Z O 0, Z O 0, Z O 0, Z O 0, Z O 0, Z O 0, Z O 0, Z O 0]), (gr, 42, [Zl ta tn tc, Z O vap2, Z O bro2, Z O dus2, Z O sdr2, Z O swa2, Z O soa2, Z O pdr2, Z O pwa2])] : List (Nat × TypeId × List Value)) _) (List.Sublist.refl _))
            have HNHf := Zh (show Held (v14.setCells gr 0 [Zl ta tn tc, Z O vap2, Z O bro2, Z O dus2, Z O sdr2, Z O swa2, Z O soa2, Z O pdr2, Z O pwa2]).heap.size (v14.setCells gr 0 [Zl ta tn tc, Z O vap2, Z O bro2, Z O dus2, Z O sdr2, Z O swa2, Z O soa2, Z O pdr2, Z O pwa2]) 3 pileCells (Zl ta tn tc) l2 from held_apart HNH.out (HL6.out.blk 2 rfl) (real_no_string sa sn sc ⟨l, vap, bro, dus, sdr, swa, soa, pdr, pwa⟩) _ _)
            go_roundw
            case rel =>
              have h1 := HTN.out _ hact
              obtain ⟨h2, h3, h4⟩ := HAD.out _ hact
              try simp only at h2 h3 h4
              have h5 := HPD.out; have h6 := HPW.out; have h7 := HSN.out; have h8 := HPAB.out
              try simp only at h5 h6 h7
              refine ⟨i + 1, ⟨l2, vap2, bro2, dus2, sdr2, swa2, soa2, pdr2, pwa2⟩, deed s d i, ta, tn, tc, by omega, by go_num, HRUN1, Zh h1.1, Zh h1.2, HSM1, Zh ?_, Zh ?_, Zh ?_, HPS2, HNHf, HLf⟩
              · first | omega | (simp only; omega)
              · first | omega | (simp only; omega)
              · have h9 := HTNN.out; first | omega | (simp only; omega)
            case measure => simp [intOf]; omega
    · skip
      have hiK : K = i := by omega
      subst hiK
      have s0 := (show wr.cell? ⟨gr, 0, none⟩ = some (Zl sa sn sc) from HL1.out.at 2 0 (v := Zl sa sn sc) rfl rfl)
      have s1 := (show wr.cell? ⟨gr, 1, none⟩ = some (Z O vap) from HL1.out.at 2 1 (v := Z O vap) rfl rfl)
      have s2 := (show wr.cell? ⟨gr, 2, none⟩ = some (Z O bro) from HL1.out.at 2 2 (v := Z O bro) rfl rfl)
      have s3 := (show wr.cell? ⟨gr, 3, none⟩ = some (Z O dus) from HL1.out.at 2 3 (v := Z O dus) rfl rfl)
      have s4 := (show wr.cell? ⟨gr, 4, none⟩ = some (Z O sdr) from HL1.out.at 2 4 (v := Z O sdr) rfl rfl)
      have s5 := (show wr.cell? ⟨gr, 5, none⟩ = some (Z O swa) from HL1.out.at 2 5 (v := Z O swa) rfl rfl)
      have s6 := (show wr.cell? ⟨gr, 6, none⟩ = some (Z O soa) from HL1.out.at 2 6 (v := Z O soa) rfl rfl)
      have s7 := (show wr.cell? ⟨gr, 7, none⟩ = some (Z O pdr) from HL1.out.at 2 7 (v := Z O pdr) rfl rfl)
      have s8 := (show wr.cell? ⟨gr, 8, none⟩ = some (Z O pwa) from HL1.out.at 2 8 (v := Z O pwa) rfl rfl)
      go_wp2_with ((with_reducible refine at_store 42 (.tmp 6) (.tmp 58) ?_); go_must (refine wpList_store_mid rfl 42 (.tmp 6) (.tmp 58) rfl ge 0 #[Zl sa sn sc, Z O vap, Z O bro, Z O dus, Z O sdr, Z O swa, Z O soa, Z O pdr, Z O pwa] rfl rfl (HL1.out.there 1 (o := 0) (n := 9) rfl (Nat.le_of_ble_eq_true rfl)) size_real (by simp [Value.oneCell']) ?_))
      clear s0 s1 s2 s3 s4 s5 s6 s7 s8
      have HLf := Zh (show Locs w (wr.setCells ge 0 [Zl sa sn sc, Z O vap, Z O bro, Z O dus, Z O sdr, Z O swa, Z O soa, Z O pdr, Z O pwa]) [(gy, 24, [Z O bef, Z O aft, Zl a n c]), (ge, 42, [Zl sa sn sc, Z O vap, Z O bro, Z O dus, Z O sdr, Z O swa, Z O soa, Z O pdr, Z O pwa]), (gr, 42, [Zl sa sn sc, Z O vap, Z O bro, Z O dus, Z O sdr, Z O swa, Z O soa, Z O pdr, Z O pwa])] [] from HL1.out.setLoc 1 [] [Zl none 0 0, Z O 0, Z O 0, Z O 0, Z O 0, Z O 0, Z O 0, Z O 0, Z O 0] [] [Zl sa sn sc, Z O vap, Z O bro, Z O dus, Z O sdr, Z O swa, Z O soa, Z O pdr, Z O pwa] rfl rfl)
      have r0 := HLf.out.at 1 0 (v := Zl sa sn sc) rfl rfl
      have r1 := HLf.out.at 1 1 (v := Z O vap) rfl rfl
      have r2 := HLf.out.at 1 2 (v := Z O bro) rfl rfl
      have r3 := HLf.out.at 1 3 (v := Z O dus) rfl rfl
      have r4 := HLf.out.at 1 4 (v := Z O sdr) rfl rfl
      have r5 := HLf.out.at 1 5 (v := Z O swa) rfl rfl
      have r6 := HLf.out.at 1 6 (v := Z O soa) rfl rfl
      have r7 := HLf.out.at 1 7 (v := Z O pdr) rfl rfl
      have r8 := HLf.out.at 1 8 (v := Z O pwa) rfl rfl
      refine bodyPost_ret (v := .tuple #[.agg #[Zl sa sn sc, Z O vap, Z O bro, Z O dus, Z O sdr, Z O swa, Z O soa, Z O pdr, Z O pwa], .bool true]) (by simp [results, Try.results17, go_sem, r0, r1, r2, r3, r4, r5, r6, r7, r8]) rfl ?_
      exact .inr ⟨⟨l, vap, bro, dus, sdr, swa, soa, pdr, pwa⟩, s, sa, sn, sc, HRUN.out, HTR.out, HBA.out, HSM.out, HMO.out, HSN.out.1, rfl, HLf.out.low, held_apart HH.out (HL1.out.blk 1 rfl) (real_no_string none 0 0 .empty) _ _⟩
end Go.Proofs.Ytadhheahiamnoaa
