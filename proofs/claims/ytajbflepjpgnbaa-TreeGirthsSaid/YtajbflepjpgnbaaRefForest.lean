/- The document's own answers: the first error of a forest. -/
import Derived.Test.YtajbflepjpgnbaaRefTree
namespace Go.Proofs.Ytajbflepjpgnbaa
open Go.RowKit

/-- Codes before a tree that are its own: those still to be looked at. -/
theorem same_hit (ts : List Tree) (i k : Nat) (hi : i < ts.length) (h : k < i) (b : Bool) (hb : b = ((ts.take i).drop k).any fun o => sameCode o ts[i]!) (hs : sameCode ts[k]! ts[i]! = true) : b = true := by
  have hk : k < (ts.take i).length := by simp; omega
  have e : (ts.take i)[k]! = ts[k]! := by rw [getElem!_pos _ k hk, getElem!_pos ts k (by omega)]; simp
  exact any_hit (fun o => sameCode o ts[i]!) (ts.take i) k hk b hb (by rw [e]; exact hs)
theorem same_miss (ts : List Tree) (i k : Nat) (hi : i < ts.length) (h : k < i) (b : Bool) (hb : b = ((ts.take i).drop k).any fun o => sameCode o ts[i]!) (hs : sameCode ts[k]! ts[i]! = false) : b = ((ts.take i).drop (k + 1)).any fun o => sameCode o ts[i]! := by
  have hk : k < (ts.take i).length := by simp; omega
  have e : (ts.take i)[k]! = ts[k]! := by rw [getElem!_pos _ k hk, getElem!_pos ts k (by omega)]; simp
  exact any_miss (fun o => sameCode o ts[i]!) (ts.take i) k hk b hb (by rw [e]; exact hs)
theorem same_end (ts : List Tree) (i k : Nat) (h : i ≤ k) (b : Bool) (hb : b = ((ts.take i).drop k).any fun o => sameCode o ts[i]!) : b = false :=
  any_end _ (ts.take i) k (by simp; omega) b hb

theorem check_code (es : List Tree) (t : Tree) (h : codeB t.code.data.toList = false) : checkTree es t = 4 := by simp [checkTree, h]
theorem check_same (es : List Tree) (t : Tree) (h : codeB t.code.data.toList = true) (h2 : (es.any fun o => sameCode o t) = true) : checkTree es t = 5 := by simp only [checkTree, h, if_true, h2]
theorem check_tree (es : List Tree) (t : Tree) (h : codeB t.code.data.toList = true) (h2 : (es.any fun o => sameCode o t) = false) : checkTree es t = treeErr t := by simp [checkTree, h, h2]

theorem trees_code (ts : List Tree) (k : Nat) (h : k < ts.length) (r : Int) (hr : r = treesErr (ts.take k) (ts.drop k)) (h1 : codeB ts[k]!.code.data.toList = false) : r = 4 := by
  have e := check_code (ts.take k) _ h1
  have := trees_bad ts k h r hr (by rw [e]; decide)
  rw [this, e]
theorem trees_same (ts : List Tree) (k : Nat) (h : k < ts.length) (r : Int) (hr : r = treesErr (ts.take k) (ts.drop k)) (h1 : codeB ts[k]!.code.data.toList = true) (h2 : ((ts.take k).any fun o => sameCode o ts[k]!) = true) : r = 5 := by
  have e := check_same (ts.take k) _ h1 h2
  have := trees_bad ts k h r hr (by rw [e]; decide)
  rw [this, e]
theorem trees_tree (ts : List Tree) (k : Nat) (h : k < ts.length) (r : Int) (hr : r = treesErr (ts.take k) (ts.drop k)) (h1 : codeB ts[k]!.code.data.toList = true) (h2 : ((ts.take k).any fun o => sameCode o ts[k]!) = false) (h3 : ¬ treeErr ts[k]! = 0) : r = treeErr ts[k]! := by
  have e := check_tree (ts.take k) _ h1 h2
  have := trees_bad ts k h r hr (by rw [e]; exact h3)
  rw [this, e]
theorem trees_next (ts : List Tree) (k : Nat) (h : k < ts.length) (r : Int) (hr : r = treesErr (ts.take k) (ts.drop k)) (h1 : codeB ts[k]!.code.data.toList = true) (h2 : ((ts.take k).any fun o => sameCode o ts[k]!) = false) (h3 : treeErr ts[k]! = 0) : r = treesErr (ts.take (k + 1)) (ts.drop (k + 1)) := by
  have e := check_tree (ts.take k) _ h1 h2
  exact trees_step ts k h r hr (by rw [e]; exact h3)

set_option maxRecDepth 100000 in
set_option maxHeartbeats 4000000 in
theorem refForest_some (age rest girth f0 f1 f2 heal : Int) (a : Option Addr) (c : Nat) (ts : List Tree) (w : World) (hl : (ts.length : Int) ≤ 20)
    (hlaw : lawB ⟨age, rest, girth, f0, f1, f2, heal⟩ = true) (hH : TreesHeld w.heap.size w (.slice a ts.length c) ts) :
    Calls Try.prog 19 #[.agg #[.int .i64 age, .int .i64 rest, .int .i64 girth, .int .i64 f0, .int .i64 f1, .int .i64 f2, .int .i64 heal, .slice a ts.length c]] w fun e w' => e = .returned (.int .i64 (treesErr [] ts)) ∧ Below w.heap.size w w' := by
  have hr : treesErr [] ts = treesErr (ts.take 0) (ts.drop 0) := rfl
  generalize treesErr [] ts = r at hr ⊢
  have HR := Lib.hid hr; clear hr
  have HH := Lib.hid hH; clear hH
  have hL := fun W => checkLaw_calls ⟨age, rest, girth, f0, f1, f2, heal⟩ W
  rw [hlaw, if_pos rfl] at hL
  clear hlaw
  simp only [Law.cells] at hL
  have HL := Lib.hid hL; clear hL
  go_enter Try.func19, Try.ntmps19
  go_wp2_with (go_at_call 40; refine (HL.out _).mono ?_; rintro e w1 ⟨rfl, hw1⟩; have hB1 := ((Below.refl _ w).alloc (Nat.le_refl _) _).trans (hw1.mono (by simp)); have hz1 : w.heap.size < w1.heap.size := (by (have := hw1.size; simp at this; omega)); obtain ⟨hc1, hf1⟩ := bcell hw1)
  have cT : w1.cell? ⟨w.heap.size, 7, none⟩ = some (.slice a ts.length c) := by rw [hc1 _ _ (by simp)]; simp
  clear hc1 hf1
  go_loopw [4] (fun i wr => ∃ k : Nat, k ≤ ts.length ∧ i = .int .i64 k ∧ Hid (r = treesErr (ts.take k) (ts.drop k)) ∧ Below w1.heap.size w1 wr) (fun i _ => ts.length - (intOf i).toNat)
  case atStart => exact ⟨0, by omega, rfl, HR, Below.refl _ _⟩
  case round =>
    clear HR
    obtain ⟨k, hk, rfl, HR, hB⟩ := hrel
    have cT' : wr.cell? ⟨w.heap.size, 7, none⟩ = some (.slice a ts.length c) := (hB.cell (p := ⟨w.heap.size, 7, none⟩) hz1).trans cT
    have hBw : Below w.heap.size w wr := hB1.trans (hB.mono (by omega))
    have hzr : w.heap.size < wr.heap.size := Nat.lt_of_lt_of_le hz1 hB.size
    by_cases hlt : k < ts.length
    · obtain ⟨b, off, rfl, hb, hc⟩ := HH.out.1.place hlt
      have HC := Lib.hid (fun (W : World) (hW : Below w.heap.size w W) j (hj : j < ts.length) i u (hu : (Tree.cells ts[j]!)[i]? = some u) => (hW.cell (p := ⟨b, off + j * 11 + i, none⟩) hb).trans (hc j hj i u hu))
      clear hc
      have hm : ts[k]! ∈ ts := by rw [getElem!_pos ts k hlt]; exact List.getElem_mem hlt
      have hHt : ∀ W, Below w.heap.size w W → TreeHeld W.heap.size W ts[k]! := fun W hW => ((HH.out.2 _ hm).below hW).mono hW.size
      have hcall : ∀ W, Below w.heap.size w W → Calls Try.prog 42 #[.agg (Tree.cells ts[k]!).toArray] W fun e w' => e = .returned (.int .i64 (treeErr ts[k]!)) ∧ Below W.heap.size W w' := fun W hW => refTree_calls ts[k]! W (hHt W hW)
      have cc : wr.cell? ⟨b, off + k * 11, none⟩ = some (.string ts[k]!.code) := HC.out wr hBw k hlt 0 _ rfl
      cases hcode : codeB ts[k]!.code.data.toList
      · have HS := Lib.hid (trees_code ts k hlt r HR.out hcode)
        have hcd := fun W => code_calls ts[k]!.code W
        rw [hcode] at hcd
        clear hcode hcall hHt
        generalize ts[k]!.code = s at cc hcd
        have HD := Lib.hid hcd; clear hcd
        go_wp2_with (go_at_call 41; refine (HD.out _).mono ?_; rintro e w2 ⟨rfl, rfl⟩)
        go_ret
        exact ⟨by rw [HS.out]; rfl, hBw⟩
      · have hcd := fun W => code_calls ts[k]!.code W
        rw [hcode] at hcd
        have hbb : ((ts.take k).any fun o => sameCode o ts[k]!) = (((ts.take k).drop 0).any fun o => sameCode o ts[k]!) := rfl
        generalize hbv : ((ts.take k).any fun o => sameCode o ts[k]!) = bb at hbb
        have HBV := Lib.hid hbv; clear hbv
        have HCO := Lib.hid hcode; clear hcode
        have hsx := (HH.out.2 _ hm).1.slice
        have hwx := (HH.out.2 _ hm).2.1.slice
        have HCX := Lib.hid (fun (W : World) (hW : Below w.heap.size w W) i u (hu : (Tree.cells ts[k]!)[i]? = some u) => HC.out W hW k hlt i u hu)
        obtain ⟨x, hx⟩ : ∃ x, ts[k]! = x := ⟨_, rfl⟩
        rw [hx] at cc hcd hcall hbb hsx hwx HCX
        have HX := Lib.hid hx; clear hx
        have HBB := Lib.hid hbb; clear hbb
        have HK := Lib.hid hcall; clear hcall hHt
        obtain ⟨code, bmin, bmax, taped, gmin, gmax, wmin, wmax, sv, wv, dead, strips, wounds⟩ := x
        dsimp only at cc hcd hsx hwx
        obtain ⟨sa, sn, sc, rfl⟩ := hsx
        obtain ⟨wa, wn, wc, rfl⟩ := hwx
        have HD := Lib.hid hcd; clear hcd
        go_wp2_with (go_at_call 41; refine (HD.out _).mono ?_; rintro e w2 ⟨rfl, rfl⟩)
        obtain ⟨wo, rfl⟩ : ∃ wo : World, wo = wr := ⟨_, rfl⟩
        go_loopw [5] (fun i wq => ∃ m : Nat, m ≤ k ∧ i = .int .i64 m ∧ Hid (bb = ((ts.take k).drop m).any fun o => sameCode o ⟨code, bmin, bmax, taped, gmin, gmax, wmin, wmax, .slice sa sn sc, .slice wa wn wc, dead, strips, wounds⟩) ∧ Below wo.heap.size wo wq) (fun i _ => k - (intOf i).toNat)
        case atStart => exact ⟨0, by omega, rfl, HBB, Below.refl _ _⟩
        case round =>
          clear HBB
          obtain ⟨m, hm2, rfl, HBB, hBq⟩ := hrel
          have hBqw : Below w.heap.size w wr := hBw.trans (hBq.mono (by omega))
          have cT2 : wr.cell? ⟨w.heap.size, 7, none⟩ = some (.slice (some ⟨b, off, none⟩) ts.length c) := (hBq.cell (p := ⟨w.heap.size, 7, none⟩) hzr).trans cT'
          have hB1q : Below w1.heap.size w1 wr := hB.trans (hBq.mono hB.size)
          by_cases hmk : m < k
          · have cm : wr.cell? ⟨b, off + m * 11, none⟩ = some (.string ts[m]!.code) := HC.out wr hBqw m (by omega) 0 _ rfl
            have ck : wr.cell? ⟨b, off + k * 11, none⟩ = some (.string code) := HCX.out wr hBqw 0 _ rfl
            clear cc cT' hB hBw hm
            cases hs : sameCode ts[m]! ⟨code, bmin, bmax, taped, gmin, gmax, wmin, wmax, .slice sa sn sc, .slice wa wn wc, dead, strips, wounds⟩
            · have hN := same_miss ts k m hlt hmk bb (by rw [HX.out]; exact HBB.out) (by rw [HX.out]; exact hs)
              rw [HX.out] at hN
              have HN := Lib.hid hN; clear hN
              have hs' : (ts[m]!.code.toList == code.toList) = false := hs
              clear hs
              generalize ts[m]!.code = sm at cm hs'
              go_wp2
              go_quiet (fail)
              go_wp2
              exact ⟨⟨m + 1, by omega, by go_num, HN, below_drewN hBq _⟩, by simp [intOf]; omega⟩
            · have hN := same_hit ts k m hlt hmk bb (by rw [HX.out]; exact HBB.out) (by rw [HX.out]; exact hs)
              have HS := Lib.hid (trees_same ts k hlt r HR.out HCO.out (HBV.out.trans hN))
              have hs' : (ts[m]!.code.toList == code.toList) = true := hs
              clear hs hN
              generalize ts[m]!.code = sm at cm hs'
              go_wp2
              go_quiet (fail)
              go_wp2
              go_ret
              exact ⟨by rw [HS.out]; rfl, below_drewN hBqw _⟩
          · obtain rfl : m = k := by omega
            have hN := same_end ts m m (Nat.le_refl _) bb (by rw [HX.out]; exact HBB.out)
            have hcall := HK.out wr hBqw
            have hany := HBV.out.trans hN
            have c0 : wr.cell? ⟨b, off + m * 11, none⟩ = some (Value.string code) := HCX.out wr hBqw 0 _ rfl
            have c1 : wr.cell? ⟨b, off + m * 11 + 1, none⟩ = some (Value.int .i64 bmin) := HCX.out wr hBqw 1 _ rfl
            have c2 : wr.cell? ⟨b, off + m * 11 + 2, none⟩ = some (Value.int .i64 bmax) := HCX.out wr hBqw 2 _ rfl
            have c3 : wr.cell? ⟨b, off + m * 11 + 3, none⟩ = some (Value.int .i64 taped) := HCX.out wr hBqw 3 _ rfl
            have c4 : wr.cell? ⟨b, off + m * 11 + 4, none⟩ = some (Value.int .i64 gmin) := HCX.out wr hBqw 4 _ rfl
            have c5 : wr.cell? ⟨b, off + m * 11 + 5, none⟩ = some (Value.int .i64 gmax) := HCX.out wr hBqw 5 _ rfl
            have c6 : wr.cell? ⟨b, off + m * 11 + 6, none⟩ = some (Value.int .i64 wmin) := HCX.out wr hBqw 6 _ rfl
            have c7 : wr.cell? ⟨b, off + m * 11 + 7, none⟩ = some (Value.int .i64 wmax) := HCX.out wr hBqw 7 _ rfl
            have c8 : wr.cell? ⟨b, off + m * 11 + 8, none⟩ = some (Value.slice sa sn sc) := HCX.out wr hBqw 8 _ rfl
            have c9 : wr.cell? ⟨b, off + m * 11 + 9, none⟩ = some (Value.slice wa wn wc) := HCX.out wr hBqw 9 _ rfl
            have c10 : wr.cell? ⟨b, off + m * 11 + 10, none⟩ = some (Value.int .i64 dead) := HCX.out wr hBqw 10 _ rfl
            clear cc HD HBB HBV hN HCX hm
            simp only [Tree.cells] at hcall
            by_cases hn : treeErr ts[m]! = 0
            · have HS := Lib.hid (trees_next ts m hlt r HR.out HCO.out hany hn)
              rw [HX.out] at hn
              rw [hn] at hcall
              have HCALL := Lib.hid hcall
              clear hany hn HR HCO HK HX hcall
              go_wp2_with (go_at_call 42; refine HCALL.out.mono ?_; rintro e w2 ⟨rfl, hw2⟩)
              exact ⟨⟨m + 1, by omega, by go_num, HS, hB1q.trans (hw2.mono hB1q.size)⟩, by simp [intOf]; omega⟩
            · have hS := trees_tree ts m hlt r HR.out HCO.out hany hn
              rw [HX.out] at hS hn
              generalize treeErr _ = n at hcall hS hn
              have hnb : (n != 0) = true := by simpa using hn
              have HS := Lib.hid hS
              have HCALL := Lib.hid hcall
              clear hany hn HR HCO HK HX hcall hS
              go_wp2_with (go_at_call 42; refine HCALL.out.mono ?_; rintro e w2 ⟨rfl, hw2⟩)
              go_ret
              exact ⟨by rw [HS.out]; rfl, hBqw.trans (hw2.mono hBqw.size)⟩
    · have HS := Lib.hid (trees_end ts k (by omega) r HR.out)
      have hge : ts.length ≤ k := by omega
      go_wp2
      go_ret
      exact ⟨by rw [HS.out]; rfl, hBw⟩

set_option maxHeartbeats 1000000 in
theorem refForest_law (age rest girth f0 f1 f2 heal : Int) (a : Option Addr) (n c : Nat) (w : World) (hlaw : lawB ⟨age, rest, girth, f0, f1, f2, heal⟩ = false) :
    Calls Try.prog 19 #[.agg #[.int .i64 age, .int .i64 rest, .int .i64 girth, .int .i64 f0, .int .i64 f1, .int .i64 f2, .int .i64 heal, .slice a n c]] w fun e w' => e = .returned (.int .i64 1) ∧ Below w.heap.size w w' := by
  have hL := fun W => checkLaw_calls ⟨age, rest, girth, f0, f1, f2, heal⟩ W
  rw [hlaw, if_neg (by decide)] at hL
  clear hlaw
  simp only [Law.cells] at hL
  have HL := Lib.hid hL; clear hL
  go_enter Try.func19, Try.ntmps19
  go_wp2_with (go_at_call 40; refine (HL.out _).mono ?_; rintro e w1 ⟨rfl, hw1⟩; have hB1 := ((Below.refl _ w).alloc (Nat.le_refl _) _).trans (hw1.mono (by simp)); clear hw1)
  go_ret
  exact ⟨rfl, hB1⟩

set_option maxHeartbeats 1000000 in
theorem refForest_many (age rest girth f0 f1 f2 heal : Int) (a : Option Addr) (n c : Nat) (w : World) (hlaw : lawB ⟨age, rest, girth, f0, f1, f2, heal⟩ = true) (hn : (20 : Int) < (n : Int)) :
    Calls Try.prog 19 #[.agg #[.int .i64 age, .int .i64 rest, .int .i64 girth, .int .i64 f0, .int .i64 f1, .int .i64 f2, .int .i64 heal, .slice a n c]] w fun e w' => e = .returned (.int .i64 2) ∧ Below w.heap.size w w' := by
  have hL := fun W => checkLaw_calls ⟨age, rest, girth, f0, f1, f2, heal⟩ W
  rw [hlaw, if_pos rfl] at hL
  clear hlaw
  simp only [Law.cells] at hL
  have HL := Lib.hid hL; clear hL
  go_enter Try.func19, Try.ntmps19
  go_wp2_with (go_at_call 40; refine (HL.out _).mono ?_; rintro e w1 ⟨rfl, hw1⟩; have hB1 := ((Below.refl _ w).alloc (Nat.le_refl _) _).trans (hw1.mono (by simp)); have c7 := (hw1.cell (p := ⟨w.heap.size, 7, none⟩) (by simp)).trans (show _ = some (Value.slice a n c) from by go_simp); clear hw1)
  go_ret
  exact ⟨rfl, hB1⟩

theorem refForest_calls (f : Forest) (w : World) (h : TreesHeld w.heap.size w f.tv f.trees) :
    Calls Try.prog 19 #[.agg f.cells.toArray] w fun e w' => e = .returned (.int .i64 (checkForest f)) ∧ Below w.heap.size w w' := by
  obtain ⟨⟨age, rest, girth, f0, f1, f2, heal⟩, tv, ts⟩ := f
  dsimp only at h
  obtain ⟨a, n, c, rfl⟩ := h.1.slice
  have hn := h.1.count
  subst hn
  simp only [Forest.cells, checkForest]
  cases hlaw : lawB ⟨age, rest, girth, f0, f1, f2, heal⟩
  · exact refForest_law age rest girth f0 f1 f2 heal a _ c w hlaw
  · rw [if_pos rfl]
    by_cases hl : ts.length > 20
    · rw [if_pos hl]
      exact refForest_many age rest girth f0 f1 f2 heal a _ c w hlaw (by omega)
    · rw [if_neg hl]
      exact refForest_some age rest girth f0 f1 f2 heal a c ts w (by omega) hlaw h

end Go.Proofs.Ytajbflepjpgnbaa
