/- The first error of a forest. -/
import Derived.Test.YtnoofdjlocadbaaGreatDoorCheckTree
import Derived.Test.YtnoofdjlocadbaaGreatDoorLaw
import Derived.Deep.RegionWith
namespace Go.Proofs.YtnoofdjlocadbaaGreatDoor
open Go.RowKit

theorem Held.slice {α : Type} [Inhabited α] {B : Nat} {w : World} {k : Nat} {enc : α → List Value} {v : Value} {xs : List α} (h : Held B w k enc v xs) : ∃ (a : Option Addr) (n c : Nat), v = .slice a n c := by
  rcases h with ⟨⟨a, c, h⟩, _⟩ | ⟨b, off, c, h, _⟩
  · exact ⟨a, 0, c, h⟩
  · exact ⟨_, _, _, h⟩

theorem trees_bad (ts : List Tree) (k : Nat) (h : k < ts.length) (r : Int) (hr : r = treesErr (ts.take k) (ts.drop k)) (h1 : ¬ checkTree (ts.take k) ts[k]! = 0) : r = checkTree (ts.take k) ts[k]! := by
  rw [hr, drop_get ts k h]; simp only [treesErr]; rw [if_neg h1]
theorem trees_step (ts : List Tree) (k : Nat) (h : k < ts.length) (r : Int) (hr : r = treesErr (ts.take k) (ts.drop k)) (h1 : checkTree (ts.take k) ts[k]! = 0) : r = treesErr (ts.take (k + 1)) (ts.drop (k + 1)) := by
  have e : ts.take (k + 1) = ts.take k ++ [ts[k]!] := by
    rw [List.take_succ_eq_append_getElem h, getElem!_pos ts k h]
  rw [hr, drop_get ts k h, e]; simp only [treesErr]; rw [if_pos h1]
theorem trees_end (ts : List Tree) (k : Nat) (h : ts.length ≤ k) (r : Int) (hr : r = treesErr (ts.take k) (ts.drop k)) : r = 0 := by
  rw [hr, List.drop_eq_nil_of_le h]; rfl

set_option maxRecDepth 100000 in
set_option maxHeartbeats 2000000 in
theorem checkForest_some (age rest girth f0 f1 f2 heal : Int) (b off c : Nat) (ts : List Tree) (w : World) (hb : b < w.heap.size) (hl : ts.length ≤ 20) (hcap : ts.length ≤ c) (hc63 : c ≤ 9223372036854775807)
    (hlaw : lawB ⟨age, rest, girth, f0, f1, f2, heal⟩ = true)
    (ht : ∀ t ∈ ts, TreeHeld w.heap.size w t)
    (hc : ∀ j, j < ts.length → ∀ i u, (Tree.cells ts[j]!)[i]? = some u → w.cell? ⟨b, off + j * 11 + i, none⟩ = some u) :
    Calls Tryz.prog 18 #[.agg #[.int .i64 age, .int .i64 rest, .int .i64 girth, .int .i64 f0, .int .i64 f1, .int .i64 f2, .int .i64 heal, .slice (some ⟨b, off, none⟩) ts.length c]] w fun e w' => e = .returned (.int .i64 (treesErr [] ts)) ∧ Below w.heap.size w w' := by
  have hl' : (ts.length : Int) ≤ 20 := by omega
  have hr : treesErr [] ts = treesErr (ts.take 0) (ts.drop 0) := rfl
  generalize treesErr [] ts = r at hr ⊢
  have HR := Lib.hid hr; clear hr
  have HC := Lib.hid hc; clear hc
  have HT := Lib.hid ht; clear ht
  have hL := fun W => isLaw_calls ⟨age, rest, girth, f0, f1, f2, heal⟩ W
  rw [hlaw] at hL
  clear hlaw
  simp only [Law.cells] at hL
  have HL := Lib.hid hL; clear hL
  go_enter Tryz.func18, Tryz.ntmps18
  go_wp2_with (go_at_call 41; refine (HL.out _).mono ?_; rintro e w1 ⟨rfl, hw1⟩; have hB1 := ((Below.refl _ w).alloc (Nat.le_refl _) _).trans (hw1.mono (by simp)); have hz1 : w.heap.size < w1.heap.size := (by (have := hw1.size; simp at this; omega)); obtain ⟨hc1, hf1⟩ := bcell hw1)
  obtain ⟨W1, hW1⟩ : ∃ W1 : World, W1 = w1 := ⟨_, rfl⟩
  have cT : w1.cell? ⟨w.heap.size, 7, none⟩ = some (.slice (some ⟨b, off, none⟩) ts.length c) := by rw [hc1 _ _ (by simp)]; simp
  clear hc1 hf1 hW1 W1
  go_loopw [17] (fun i wr => ∃ k : Nat, k ≤ ts.length ∧ i = .int .i64 k ∧ Hid (r = treesErr (ts.take k) (ts.drop k)) ∧ Below w1.heap.size w1 wr) (fun i _ => ts.length - (intOf i).toNat)
  case atStart => exact ⟨0, by omega, rfl, HR, Below.refl _ _⟩
  case round =>
    clear HR
    obtain ⟨k, hk, rfl, HR, hB⟩ := hrel
    have cT' : wr.cell? ⟨w.heap.size, 7, none⟩ = some (.slice (some ⟨b, off, none⟩) ts.length c) := (hB.cell (p := ⟨w.heap.size, 7, none⟩) hz1).trans cT
    have hBw : Below w.heap.size w wr := hB1.trans (hB.mono (by omega))
    have hzr : w.heap.size < wr.heap.size := Nat.lt_of_lt_of_le hz1 hB.size
    by_cases hlt : k < ts.length
    · have hm : ts[k]! ∈ ts := by rw [getElem!_pos ts k hlt]; exact List.getElem_mem hlt
      have hcs : ∀ j, j < (ts.take k).length → ∀ i u, (Tree.cells (ts.take k)[j]!)[i]? = some u → wr.cell? ⟨b, off + j * 11 + i, none⟩ = some u := fun j hj i u hu => by
        have hjk : j < k := by simp at hj; omega
        have e : (ts.take k)[j]! = ts[j]! := by rw [getElem!_pos _ j hj, getElem!_pos ts j (by omega)]; simp
        rw [e] at hu
        exact (hBw.cell (p := ⟨b, off + j * 11 + i, none⟩) hb).trans (HC.out j (by omega) i u hu)
      have hel : (ts.take k).length = k := by simp; omega
      have hcall : ∀ W, Below (wr.heap.size + 1) (wr.alloc (.cells (Tree.cells ts[k]!).toArray 45)) W → Calls Tryz.prog 42 #[.agg (Tree.cells ts[k]!).toArray, .slice (some ⟨b, off, none⟩) (ts.take k).length c] W fun e w' => e = .returned (.int .i64 (checkTree (ts.take k) ts[k]!)) ∧ Below W.heap.size W w' := fun W hW => by
        have hWr : Below wr.heap.size wr W := ((Below.refl _ wr).alloc (Nat.le_refl _) _).trans (hW.mono (by omega))
        have hWw : Below w.heap.size w W := hBw.trans (hWr.mono (by omega))
        exact checkTree_calls ts[k]! b off c (ts.take k) W (Nat.lt_of_lt_of_le hb hWw.size) (by omega) (((HT.out _ hm).below hWw).mono hWw.size)
          (fun j hj i u hu => (hWr.cell (p := ⟨b, off + j * 11 + i, none⟩) (by show b < wr.heap.size; omega)).trans (hcs j hj i u hu))
      rw [hel] at hcall
      clear hcs
      have cs : ∀ i u, (Tree.cells ts[k]!)[i]? = some u → wr.cell? ⟨b, off + k * 11 + i, none⟩ = some u := fun i u hu => (hBw.cell (p := ⟨b, off + k * 11 + i, none⟩) hb).trans (HC.out k hlt i u hu)
      generalize hn : checkTree (ts.take k) ts[k]! = n at hcall
      have HN := Lib.hid hn; clear hn
      have hsx := (HT.out _ hm).1.slice
      have hwx := (HT.out _ hm).2.1.slice
      generalize hx : ts[k]! = x at cs hcall hsx hwx
      clear hx hm hel
      have c0 : wr.cell? ⟨b, off + k * 11, none⟩ = some (Value.string x.code) := cs 0 _ rfl
      have c1 : wr.cell? ⟨b, off + k * 11 + 1, none⟩ = some (Value.int .i64 x.bmin) := cs 1 _ rfl
      have c2 : wr.cell? ⟨b, off + k * 11 + 2, none⟩ = some (Value.int .i64 x.bmax) := cs 2 _ rfl
      have c3 : wr.cell? ⟨b, off + k * 11 + 3, none⟩ = some (Value.int .i64 x.taped) := cs 3 _ rfl
      have c4 : wr.cell? ⟨b, off + k * 11 + 4, none⟩ = some (Value.int .i64 x.gmin) := cs 4 _ rfl
      have c5 : wr.cell? ⟨b, off + k * 11 + 5, none⟩ = some (Value.int .i64 x.gmax) := cs 5 _ rfl
      have c6 : wr.cell? ⟨b, off + k * 11 + 6, none⟩ = some (Value.int .i64 x.wmin) := cs 6 _ rfl
      have c7 : wr.cell? ⟨b, off + k * 11 + 7, none⟩ = some (Value.int .i64 x.wmax) := cs 7 _ rfl
      have c8 : wr.cell? ⟨b, off + k * 11 + 8, none⟩ = some (x.sv) := cs 8 _ rfl
      have c9 : wr.cell? ⟨b, off + k * 11 + 9, none⟩ = some (x.wv) := cs 9 _ rfl
      have c10 : wr.cell? ⟨b, off + k * 11 + 10, none⟩ = some (Value.int .i64 x.dead) := cs 10 _ rfl
      clear cs
      obtain ⟨code, bmin, bmax, taped, gmin, gmax, wmin, wmax, sv, wv, dead, strips, wounds⟩ := x
      simp only [Tree.cells] at hcall
      dsimp only at c0 c1 c2 c3 c4 c5 c6 c7 c8 c9 c10 hsx hwx
      obtain ⟨sa, sn, sc, rfl⟩ := hsx
      obtain ⟨wa, wn, wc, rfl⟩ := hwx
      have HK := Lib.hid hcall; clear hcall
      by_cases hn : n = 0
      · subst hn
        have HS := Lib.hid (trees_step ts k hlt r HR.out HN.out)
        go_wp2
        go_region_with (go_at_call 42; refine (HK.out _ (by repeat (first | exact Below.refl _ _ | refine Below.drew ?_))).mono ?_; rintro e w2 ⟨rfl, hw2⟩)
        all_goals
          have hB2 : Below w1.heap.size w1 w2 := Below.trans (by first | exact hB.alloc hB.size _ | exact (hB.alloc hB.size _).drew) (hw2.mono (by simp; have := hB.size; omega))
          clear hw2
          go_wp2
          exact ⟨⟨k + 1, by omega, by go_num, HS, hB2⟩, by simp [intOf]; omega⟩
      · have hnb : (n != 0) = true := by simp [hn]
        have HS := Lib.hid (trees_bad ts k hlt r HR.out (by rw [HN.out]; exact hn))
        rw [HN.out] at HS
        clear hn
        go_wp2
        go_region_with (go_at_call 42; refine (HK.out _ (by repeat (first | exact Below.refl _ _ | refine Below.drew ?_))).mono ?_; rintro e w2 ⟨rfl, hw2⟩)
        all_goals
          have hB2 : Below w1.heap.size w1 w2 := Below.trans (by first | exact hB.alloc hB.size _ | exact (hB.alloc hB.size _).drew) (hw2.mono (by simp; have := hB.size; omega))
          clear hw2
          go_wp2
          go_ret
          exact ⟨by rw [HS.out]; rfl, hB1.trans (hB2.mono (by omega))⟩
    · have HS := Lib.hid (trees_end ts k (by omega) r HR.out)
      have hge : ts.length ≤ k := by omega
      go_wp2
      go_ret
      exact ⟨by rw [HS.out]; rfl, hBw⟩

set_option maxHeartbeats 1000000 in
theorem checkForest_law (age rest girth f0 f1 f2 heal : Int) (a : Option Addr) (n c : Nat) (w : World) (hlaw : lawB ⟨age, rest, girth, f0, f1, f2, heal⟩ = false) :
    Calls Tryz.prog 18 #[.agg #[.int .i64 age, .int .i64 rest, .int .i64 girth, .int .i64 f0, .int .i64 f1, .int .i64 f2, .int .i64 heal, .slice a n c]] w fun e w' => e = .returned (.int .i64 1) ∧ Below w.heap.size w w' := by
  have hL := fun W => isLaw_calls ⟨age, rest, girth, f0, f1, f2, heal⟩ W
  rw [hlaw] at hL
  clear hlaw
  simp only [Law.cells] at hL
  have HL := Lib.hid hL; clear hL
  go_enter Tryz.func18, Tryz.ntmps18
  go_wp2_with (go_at_call 41; refine (HL.out _).mono ?_; rintro e w1 ⟨rfl, hw1⟩; have hB1 := ((Below.refl _ w).alloc (Nat.le_refl _) _).trans (hw1.mono (by simp)); have hz1 : w.heap.size < w1.heap.size := (by (have := hw1.size; simp at this; omega)); obtain ⟨hc1, hf1⟩ := bcell hw1)
  go_ret
  exact ⟨rfl, hB1⟩

set_option maxHeartbeats 1000000 in
theorem checkForest_many (age rest girth f0 f1 f2 heal : Int) (a : Option Addr) (n c : Nat) (w : World) (hlaw : lawB ⟨age, rest, girth, f0, f1, f2, heal⟩ = true) (hn : (20 : Int) < (n : Int)) :
    Calls Tryz.prog 18 #[.agg #[.int .i64 age, .int .i64 rest, .int .i64 girth, .int .i64 f0, .int .i64 f1, .int .i64 f2, .int .i64 heal, .slice a n c]] w fun e w' => e = .returned (.int .i64 2) ∧ Below w.heap.size w w' := by
  have hL := fun W => isLaw_calls ⟨age, rest, girth, f0, f1, f2, heal⟩ W
  rw [hlaw] at hL
  clear hlaw
  simp only [Law.cells] at hL
  have HL := Lib.hid hL; clear hL
  go_enter Tryz.func18, Tryz.ntmps18
  go_wp2_with (go_at_call 41; refine (HL.out _).mono ?_; rintro e w1 ⟨rfl, hw1⟩; have hB1 := ((Below.refl _ w).alloc (Nat.le_refl _) _).trans (hw1.mono (by simp)); have hz1 : w.heap.size < w1.heap.size := (by (have := hw1.size; simp at this; omega)); obtain ⟨hc1, hf1⟩ := bcell hw1)
  go_ret
  exact ⟨rfl, hB1⟩

set_option maxHeartbeats 1000000 in
theorem checkForest_nil (age rest girth f0 f1 f2 heal : Int) (a : Option Addr) (c : Nat) (w : World) (hlaw : lawB ⟨age, rest, girth, f0, f1, f2, heal⟩ = true) :
    Calls Tryz.prog 18 #[.agg #[.int .i64 age, .int .i64 rest, .int .i64 girth, .int .i64 f0, .int .i64 f1, .int .i64 f2, .int .i64 heal, .slice a 0 c]] w fun e w' => e = .returned (.int .i64 0) ∧ Below w.heap.size w w' := by
  have hL := fun W => isLaw_calls ⟨age, rest, girth, f0, f1, f2, heal⟩ W
  rw [hlaw] at hL
  clear hlaw
  simp only [Law.cells] at hL
  have HL := Lib.hid hL; clear hL
  go_enter Tryz.func18, Tryz.ntmps18
  go_wp2_with (go_at_call 41; refine (HL.out _).mono ?_; rintro e w1 ⟨rfl, hw1⟩; have hB1 := ((Below.refl _ w).alloc (Nat.le_refl _) _).trans (hw1.mono (by simp)); have hz1 : w.heap.size < w1.heap.size := (by (have := hw1.size; simp at this; omega)); obtain ⟨hc1, hf1⟩ := bcell hw1)
  refine wp_loop_rounds 1 ?_
  rw [rounds_succ]
  go_wp2
  go_ret
  exact ⟨rfl, hB1⟩

/-- The cells of a forest. -/
def Forest.cells (f : Forest) : List Value := [.int .i64 f.law.age, .int .i64 f.law.rest, .int .i64 f.law.girth, .int .i64 f.law.f0, .int .i64 f.law.f1, .int .i64 f.law.f2, .int .i64 f.law.heal, f.tv]

theorem checkForest_calls (f : Forest) (w : World) (h : TreesHeld w.heap.size w f.tv f.trees) :
    Calls Tryz.prog 18 #[.agg f.cells.toArray] w fun e w' => e = .returned (.int .i64 (checkForest f)) ∧ Below w.heap.size w w' := by
  obtain ⟨⟨age, rest, girth, f0, f1, f2, heal⟩, tv, ts⟩ := f
  obtain ⟨h1, h2⟩ := h
  simp only [Forest.cells, checkForest] at h1 h2 ⊢
  cases hlaw : lawB ⟨age, rest, girth, f0, f1, f2, heal⟩
  · obtain ⟨a, n, c, rfl⟩ := h1.slice
    exact checkForest_law age rest girth f0 f1 f2 heal a n c w hlaw
  · rw [if_pos rfl]
    rcases h1 with ⟨⟨a, c, rfl⟩, rfl⟩ | ⟨b, off, c, rfl, hb, ⟨hcap, _, hc63⟩, hc⟩
    · exact checkForest_nil age rest girth f0 f1 f2 heal a c w hlaw
    · by_cases hl : ts.length > 20
      · rw [if_pos hl]
        exact checkForest_many age rest girth f0 f1 f2 heal _ _ c w hlaw (by omega)
      · rw [if_neg hl]
        exact checkForest_some age rest girth f0 f1 f2 heal b off c ts w hb (by omega) hcap hc63 hlaw h2 hc
end Go.Proofs.YtnoofdjlocadbaaGreatDoor
