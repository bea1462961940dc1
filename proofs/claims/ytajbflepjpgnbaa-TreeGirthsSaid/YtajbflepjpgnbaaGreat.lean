/- Whether a forest is more than the statements examine: some answer, and nothing that was there is changed. -/
import Derived.Test.YtajbflepjpgnbaaRefForest
namespace Go.Proofs.Ytajbflepjpgnbaa
open Go.RowKit

/-- Some answer. -/
def SomeBool (w : World) (e : Ending) (w' : World) : Prop := ∃ b : Bool, e = .returned (.bool b) ∧ Below w.heap.size w w'

set_option maxRecDepth 100000 in
set_option maxHeartbeats 2000000 in
theorem great_much (age rest girth f0 f1 f2 heal : Int) (a : Option Addr) (n c : Nat) (w : World) (hn : 6 < (n : Int) ∧ (n : Int) ≤ 20 ∨ 40 < (n : Int)) :
    Calls Try.prog 14 #[.agg #[.int .i64 age, .int .i64 rest, .int .i64 girth, .int .i64 f0, .int .i64 f1, .int .i64 f2, .int .i64 heal, .slice a n c]] w (SomeBool w) := by
  rcases hn with ⟨h1, h2⟩ | h1
  · go_enter Try.func14, Try.ntmps14
    go_wp2
    go_ret
    exact ⟨true, rfl, (Below.refl _ _).alloc (Nat.le_refl _) _⟩
  · have h2 : 6 < (n : Int) := by omega
    have h3 : 20 < (n : Int) := by omega
    go_enter Try.func14, Try.ntmps14
    go_wp2
    go_ret
    exact ⟨true, rfl, (Below.refl _ _).alloc (Nat.le_refl _) _⟩

set_option maxRecDepth 100000 in
set_option maxHeartbeats 4000000 in
theorem great_loop (age rest girth f0 f1 f2 heal : Int) (a : Option Addr) (c : Nat) (ts : List Tree) (w : World) (hn : (ts.length : Int) ≤ 6 ∨ 20 < (ts.length : Int) ∧ (ts.length : Int) ≤ 40) (hH : TreesHeld w.heap.size w (.slice a ts.length c) ts) :
    Calls Try.prog 14 #[.agg #[.int .i64 age, .int .i64 rest, .int .i64 girth, .int .i64 f0, .int .i64 f1, .int .i64 f2, .int .i64 heal, .slice a ts.length c]] w (SomeBool w) := by
  have HH := Lib.hid hH; clear hH
  have hmax : (ts.length : Int) ≤ 40 := by omega
  have h0 : (decide (6 < (ts.length : Int)) = true ∧ decide ((ts.length : Int) ≤ 20) = false) ∨ decide (6 < (ts.length : Int)) = false := by
    rcases hn with h | ⟨h, _⟩
    · exact .inr (by simp; omega)
    · exact .inl ⟨by simp; omega, by simp; omega⟩
  clear hn
  rcases h0 with ⟨h1, h2⟩ | h1
  all_goals
    go_enter Try.func14, Try.ntmps14
    go_wp2
    go_loopw [3] (fun i wr => ∃ k : Nat, k ≤ ts.length ∧ i = .int .i64 k ∧ Below w.heap.size w wr ∧ wr.cell? ⟨w.heap.size, 7, none⟩ = some (.slice a ts.length c)) (fun i _ => ts.length - (intOf i).toNat)
    case atStart => exact ⟨0, by omega, rfl, (Below.refl _ _).alloc (Nat.le_refl _) _, by go_simp⟩
    case round =>
      obtain ⟨k, hk, rfl, hB, c7⟩ := hrel
      by_cases hlt : k < ts.length
      · obtain ⟨b, off, rfl, hb, hc⟩ := HH.out.1.place hlt
        have HC := Lib.hid (fun i u (hu : (Tree.cells ts[k]!)[i]? = some u) => (hB.cell (p := ⟨b, off + k * 11 + i, none⟩) hb).trans (hc k hlt i u hu))
        clear hc
        have hm : ts[k]! ∈ ts := by rw [getElem!_pos ts k hlt]; exact List.getElem_mem hlt
        have hsx := (HH.out.2 _ hm).1.slice
        have hwx := (HH.out.2 _ hm).2.1.slice
        clear hm
        generalize ts[k]! = x at HC hsx hwx
        obtain ⟨code, bmin, bmax, taped, gmin, gmax, wmin, wmax, sv, wv, dead, strips, wounds⟩ := x
        dsimp only at hsx hwx
        obtain ⟨sa, sn, sc, rfl⟩ := hsx
        obtain ⟨wa, wn, wc, rfl⟩ := hwx
        have c0 : wr.cell? ⟨b, off + k * 11, none⟩ = some (Value.string code) := HC.out 0 _ rfl
        have c8 : wr.cell? ⟨b, off + k * 11 + 8, none⟩ = some (Value.slice sa sn sc) := HC.out 8 _ rfl
        have c9 : wr.cell? ⟨b, off + k * 11 + 9, none⟩ = some (Value.slice wa wn wc) := HC.out 9 _ rfl
        clear HC
        by_cases g1 : (50 : Int) < (sn : Int)
        · go_wp2
          go_ret
          exact ⟨true, rfl, hB⟩
        · by_cases g2 : (50 : Int) < (wn : Int)
          · go_wp2
            go_ret
            exact ⟨true, rfl, hB⟩
          · by_cases g3 : (100 : Int) < (code.size : Int)
            · go_wp2
              go_ret
              exact ⟨true, rfl, hB⟩
            · go_wp2
              exact ⟨⟨k + 1, by omega, by go_num, hB, c7⟩, by simp [intOf]; omega⟩
      · have hge : ts.length ≤ k := by omega
        go_wp2
        go_ret
        exact ⟨false, rfl, hB⟩

theorem great_calls (f : Forest) (w : World) (h : TreesHeld w.heap.size w f.tv f.trees) : Calls Try.prog 14 #[.agg f.cells.toArray] w (SomeBool w) := by
  obtain ⟨⟨age, rest, girth, f0, f1, f2, heal⟩, tv, ts⟩ := f
  dsimp only at h
  obtain ⟨a, n, c, rfl⟩ := h.1.slice
  have hn := h.1.count
  subst hn
  simp only [Forest.cells]
  by_cases hl : 6 < (ts.length : Int) ∧ (ts.length : Int) ≤ 20 ∨ 40 < (ts.length : Int)
  · exact great_much age rest girth f0 f1 f2 heal a _ c w hl
  · exact great_loop age rest girth f0 f1 f2 heal a c ts w (by omega) h
end Go.Proofs.Ytajbflepjpgnbaa
