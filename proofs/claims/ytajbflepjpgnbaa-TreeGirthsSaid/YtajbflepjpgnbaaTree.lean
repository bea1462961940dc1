/- A tree's ranges; is its code an earlier tree's; the first error of a tree. -/
import Derived.Test.YtajbflepjpgnbaaCode
import Derived.Test.YtajbflepjpgnbaaStrips
namespace Go.Proofs.Ytajbflepjpgnbaa
open Go.RowKit

/-- A search's answer: a place, or -1. -/
def SomeIdx (r : Bool) (w : World) (e : Ending) (w' : World) : Prop := ∃ n : Int, e = .returned (.int .i64 n) ∧ Hid (r = decide (0 ≤ n)) ∧ Below w.heap.size w w'

theorem any_hit {α : Type} [Inhabited α] (p : α → Bool) (xs : List α) (k : Nat) (h : k < xs.length) (r : Bool) (hr : r = (xs.drop k).any p) (hp : p xs[k]! = true) : r = true := by
  rw [hr, drop_get xs k h, List.any_cons, hp, Bool.true_or]
theorem any_miss {α : Type} [Inhabited α] (p : α → Bool) (xs : List α) (k : Nat) (h : k < xs.length) (r : Bool) (hr : r = (xs.drop k).any p) (hp : p xs[k]! = false) : r = (xs.drop (k + 1)).any p := by
  rw [hr, drop_get xs k h, List.any_cons, hp, Bool.false_or]
theorem any_end {α : Type} (p : α → Bool) (xs : List α) (k : Nat) (h : xs.length ≤ k) (r : Bool) (hr : r = (xs.drop k).any p) : r = false := by
  rw [hr, List.drop_eq_nil_of_le h]; rfl

set_option maxHeartbeats 1000000 in
theorem sameCode_calls (t o : Tree) (B : Nat) (w : World) (hB : B < w.heap.size) (ht : w.cell? ⟨B, 0, none⟩ = some (.string t.code)) :
    Calls Try.prog 59 (#[.agg o.cells.toArray] ++ #[.pointer (some ⟨B, 0, none⟩)]) w fun e w' => e = .returned (.bool (sameCode o t)) ∧ Below w.heap.size w w' := by
  unfold sameCode
  have hne : B ≠ w.heap.size := by omega
  generalize hc : t.code = tcode at ht ⊢
  have HC := Lib.hid hc; clear hc
  obtain ⟨code, bmin, bmax, taped, gmin, gmax, wmin, wmax, sv, wv, dead, strips, wounds⟩ := o
  show Calls Try.prog _ #[.agg #[.string code, .int .i64 bmin, .int .i64 bmax, .int .i64 taped, .int .i64 gmin, .int .i64 gmax, .int .i64 wmin, .int .i64 wmax, sv, wv, .int .i64 dead], .pointer (some ⟨B, 0, none⟩)] _ _
  dsimp only
  go_enter Try.func59, Try.ntmps59
  go_wp2
  go_ret
  exact ⟨rfl, (Below.refl _ w).alloc (Nat.le_refl _) _⟩

set_option maxHeartbeats 2000000 in
theorem indexTree (t : Tree) (B b off c : Nat) (xs : List Tree) (w : World) (hB : B < w.heap.size) (hb : b < w.heap.size) (hl : xs.length ≤ 9223372036854775807) (ht : w.cell? ⟨B, 0, none⟩ = some (.string t.code))
    (hc : ∀ j, j < xs.length → ∀ i u, (Tree.cells xs[j]!)[i]? = some u → w.cell? ⟨b, off + j * 11 + i, none⟩ = some u) :
    Calls Try.prog 84 #[.slice (some ⟨b, off, none⟩) xs.length c, .func (.func 59) #[] #[.pointer (some ⟨B, 0, none⟩)]] w (SomeIdx (xs.any fun o => sameCode o t) w) := by
  have hr : (xs.any fun o => sameCode o t) = (xs.drop 0).any fun o => sameCode o t := rfl
  generalize (xs.any fun o => sameCode o t) = r at hr ⊢
  have HR := Lib.hid hr; clear hr
  have HC := Lib.hid hc; clear hc
  have HT := Lib.hid ht; clear ht
  go_enter Try.func84, Try.ntmps84
  go_wp2
  go_loopw [8] (fun i wr => ∃ k : Nat, k ≤ xs.length ∧ i = .int .i64 k ∧ Hid (r = (xs.drop k).any fun o => sameCode o t) ∧ Below w.heap.size w wr) (fun i _ => xs.length - (intOf i).toNat)
  case atStart => exact ⟨0, by omega, rfl, HR, Below.refl _ _⟩
  case round =>
    clear HR
    obtain ⟨k, hk, rfl, HR, hB'⟩ := hrel
    by_cases hlt : k < xs.length
    · have cs : ∀ i u, (Tree.cells xs[k]!)[i]? = some u → wr.cell? ⟨b, off + k * 11 + i, none⟩ = some u := fun i u hu => (hB'.cell (p := ⟨b, off + k * 11 + i, none⟩) hb).trans (HC.out k hlt i u hu)
      have ht' : wr.cell? ⟨B, 0, none⟩ = some (.string t.code) := (hB'.cell (p := ⟨B, 0, none⟩) hB).trans HT.out
      have hB2 : B < wr.heap.size := Nat.lt_of_lt_of_le hB hB'.size
      have hcall := sameCode_calls t xs[k]! B wr hB2 ht'
      generalize hx : xs[k]! = x at cs hcall
      have HX := Lib.hid hx; clear hx
      have c0 : wr.cell? ⟨b, off + k * 11, none⟩ = some (Value.string x.code) := cs 0 _ rfl
      have c1 : wr.cell? ⟨b, off + k * 11 + 1, none⟩ = some (Value.int .i64 x.bmin) := cs 1 _ rfl
      have c2 : wr.cell? ⟨b, off + k * 11 + 2, none⟩ = some (Value.int .i64 x.bmax) := cs 2 _ rfl
      have c3 : wr.cell? ⟨b, off + k * 11 + 3, none⟩ = some (Value.int .i64 x.taped) := cs 3 _ rfl
      have c4 : wr.cell? ⟨b, off + k * 11 + 4, none⟩ = some (Value.int .i64 x.gmin) := cs 4 _ rfl
      have c5 : wr.cell? ⟨b, off + k * 11 + 5, none⟩ = some (Value.int .i64 x.gmax) := cs 5 _ rfl
      have c6 : wr.cell? ⟨b, off + k * 11 + 6, none⟩ = some (Value.int .i64 x.wmin) := cs 6 _ rfl
      have c7 : wr.cell? ⟨b, off + k * 11 + 7, none⟩ = some (Value.int .i64 x.wmax) := cs 7 _ rfl
      have c8 : wr.cell? ⟨b, off + k * 11 + 8, none⟩ = some (x.sv) := cs 8 _ rfl
      have c9 : wr.cell? ⟨b, off + k * 11 + 9, none⟩ = some (x.wv) := cs 9 _ rfl
      have c10 : wr.cell? ⟨b, off + k * 11 + 10, none⟩ = some (Value.int .i64 x.dead) := cs 10 _ rfl
      clear cs
      cases hs : sameCode x t
      · have HS := Lib.hid (any_miss (fun o => sameCode o t) xs k hlt r HR.out (by rw [HX.out]; exact hs))
        rw [hs] at hcall
        clear hs
        obtain ⟨code, bmin, bmax, taped, gmin, gmax, wmin, wmax, sv, wv, dead, strips, wounds⟩ := x
        simp only [Tree.cells] at hcall
        dsimp only at c0 c1 c2 c3 c4 c5 c6 c7 c8 c9 c10
        have HK := Lib.hid hcall; clear hcall
        go_wp2_with (go_at_call 59; refine HK.out.mono ?_; rintro e w' ⟨rfl, hw⟩)
        exact ⟨⟨k + 1, by omega, by go_num, HS, hB'.trans (hw.mono hB'.size)⟩, by simp [intOf]; omega⟩
      · have HS := Lib.hid (any_hit (fun o => sameCode o t) xs k hlt r HR.out (by rw [HX.out]; exact hs))
        rw [hs] at hcall
        clear hs
        obtain ⟨code, bmin, bmax, taped, gmin, gmax, wmin, wmax, sv, wv, dead, strips, wounds⟩ := x
        simp only [Tree.cells] at hcall
        dsimp only at c0 c1 c2 c3 c4 c5 c6 c7 c8 c9 c10
        have HK := Lib.hid hcall; clear hcall
        go_wp2_with (go_at_call 59; refine HK.out.mono ?_; rintro e w' ⟨rfl, hw⟩)
        go_ret
        exact ⟨k, rfl, Lib.hid (by rw [HS.out]; simp), hB'.trans (hw.mono hB'.size)⟩
    · have HS := Lib.hid (any_end (fun o => sameCode o t) xs k (by omega) r HR.out)
      have hge : xs.length ≤ k := by omega
      go_wp2
      go_ret
      exact ⟨-1, rfl, Lib.hid (by rw [HS.out]; simp), hB'⟩

set_option maxHeartbeats 1000000 in
theorem containsTree (t : Tree) (B b off c : Nat) (xs : List Tree) (w : World) (hB : B < w.heap.size) (hb : b < w.heap.size) (hl : xs.length ≤ 9223372036854775807) (ht : w.cell? ⟨B, 0, none⟩ = some (.string t.code))
    (hc : ∀ j, j < xs.length → ∀ i u, (Tree.cells xs[j]!)[i]? = some u → w.cell? ⟨b, off + j * 11 + i, none⟩ = some u) :
    Calls Try.prog 58 #[.slice (some ⟨b, off, none⟩) xs.length c, .func (.func 59) #[] #[.pointer (some ⟨B, 0, none⟩)]] w fun e w' => e = .returned (.bool (xs.any fun o => sameCode o t)) ∧ Below w.heap.size w w' := by
  have H := Lib.hid (indexTree t B b off c xs w hB hb hl ht hc)
  clear ht hc
  generalize (xs.any fun o => sameCode o t) = r at H ⊢
  go_enter Try.func58, Try.ntmps58
  go_wp2_with (go_at_call 84; refine H.out.mono ?_; rintro e w' ⟨n, rfl, hn, hw⟩)
  go_ret
  exact ⟨by rw [hn.out]; rfl, hw⟩
end Go.Proofs.Ytajbflepjpgnbaa
