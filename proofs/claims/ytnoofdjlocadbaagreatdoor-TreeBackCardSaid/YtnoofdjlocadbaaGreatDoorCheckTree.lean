/- A tree's ranges; is its code an earlier tree's; the first error of a tree. A tree's measures; the first error of a tree. The first error of a tree. -/
import Derived.Test.YtnoofdjlocadbaaGreatDoorCode
import Derived.Test.YtnoofdjlocadbaaGreatDoorStrips
/-! A tree's ranges; is its code an earlier tree's; the first error of a tree. -/
namespace Go.Proofs.YtnoofdjlocadbaaGreatDoor
open Go.RowKit

/-- A search's answer: a place, or -1. -/
def SomeIdx (r : Bool) (w : World) (e : Ending) (w' : World) : Prop := ∃ n : Int, e = .returned (.int .i64 n) ∧ Hid (r = decide (0 ≤ n)) ∧ Below w.heap.size w w'

theorem any_hit {α : Type} [Inhabited α] (p : α → Bool) (xs : List α) (k : Nat) (h : k < xs.length) (r : Bool) (hr : r = (xs.drop k).any p) (hp : p xs[k]! = true) : r = true := by
  rw [hr, drop_get xs k h, List.any_cons, hp, Bool.true_or]
theorem any_miss {α : Type} [Inhabited α] (p : α → Bool) (xs : List α) (k : Nat) (h : k < xs.length) (r : Bool) (hr : r = (xs.drop k).any p) (hp : p xs[k]! = false) : r = (xs.drop (k + 1)).any p := by
  rw [hr, drop_get xs k h, List.any_cons, hp, Bool.false_or]
theorem any_end {α : Type} (p : α → Bool) (xs : List α) (k : Nat) (h : xs.length ≤ k) (r : Bool) (hr : r = (xs.drop k).any p) : r = false := by
  rw [hr, List.drop_eq_nil_of_le h]; rfl

set_option maxHeartbeats 1000000 in
theorem sameCode_calls (t o : Tree) (B : Nat) (w : World) (hB : B < w.heap.size) (ht : w.cell? ⟨B, 0, none⟩ = some (.string t.code)) :
    Calls Tryz.prog 77 (#[.agg o.cells.toArray] ++ #[.pointer (some ⟨B, 0, none⟩)]) w fun e w' => e = .returned (.bool (sameCode o t)) ∧ Below w.heap.size w w' := by
  unfold sameCode
  have hne : B ≠ w.heap.size := by omega
  generalize hc : t.code = tcode at ht ⊢
  have HC := Lib.hid hc; clear hc
  obtain ⟨code, bmin, bmax, taped, gmin, gmax, wmin, wmax, sv, wv, dead, strips, wounds⟩ := o
  show Calls Tryz.prog _ #[.agg #[.string code, .int .i64 bmin, .int .i64 bmax, .int .i64 taped, .int .i64 gmin, .int .i64 gmax, .int .i64 wmin, .int .i64 wmax, sv, wv, .int .i64 dead], .pointer (some ⟨B, 0, none⟩)] _ _
  dsimp only
  go_enter Tryz.func77, Tryz.ntmps77
  go_wp2
  go_ret
  exact ⟨rfl, (Below.refl _ w).alloc (Nat.le_refl _) _⟩

set_option maxHeartbeats 2000000 in
theorem indexTree (t : Tree) (B b off c : Nat) (xs : List Tree) (w : World) (hB : B < w.heap.size) (hb : b < w.heap.size) (hl : xs.length ≤ 9223372036854775807) (ht : w.cell? ⟨B, 0, none⟩ = some (.string t.code))
    (hc : ∀ j, j < xs.length → ∀ i u, (Tree.cells xs[j]!)[i]? = some u → w.cell? ⟨b, off + j * 11 + i, none⟩ = some u) :
    Calls Tryz.prog 105 #[.slice (some ⟨b, off, none⟩) xs.length c, .func (.func 77) #[] #[.pointer (some ⟨B, 0, none⟩)]] w (SomeIdx (xs.any fun o => sameCode o t) w) := by
  have hr : (xs.any fun o => sameCode o t) = (xs.drop 0).any fun o => sameCode o t := rfl
  generalize (xs.any fun o => sameCode o t) = r at hr ⊢
  have HR := Lib.hid hr; clear hr
  have HC := Lib.hid hc; clear hc
  have HT := Lib.hid ht; clear ht
  go_enter Tryz.func105, Tryz.ntmps105
  go_wp2
  go_loopw [8] (fun i wr => ∃ k : Nat, k ≤ xs.length ∧ i = .int .i64 k ∧ Hid (r = (xs.drop k).any fun o => sameCode o t) ∧ Below w.heap.size w wr) (fun i _ => xs.length - (intOf i).toNat)
  case atStart => exact ⟨0, by omega, rfl, HR, Below.refl _ _⟩
  case round =>
    clear HR
    obtain ⟨k, hk, rfl, HR, hB'⟩ := hrel
    by_cases hlt : k < xs.length
    · have cs : ∀ i u, (Tree.cells xs[k]!)[i]? = some u → wr.cell? ⟨b, off + k * 11 + i, none⟩ = some u := fun i u hu => (hB'.cell (p := ⟨b, off + k * 11 + i, none⟩) hb).trans (HC.out k hlt i u hu)
      have ht' : wr.cell? ⟨B, 0, none⟩ = some (.string t.code) := (hB'.cell (p := ⟨B, 0, none⟩) hB).trans HT.out
      have hB2 : B < wr.heap.size := Nat.lt_of_lt_of_le hB hB'.size
      have hcall := sameCode_calls t xs[k]! B wr hB2 ht'
      generalize hx : xs[k]! = x at cs hcall
      have HX := Lib.hid hx; clear hx
      have c0 : wr.cell? ⟨b, off + k * 11, none⟩ = some (Value.string x.code) := cs 0 _ rfl
      have c1 : wr.cell? ⟨b, off + k * 11 + 1, none⟩ = some (Value.int .i64 x.bmin) := cs 1 _ rfl
      have c2 : wr.cell? ⟨b, off + k * 11 + 2, none⟩ = some (Value.int .i64 x.bmax) := cs 2 _ rfl
      have c3 : wr.cell? ⟨b, off + k * 11 + 3, none⟩ = some (Value.int .i64 x.taped) := cs 3 _ rfl
      have c4 : wr.cell? ⟨b, off + k * 11 + 4, none⟩ = some (Value.int .i64 x.gmin) := cs 4 _ rfl
      have c5 : wr.cell? ⟨b, off + k * 11 + 5, none⟩ = some (Value.int .i64 x.gmax) := cs 5 _ rfl
      have c6 : wr.cell? ⟨b, off + k * 11 + 6, none⟩ = some (Value.int .i64 x.wmin) := cs 6 _ rfl
      have c7 : wr.cell? ⟨b, off + k * 11 + 7, none⟩ = some (Value.int .i64 x.wmax) := cs 7 _ rfl
      have c8 : wr.cell? ⟨b, off + k * 11 + 8, none⟩ = some (x.sv) := cs 8 _ rfl
      have c9 : wr.cell? ⟨b, off + k * 11 + 9, none⟩ = some (x.wv) := cs 9 _ rfl
      have c10 : wr.cell? ⟨b, off + k * 11 + 10, none⟩ = some (Value.int .i64 x.dead) := cs 10 _ rfl
      clear cs
      cases hs : sameCode x t
      · have HS := Lib.hid (any_miss (fun o => sameCode o t) xs k hlt r HR.out (by rw [HX.out]; exact hs))
        rw [hs] at hcall
        clear hs
        obtain ⟨code, bmin, bmax, taped, gmin, gmax, wmin, wmax, sv, wv, dead, strips, wounds⟩ := x
        simp only [Tree.cells] at hcall
        dsimp only at c0 c1 c2 c3 c4 c5 c6 c7 c8 c9 c10
        have HK := Lib.hid hcall; clear hcall
        go_wp2_with (go_at_call 77; refine HK.out.mono ?_; rintro e w' ⟨rfl, hw⟩)
        exact ⟨⟨k + 1, by omega, by go_num, HS, hB'.trans (hw.mono hB'.size)⟩, by simp [intOf]; omega⟩
      · have HS := Lib.hid (any_hit (fun o => sameCode o t) xs k hlt r HR.out (by rw [HX.out]; exact hs))
        rw [hs] at hcall
        clear hs
        obtain ⟨code, bmin, bmax, taped, gmin, gmax, wmin, wmax, sv, wv, dead, strips, wounds⟩ := x
        simp only [Tree.cells] at hcall
        dsimp only at c0 c1 c2 c3 c4 c5 c6 c7 c8 c9 c10
        have HK := Lib.hid hcall; clear hcall
        go_wp2_with (go_at_call 77; refine HK.out.mono ?_; rintro e w' ⟨rfl, hw⟩)
        go_ret
        exact ⟨k, rfl, Lib.hid (by rw [HS.out]; simp), hB'.trans (hw.mono hB'.size)⟩
    · have HS := Lib.hid (any_end (fun o => sameCode o t) xs k (by omega) r HR.out)
      have hge : xs.length ≤ k := by omega
      go_wp2
      go_ret
      exact ⟨-1, rfl, Lib.hid (by rw [HS.out]; simp), hB'⟩

set_option maxHeartbeats 1000000 in
theorem containsTree (t : Tree) (B b off c : Nat) (xs : List Tree) (w : World) (hB : B < w.heap.size) (hb : b < w.heap.size) (hl : xs.length ≤ 9223372036854775807) (ht : w.cell? ⟨B, 0, none⟩ = some (.string t.code))
    (hc : ∀ j, j < xs.length → ∀ i u, (Tree.cells xs[j]!)[i]? = some u → w.cell? ⟨b, off + j * 11 + i, none⟩ = some u) :
    Calls Tryz.prog 76 #[.slice (some ⟨b, off, none⟩) xs.length c, .func (.func 77) #[] #[.pointer (some ⟨B, 0, none⟩)]] w fun e w' => e = .returned (.bool (xs.any fun o => sameCode o t)) ∧ Below w.heap.size w w' := by
  have H := Lib.hid (indexTree t B b off c xs w hB hb hl ht hc)
  clear ht hc
  generalize (xs.any fun o => sameCode o t) = r at H ⊢
  go_enter Tryz.func76, Tryz.ntmps76
  go_wp2_with (go_at_call 105; refine H.out.mono ?_; rintro e w' ⟨n, rfl, hn, hw⟩)
  go_ret
  exact ⟨by rw [hn.out]; rfl, hw⟩
end Go.Proofs.YtnoofdjlocadbaaGreatDoor

/-! A tree's measures; the first error of a tree. -/
namespace Go.Proofs.YtnoofdjlocadbaaGreatDoor
open Go.RowKit

set_option maxHeartbeats 1000000 in
theorem isMeasured_0 (code : ByteArray) (bmin bmax taped gmin gmax wmin wmax : Int) (sv wv : Value) (dead : Int) (w : World) (h0 : boundsB bmin bmax 0 300 = false) :
    Calls Tryz.prog 78 #[.agg #[.string code, .int .i64 bmin, .int .i64 bmax, .int .i64 taped, .int .i64 gmin, .int .i64 gmax, .int .i64 wmin, .int .i64 wmax, sv, wv, .int .i64 dead]] w fun e w' => e = .returned (.bool false) ∧ Below w.heap.size w w' := by
  go_enter Tryz.func78, Tryz.ntmps78
  go_wp2_with (first | (go_at_call 68; refine (areBounds_calls _ _ _ _ _).mono ?_; rintro e w' ⟨rfl, rfl⟩) | (go_at_call 58; refine (isYear_calls _ _).mono ?_; rintro e w' ⟨rfl, rfl⟩))
  go_ret
  exact ⟨rfl, by repeat (first | exact Below.refl _ _ | refine Below.alloc ?_ (by simp <;> omega) _)⟩

set_option maxHeartbeats 1000000 in
theorem isMeasured_1 (code : ByteArray) (bmin bmax taped gmin gmax wmin wmax : Int) (sv wv : Value) (dead : Int) (w : World) (h0 : boundsB bmin bmax 0 300 = true) (h1 : inB taped 0 300 = false) :
    Calls Tryz.prog 78 #[.agg #[.string code, .int .i64 bmin, .int .i64 bmax, .int .i64 taped, .int .i64 gmin, .int .i64 gmax, .int .i64 wmin, .int .i64 wmax, sv, wv, .int .i64 dead]] w fun e w' => e = .returned (.bool false) ∧ Below w.heap.size w w' := by
  go_enter Tryz.func78, Tryz.ntmps78
  go_wp2_with (first | (go_at_call 68; refine (areBounds_calls _ _ _ _ _).mono ?_; rintro e w' ⟨rfl, rfl⟩) | (go_at_call 58; refine (isYear_calls _ _).mono ?_; rintro e w' ⟨rfl, rfl⟩))
  go_ret
  exact ⟨rfl, by repeat (first | exact Below.refl _ _ | refine Below.alloc ?_ (by simp <;> omega) _)⟩

set_option maxHeartbeats 1000000 in
theorem isMeasured_2 (code : ByteArray) (bmin bmax taped gmin gmax wmin wmax : Int) (sv wv : Value) (dead : Int) (w : World) (h0 : boundsB bmin bmax 0 300 = true) (h1 : inB taped 0 300 = true) (h2 : boundsB gmin gmax 0 6000 = false) :
    Calls Tryz.prog 78 #[.agg #[.string code, .int .i64 bmin, .int .i64 bmax, .int .i64 taped, .int .i64 gmin, .int .i64 gmax, .int .i64 wmin, .int .i64 wmax, sv, wv, .int .i64 dead]] w fun e w' => e = .returned (.bool false) ∧ Below w.heap.size w w' := by
  go_enter Tryz.func78, Tryz.ntmps78
  go_wp2_with (first | (go_at_call 68; refine (areBounds_calls _ _ _ _ _).mono ?_; rintro e w' ⟨rfl, rfl⟩) | (go_at_call 58; refine (isYear_calls _ _).mono ?_; rintro e w' ⟨rfl, rfl⟩))
  go_ret
  exact ⟨rfl, by repeat (first | exact Below.refl _ _ | refine Below.alloc ?_ (by simp <;> omega) _)⟩

set_option maxHeartbeats 1000000 in
theorem isMeasured_3 (code : ByteArray) (bmin bmax taped gmin gmax wmin wmax : Int) (sv wv : Value) (dead : Int) (w : World) (h0 : boundsB bmin bmax 0 300 = true) (h1 : inB taped 0 300 = true) (h2 : boundsB gmin gmax 0 6000 = true) (h3 : boundsB wmin wmax 0 50 = false) :
    Calls Tryz.prog 78 #[.agg #[.string code, .int .i64 bmin, .int .i64 bmax, .int .i64 taped, .int .i64 gmin, .int .i64 gmax, .int .i64 wmin, .int .i64 wmax, sv, wv, .int .i64 dead]] w fun e w' => e = .returned (.bool false) ∧ Below w.heap.size w w' := by
  go_enter Tryz.func78, Tryz.ntmps78
  go_wp2_with (first | (go_at_call 68; refine (areBounds_calls _ _ _ _ _).mono ?_; rintro e w' ⟨rfl, rfl⟩) | (go_at_call 58; refine (isYear_calls _ _).mono ?_; rintro e w' ⟨rfl, rfl⟩))
  go_ret
  exact ⟨rfl, by repeat (first | exact Below.refl _ _ | refine Below.alloc ?_ (by simp <;> omega) _)⟩

set_option maxHeartbeats 1000000 in
theorem isMeasured_4 (code : ByteArray) (bmin bmax taped gmin gmax wmin wmax : Int) (sv wv : Value) (dead : Int) (w : World) (h0 : boundsB bmin bmax 0 300 = true) (h1 : inB taped 0 300 = true) (h2 : boundsB gmin gmax 0 6000 = true) (h3 : boundsB wmin wmax 0 50 = true) (h4 : inB dead 0 300 = false) (hd : (dead == -1) = false) :
    Calls Tryz.prog 78 #[.agg #[.string code, .int .i64 bmin, .int .i64 bmax, .int .i64 taped, .int .i64 gmin, .int .i64 gmax, .int .i64 wmin, .int .i64 wmax, sv, wv, .int .i64 dead]] w fun e w' => e = .returned (.bool false) ∧ Below w.heap.size w w' := by
  go_enter Tryz.func78, Tryz.ntmps78
  go_wp2_with (first | (go_at_call 68; refine (areBounds_calls _ _ _ _ _).mono ?_; rintro e w' ⟨rfl, rfl⟩) | (go_at_call 58; refine (isYear_calls _ _).mono ?_; rintro e w' ⟨rfl, rfl⟩))
  go_ret
  exact ⟨rfl, by repeat (first | exact Below.refl _ _ | refine Below.alloc ?_ (by simp <;> omega) _)⟩

set_option maxHeartbeats 1000000 in
theorem isMeasured_5 (code : ByteArray) (bmin bmax taped gmin gmax wmin wmax : Int) (sv wv : Value) (dead : Int) (w : World) (h0 : boundsB bmin bmax 0 300 = true) (h1 : inB taped 0 300 = true) (h2 : boundsB gmin gmax 0 6000 = true) (h3 : boundsB wmin wmax 0 50 = true) (h4 : inB dead 0 300 = true) :
    Calls Tryz.prog 78 #[.agg #[.string code, .int .i64 bmin, .int .i64 bmax, .int .i64 taped, .int .i64 gmin, .int .i64 gmax, .int .i64 wmin, .int .i64 wmax, sv, wv, .int .i64 dead]] w fun e w' => e = .returned (.bool true) ∧ Below w.heap.size w w' := by
  go_enter Tryz.func78, Tryz.ntmps78
  go_wp2_with (first | (go_at_call 68; refine (areBounds_calls _ _ _ _ _).mono ?_; rintro e w' ⟨rfl, rfl⟩) | (go_at_call 58; refine (isYear_calls _ _).mono ?_; rintro e w' ⟨rfl, rfl⟩))
  go_ret
  exact ⟨rfl, by repeat (first | exact Below.refl _ _ | refine Below.alloc ?_ (by simp <;> omega) _)⟩

set_option maxHeartbeats 1000000 in
theorem isMeasured_6 (code : ByteArray) (bmin bmax taped gmin gmax wmin wmax : Int) (sv wv : Value) (dead : Int) (w : World) (h0 : boundsB bmin bmax 0 300 = true) (h1 : inB taped 0 300 = true) (h2 : boundsB gmin gmax 0 6000 = true) (h3 : boundsB wmin wmax 0 50 = true) (h4 : inB dead 0 300 = false) (hd : (dead == -1) = true) :
    Calls Tryz.prog 78 #[.agg #[.string code, .int .i64 bmin, .int .i64 bmax, .int .i64 taped, .int .i64 gmin, .int .i64 gmax, .int .i64 wmin, .int .i64 wmax, sv, wv, .int .i64 dead]] w fun e w' => e = .returned (.bool true) ∧ Below w.heap.size w w' := by
  go_enter Tryz.func78, Tryz.ntmps78
  go_wp2_with (first | (go_at_call 68; refine (areBounds_calls _ _ _ _ _).mono ?_; rintro e w' ⟨rfl, rfl⟩) | (go_at_call 58; refine (isYear_calls _ _).mono ?_; rintro e w' ⟨rfl, rfl⟩))
  go_ret
  exact ⟨rfl, by repeat (first | exact Below.refl _ _ | refine Below.alloc ?_ (by simp <;> omega) _)⟩

theorem isMeasured_calls (t : Tree) (w : World) :
    Calls Tryz.prog 78 #[.agg t.cells.toArray] w fun e w' => e = .returned (.bool (measuredB t)) ∧ Below w.heap.size w w' := by
  obtain ⟨code, bmin, bmax, taped, gmin, gmax, wmin, wmax, sv, wv, dead, strips, wounds⟩ := t
  show Calls Tryz.prog _ #[.agg #[.string code, .int .i64 bmin, .int .i64 bmax, .int .i64 taped, .int .i64 gmin, .int .i64 gmax, .int .i64 wmin, .int .i64 wmax, sv, wv, .int .i64 dead]] _ _
  simp only [measuredB]
  cases h0 : boundsB bmin bmax 0 300
  · exact isMeasured_0 code bmin bmax taped gmin gmax wmin wmax sv wv dead w h0
  cases h1 : inB taped 0 300
  · exact isMeasured_1 code bmin bmax taped gmin gmax wmin wmax sv wv dead w h0 h1
  cases h2 : boundsB gmin gmax 0 6000
  · exact isMeasured_2 code bmin bmax taped gmin gmax wmin wmax sv wv dead w h0 h1 h2
  cases h3 : boundsB wmin wmax 0 50
  · exact isMeasured_3 code bmin bmax taped gmin gmax wmin wmax sv wv dead w h0 h1 h2 h3
  cases h4 : inB dead 0 300
  · cases hd : (dead == -1)
    · have : inB dead (-1) 300 = false := by simp [inB] at h4 ⊢; simp at hd; omega
      rw [this]
      exact isMeasured_4 code bmin bmax taped gmin gmax wmin wmax sv wv dead w h0 h1 h2 h3 h4 hd
    · have : inB dead (-1) 300 = true := by simp [inB] at h4 ⊢; simp at hd; omega
      rw [this]
      exact isMeasured_6 code bmin bmax taped gmin gmax wmin wmax sv wv dead w h0 h1 h2 h3 h4 hd
  · have : inB dead (-1) 300 = true := by simp [inB] at h4 ⊢; omega
    rw [this]
    exact isMeasured_5 code bmin bmax taped gmin gmax wmin wmax sv wv dead w h0 h1 h2 h3 h4

end Go.Proofs.YtnoofdjlocadbaaGreatDoor

/-! The first error of a tree. -/
namespace Go.Proofs.YtnoofdjlocadbaaGreatDoor
open Go.RowKit

theorem bcell {W w1 : World} (hb : Below W.heap.size W w1) : (∀ b o, b < W.heap.size → w1.cell? ⟨b, o, none⟩ = W.cell? ⟨b, o, none⟩) ∧ (∀ b o, b < W.heap.size → w1.frozen? ⟨b, o, none⟩ = W.frozen? ⟨b, o, none⟩) :=
  ⟨fun b o h => hb.cell (p := ⟨b, o, none⟩) h, fun b o h => hb.frozen (p := ⟨b, o, none⟩) h⟩

set_option maxRecDepth 100000 in
set_option maxHeartbeats 2000000 in
theorem checkTree_calls (t : Tree) (b off c : Nat) (es : List Tree) (w : World) (hb : b < w.heap.size) (hl : es.length ≤ 9223372036854775807) (ht : TreeHeld w.heap.size w t)
    (hc : ∀ j, j < es.length → ∀ i u, (Tree.cells es[j]!)[i]? = some u → w.cell? ⟨b, off + j * 11 + i, none⟩ = some u) :
    Calls Tryz.prog 42 #[.agg t.cells.toArray, .slice (some ⟨b, off, none⟩) es.length c] w fun e w' => e = .returned (.int .i64 (checkTree es t)) ∧ Below w.heap.size w w' := by
  have hI := isCode_calls t.code (w.alloc (.cells t.cells.toArray 45)) ht.2.2
  have hC := containsTree t w.heap.size b off c es (w.alloc (.cells t.cells.toArray 45)) (by simp) (by simp; omega) hl (by simp [Tree.cells])
    (fun j hj i u hu => by rw [((Below.refl _ w).alloc (Nat.le_refl _) _).cell (p := ⟨b, off + j * 11 + i, none⟩) hb]; exact hc j hj i u hu)
  have hM := fun W => isMeasured_calls t W
  have hS : ∀ W, Below w.heap.size w W → Calls Tryz.prog 79 #[t.sv] W fun e w' => e = .returned (.int .i64 (checkStrips t.strips)) ∧ Below W.heap.size W w' := fun W h => checkStrips_calls ((ht.1.below h).mono h.size)
  have hW : ∀ W, Below w.heap.size w W → Calls Tryz.prog 80 #[t.wv] W fun e w' => e = .returned (.int .i64 (checkWounds t.wounds)) ∧ W = w' := fun W h => (checkWounds_calls (ht.2.1.below h)).mono fun _ _ ⟨h1, h2⟩ => ⟨h1, h2⟩
  have hBx : ∀ W, Below (w.alloc (.cells t.cells.toArray 45)).heap.size (w.alloc (.cells t.cells.toArray 45)) W → Below w.heap.size w W := fun W h => ((Below.refl _ w).alloc (Nat.le_refl _) _).trans (h.mono (by simp))
  clear hc ht
  have hR : checkTree es t = checkTree es t := rfl
  generalize hr : checkTree es t = r
  clear hR
  unfold checkTree treeErr at hr
  generalize es.any (fun o => sameCode o t) = q at hr hC
  generalize checkStrips t.strips = n at hr hS
  generalize checkWounds t.wounds = m at hr hW
  generalize measuredB t = d at hr hM
  generalize codeB t.code.data.toList = k at hr hI
  have HI := Lib.hid hI; clear hI
  have HC := Lib.hid hC; clear hC
  have HM := Lib.hid hM; clear hM
  have HS := Lib.hid hS; clear hS
  have HW := Lib.hid hW; clear hW
  have HB := Lib.hid hBx; clear hBx
  have hlen : (es.length : Int) ≤ 9223372036854775807 := by omega
  clear hl
  obtain ⟨code, bmin, bmax, taped, gmin, gmax, wmin, wmax, sv, wv, dead, strips, wounds⟩ := t
  simp only [Tree.cells] at HI HC HM HS HW HB ⊢
  cases k
  · have HR := Lib.hid (show r = 4 from by rw [← hr]; rfl)
    clear hr
    go_enter Tryz.func42, Tryz.ntmps42
    go_wp2_with (first | (go_at_call 75; refine HI.out.mono ?_; rintro e w' ⟨rfl, rfl⟩))
    go_ret
    exact ⟨by rw [HR.out]; rfl, (Below.refl _ w).alloc (Nat.le_refl _) _⟩
  cases q
  · cases d
    · have HR := Lib.hid (show r = 1 from by rw [← hr]; rfl)
      clear hr
      go_enter Tryz.func42, Tryz.ntmps42
      go_wp2_with (first | (go_at_call 75; refine HI.out.mono ?_; rintro e w' ⟨rfl, rfl⟩) | (go_at_call 76; refine HC.out.mono ?_; rintro e w2 ⟨rfl, hw2⟩; have hB2 := HB.out _ hw2; obtain ⟨hc2, hf2⟩ := bcell hw2; have hz2 : w.heap.size < w2.heap.size := by (have := hw2.size; simp at this; omega)) | (go_at_call 78; refine (HM.out _).mono ?_; rintro e w3 ⟨rfl, hw3⟩; have hB3 := hB2.trans (hw3.mono hB2.size); obtain ⟨hc3, hf3⟩ := bcell hw3; have hz3 : w.heap.size < w3.heap.size := Nat.lt_of_lt_of_le hz2 hw3.size))
      go_ret
      exact ⟨by rw [HR.out]; rfl, hB3⟩
    by_cases hn : n = 0
    · subst hn
      have HR := Lib.hid (show r = m from by rw [← hr]; rfl)
      clear hr
      go_enter Tryz.func42, Tryz.ntmps42
      go_wp2_with (first | (go_at_call 75; refine HI.out.mono ?_; rintro e w' ⟨rfl, rfl⟩) | (go_at_call 76; refine HC.out.mono ?_; rintro e w2 ⟨rfl, hw2⟩; have hB2 := HB.out _ hw2; obtain ⟨hc2, hf2⟩ := bcell hw2; have hz2 : w.heap.size < w2.heap.size := by (have := hw2.size; simp at this; omega)) | (go_at_call 78; refine (HM.out _).mono ?_; rintro e w3 ⟨rfl, hw3⟩; have hB3 := hB2.trans (hw3.mono hB2.size); obtain ⟨hc3, hf3⟩ := bcell hw3; have hz3 : w.heap.size < w3.heap.size := Nat.lt_of_lt_of_le hz2 hw3.size) | (go_at_call 79; refine (HS.out _ hB3).mono ?_; rintro e w4 ⟨rfl, hw4⟩; have hB4 := hB3.trans (hw4.mono hB3.size); obtain ⟨hc4, hf4⟩ := bcell hw4; have hz4 : w.heap.size < w4.heap.size := Nat.lt_of_lt_of_le hz3 hw4.size) | (go_at_call 80; refine (HW.out _ hB4).mono ?_; rintro e w5 ⟨rfl, rfl⟩))
      go_ret
      exact ⟨by rw [HR.out]; rfl, hB4⟩
    · have hnb : (n != 0) = true := by simp [hn]
      have HR := Lib.hid (show r = n from by rw [← hr]; simp [hn])
      clear hr hn
      go_enter Tryz.func42, Tryz.ntmps42
      go_wp2_with (first | (go_at_call 75; refine HI.out.mono ?_; rintro e w' ⟨rfl, rfl⟩) | (go_at_call 76; refine HC.out.mono ?_; rintro e w2 ⟨rfl, hw2⟩; have hB2 := HB.out _ hw2; obtain ⟨hc2, hf2⟩ := bcell hw2; have hz2 : w.heap.size < w2.heap.size := by (have := hw2.size; simp at this; omega)) | (go_at_call 78; refine (HM.out _).mono ?_; rintro e w3 ⟨rfl, hw3⟩; have hB3 := hB2.trans (hw3.mono hB2.size); obtain ⟨hc3, hf3⟩ := bcell hw3; have hz3 : w.heap.size < w3.heap.size := Nat.lt_of_lt_of_le hz2 hw3.size) | (go_at_call 79; refine (HS.out _ hB3).mono ?_; rintro e w4 ⟨rfl, hw4⟩; have hB4 := hB3.trans (hw4.mono hB3.size); obtain ⟨hc4, hf4⟩ := bcell hw4; have hz4 : w.heap.size < w4.heap.size := Nat.lt_of_lt_of_le hz3 hw4.size))
      go_ret
      exact ⟨by rw [HR.out]; rfl, hB4⟩
  · have HR := Lib.hid (show r = 5 from by rw [← hr]; rfl)
    clear hr
    go_enter Tryz.func42, Tryz.ntmps42
    go_wp2_with (first | (go_at_call 75; refine HI.out.mono ?_; rintro e w' ⟨rfl, rfl⟩) | (go_at_call 76; refine HC.out.mono ?_; rintro e w2 ⟨rfl, hw2⟩; have hB2 := HB.out _ hw2; obtain ⟨hc2, hf2⟩ := bcell hw2; have hz2 : w.heap.size < w2.heap.size := by (have := hw2.size; simp at this; omega)))
    go_ret
    exact ⟨by rw [HR.out]; rfl, hB2⟩
end Go.Proofs.YtnoofdjlocadbaaGreatDoor
