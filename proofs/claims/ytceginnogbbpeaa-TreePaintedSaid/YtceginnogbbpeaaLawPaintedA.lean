/- TreePainted: the years in a row of the call's own; the way on which the last year is too late. -/
import Derived.Test.YtceginnogbbpeaaPaintedYears
import Derived.Test.YtceginnogbbpeaaAside
import Derived.Test.YtceginnogbbpeaaGrows
import Derived.Deep.CutRange
import Derived.BigQuiet
import Derived.Deep.QuietTactic
namespace Go.Proofs.Ytceginnogbbpeaa
open Go.RowKit Go.Shelf
set_option linter.unusedSimpArgs false
set_option linter.unusedVariables false

theorem info_int : (Try.prog.info? 3).map (fun i => (i.zero, i.size, i.bytes)) = some (some (.int .i64 0), 1, 8) := by kernel_rfl
/-- Numbers as cells. -/
def cellsOf (f : Nat → Int) (m : Nat) : List Value := (List.range m).map fun j => .int .i64 (f j)
theorem cellsOf_snoc (f : Nat → Int) (m : Nat) : cellsOf f (m + 1) = cellsOf f m ++ [.int .i64 (f m)] := by simp [cellsOf, List.range_succ]
theorem cellsOf_get (f : Nat → Int) (m j : Nat) (h : j < m) : (cellsOf f m)[j]? = some (.int .i64 (f j)) := by simp [cellsOf, h]
theorem cellsOf_flat (f : Nat → Int) (m : Nat) : cellsOf f m = flat intCells (listOf f 0 m) := by
  unfold cellsOf flat listOf
  rw [List.map_map]
  have : (fun j => Value.int .i64 (f j)) = fun j => Value.int .i64 (f (0 + j)) := by funext j; rw [Nat.zero_add]
  rw [this]
  induction List.range m with
  | nil => rfl
  | cons x r ih => simp only [List.map_cons, List.flatten_cons]; rw [ih]; rfl
theorem int_one : ∀ a, (intCells a).length = 1 := fun _ => rfl
theorem one_new (w : World) (t : TypeId) (v : Value) : ∀ j u, ([v] : List Value)[j]? = some u → (w.alloc (.cells #[v] t)).cell? ((⟨w.heap.size, 0, none⟩ : Addr).add j) = some u := new_cell w t [v]

/-- The years so far lie in a row of the call's own. -/
def Years (w : World) (base : Nat) (f : Nat → Int) (v : Value) (m : Nat) : Prop := w.ownsRow base 3 1 v m (cellsOf f m)
theorem Years.held {w : World} {base : Nat} {f : Nat → Int} {v : Value} {m : Nat} (h : Years w base f v m) (hm : 0 < m) (h47 : m ≤ 100) : ∃ g cap, v = .slice (some ⟨g, 0, none⟩) m cap ∧ base ≤ g ∧ g < w.heap.size ∧ m ≤ cap ∧ Held w.heap.size w 1 intCells v (listOf f 0 m) := by
  unfold Years at h
  rw [cellsOf_flat] at h
  obtain ⟨g, cap, h1, h2, h3, h4, h5, _⟩ := owned_held int_one h (listOf_length f 0 m) (by omega) (by rintro rfl; rcases h.2 with ⟨_, h0⟩ | ⟨_, _, _, h0, _⟩ <;> first | omega | cases h0)
  exact ⟨g, cap, h1, h2, h3, h4, h5⟩
theorem Years.cell {w : World} {base g cap m : Nat} {f : Nat → Int} (h : Years w base f (.slice (some ⟨g, 0, none⟩) m cap) m) {j : Nat} (hj : j < m) : w.cell? ⟨g, j, none⟩ = some (.int .i64 (f j)) := by
  have := World.ownsRow.cellAt h j (by omega)
  rw [this]; exact cellsOf_get f m j hj

theorem own_le' {w : World} {e : TypeId} {v : Value} {n size : Nat} {xs : List Value} {B : Nat} (h : w.ownsRow (B + 1) e size v n xs) : ∀ r, v.ownBlock = some r → B ≤ r := fun r hr => Nat.le_of_succ_le (h.lt r hr).1
theorem own_far {w : World} {e : TypeId} {v : Value} {n size : Nat} {xs : List Value} {B : Nat} (h : w.ownsRow (B + 1) e size v n xs) : some B ≠ v.ownBlock := fun hr => by have := (h.lt B hr.symm).1; omega

set_option maxRecDepth 100000 in
set_option maxHeartbeats 4000000 in
theorem painted_late (rest first un s0 s1 r : Int) (a : Option Addr) (b off n c : Nat) (ha : 0 < n → a = some ⟨b, off, none⟩) (Y gp : Nat → Int) (w : World) (hn10 : (n : Int) < 10) (hr : 1 + rest % 30 = r) (hr0 : 1 ≤ r) (hr1 : r ≤ 30) (hrest : 0 ≤ rest ∧ rest ≤ 255) (hfirst : 0 ≤ first ∧ first ≤ 255)
    (hgap : ∀ W, Below w.heap.size w W → ∀ k, k < n → W.cell? ⟨b, off + k, none⟩ = some (.int .u8 (gp k))) (hgp : ∀ k, k < n → 0 ≤ gp k ∧ gp k ≤ 255)
    (hY0 : Y 0 = first) (hYs : ∀ k, k < n → Y k + r + gp k % 12 = Y (k + 1)) (hYb : ∀ k, k ≤ n → 0 ≤ Y k ∧ Y k ≤ 1000)
    (hlate : 300 < Y n) :
    Calls Try.prog 7 #[.int .u8 rest, .int .u8 first, .slice a n c, .int .u16 un, .agg #[.int .u8 s0, .int .u8 s1]] w fun e w' => e = .returned (.bool true) ∧ Below w.heap.size w w' := by
  have HA := Lib.hid ha; clear ha
  have HGAP := Lib.hid hgap; clear hgap
  have HGP := Lib.hid hgp; clear hgp
  have HY0 := Lib.hid hY0; clear hY0
  have HYS := Lib.hid hYs; clear hYs
  have HYB := Lib.hid hYb; clear hYb
  obtain ⟨i1, hi1, hi1a, hi1b, hi1c⟩ := info_parts info_int
  have HJ1 := Lib.hid hi1; clear hi1
  have HJ1a := Lib.hid hi1a; clear hi1a
  have HJ1b := Lib.hid hi1b; clear hi1b
  have HJ1c := Lib.hid hi1c; clear hi1c
  have hB0 := Lib.hid (show Below w.heap.size w (w.alloc (.cells #[.int .u8 s0, .int .u8 s1] 62)) from (Below.refl _ _).alloc (Nat.le_refl _) _)
  have K0 := Lib.hid (Blk.new w 62 #[.int .u8 s0, .int .u8 s1])
  have HL := Lib.hid hlate; clear hlate
  obtain ⟨hrest0, hrest1⟩ := hrest
  obtain ⟨hfirst0, hfirst1⟩ := hfirst
  go_enter Try.func7, Try.ntmps7
  go_wp2_with fail
  have O0 := Lib.hid (show Years ((w.alloc (.cells #[.int .u8 s0, .int .u8 s1] 62)).alloc (.cells #[.int .i64 first] 3)) (w.heap.size + 1) Y (.slice (some ⟨w.heap.size + 1, 0, none⟩) 1 1) 1 from by
    have := World.ownsRow_lit (e := 3) (base := w.heap.size + 1) (size := 1) (w.alloc (.cells #[.int .u8 s0, .int .u8 s1] 62)) #[.int .i64 first] 1 (by rw [World.size_alloc]; omega) (by unfold maxLen; omega) rfl
    rw [World.size_alloc] at this
    show World.ownsRow _ _ _ _ _ _ (cellsOf Y 1)
    rw [show cellsOf Y 1 = [.int .i64 first] from by simp [cellsOf, HY0.out]]
    exact this)
  go_loopw [12, 13, 14] (fun y v i wr => ∃ (k g cap : Nat), k ≤ n ∧ i = .int .i64 k ∧ y = .int .i64 (Y k) ∧ v = .slice (some ⟨g, 0, none⟩) (k + 1) cap ∧ Hid (Years wr (w.heap.size + 1) Y (.slice (some ⟨g, 0, none⟩) (k + 1) cap) (k + 1)) ∧ Hid (Below w.heap.size w wr) ∧ Hid (Blk wr w.heap.size 62 #[.int .u8 s0, .int .u8 s1])) (fun _ _ i _ => n - (intOf i).toNat)
  case atStart => exact ⟨0, w.heap.size + 1, 1, by omega, rfl, by rw [HY0.out], rfl, O0, Lib.hid (hB0.out.alloc hB0.out.size _), Lib.hid (K0.out.alloc _)⟩
  case round =>
    clear O0
    obtain ⟨k, g, cap, hk, rfl, rfl, rfl, OW, HB, HK⟩ := hrel
    have hk9 : (k : Int) ≤ 9 := by omega
    obtain ⟨hyk0, hyk1⟩ := HYB.out k hk
    by_cases hlt : k < n
    · have cg : wr.cell? ⟨b, off + k, none⟩ = some (.int .u8 (gp k)) := HGAP.out _ HB.out k hlt
      obtain ⟨hg0, hg1⟩ := HGP.out k hlt
      have hae := HA.out (by omega)
      subst hae
      have hkl : (k : Int) < (n : Int) := by omega
      have hyv := HYS.out k hlt
      have hm0 : 0 ≤ gp k % 12 := Int.emod_nonneg _ (by omega)
      have hm1 : gp k % 12 < 12 := Int.emod_lt_of_pos _ (by omega)
      generalize hgk : gp k = gk at cg hg0 hg1 hyv hm0 hm1
      clear hgk
      obtain ⟨yv, hyv'⟩ : ∃ yv, Y (k + 1) = yv := ⟨_, rfl⟩
      obtain ⟨yk, hyk⟩ : ∃ yk, Y k = yk := ⟨_, rfl⟩
      have HYV := Lib.hid hyv'
      have HYK := Lib.hid hyk
      rw [hyv', hyk] at hyv
      rw [hyk] at hyk0 hyk1 ⊢
      clear hyv' hyk
      have hlast := Lib.hid (show World.ownsRow _ _ _ _ _ _ _ from OW.out)
      have hsz := HK.out.lt
      have hln := Lib.hid (show wr.heap.size + 1 = (wr.alloc (.cells #[.int .i64 yv] 3)).heap.size from by rw [World.size_alloc])
      go_wp2_with (at_builtin; refine wpList_append_lies _ rfl (.tmp 55) (.tmp 57) 46 rfl (w.heap.size + 1) 3 i1 (.int .i64 0) 1 8 Try.underlying46 HJ1.out HJ1a.out HJ1b.out HJ1c.out rfl (by decide) (.slice (some ⟨g, 0, none⟩) (k + 1) cap) (k + 1) (cellsOf Y (k + 1)) rfl (hlast.out.alloc _) ⟨wr.heap.size, 0, none⟩ 1 1 [.int .i64 yv] rfl rfl (one_new wr 3 (.int .i64 yv)) (by intro u hu; simp at hu; subst hu; rfl) (by decide) (by unfold maxLen; omega) (by omega) (by rw [World.size_alloc]; omega) (wr.heap.size + 1) hln.out.symm ?_; intro g' cap' w1 hown hgrow hat hg'; have OW' := Lib.hid (show Years w1 (w.heap.size + 1) Y (.slice (some ⟨g', 0, none⟩) (k + 1 + 1) cap') (k + 1 + 1) from (by unfold Years; rw [cellsOf_snoc, HYV.out]; exact hown)); have HB' := Lib.hid ((HB.out.alloc HB.out.size (.cells #[.int .i64 yv] 3)).grown hgrow (by rw [World.size_alloc]; have := HB.out.size; omega) (own_le' hlast.out)); have HK' := Lib.hid ((HK.out.alloc (.cells #[.int .i64 yv] 3)).grown hgrow (own_far hlast.out)); clear hown hgrow hat hg' hlast)
      exact ⟨⟨k + 1, g', cap', by omega, by go_num, by rw [HYV.out], rfl, OW', HB', HK'⟩, by simp [intOf]; omega⟩
    · have hkn : k = n := by omega
      subst hkn
      have hl := HL.out
      generalize Y k = yk at hl hyk0 hyk1 ⊢
      go_wp2_with fail
      refine (grows_calls _).mono ?_
      rintro e w2 ⟨rfl, hw2⟩
      go_wp2
      go_ret
      exact ⟨rfl, HB.out.trans (hw2.mono HB.out.size)⟩
end Go.Proofs.Ytceginnogbbpeaa
