/- TreePainted: the years in which a trunk was really painted are among those that Dates returns; unread digits widen them. -/
import Derived.Test.YtceginnogbbpeaaLawPaintedB
import Derived.Test.YtceginnogbbpeaaOpenPainted
namespace Go.Proofs.Ytceginnogbbpeaa
open Go.RowKit Go.Shelf

set_option maxRecDepth 100000 in
set_option maxHeartbeats 1000000 in
theorem painted_many (rest first un s0 s1 : Int) (a : Option Addr) (n c : Nat) (w : World) (h : (10 : Int) ≤ (n : Int)) :
    Calls Try.prog 7 #[.int .u8 rest, .int .u8 first, .slice a n c, .int .u16 un, .agg #[.int .u8 s0, .int .u8 s1]] w fun e w' => e = .returned (.bool true) ∧ Below w.heap.size w w' := by
  have hB0 : Below w.heap.size w (w.alloc (.cells #[.int .u8 s0, .int .u8 s1] 62)) := (Below.refl _ _).alloc (Nat.le_refl _) _
  go_enter Try.func7, Try.ntmps7
  go_wp2_with fail
  refine (grows_calls _).mono ?_
  rintro e w1 ⟨rfl, hw1⟩
  go_wp2
  go_ret
  exact ⟨rfl, hB0.trans (hw1.mono hB0.size)⟩

set_option maxHeartbeats 1000000 in
theorem painted_calls (rest first un s0 s1 : Int) (v : Value) (gs : List Int) (w : World) (h : Held w.heap.size w 1 byteCells v gs) (hgs : ∀ x ∈ gs, 0 ≤ x ∧ x ≤ 255) (hrest : 0 ≤ rest ∧ rest ≤ 255) (hfirst : 0 ≤ first ∧ first ≤ 255) (hun : 0 ≤ un ∧ un ≤ 65535) (hs0 : 0 ≤ s0 ∧ s0 ≤ 255) (hs1 : 0 ≤ s1 ∧ s1 ≤ 255) :
    Calls Try.prog 7 #[.int .u8 rest, .int .u8 first, v, .int .u16 un, .agg #[.int .u8 s0, .int .u8 s1]] w fun e w' => e = .returned (.bool true) ∧ Below w.heap.size w w' := by
  obtain ⟨a, b, off, c, rfl, ha, hcell⟩ : ∃ (a : Option Addr) (b off c : Nat), v = .slice a gs.length c ∧ (0 < gs.length → a = some ⟨b, off, none⟩) ∧ ∀ W, Below w.heap.size w W → ∀ k, k < gs.length → W.cell? ⟨b, off + k, none⟩ = some (.int .u8 gs[k]!) := by
    rcases h with ⟨⟨a, c, h1⟩, h2⟩ | ⟨b, off, c, h1, hb, _, hc⟩
    · subst h2
      exact ⟨a, 0, 0, c, h1, fun h0 => by simp at h0, fun W _ k hk => by simp at hk⟩
    · refine ⟨_, b, off, c, h1, fun _ => rfl, fun W hW k hk => ?_⟩
      have := hc k hk 0 _ rfl
      rw [Nat.mul_one, Nat.add_zero] at this
      exact (hW.cell (p := ⟨b, off + k, none⟩) hb).trans this
  by_cases hn : (10 : Int) ≤ (gs.length : Int)
  · exact painted_many rest first un s0 s1 a gs.length c w hn
  · have hm0 := Int.emod_nonneg rest (show (30 : Int) ≠ 0 by omega)
    have hm1 := Int.emod_lt_of_pos rest (show (0 : Int) < 30 by omega)
    obtain ⟨r, hr⟩ : ∃ r, 1 + rest % 30 = r := ⟨_, rfl⟩
    have hr0 : 1 ≤ r := by omega
    have hr1 : r ≤ 30 := by omega
    have hgp : ∀ k, k < gs.length → 0 ≤ gs[k]! ∧ gs[k]! ≤ 255 := fun k hk => hgs _ (by rw [getElem!_pos gs k hk]; exact List.getElem_mem hk)
    have hYb : ∀ k, k ≤ gs.length → 0 ≤ yr r first gs k ∧ yr r first gs k ≤ 1000 := fun k hk => by
      have := yr_bounds r first gs hr0 hr1 hfirst.1 hfirst.2 k
      omega
    by_cases hl : 300 < yr r first gs gs.length
    · exact painted_late rest first un s0 s1 r a b off gs.length c ha (yr r first gs) (fun k => gs[k]!) w (by omega) hr hr0 hr1 hrest hfirst hcell hgp rfl (fun _ _ => rfl) hYb hl
    · obtain ⟨bt, hbt⟩ : ∃ bt : Nat → Bool, ∀ k, (bits BinOp.and IntKind.u16 (un / 2 ^ k) 1 == 1) = bt k := ⟨_, fun _ => rfl⟩
      have hE : ∀ k, (if bt k then -1 else yr r first gs k % 10) = yr r first gs k % 10 ∨ (if bt k then -1 else yr r first gs k % 10) = -1 := fun k => by
        cases bt k
        · exact .inl rfl
        · exact .inr rfl
      have hlo0 : 0 ≤ max 0 (first - s0) := by omega
      have hlo1 : max 0 (first - s0) ≤ first := by omega
      have hhi0 : yr r first gs gs.length ≤ min 300 (yr r first gs gs.length + s1) := by omega
      have hhi1 : min 300 (yr r first gs gs.length + s1) ≤ 300 := by omega
      obtain ⟨N1, N2, m0, m1, p0, p1, h1, h2, hd1, hd2, hF, hone⟩ := painted_facts r first (max 0 (first - s0)) (min 300 (yr r first gs gs.length + s1)) gs gs.length (fun k => if bt k then -1 else yr r first gs k % 10) hr0 hr1 hfirst.1 hfirst.2 (by omega) hlo0 hlo1 hhi0 hhi1 hE
      exact painted_walk rest first un s0 s1 r _ _ N1 N2 a b off gs.length c ha (yr r first gs) (fun k => gs[k]!) (fun k => if bt k then -1 else yr r first gs k % 10) m0 m1 p0 p1 w (by omega) hr hr0 hr1 hrest hfirst hun hs0 hs1 hcell hgp rfl (fun _ _ => rfl) hYb (by omega) rfl rfl bt (fun k _ => hbt k) (fun _ _ => rfl) h1 h2 (fun W v _ hv => hd1 W v hv) (fun W v _ hv => hd2 W v hv) hF hone
end Go.Proofs.Ytceginnogbbpeaa
