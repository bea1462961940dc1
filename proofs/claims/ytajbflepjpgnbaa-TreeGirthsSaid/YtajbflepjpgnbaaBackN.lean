/- The iterator over a list of maps, from its end: its rounds by their number. -/
import Derived.Test.YtajbflepjpgnbaaNth
namespace Go.Proofs.Ytajbflepjpgnbaa
open Go.RowKit Go.Shelf Go.Maps

attribute [local go_sem] Oper.semAt_some

set_option maxRecDepth 100000 in
set_option maxHeartbeats 2000000 in
theorem back_in (F : Fence) (n : Nat) (h7 : F.fn 93) (hro : F.round = none) (hn : 1 ≤ n) (l Bs g len cap : Nat) (bs : List Nat) (hl0 : 0 < len) (hlc : len ≤ cap) (hlen : len ≤ 1000) (J : Nat → World → Prop)
    (hY : ∀ k W, k < len → J k W → YieldAt F (n - 1) Try.prog l #[.int .i64 ((len - 1 - k : Nat) : Int), .map (some (bs.getD (len - 1 - k) 0))] W fun e W' => e = .returned (.bool true) ∧ J (k + 1) W' ∧ Kept2 Bs g W W')
    (W : World) (hb : Blk W Bs 92 #[.slice (some ⟨g, 0, none⟩) len cap]) (hc : ∀ j, j < len → W.cell? ⟨g, j, none⟩ = some (.map (some (bs.getD j 0)))) (hJ : J 0 W) :
    CallsIn F n Try.prog 93 #[.func (.yield l) #[] #[], .pointer (some ⟨Bs, 0, none⟩)] W fun e W' => (∃ v, e = .returned v) ∧ J len W' := by
  have c0 : W.cell? ⟨Bs, 0, none⟩ = some (.slice (some ⟨g, 0, none⟩) len cap) := hb.cell 0
  have HC := Lib.hid hc; clear hc
  refine callsIn_of_wp Try.func93 rfl h7 ?_ hro
  simp only [Try.ntmps93, List.size_toArray, List.length_cons, List.length_nil, Nat.reduceAdd, Nat.reduceSub, Array.replicate_succ, Array.replicate_zero, List.push_toArray, List.append_toArray, List.nil_append, List.cons_append]
  gi_wp2
  gi_loopw [3] (fun i wr => ∃ k : Nat, k ≤ len ∧ i = .int .i64 ((len : Int) - 1 - k) ∧ J k wr ∧ Blk wr Bs 92 #[.slice (some ⟨g, 0, none⟩) len cap] ∧ KeptAt g W wr)
    (fun i _ => (intOf i + 1).toNat)
  case atStart => exact ⟨0, Nat.zero_le _, by simp, hJ, hb, rfl⟩
  case round =>
    obtain ⟨k, hk, rfl, hJs, hbw, hgw⟩ := hrel
    have c1 : wr.cell? ⟨Bs, 0, none⟩ = some (.slice (some ⟨g, 0, none⟩) len cap) := hbw.cell 0
    by_cases hlt : k < len
    · have ei : (len : Int) - 1 - k = ((len - 1 - k : Nat) : Int) := by omega
      have hy0 := hY k wr hlt hJs
      have hm : len - 1 - k < len := by omega
      have hmk : len - 1 - k + k + 1 = len := by omega
      rw [ei]
      generalize len - 1 - k = m at hm hmk ei hy0
      have cm : wr.cell? ⟨g, m, none⟩ = some (.map (some (bs.getD m 0))) := (World.cell?_of_block (w := W) (a := ⟨g, m, none⟩) hgw).trans (HC.out m hm)
      obtain ⟨fn, tmps, assign, body, hy, hR⟩ := hy0
      generalize bs.getD m 0 = bm at cm hy
      gi_wp2
      refine hR.mono ?_
      rintro e W3 ⟨rfl, hJ3, hk3⟩
      have hb3 : Blk W3 Bs 92 #[.slice (some ⟨g, 0, none⟩) len cap] := Eq.trans hk3.1 hbw
      gi_wp2
      go_roundw
      case rel => exact ⟨k + 1, by omega, by (first | (congr 1; done) | (congr 1; omega)), hJ3, hb3, Eq.trans hk3.2 hgw⟩
      case measure => simp only [intOf]; omega
    · obtain rfl : k = len := by omega
      have ei : (k : Int) - 1 - k = -1 := by omega
      rw [ei]
      gi_wp2
      go_end0
      exact ⟨⟨_, rfl⟩, hJs⟩

theorem back_nth (F : Fence) (n : Nat) (h7 : F.fn 93) (hro : F.round = none) (hn : 1 ≤ n) (Bs g len cap : Nat) (bs : List Nat) (hl0 : 0 < len) (hlc : len ≤ cap) (hlen : len ≤ 1000) (w : World)
    (hb : Blk w Bs 92 #[.slice (some ⟨g, 0, none⟩) len cap]) (hg : g < w.heap.size) (hc : ∀ j, j < len → w.cell? ⟨g, j, none⟩ = some (.map (some (bs.getD j 0)))) :
    SeqNth F n Try.prog 93 #[.pointer (some ⟨Bs, 0, none⟩)] (fun k => #[Value.int .i64 ((len - 1 - k : Nat) : Int), .map (some (bs.getD (len - 1 - k) 0))]) (Kept2 Bs g) len w := fun l J W hW hY hJ =>
  back_in F n h7 hro hn l Bs g len cap bs hl0 hlc hlen J hY W (hb.below hW hb.lt) (fun j hj => (hW.cell hg).trans (hc j hj)) hJ
end Go.Proofs.Ytajbflepjpgnbaa
