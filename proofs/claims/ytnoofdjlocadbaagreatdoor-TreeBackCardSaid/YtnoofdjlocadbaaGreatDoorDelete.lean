/- Years that are too late are struck out of a map. -/
import Derived.Test.YtnoofdjlocadbaaGreatDoorSorted
import Derived.Maps.RangeWalk
namespace Go.Proofs.YtnoofdjlocadbaaGreatDoor
open Go.RowKit Go.Shelf Go.Maps

theorem lawI : Keyed Tryz.prog 3 := int_keyed Tryz.underlying3

def keyNum : Lit → Int
  | .int _ n => n
  | _ => 0

/-- Those entries that are not too late, or are still to come. -/
def Ks (es : List (Lit × DataW Unit)) (latest : Int) (left : Lit → Bool) : DataW Unit := .map (es.filter fun p => decide (keyNum p.1 ≤ latest) || left p.1)
/-- What is left of a map when what is too late is struck. -/
def early (es : List (Lit × DataW Unit)) (latest : Int) : DataW Unit := .map (es.filter fun p => decide (keyNum p.1 ≤ latest))

theorem Ks_start {es : List (Lit × DataW Unit)} {latest : Int} (hkeys : ∀ p ∈ es, WideAt.IsKeyLit p.1) : Ks es latest (Maps.has (.map es)) = .map es := by
  unfold Ks
  rw [List.filter_eq_self.2 (fun p hp => by
    have : Maps.has (DataW.map es) p.1 = true := List.any_eq_true.2 ⟨p, hp, WideAt.sameKey_self (hkeys p hp)⟩
    simp [this])]
theorem Ks_end {es : List (Lit × DataW Unit)} {latest : Int} {left : Lit → Bool} (hl : ∀ kl, left kl = false) : Ks es latest left = early es latest := by
  unfold Ks early
  congr 1
  exact List.filter_congr (fun p _ => by simp [hl])
theorem Ks_struck {es : List (Lit × DataW Unit)} {latest x : Int} {left : Lit → Bool} (hx : latest < x) : (Ks es latest left).del (.int .i64 x) = Ks es latest (fun z => left z && !z.sameKey (.int .i64 x)) := by
  show DataW.map ((es.filter fun p => decide (keyNum p.1 ≤ latest) || left p.1).filter fun p => !p.1.sameKey (.int .i64 x)) = _
  unfold Ks
  rw [List.filter_filter]
  congr 1
  refine List.filter_congr (fun p _ => ?_)
  cases hs : p.1.sameKey (.int .i64 x)
  · simp [hs]
  · have hn : ¬ x ≤ latest := by omega
    simp [WideAt.sameKey_eq hs, keyNum, hn]
    intro _
    exact WideAt.sameKey_self trivial
theorem Ks_stays {es : List (Lit × DataW Unit)} {latest x : Int} {left : Lit → Bool} (hx : x ≤ latest) : Ks es latest left = Ks es latest (fun z => left z && !z.sameKey (.int .i64 x)) := by
  unfold Ks
  congr 1
  refine List.filter_congr (fun p _ => ?_)
  cases hs : p.1.sameKey (.int .i64 x)
  · simp [hs]
  · simp [WideAt.sameKey_eq hs, keyNum, hx]

set_option maxHeartbeats 400000 in
theorem tooLate_calls (k v latest : Int) (B : Nat) (w : World) (hc : w.cell? ⟨B, 0, none⟩ = some (.int .i64 latest)) :
    Calls Tryz.prog 72 (#[.int .i64 k, .int .i64 v] ++ #[.pointer (some ⟨B, 0, none⟩)]) w fun e w' => e = .returned (.bool (decide (latest < k))) ∧ w = w' := by
  show Calls Tryz.prog _ #[.int .i64 k, .int .i64 v, .pointer (some ⟨B, 0, none⟩)] _ _
  go_enter Tryz.func72, Tryz.ntmps72
  go_wp2
  go_ret
  exact ⟨rfl, rfl⟩

set_option maxRecDepth 100000 in
set_option maxHeartbeats 1000000 in
theorem deleteFunc_calls (b n Bl : Nat) (latest : Int) (es : List (Lit × DataW Unit)) (w : World) (hBl : Bl < w.heap.size) (hne : Bl ≠ b) (hcl : w.cell? ⟨Bl, 0, none⟩ = some (.int .i64 latest))
    (hown : w.ownsMap Tryz.prog 3 (plainElem Tryz.prog 3) b n (.map es)) (hkeys : ∀ p ∈ es, WideAt.IsKeyLit p.1) :
    Calls Tryz.prog 71 #[.map (some b), .func (.func 72) #[] #[.pointer (some ⟨Bl, 0, none⟩)]] w fun e w' => e = .returned (.tuple #[]) ∧ w'.ownsMap Tryz.prog 3 (plainElem Tryz.prog 3) b n (early es latest) ∧ w.grownBy w' (some b) := by
  have HC := Lib.hid hcl; clear hcl
  go_enter Tryz.func71, Tryz.ntmps71
  go_wp2_with (at_range; refine wpList_range_own _ rfl _ 129 rfl 3 3 lawI Tryz.underlying129 _ b n _ rfl hown ?_; intro w0 hrg0 hg0 hs0)
  go_frame
  go_loopw [4] (fun _ wr => ∃ (left : Lit → Bool) (cnt : Nat), wr.ranges Tryz.prog 3 (plainElem Tryz.prog 3) b w.heap.size n (Ks es latest left) left cnt ∧ w.grownBy wr (some b))
    (fun _ wr => wr.rangeLeft b w.heap.size)
  case atStart => exact ⟨_, _, by rw [Ks_start hkeys]; exact hrg0, hg0.but _⟩
  case round =>
    obtain ⟨left, cnt, hrg, hgw⟩ := hrel
    go_wp2_with (at_next; refine wpList_next_ranges_ii _ rfl _ rfl 3 3 .i64 .i64 lawI Tryz.underlying3 Tryz.underlying3 b w.heap.size n _ _ _ rfl hrg ?_ ?_)
    · intro _ hl0
      go_wp2
      go_end0
      exact ⟨rfl, by rw [← Ks_end hl0]; exact hrg.owns, hgw⟩
    · intro x c w1 cnt1 hwx hwc hlx hat hrg1 hlt hg1 hs1 hen
      have hgw1 := hgw.andThen hg1 (fun j hj => by cases hj; exact Or.inl (Nat.le_refl _))
      have hcl1 : w1.cell? ⟨Bl, 0, none⟩ = some (.int .i64 latest) := (World.cell?_of_block (w := w) (a := ⟨Bl, 0, none⟩) (hgw1.block Bl hBl (by simpa using hne))).trans HC.out
      by_cases hlate : latest < x
      · have HK := Lib.hid (tooLate_calls x c latest Bl w1 hcl1)
        rw [decide_eq_true hlate] at HK
        clear hcl1
        go_wp2_with (first
          | (go_at_call 72; refine HK.out.mono ?_; rintro e w' ⟨rfl, rfl⟩)
          | (at_delete; refine wpList_delete_ranges _ rfl _ _ 129 3 rfl 3 lawI Tryz.underlying129 _ b w.heap.size n _ _ _ rfl hrg1 _ _ rfl (keyOf_int_mk Tryz.underlying3 hwx) ?_; intro w2 cnt2 hrg2 hle hturn; go_frame))
        rw [strike_twice] at hrg2
        go_roundw
        case rel => exact ⟨_, cnt2, by rw [← Ks_struck hlate]; exact hrg2, hgw1.andThen hturn.grown (fun j hj => by cases hj; exact Or.inr rfl)⟩
        case measure => rw [hrg2.left_eq, hrg.left_eq]; omega
      · have HK := Lib.hid (tooLate_calls x c latest Bl w1 hcl1)
        rw [decide_eq_false hlate] at HK
        clear hcl1
        go_wp2_with (go_at_call 72; refine HK.out.mono ?_; rintro e w' ⟨rfl, rfl⟩)
        go_roundw
        case rel => exact ⟨_, cnt1, by rw [← Ks_stays (by omega)]; exact hrg1, hgw1⟩
        case measure => rw [hrg1.left_eq, hrg.left_eq]; exact hlt
end Go.Proofs.YtnoofdjlocadbaaGreatDoor
