/- slices.Clone of a row of ints. -/
import Derived.Test.YtbgojeppfhldjaaYTill
namespace Go.Proofs.Ytbgojeppfhldjaa
open Go Go.RowKit Yd

theorem info_int : (Try.prog.info? 3).map (fun i => (i.zero, i.size, i.bytes)) = some (some (.int .i64 0), 1, 8) := by kernel_rfl
theorem ones_ints (xs : List Int) : ∀ u ∈ intCells xs, u.oneCell' = true := fun u hu => by
  obtain ⟨x, _, rfl⟩ := List.mem_map.1 hu
  rfl
/-- A copy of its own. -/
def CloneDone (w : World) (n : Nat) (xs : List Int) (e : Ending) (w' : World) : Prop :=
  ∃ (g cap : Nat) (cur : Array Value), e = .returned (.slice (some ⟨g, 0, none⟩) n cap) ∧ Below w.heap.size w w' ∧ Blk w' g 3 cur ∧ w.heap.size ≤ g ∧ n ≤ cap ∧ cap ≤ maxLen ∧ cur.size = cap * 1 ∧ cur.toList.take (n * 1) = intCells xs

set_option maxRecDepth 100000 in
set_option maxHeartbeats 1000000 in
theorem clone_calls {w : World} {v : Value} {n : Nat} {xs : List Int} (h : w.ownsRow 0 3 1 v n (intCells xs)) (hn : 0 < n) (hl : n ≤ 1000) :
    Calls Try.prog 78 #[v] w (CloneDone w n xs) := by
  obtain ⟨g, cap, cur, rfl, hb, hc, hm, hs, ht⟩ := row_block h hn
  have HB := Lib.hid (hb.alloc (.cells #[] 3))
  have HW := Lib.hid (show (w.alloc (.cells #[] 3)).ownsRow 0 3 1 (.slice (some ⟨w.heap.size, 0, none⟩) 0 0) 0 [] from by
    have := row_of_block (Blk.new w 3 #[]) (size := 1) (n := 0) (cap := 0) (Nat.le_refl _) (Nat.zero_le _) rfl
    simpa using this)
  have HLN := Lib.hid (show (intCells xs).length = n * 1 from h.1)
  have HNW := Lib.hid (show ∀ j u, (intCells xs)[j]? = some u → (w.alloc (.cells #[] 3)).cell? ((⟨g, 0, none⟩ : Addr).add j) = some u from fun j u hj => by
    rw [addr_add, HB.out.cell, ← Array.getElem?_toList]
    rw [← ht, List.getElem?_take] at hj
    split at hj
    · exact hj
    · cases hj)
  have HA := Lib.hid (show 0 + n ≤ maxLen ∧ (0 + n) * 8 ≤ 140737488355328 ∧ 0 < n by unfold maxLen; omega)
  obtain ⟨i1, hi1, hi1a, hi1b, hi1c⟩ := info_parts info_int
  have HI1 := Lib.hid hi1
  have HI1a := Lib.hid hi1a
  have HI1b := Lib.hid hi1b
  have HI1c := Lib.hid hi1c
  have hnil := fun (w : World) (a : Option Addr) (n c : Nat) => Lib.run_eql_slice_nil (P := Try.prog) w 46 3 a n c 0 0 Try.underlying46
  clear h hn hl hb hc hm hs ht hi1 hi1a hi1b hi1c
  go_enter Try.func78, Try.ntmps78
  go_wp2_with (at_builtin; refine wpList_append_lies _ rfl (.tmp 5) (.tmp 6) 46 rfl 0 3 i1 (.int .i64 0) 1 8 Try.underlying46 HI1.out HI1a.out HI1b.out HI1c.out rfl (by decide) (.slice (some ⟨w.heap.size, 0, none⟩) 0 0) 0 [] rfl HW.out ⟨g, 0, none⟩ n cap (intCells xs) rfl HLN.out HNW.out (ones_ints xs) HA.out.2.2 HA.out.1 HA.out.2.1 (Nat.zero_le _) (w.heap.size + 1) (World.size_alloc _ _) ?_; intro g2 cap2 w2 hown2 hg2 hat2 hlt2)
  go_ret
  have hz : w.heap.size ≤ g2 := by
    rcases hat2 with h | h
    · simp only [Value.ownBlock, Option.some.injEq] at h; omega
    · omega
  rw [Nat.zero_add, List.nil_append] at hown2
  obtain ⟨g3, cap3, cur3, e3, hb3, hc3, hm3, hs3, ht3⟩ := row_block hown2 HA.out.2.2
  cases e3
  exact ⟨g2, cap2, cur3, rfl, (((Beside.refl (fun _ => False) w).alloc (.cells #[] 3)).grown hg2 (fun r hr => by cases hr; exact .inr (Nat.le_refl _))).below (fun _ f => f.elim) (Nat.le_refl _), hb3, hz, hc3, hm3, hs3, ht3⟩
end Go.Proofs.Ytbgojeppfhldjaa
