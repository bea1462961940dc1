/- A book is made; what it says is returned. A deed of any kind is entered. -/
import Derived.Test.YtbgojeppfhldjaaYOne
import Derived.Test.YtbgojeppfhldjaaYCheckYard
namespace Go.Proofs.Ytbgojeppfhldjaa
open Go Go.RowKit Go.Shelf Yd

theorem Book.bounded {w : World} {C : Nat → Prop} {B : Nat} {bef aft : Int} {l : List SRow} {c : Yd.Acc} {made : Int} {N : Nat} {kv tv : Value} {m : Nat} (h : Book w C B bef aft l c made N kv tv m) :
    Book w (fun k => C k ∧ k < w.heap.size) B bef aft l c made N kv tv m :=
  ⟨h.blk, h.keys, h.things, h.places, ⟨h.inB, h.blk.lt⟩, fun g hg => ⟨h.inK g hg, row_lt h.keys hg⟩, fun g hg => ⟨h.inT g hg, row_lt h.things hg⟩, ⟨h.inM, h.places.lt⟩, h.froms, h.fromsLen, h.codes, h.sizes, h.few, h.room⟩

set_option maxRecDepth 100000 in
set_option maxHeartbeats 1000000 in
theorem newShelf_calls (w : World) : Calls Try.prog 38 #[] w fun e w' => e = .returned (.agg #[.slice none 0 0, .slice none 0 0, .map (some (w.heap.size + 1))]) ∧ Below w.heap.size w w' ∧ Places w' (w.heap.size + 1) 0 (fun _ => none) := by
  have hmm := @run_makeMap Try.prog
  go_enter Try.func38, Try.ntmps38
  go_wp2
  refine bodyPost_ret (v := .agg #[.slice none 0 0, .slice none 0 0, .map (some (w.heap.size + 1))]) (by simp [results, Try.results38, go_sem]) rfl ⟨rfl, ?_, ?_⟩
  · exact ((Below.refl w.heap.size w).alloc (Nat.le_refl _) _).alloc (by rw [World.size_alloc]; omega) _
  · have := Places.made (w.alloc (.cells #[.slice none 0 0, .slice none 0 0, .map (some (w.heap.size + 1))] 74))
    rw [World.size_alloc] at this
    exact this

/-- The book made for a yard. -/
def BookMade (w : World) (bef aft : Int) (e : Ending) (w' : World) : Prop :=
  ∃ B m, e = .returned (.pointer (some ⟨B, 0, none⟩)) ∧ Book w' (fun k => w.heap.size ≤ k ∧ k < w'.heap.size) B bef aft [] .zero 0 0 (.slice none 0 0) (.slice none 0 0) m ∧ Below w.heap.size w w'

theorem made_book {w W w1 : World} {g : Nat} {bef aft : Int} (hg : g = w.heap.size) (h0 : Below g w W) (hz : W.heap.size = g + 1) (hb : Below W.heap.size W w1) (hp : Places w1 (W.heap.size + 1) 0 (fun _ => none)) :
    BookMade w bef aft (.returned (.pointer (some ⟨w1.heap.size, 0, none⟩))) (w1.alloc (.cells (bookCells bef aft (.slice none 0 0) (.slice none 0 0) (g + 1 + 1) .zero 0).toArray 76)) := by
  subst hg
  have hs := hb.size
  have hw := World.size_alloc w1 (.cells (bookCells bef aft (.slice none 0 0) (.slice none 0 0) (w.heap.size + 1 + 1) .zero 0).toArray 76)
  have hpl := hp.lt
  rw [hz] at hp hpl hs
  refine ⟨w1.heap.size, w.heap.size + 1 + 1, rfl, ⟨Blk.new w1 _ _, World.ownsRow_nil _ _ _ _, World.ownsRow_nil _ _ _ _, (hp.same (Below.heap_alloc w1 _ _ hpl)).ext (fun c => rfl), ⟨by omega, by omega⟩, fun g hg => (by cases hg), fun g hg => (by cases hg), ⟨by omega, by omega⟩, by simp, by simp, by simp, by simp, by simp, by omega⟩, ?_⟩
  exact (h0.trans (hb.mono (by omega))).alloc (by omega) _

set_option maxRecDepth 100000 in
set_option maxHeartbeats 1000000 in
theorem bookOf_calls (bef aft : Int) (a : Option Addr) (n c : Nat) (w : World) : Calls Try.prog 25 #[.agg #[.int .i64 bef, .int .i64 aft, .slice a n c]] w (BookMade w bef aft) := by
  have HB0 := Lib.hid ((Below.refl w.heap.size w).alloc (Nat.le_refl _) (.cells #[.int .i64 bef, .int .i64 aft, .slice a n c] 43))
  have HK0 := Lib.hid (Blk.new w 43 #[.int .i64 bef, .int .i64 aft, .slice a n c])
  go_enter Try.func25, Try.ntmps25
  go_upto_region 1 with (fail)
  have hz1 : (w.alloc (.cells #[.int .i64 bef, .int .i64 aft, .slice a n c] 43)).heap.size = w.heap.size + 1 := World.size_alloc _ _
  have hfr : ∀ W : World, W.drew.heap = W.heap := fun _ => rfl
  obtain ⟨g, hg⟩ : ∃ g, g = w.heap.size := ⟨_, rfl⟩
  have HG := Lib.hid hg
  rw [← hg] at HK0 HB0 hz1 ⊢
  clear hg
  generalize w.alloc (.cells #[.int .i64 bef, .int .i64 aft, .slice a n c] 43) = W at HB0 HK0 hz1 ⊢
  have y0 := HK0.out.at 0 _ rfl
  have y1 := HK0.out.at 1 _ rfl
  go_region_with (go_at_call 38; refine (newShelf_calls _).mono ?_; rintro e w1 ⟨rfl, hb1, hp1⟩; have hb2 : Below W.heap.size W w1 := Below.trans ((Below.refl _ W).drew) hb1; have y0 := (Blk.below HK0.out hb2).at 0 _ rfl; have y1 := (Blk.below HK0.out hb2).at 1 _ rfl; clear hb1; replace hp1 : Places w1 (W.heap.size + 1) 0 (fun _ => none) := hp1)
  all_goals
    go_wp2
    go_ret
    exact made_book HG.out HB0.out hz1 hb2 hp1

theorem size_standing : (Try.prog.info? 37).map (·.size) = some 13 := by kernel_rfl

set_option maxRecDepth 100000 in
set_option maxHeartbeats 1000000 in
theorem standing_row {w : World} {C : Nat → Prop} {B : Nat} {bef aft : Int} {l : List SRow} {vapour0 vapour1 broth0 broth1 dust0 dust1 soldDry0 soldDry1 soldWater0 soldWater1 soaked0 soaked1 made : Int} {N : Nat} {kv : Value} {ta : Option Addr} {tn tc : Nat} {m : Nat} (h : Book w C B bef aft l ⟨⟨vapour0, vapour1⟩, ⟨broth0, broth1⟩, ⟨dust0, dust1⟩, ⟨soldDry0, soldDry1⟩, ⟨soldWater0, soldWater1⟩, ⟨soaked0, soaked1⟩⟩ made N kv (.slice ta tn tc) m) :
    Calls Try.prog 27 #[.pointer (some ⟨B, 0, none⟩)] w fun e w' => e = .returned (.agg #[.slice ta tn tc, .int .i64 vapour0, .int .i64 vapour1, .int .i64 broth0, .int .i64 broth1, .int .i64 dust0, .int .i64 dust1, .int .i64 soldDry0, .int .i64 soldDry1, .int .i64 soldWater0, .int .i64 soldWater1, .int .i64 soaked0, .int .i64 soaked1]) ∧ Below w.heap.size w w' := by
  have HO := Lib.hid (show (#[.slice ta tn tc, .int .i64 vapour0, .int .i64 vapour1, .int .i64 broth0, .int .i64 broth1, .int .i64 dust0, .int .i64 dust1, .int .i64 soldDry0, .int .i64 soldDry1, .int .i64 soldWater0, .int .i64 soldWater1, .int .i64 soaked0, .int .i64 soaked1] : Array Value).all (·.oneCell') = true from by simp [Value.oneCell'])
  have HB := Lib.hid (h.alloc (.cells #[.slice none 0 0, .int .i64 0, .int .i64 0, .int .i64 0, .int .i64 0, .int .i64 0, .int .i64 0, .int .i64 0, .int .i64 0, .int .i64 0, .int .i64 0, .int .i64 0, .int .i64 0] 37))
  have HK := Lib.hid (Blk.new w 37 #[.slice none 0 0, .int .i64 0, .int .i64 0, .int .i64 0, .int .i64 0, .int .i64 0, .int .i64 0, .int .i64 0, .int .i64 0, .int .i64 0, .int .i64 0, .int .i64 0, .int .i64 0])
  have HW := Lib.hid ((Below.refl w.heap.size w).alloc (Nat.le_refl _) (.cells #[.slice none 0 0, .int .i64 0, .int .i64 0, .int .i64 0, .int .i64 0, .int .i64 0, .int .i64 0, .int .i64 0, .int .i64 0, .int .i64 0, .int .i64 0, .int .i64 0, .int .i64 0] 37))
  clear h
  go_enter Try.func27, Try.ntmps27
  go_upto_region 1 with (fail)
  have hz1 : (w.alloc (.cells #[.slice none 0 0, .int .i64 0, .int .i64 0, .int .i64 0, .int .i64 0, .int .i64 0, .int .i64 0, .int .i64 0, .int .i64 0, .int .i64 0, .int .i64 0, .int .i64 0, .int .i64 0] 37)).heap.size = w.heap.size + 1 := World.size_alloc _ _
  obtain ⟨g, hg⟩ : ∃ g, g = w.heap.size := ⟨_, rfl⟩
  have HG := Lib.hid hg
  rw [← hg] at HK HW hz1 ⊢
  clear hg
  generalize w.alloc (.cells #[.slice none 0 0, .int .i64 0, .int .i64 0, .int .i64 0, .int .i64 0, .int .i64 0, .int .i64 0, .int .i64 0, .int .i64 0, .int .i64 0, .int .i64 0, .int .i64 0, .int .i64 0] 37) = W at HB HK HW hz1 ⊢
  have q3 := cell_regrown (show W.cell? ⟨B, 3, none⟩ = some (.slice ta tn tc) from HB.out.blk.at 3 _ rfl)
  have q5 := cell_regrown (show W.cell? ⟨B, 5, none⟩ = some (.int .i64 vapour0) from HB.out.blk.at 5 _ rfl)
  have q6 := cell_regrown (show W.cell? ⟨B, 6, none⟩ = some (.int .i64 vapour1) from HB.out.blk.at 6 _ rfl)
  have q7 := cell_regrown (show W.cell? ⟨B, 7, none⟩ = some (.int .i64 broth0) from HB.out.blk.at 7 _ rfl)
  have q8 := cell_regrown (show W.cell? ⟨B, 8, none⟩ = some (.int .i64 broth1) from HB.out.blk.at 8 _ rfl)
  have q9 := cell_regrown (show W.cell? ⟨B, 9, none⟩ = some (.int .i64 dust0) from HB.out.blk.at 9 _ rfl)
  have q10 := cell_regrown (show W.cell? ⟨B, 10, none⟩ = some (.int .i64 dust1) from HB.out.blk.at 10 _ rfl)
  have q11 := cell_regrown (show W.cell? ⟨B, 11, none⟩ = some (.int .i64 soldDry0) from HB.out.blk.at 11 _ rfl)
  have q12 := cell_regrown (show W.cell? ⟨B, 12, none⟩ = some (.int .i64 soldDry1) from HB.out.blk.at 12 _ rfl)
  have q13 := cell_regrown (show W.cell? ⟨B, 13, none⟩ = some (.int .i64 soldWater0) from HB.out.blk.at 13 _ rfl)
  have q14 := cell_regrown (show W.cell? ⟨B, 14, none⟩ = some (.int .i64 soldWater1) from HB.out.blk.at 14 _ rfl)
  have q15 := cell_regrown (show W.cell? ⟨B, 15, none⟩ = some (.int .i64 soaked0) from HB.out.blk.at 15 _ rfl)
  have q16 := cell_regrown (show W.cell? ⟨B, 16, none⟩ = some (.int .i64 soaked1) from HB.out.blk.at 16 _ rfl)
  refine region_split_below 10 (by kernel_rfl) (by kernel_rfl) (by kernel_rfl) ?_
  simp only [List.take_succ_cons, List.take_zero, List.drop_succ_cons, List.drop_zero]
  repeat (go_big_quiet_step (fail))
  refine wpQuiet_nil ?_
  intro v0 hw'
  have hb8 : Below W.heap.size W v0 := by obtain ⟨⟨dq, osq⟩, hw''⟩ := hw'; rw [hw'']; exact below_regrown W dq osq
  clear hw' q3 q5 q6 q7 q8 q9 q10 q11 q12 q13 q14 q15 q16
  have HE := Lib.hid (HK.out.below hb8)
  have HW2 := Lib.hid (HW.out.trans (hb8.mono (Nat.le_trans (Nat.le_of_lt (Nat.lt_succ_self g)) (Nat.le_of_eq hz1.symm))))
  go_wp2_with ((with_reducible refine at_store 37 (.tmp 2) (.tmp 12) ?_); go_must (refine wpList_store_mid rfl 37 (.tmp 2) (.tmp 12) rfl g 0 #[.slice ta tn tc, .int .i64 vapour0, .int .i64 vapour1, .int .i64 broth0, .int .i64 broth1, .int .i64 dust0, .int .i64 dust1, .int .i64 soldDry0, .int .i64 soldDry1, .int .i64 soldWater0, .int .i64 soldWater1, .int .i64 soaked0, .int .i64 soaked1] rfl rfl (HE.out.there (o := 0) (n := 13) (Nat.le_of_ble_eq_true rfl)) size_standing HO.out ?_))
  have hk2 := HE.out.stored (old := [.slice none 0 0, .int .i64 0, .int .i64 0, .int .i64 0, .int .i64 0, .int .i64 0, .int .i64 0, .int .i64 0, .int .i64 0, .int .i64 0, .int .i64 0, .int .i64 0, .int .i64 0]) [.slice ta tn tc, .int .i64 vapour0, .int .i64 vapour1, .int .i64 broth0, .int .i64 broth1, .int .i64 dust0, .int .i64 dust1, .int .i64 soldDry0, .int .i64 soldDry1, .int .i64 soldWater0, .int .i64 soldWater1, .int .i64 soaked0, .int .i64 soaked1] rfl
  exact bodyPost_ret (results_cell_row rfl _ _ g 37 _ (0, 0) _ rfl hk2 Try.underlying37 rfl size_standing) rfl ⟨rfl, HG.out ▸ below_setCells HW2.out (Nat.le_refl _) _ 0⟩

theorem standing_calls {w : World} {C : Nat → Prop} {B : Nat} {bef aft : Int} {l : List SRow} {c : Yd.Acc} {made : Int} {N : Nat} {kv tv : Value} {m : Nat} (h : Book w C B bef aft l c made N kv tv m) :
    Calls Try.prog 27 #[.pointer (some ⟨B, 0, none⟩)] w fun e w' => e = .returned (.agg (tv :: accCells c).toArray) ∧ Below w.heap.size w w' := by
  obtain ⟨ta, tn, tc, rfl⟩ := row_slice h.things
  obtain ⟨⟨_, _⟩, ⟨_, _⟩, ⟨_, _⟩, ⟨_, _⟩, ⟨_, _⟩, ⟨_, _⟩⟩ := c
  exact standing_row h
end Go.Proofs.Ytbgojeppfhldjaa
namespace Go.Proofs.Ytbgojeppfhldjaa
open Go Go.RowKit Go.Shelf Yd

section
variable {w : World} {C : Nat → Prop} {B : Nat} {bef aft : Int} {l : List SRow} {c : Yd.Acc} {i : Nat} {N : Nat} {kv tv : Value} {m : Nat}
theorem one_calls (h : Book w C B bef aft l c i N kv tv m) (hC : ∀ k, C k → k < w.heap.size) (hi : i ≤ 40) (V : Int) (hV : V ≤ 2000000000000000) (hs : SmallStV V i (stOf l c)) (hN : N + 40 ≤ 1000000) (d : Deed Code) (fd : Fits d) (hsz : d.stack.size ≤ maxLen ∧ d.other.size ≤ maxLen) :
    Calls Try.prog 26 #[.pointer (some ⟨B, 0, none⟩), .agg (deedCells d).toArray] w (EnterDone w C B bef aft (stOf l c) d i N m) := by
  obtain ⟨kind, day, code, other, ⟨al, ah⟩, ⟨bl, bh⟩⟩ := d
  have hk := fd.fine.kind
  simp only at hk
  have : kind = 1 ∨ kind = 2 ∨ kind = 3 ∨ kind = 4 ∨ kind = 5 ∨ kind = 6 ∨ kind = 7 ∨ kind = 8 := by omega
  rcases this with rfl | rfl | rfl | rfl | rfl | rfl | rfl | rfl
  · exact one_pile h hC hi V hV hs hN day code other al ah bl bh fd hsz.1 hsz.2
  · exact one_rest h hC hi V hV hs hN day code other al ah bl bh fd hsz.1 hsz.2
  · exact one_boil h hC hi V hV hs hN day code other al ah bl bh fd hsz.1 hsz.2
  · exact one_scrape h hC hi V hV hs hN day code other al ah bl bh fd hsz.1 hsz.2
  · exact one_split h hC hi V hV hs hN day code other al ah bl bh fd hsz.1 hsz.2
  · exact one_merge h hC hi V hV hs hN day code other al ah bl bh fd hsz.1 hsz.2
  · exact one_weigh h hC hi V hV hs hN day code other al ah bl bh fd hsz.1 hsz.2
  · exact one_sell h hC hi V hV hs hN day code other al ah bl bh fd hsz.1 hsz.2
theorem enter_yes (h : Book w C B bef aft l c i N kv tv m) (hC : ∀ k, C k → k < w.heap.size) (hi : i ≤ 40) (V : Int) (hV : V ≤ 2000000000000000) (hs : SmallStV V i (stOf l c)) (hN : N + 40 ≤ 1000000) (d : Deed Code) (fd : Fits d) (hsz : d.stack.size ≤ maxLen ∧ d.other.size ≤ maxLen) (hf : fault bef aft (stOf l c) d = 0) :
    Calls Try.prog 26 #[.pointer (some ⟨B, 0, none⟩), .agg (deedCells d).toArray] w fun e w' => ∃ N', N' ≤ N + 20 ∧ Entered w C B bef aft (deed (stOf l c) d i).stacks (deed (stOf l c) d i).acc ((i : Int) + 1) N' m e w' :=
  (one_calls h hC hi V hV hs hN d fd hsz).mono fun _ _ he => he.elim (fun g => g.2) (fun g => absurd hf g.1)
theorem enter_no (h : Book w C B bef aft l c i N kv tv m) (hC : ∀ k, C k → k < w.heap.size) (hi : i ≤ 40) (V : Int) (hV : V ≤ 2000000000000000) (hs : SmallStV V i (stOf l c)) (hN : N + 40 ≤ 1000000) (d : Deed Code) (fd : Fits d) (hsz : d.stack.size ≤ maxLen ∧ d.other.size ≤ maxLen) (hf : fault bef aft (stOf l c) d ≠ 0) :
    Calls Try.prog 26 #[.pointer (some ⟨B, 0, none⟩), .agg (deedCells d).toArray] w fun e w' => e = .returned (.int .i64 (fault bef aft (stOf l c) d)) ∧ Below w.heap.size w w' :=
  (one_calls h hC hi V hV hs hN d fd hsz).mono fun _ _ he => he.elim (fun g => absurd g.1 hf) (fun g => g.2)
end
end Go.Proofs.Ytbgojeppfhldjaa
