/- What the laws of layer 5 share: shorter lists, deeds with narrower bounds, numbers picked within bounds, exact numbers; the blocks that a statement's own call makes, and the standings that it has, in one fact. -/
import Derived.Test.YtbgojeppfhldjaaYStands
import Derived.Test.YtbgojeppfhldjaaYRefYard
import Derived.Test.YtbgojeppfhldjaaYCopy
namespace Go.Proofs.Ytbgojeppfhldjaa
open Go Go.RowKit Go.Shelf Yd

theorem Held.take {α : Type} [Inhabited α] {B : Nat} {w : World} {k : Nat} {enc : α → List Value} {a : Option Addr} {n c : Nat} {xs : List α} (h : Held B w k enc (.slice a n c) xs) (m : Nat) (hm : m ≤ n) : Held B w k enc (.slice a m c) (xs.take m) := by
  rcases h with ⟨⟨a', c', hv⟩, rfl⟩ | ⟨b, off, c', hv, hB, hl, hc⟩
  · injection hv with e1 e2 e3
    subst e1 e2 e3
    obtain rfl : m = 0 := by omega
    exact .inl ⟨⟨_, _, rfl⟩, rfl⟩
  · injection hv with e1 e2 e3
    subst e1 e2 e3
    have hlt : (xs.take m).length = m := by rw [List.length_take]; omega
    refine .inr ⟨b, off, c, by rw [hlt], hB, ⟨by omega, by omega, hl.2.2⟩, fun j hj i u hu => ?_⟩
    have hj2 : j < xs.length := by omega
    refine hc j hj2 i u ?_
    rw [← hu, getElem!_pos xs j hj2, getElem!_pos (xs.take m) j hj, List.getElem_take]
theorem errDeeds_take : ∀ {ds : List (Deed Code)} {day : Int} (m : Nat), errDeeds day ds = 0 → errDeeds day (ds.take m) = 0
  | [], _, m, _ => by simp [errDeeds]
  | d :: r, day, 0, _ => rfl
  | d :: r, day, m + 1, h => by
    rw [List.take_succ_cons, errDeeds_cons]
    rw [errDeeds_cons] at h
    split at h
    · rename_i h0
      rw [if_pos h0]
      exact errDeeds_take m h
    · rename_i h0; exact absurd h h0
theorem errYard_take {bef aft : Int} {ds : List (Deed Code)} (m : Nat) (h : errYard bef aft ds = 0) : errYard bef aft (ds.take m) = 0 := by
  obtain ⟨h1, h2, h3, h4⟩ := errYard_ok h
  unfold errYard
  rw [h1, h2, if_neg (by simp), if_neg (by rw [List.length_take]; omega)]
  exact errDeeds_take m h4
theorem great_few {bef aft : Int} {ds : List (Deed Code)} (hg : greatB ds = false) (h : errYard bef aft ds = 0) : ds.length ≤ 12 := by
  obtain ⟨_, _, h3, _⟩ := errYard_ok h
  unfold greatB at hg
  simp only [Bool.or_eq_false_iff, decide_eq_false_iff_not] at hg
  omega


theorem info_deedz : (Try.prog.info? 57).map (fun i => (i.zero, i.size, i.bytes)) = some (some (.agg #[.int .i64 0, .int .i64 0, .string ⟨#[]⟩, .string ⟨#[]⟩, .int .i64 0, .int .i64 0, .int .i64 0, .int .i64 0]), 8, 80) := by kernel_rfl
theorem owns_emptyD (w : World) : (w.alloc (.cells #[] 57)).ownsRow w.heap.size 57 8 (.slice (some ⟨w.heap.size, 0, none⟩) 0 0) 0 [] :=
  ⟨rfl, .inr ⟨w.heap.size, 0, #[], rfl, Nat.le_refl _, Blk.new w 57 #[], Nat.le_refl _, Nat.zero_le _, rfl, rfl⟩⟩
theorem row_blockD {w : World} {base n : Nat} {v : Value} {xs : List Value} (h : w.ownsRow base 57 8 v n xs) (hne : v ≠ .slice none 0 0) :
    ∃ (g cap : Nat) (cur : Array Value), v = .slice (some ⟨g, 0, none⟩) n cap ∧ Blk w g 57 cur ∧ n ≤ cap ∧ cap ≤ maxLen ∧ base ≤ g ∧ cur.toList.take (n * 8) = xs := by
  obtain ⟨_, ⟨h1, _⟩ | ⟨g, cap, cur, hv, hb, hg, hc, hm, hsz, ht⟩⟩ := h
  · exact absurd h1 hne
  · exact ⟨g, cap, cur, hv, hg, hc, hm, hb, ht⟩
theorem Blk.belowAt {w w' : World} {B g : Nat} {t : TypeId} {cs : Array Value} (h : Blk w g t cs) (hb : Below B w w') (hg : g < B) : Blk w' g t cs := (hb.block g hg).trans h
theorem Stands.same0 {w0 w w' : World} {rows : List SRow} {tv : Value} (h : Stands w rows tv) (hb : Below w0.heap.size w w') (h0 : Stands w0 rows tv) : Stands w' rows tv :=
  ⟨row_same h.things (fun g hg => hb.block g (row_lt h0.things hg)), fun p hp => row_same (h.froms p hp) (fun g hg => hb.block g (row_lt (h0.froms p hp) hg)), h.fromsLen, h.codes, h.sizes, h.few⟩

theorem quiet_of {d : Deed Code} (h : quietB d.kind = true) : Quiet d := by unfold quietB at h; simpa [Quiet] using h
theorem cur_split {cur : Array Value} {ds : List (Deed Code)} {i : Nat} {p q : Deed Code} (h : i + 1 < ds.length) (hp : ds[i]! = p) (hq : ds[i + 1]! = q) (ht : cur.toList.take (ds.length * 8) = flat deedCells ds) :
    ∃ PRE POST : List Value, cur = (PRE ++ deedCells p ++ (deedCells q ++ POST)).toArray ∧ PRE.length = i * 8 ∧ ∃ spare, PRE ++ deedCells q ++ deedCells p ++ POST = flat deedCells (ds.take i ++ q :: p :: ds.drop (i + 2)) ++ spare := by
  have e := congrArg (flat deedCells) (two_of h)
  rw [flat_append, flat_cons, flat_cons, hp, hq] at e
  refine ⟨flat deedCells (ds.take i), flat deedCells (ds.drop (i + 2)) ++ cur.toList.drop (ds.length * 8), ?_, ?_, cur.toList.drop (ds.length * 8), ?_⟩
  · rw [← Array.toArray_toList (xs := cur)]
    congr 1
    conv => lhs; rw [← List.take_append_drop (ds.length * 8) cur.toList, ht, e]
    simp
  · rw [flat_length deed_eight, List.length_take, Nat.min_eq_left (by omega)]
  · rw [flat_append, flat_cons, flat_cons]
    simp
theorem held_of_blk {w : World} {g cap n : Nat} {xs : List (Deed Code)} {spare : List Value} (h : Blk w g 57 (flat deedCells xs ++ spare).toArray) (hn : xs.length = n) (hc : n ≤ cap) (hm : cap ≤ maxLen) (h47 : n ≤ 140737488355328) : Held w.heap.size w 8 deedCells (.slice (some ⟨g, 0, none⟩) n cap) xs := by
  subst hn
  refine .inr ⟨g, 0, cap, rfl, h.lt, ⟨hc, h47, by unfold maxLen at hm; omega⟩, fun j hj i u hu => ?_⟩
  have hi : i < 8 := by have := (List.getElem?_eq_some_iff.1 hu).1; simpa [deedCells] using this
  rw [Nat.zero_add, h.cell, ← hu, ← flat_get deed_eight xs j i hj hi]
  have hl : j * 8 + i < (flat deedCells xs).length := by rw [flat_length deed_eight]; omega
  simp [List.getElem?_append_left hl]

theorem size_deed8 : (Try.prog.info? 57).map (·.size) = some 8 := by kernel_rfl

end Go.Proofs.Ytbgojeppfhldjaa
namespace Go.Proofs.Ytbgojeppfhldjaa
open Go Go.RowKit Go.Shelf Yd

/-- A number of bounds, by a choice. -/
def pickOf (lo hi b : Int) : Int := lo + b % (hi - lo + 1)
theorem pick_in {lo hi b : Int} (h : lo ≤ hi) : lo ≤ pickOf lo hi b ∧ pickOf lo hi b ≤ hi := by
  have h1 := Int.emod_nonneg b (show hi - lo + 1 ≠ 0 by omega)
  have h2 := Int.emod_lt_of_pos b (show 0 < hi - lo + 1 by omega)
  unfold pickOf
  omega

set_option maxRecDepth 100000 in
set_option maxHeartbeats 1000000 in
theorem pick_calls (lo hi b : Int) (w : World) (h : 0 ≤ lo ∧ lo ≤ hi ∧ hi ≤ 100000000) (hb : 0 ≤ b ∧ b ≤ 65535) :
    Calls Try.prog 12 #[.agg #[.int .i64 lo, .int .i64 hi], .int .u16 b] w fun e w' => e = .returned (.int .i64 (pickOf lo hi b)) ∧ Below w.heap.size w w' := by
  obtain ⟨r, hr⟩ : ∃ r, r = b % (hi - lo + 1) := ⟨_, rfl⟩
  have hr1 := Int.emod_nonneg b (show hi - lo + 1 ≠ 0 by omega)
  have hr2 := Int.emod_lt_of_pos b (show 0 < hi - lo + 1 by omega)
  rw [← hr] at hr1 hr2
  have ht : b.tmod (hi - lo + 1) = r := by rw [Int.tmod_eq_emod_of_nonneg hb.1]; exact hr.symm
  have HP := Lib.hid (show pickOf lo hi b = lo + r from by unfold pickOf; rw [hr])
  have HW0 := Lib.hid ((Below.refl w.heap.size w).alloc (Nat.le_refl _) (.cells #[.int .i64 lo, .int .i64 hi] 23))
  have HK0 := Lib.hid (Blk.new w 23 #[.int .i64 lo, .int .i64 hi])
  obtain ⟨h1, h2, h3⟩ := h
  obtain ⟨hb1, hb2⟩ := hb
  clear hr
  go_enter Try.func12, Try.ntmps12
  go_upto_region 1 with (fail)
  have q0 := cell_regrown (HK0.out.at 0 (.int .i64 lo) rfl)
  have q1 := cell_regrown (HK0.out.at 1 (.int .i64 hi) rfl)
  have hne : (hi - lo + 1 == 0) = false := by simp; omega
  refine wp_region_quiet_below (by kernel_rfl) (by kernel_rfl) ?_
  repeat (go_big_quiet_step (fail))
  refine wpQuiet_nil ?_
  intro w7 hw'
  have hb8 : Below w.heap.size w w7 := by
    obtain ⟨⟨dq, osq⟩, hw''⟩ := hw'
    rw [hw'']
    exact HW0.out.trans ((below_regrown _ dq osq).mono HW0.out.size)
  clear hw' q0 q1
  go_wp2
  go_ret
  exact ⟨by rw [HP.out]; rfl, hb8⟩

set_option maxHeartbeats 400000 in
theorem within_yes (n lo hi : Int) (w : World) (h : lo ≤ n ∧ n ≤ hi) : Calls Try.prog 14 #[.int .i64 n, .agg #[.int .i64 lo, .int .i64 hi]] w fun e w' => e = .returned (.bool true) ∧ Below w.heap.size w w' := by
  have d1 : decide (lo ≤ n) = true := by simpa using h.1
  have d2 : decide (n ≤ hi) = true := by simpa using h.2
  clear h
  go_enter Try.func14, Try.ntmps14
  go_wp2
  go_ret
  exact ⟨rfl, (Below.refl _ _).alloc (Nat.le_refl _) _⟩

set_option maxHeartbeats 400000 in
theorem inside_yes (lo hi lo' hi' : Int) (w : World) (h : lo' ≤ lo ∧ hi ≤ hi') : Calls Try.prog 11 #[.agg #[.int .i64 lo, .int .i64 hi], .agg #[.int .i64 lo', .int .i64 hi']] w fun e w' => e = .returned (.bool true) ∧ Below w.heap.size w w' := by
  have d1 : decide (lo' ≤ lo) = true := by simpa using h.1
  have d2 : decide (hi ≤ hi') = true := by simpa using h.2
  clear h
  go_enter Try.func11, Try.ntmps11
  go_wp2
  go_ret
  exact ⟨rfl, ((Below.refl _ _).alloc (Nat.le_refl _) _).alloc (by rw [World.size_alloc]; omega) _⟩

/-- Bounds within some, by two choices. -/
def innerOf (lo hi b c : Int) : Bd := ⟨pickOf lo hi b, pickOf lo hi b + c % (hi - pickOf lo hi b + 1)⟩
theorem inner_in {lo hi b c : Int} (h : lo ≤ hi) : lo ≤ (innerOf lo hi b c).lo ∧ (innerOf lo hi b c).lo ≤ (innerOf lo hi b c).hi ∧ (innerOf lo hi b c).hi ≤ hi := by
  have hp := pick_in (b := b) h
  have h1 := Int.emod_nonneg c (show hi - pickOf lo hi b + 1 ≠ 0 by omega)
  have h2 := Int.emod_lt_of_pos c (show 0 < hi - pickOf lo hi b + 1 by omega)
  unfold innerOf
  simp only
  omega

set_option maxRecDepth 100000 in
set_option maxHeartbeats 1000000 in
theorem inner_calls (lo hi b c : Int) (w : World) (h : 0 ≤ lo ∧ lo ≤ hi ∧ hi ≤ 100000000) (hb : 0 ≤ b ∧ b ≤ 65535) (hc : 0 ≤ c ∧ c ≤ 65535) :
    Calls Try.prog 7 #[.agg #[.int .i64 lo, .int .i64 hi], .int .u16 b, .int .u16 c] w fun e w' => e = .returned (.agg #[.int .i64 (innerOf lo hi b c).lo, .int .i64 (innerOf lo hi b c).hi]) ∧ Below w.heap.size w w' := by
  have hp := pick_in (b := b) h.2.1
  have HPC := Lib.hid (fun W => pick_calls lo hi b W h hb)
  unfold innerOf
  simp only
  generalize pickOf lo hi b = n at hp HPC ⊢
  obtain ⟨r, hr⟩ : ∃ r, r = c % (hi - n + 1) := ⟨_, rfl⟩
  have hr1 := Int.emod_nonneg c (show hi - n + 1 ≠ 0 by omega)
  have hr2 := Int.emod_lt_of_pos c (show 0 < hi - n + 1 by omega)
  rw [← hr] at hr1 hr2 ⊢
  have ht : c.tmod (hi - n + 1) = r := by rw [Int.tmod_eq_emod_of_nonneg hc.1]; exact hr.symm
  have hne : (hi - n + 1 == 0) = false := by simp; omega
  have HK0 := Lib.hid ((Blk.new w 23 #[.int .i64 lo, .int .i64 hi]).alloc (.cells #[.int .i64 0, .int .i64 0] 23))
  have HR0 := Lib.hid (Blk.new (w.alloc (.cells #[.int .i64 lo, .int .i64 hi] 23)) 23 #[.int .i64 0, .int .i64 0])
  rw [World.size_alloc] at HR0
  have HW0 := Lib.hid (((Below.refl w.heap.size w).alloc (Nat.le_refl _) (.cells #[.int .i64 lo, .int .i64 hi] 23)).alloc (by rw [World.size_alloc]; omega) (.cells #[.int .i64 0, .int .i64 0] 23))
  obtain ⟨h1, h2, h3⟩ := h
  obtain ⟨hb1, hb2⟩ := hb
  obtain ⟨hc1, hc2⟩ := hc
  obtain ⟨hp1, hp2⟩ := hp
  clear hr
  go_enter Try.func7, Try.ntmps7
  go_wp2_with (first
    | (go_at_call 12; refine (HPC.out _).mono ?_; rintro e w1 ⟨rfl, hb1⟩; have HK1 := Lib.hid (HK0.out.below hb1); have HR1 := Lib.hid (HR0.out.below hb1); have HW1 := Lib.hid (HW0.out.trans (hb1.mono HW0.out.size)); have k1 := HK1.out.at 1 (.int .i64 hi) rfl; clear hb1)
    | (go_at_call 21; refine (bounds_calls _ _ _).mono ?_; rintro e w2 ⟨rfl, hb2⟩; have HR2 := Lib.hid (HR1.out.below hb2); have HW2 := Lib.hid (HW1.out.trans (hb2.mono HW1.out.size)); clear hb2)
    | ((with_reducible refine at_store 23 (.tmp 6) (.tmp 22) ?_); go_must (refine wpList_store_mid rfl 23 (.tmp 6) (.tmp 22) rfl (w.heap.size + 1) 0 #[.int .i64 n, .int .i64 (n + r)] rfl rfl (HR2.out.there (o := 0) (n := 2) (Nat.le_of_ble_eq_true rfl)) size_bounds (show (#[.int .i64 n, .int .i64 (n + r)] : Array Value).all (·.oneCell') = true from by simp [Value.oneCell']) ?_)))
  have hk2 := HR2.out.stored (old := [.int .i64 0, .int .i64 0]) [.int .i64 n, .int .i64 (n + r)] rfl
  exact bodyPost_ret (results_cell_row rfl _ _ (w.heap.size + 1) 23 _ (0, 0) _ rfl hk2 Try.underlying23 rfl size_bounds) rfl ⟨rfl, below_setCells HW2.out (Nat.le_succ _) _ 0⟩
end Go.Proofs.Ytbgojeppfhldjaa
namespace Go.Proofs.Ytbgojeppfhldjaa
open Go Go.RowKit Go.Shelf Yd

structure Slim (e d : Deed Code) : Prop where
  kind : e.kind = d.kind
  day : e.day = d.day
  stack : e.stack = d.stack
  other : e.other = d.other
  a : d.a.lo ≤ e.a.lo ∧ e.a.lo ≤ e.a.hi ∧ e.a.hi ≤ d.a.hi
  b : d.b.lo ≤ e.b.lo ∧ e.b.lo ≤ e.b.hi ∧ e.b.hi ≤ d.b.hi

theorem ranged_slim {lo hi lo' hi' lim : Int} (h : rangedB lo' hi' lim = true) (hs : lo' ≤ lo ∧ lo ≤ hi ∧ hi ≤ hi') : rangedB lo hi lim = true := by
  rcases Int.lt_or_le lim 0 with hl | hl
  · obtain ⟨h1, h2⟩ := rangedB_none h hl
    unfold rangedB
    rw [if_pos hl]
    simp only [decide_eq_true_eq]
    omega
  · have h1 := rangedB_up h hl
    unfold Bd.Up at h1
    simp only at h1
    unfold rangedB boundsB
    rw [if_neg (by omega)]
    simp only [decide_eq_true_eq]
    omega
theorem errDeed_slim {e d : Deed Code} {day : Int} (hs : Slim e d) (h : errDeed d day = 0) : errDeed e day = 0 := by
  have o := deedOk_of h
  unfold errDeed
  rw [hs.kind, hs.day, hs.stack, hs.other, ranged_slim o.a hs.a, ranged_slim o.b hs.b]
  unfold errDeed at h
  split at h; · cases h
  rename_i h1
  split at h; · cases h
  rename_i h2
  split at h; · cases h
  rename_i h3
  split at h; · cases h
  rename_i h4
  rw [if_neg h1, if_neg h2, if_neg h3, if_neg]
  simp only [not_or] at h4 ⊢
  exact ⟨by simp, by simp, h4.2.2⟩
theorem errDeeds_slim : ∀ {es ds : List (Deed Code)} {day : Int}, All2 Slim es ds → errDeeds day ds = 0 → errDeeds day es = 0
  | [], [], _, _, _ => rfl
  | e :: es, d :: ds, day, .cons hs hr, h => by
    rw [errDeeds_cons] at h ⊢
    split at h
    · rename_i h0
      rw [if_pos (errDeed_slim hs h0), hs.day]
      exact errDeeds_slim hr h
    · rename_i h0; exact absurd h h0
theorem errYard_slim {bef aft : Int} {es ds : List (Deed Code)} (hs : All2 Slim es ds) (h : errYard bef aft ds = 0) : errYard bef aft es = 0 := by
  obtain ⟨h1, h2, h3, h4⟩ := errYard_ok h
  unfold errYard
  rw [h1, h2, if_neg (by simp), if_neg (by rw [hs.length_eq]; omega)]
  exact errDeeds_slim hs h4
theorem narrower_of {e d : Deed Code} {day : Int} (hs : Slim e d) (h : errDeed d day = 0) : Narrower e d :=
  ⟨hs.kind, hs.day, hs.stack, hs.other, ⟨hs.a.1, hs.a.2.2⟩, ⟨hs.b.1, hs.b.2.2⟩, (fits_of (deedOk_of (errDeed_slim hs h))).fine, (fits_of (deedOk_of h)).fine⟩
theorem narrowers_of : ∀ {es ds : List (Deed Code)} {day : Int}, All2 Slim es ds → errDeeds day ds = 0 → All2 Narrower es ds
  | [], [], _, _, _ => .nil
  | e :: es, d :: ds, day, .cons hs hr, h => by
    rw [errDeeds_cons] at h
    split at h
    · rename_i h0
      exact .cons (narrower_of hs h0) (narrowers_of hr h)
    · rename_i h0; exact absurd h h0
end Go.Proofs.Ytbgojeppfhldjaa
namespace Go.Proofs.Ytbgojeppfhldjaa
open Go Go.RowKit Go.Shelf Yd

theorem total_cons {α : Type} (f : α → Int) (x : α) (l : List α) : total f (x :: l) = f x + total f l := by simp [total]
theorem total_bounds {α : Type} {f : α → Int} {B : Int} : ∀ {l : List α}, (∀ x ∈ l, 0 ≤ f x ∧ f x ≤ B) → 0 ≤ total f l ∧ total f l ≤ (l.length : Int) * B
  | [], _ => by simp [total]
  | x :: l, h => by
    have h1 := total_bounds (l := l) (fun y hy => h y (by simp [hy]))
    have h2 := h x (by simp)
    have h3 : ((l.length + 1 : Nat) : Int) * B = (l.length : Int) * B + B := by rw [Int.natCast_succ, Int.add_mul, Int.one_mul]
    rw [total_cons, List.length_cons, h3]
    omega
theorem total_at {α : Type} (f : α → Int) {l : List α} {i : Nat} {x : α} (h : l[i]? = some x) : total f (l.drop i) = f x + total f (l.drop (i + 1)) := by
  obtain ⟨hl, hx⟩ := List.getElem?_eq_some_iff.1 h
  rw [List.drop_eq_getElem_cons hl, total_cons, hx]
theorem piled_step {f : Deed Code → Int} {es : List (Deed Code)} {i : Nat} (h : i < es.length) : piledIn f (es.take (i + 1)) = piledIn f (es.take i) + (if es[i]!.kind = 1 then f es[i]! else 0) := by
  have : es.take (i + 1) = es.take i ++ [es[i]!] := by rw [getElem!_pos es i h, ← List.take_append_getElem h]
  unfold piledIn
  rw [this, total_append]
  simp [total]
theorem piled_zero {f : Deed Code → Int} {es : List (Deed Code)} : piledIn f (es.take 0) = 0 := by simp [piledIn, total]
theorem made_run {bef aft : Int} {es : List (Deed Code)} {K k : Nat} {s : St Code} {f : Int} (hf : Yd.follow bef aft es K = (s, k, f)) (hK : K ≤ es.length) : run bef aft .empty 0 (es.take k) = (s, k, 0) := by
  have h := (follow_made bef aft es K).resolve_right (by omega)
  rw [hf] at h
  simp only at h
  unfold Yd.follow at h
  rwa [List.take_take, Nat.min_self] at h
theorem exact_facts {bef aft : Int} {es : List (Deed Code)} {K k : Nat} {s : St Code} {f : Int} (hf : Yd.follow bef aft es K = (s, k, f)) (hK : K ≤ es.length) (hd : ∀ d ∈ es, d.Fine ∧ d.a.One ∧ d.b.One) :
    OneSt s ∧ total (fun x => x.dry.lo) s.stacks + s.acc.broth.lo + s.acc.dust.lo + s.acc.soldDry.lo = piledIn (fun d => d.a.lo) (es.take k)
      ∧ total (fun x => x.water.lo) s.stacks + s.acc.vapour.lo + s.acc.soldWater.lo = piledIn (fun d => d.b.lo) (es.take k) + s.acc.soaked.lo := by
  have hr := made_run hf hK
  have := exact_all (be := bef) (af := aft) (ds := es.take k) (fun d h => hd d (List.mem_of_mem_take h)) (by rw [hr])
  rw [hr] at this
  exact this
theorem one_at {s : St Code} (h : OneSt s) {x : Stk Code} (hx : x ∈ s.stacks) : OneStk x := by
  have h1 := h.stacks
  generalize s.stacks = l at h1 hx
  have : ∀ {l m : List (Stk Code)}, All2 (fun x _ => OneStk x) l m → ∀ x ∈ l, OneStk x := by
    intro l m h
    induction h with
    | nil => intro x hx; cases hx
    | cons h1 _ ih => intro x hx; exact (List.mem_cons.1 hx).elim (fun e => by rw [e]; exact h1) (fun h2 => ih x h2)
  exact this h1 x hx
theorem less_of {D T d R : Int} (h : D = T) (h2 : T = d + R) : D - d = R := by omega
theorem less_in {D T d R B : Int} (h : D = T) (h2 : T = d + R) (h3 : 0 ≤ R) (h4 : D ≤ B) (h5 : 0 ≤ d) : 0 ≤ D - d ∧ D - d ≤ B := by omega
end Go.Proofs.Ytbgojeppfhldjaa
namespace Go.Proofs.Ytbgojeppfhldjaa
open Go Go.RowKit Go.Shelf Yd

/-- The world behind w0: the blocks of L are new, of the call's own; the standings of S stand. -/
structure Locs (w0 W : World) (L : List (Nat × TypeId × List Value)) (S : List (List SRow × Value)) : Prop where
  low : Below w0.heap.size w0 W
  loc : ∀ e ∈ L, Blk W e.1 e.2.1 e.2.2.toArray ∧ w0.heap.size ≤ e.1
  nodup : (L.map (·.1)).Nodup
  stands : ∀ s ∈ S, Stands W s.1 s.2
  sep : ∀ s ∈ S, ∀ e ∈ L, s.2.ownBlock ≠ some e.1 ∧ ∀ p ∈ s.1, p.2.ownBlock ≠ some e.1

section
variable {w0 W W' : World} {L L' : List (Nat × TypeId × List Value)} {S S' : List (List SRow × Value)}

theorem Locs.start (w : World) : Locs w w [] [] := ⟨Below.refl _ _, by simp, .nil, by simp, by simp⟩
theorem Locs.below (h : Locs w0 W L S) (hb : Below W.heap.size W W') : Locs w0 W' L S :=
  ⟨h.low.trans (hb.mono h.low.size), fun e he => ⟨(h.loc e he).1.below hb, (h.loc e he).2⟩, h.nodup, fun s hs => (h.stands s hs).below hb, h.sep⟩
theorem Locs.drew (h : Locs w0 W L S) : Locs w0 W.drew L S := h.below ((Below.refl W.heap.size W).drew)
theorem mem_at {α : Type} {l : List α} {i : Nat} {a : α} (h : l[i]? = some a) : a ∈ l := List.mem_of_getElem? h
theorem Locs.blk (h : Locs w0 W L S) (i : Nat) {g : Nat} {t : TypeId} {cs : List Value} (hi : L[i]? = some (g, t, cs)) : Blk W g t cs.toArray := (h.loc _ (mem_at hi)).1
theorem Locs.at (h : Locs w0 W L S) (i o : Nat) {g : Nat} {t : TypeId} {cs : List Value} {v : Value} (hi : L[i]? = some (g, t, cs)) (ho : cs[o]? = some v) : W.cell? ⟨g, o, none⟩ = some v :=
  (h.blk i hi).at o v (by simpa using ho)
theorem Locs.far (h : Locs w0 W L S) (i : Nat) {g : Nat} {t : TypeId} {cs : List Value} (hi : L[i]? = some (g, t, cs)) : w0.heap.size ≤ g ∧ g < W.heap.size := ⟨(h.loc _ (mem_at hi)).2, (h.blk i hi).lt⟩
theorem Locs.stood (h : Locs w0 W L S) (i : Nat) {rows : List SRow} {tv : Value} (hi : S[i]? = some (rows, tv)) : Stands W rows tv := h.stands _ (mem_at hi)
/-- A cell of the call's own in any world that only new blocks part from this one. -/
theorem Locs.atB (h : Locs w0 W L S) (hb : Below W.heap.size W W') (i o : Nat) {g : Nat} {t : TypeId} {cs : List Value} {v : Value} (hi : L[i]? = some (g, t, cs)) (ho : cs[o]? = some v) : W'.cell? ⟨g, o, none⟩ = some v :=
  (h.below hb).at i o hi ho
theorem Locs.rangeB (h : Locs w0 W L S) (hb : Below W.heap.size W W') (i o : Nat) {g : Nat} {t : TypeId} {cs : List Value} (vs : List Value) (hi : L[i]? = some (g, t, cs)) (e : (cs.drop o).take vs.length = vs) : W'.rangeAt g o vs :=
  ((h.below hb).blk i hi).range o vs (by simpa using e)
theorem Locs.alloc (h : Locs w0 W L S) (t : TypeId) (cs : List Value) {g : Nat} (hg : W.heap.size = g) : Locs w0 (W.alloc (.cells cs.toArray t)) (L ++ [(g, t, cs)]) S := by
  subst hg
  refine ⟨h.low.alloc h.low.size _, fun e he => ?_, ?_, fun s hs => (h.stands s hs).same (fun k hk => Below.heap_alloc _ _ k hk), fun s hs e he => ?_⟩
  · rcases List.mem_append.1 he with h1 | h1
    · exact ⟨(h.loc e h1).1.alloc _, (h.loc e h1).2⟩
    · rw [List.mem_singleton.1 h1]; exact ⟨Blk.new W t _, h.low.size⟩
  · rw [List.map_append, List.nodup_append]
    refine ⟨h.nodup, by simp, fun a ha b hb => ?_⟩
    obtain ⟨x, hx, rfl⟩ := List.mem_map.1 ha
    have := (h.loc x hx).1.lt
    simp at hb
    omega
  · rcases List.mem_append.1 he with h1 | h1
    · exact h.sep s hs e h1
    · rw [List.mem_singleton.1 h1]
      exact ⟨fun e2 => absurd (row_lt (h.stands s hs).things e2) (Nat.lt_irrefl _), fun p hp e2 => absurd (row_lt ((h.stands s hs).froms p hp) e2) (Nat.lt_irrefl _)⟩
theorem Locs.perm (h : Locs w0 W L S) (hp : L'.Perm L) : Locs w0 W L' S :=
  ⟨h.low, fun e he => h.loc e (hp.mem_iff.1 he), (hp.map _).nodup_iff.2 h.nodup, h.stands, fun s hs e he => h.sep s hs e (hp.mem_iff.1 he)⟩
/-- Fewer blocks, fewer standings. -/
theorem Locs.fewer (h : Locs w0 W L S) (hl : L'.Sublist L) (hs : S'.Sublist S) : Locs w0 W L' S' :=
  ⟨h.low, fun e he => h.loc e (hl.subset he), h.nodup.sublist (hl.map _), fun s h1 => h.stands s (hs.subset h1), fun s h1 e he => h.sep s (hs.subset h1) e (hl.subset he)⟩
theorem Locs.tail (h : Locs w0 W (L ++ L') S) : Locs w0 W L S := h.fewer (List.sublist_append_left _ _) (List.Sublist.refl _)
theorem Locs.tailS (h : Locs w0 W L (S ++ S')) : Locs w0 W L S := h.fewer (List.Sublist.refl _) (List.sublist_append_left _ _)
/-- A standing that a call leaves. -/
theorem Locs.stand (h : Locs w0 W L S) (hb : Below W.heap.size W W') {rows : List SRow} {tv : Value} (hs : Stands W' rows tv) (ht : (L.all fun e => decide (e.2.1 ≠ 48 ∧ e.2.1 ≠ 3)) = true) : Locs w0 W' L (S ++ [(rows, tv)]) := by
  have h' := h.below hb
  refine ⟨h'.low, h'.loc, h'.nodup, fun s h1 => ?_, fun s h1 e he => ?_⟩
  · rcases List.mem_append.1 h1 with h2 | h2
    · exact h'.stands s h2
    · rw [List.mem_singleton.1 h2]; exact hs
  · rcases List.mem_append.1 h1 with h2 | h2
    · exact h'.sep s h2 e he
    · rw [List.mem_singleton.1 h2]
      have h3 := List.all_eq_true.1 ht e he
      simp only [decide_eq_true_eq] at h3
      exact ⟨((h'.loc e he).1.notRow hs.things h3.1).symm, fun p hp => ((h'.loc e he).1.notRow (hs.froms p hp) h3.2).symm⟩
/-- A store into a block of the call's own. -/
theorem Locs.setLoc (h : Locs w0 W L S) (i : Nat) {g : Nat} {t : TypeId} (pre old post vs : List Value) (hi : L[i]? = some (g, t, pre ++ old ++ post)) (hl : old.length = vs.length) : Locs w0 (W.setCells g pre.length vs) (L.set i (g, t, pre ++ vs ++ post)) S := by
  obtain ⟨hb, hg⟩ := h.loc _ (mem_at hi)
  have hil : i < L.length := (List.getElem?_eq_some_iff.1 hi).1
  have hs : ∀ k, k ≠ g → (W.setCells g pre.length vs).heap[k]? = W.heap[k]? := fun k hk => heap_setCells W g hk vs _
  have hnd : ∀ (l : List (Nat × TypeId × List Value)) (i j : Nat) (a b : Nat × TypeId × List Value), (l.map (·.1)).Nodup → l[i]? = some a → l[j]? = some b → a.1 = b.1 → i = j := by
    intro l i j a b hn ha hb e
    have hil := (List.getElem?_eq_some_iff.1 ha).1
    have hjl := (List.getElem?_eq_some_iff.1 hb).1
    have hn := List.pairwise_iff_getElem.1 hn
    have e1 : (l.map (·.1))[i]'(by simpa using hil) = a.1 := by rw [List.getElem_map, (List.getElem?_eq_some_iff.1 ha).2]
    have e2 : (l.map (·.1))[j]'(by simpa using hjl) = b.1 := by rw [List.getElem_map, (List.getElem?_eq_some_iff.1 hb).2]
    rcases Nat.lt_trichotomy i j with h3 | h3 | h3
    · exact absurd (e1.trans (e.trans e2.symm)) (hn i j (by simpa using hil) (by simpa using hjl) h3)
    · exact h3
    · exact absurd (e2.trans (e.symm.trans e1.symm)) (hn j i (by simpa using hjl) (by simpa using hil) h3)
  have hm : ∀ e ∈ L.set i (g, t, pre ++ vs ++ post), e = (g, t, pre ++ vs ++ post) ∨ (e ∈ L ∧ e.1 ≠ g) := fun e he => by
    obtain ⟨j, hj⟩ := List.mem_iff_getElem?.1 he
    by_cases e2 : j = i
    · subst e2
      rw [List.getElem?_set_self hil] at hj
      cases hj
      exact .inl rfl
    · rw [List.getElem?_set_ne (Ne.symm e2)] at hj
      exact .inr ⟨mem_at hj, fun e3 => e2 (hnd L j i _ _ h.nodup hj hi e3)⟩
  refine ⟨below_setCells h.low hg vs _, fun e he => ?_, ?_, fun s h1 => ?_, fun s h1 e he => ?_⟩
  · rcases hm e he with rfl | ⟨h1, h2⟩
    · exact ⟨hb.storedMid pre old post vs hl, hg⟩
    · exact ⟨(h.loc e h1).1.apart h2 _ _, (h.loc e h1).2⟩
  · have : (L.set i (g, t, pre ++ vs ++ post)).map (·.1) = L.map (·.1) := by
      rw [List.map_set]
      refine List.ext_getElem? fun j => ?_
      by_cases e : i = j
      · subst e
        rw [List.getElem?_set_self (by simpa using hil), List.getElem?_map, hi]
        rfl
      · rw [List.getElem?_set_ne e]
    rw [this]
    exact h.nodup
  · have h2 := h.sep s h1 _ (mem_at hi)
    have h3 := h.stands s h1
    exact ⟨row_same h3.things (fun k hk => hs k (fun e => h2.1 (by rw [hk, e]))), fun p hp => row_same (h3.froms p hp) (fun k hk => hs k (fun e => h2.2 p hp (by rw [hk, e]))), h3.fromsLen, h3.codes, h3.sizes, h3.few⟩
  · rcases hm e he with rfl | ⟨h2, _⟩
    · have h2 := h.sep s h1 _ (mem_at hi)
      exact h2
    · exact h.sep s h1 e h2
theorem Locs.put (h : Locs w0 W L S) (i o : Nat) (vs : List Value) (hi : decide (i < L.length ∧ o + vs.length ≤ (L.getD i (0, 0, [])).2.2.length) = true) : Locs w0 (W.setCells (L.getD i (0, 0, [])).1 o vs) (L.set i ((L.getD i (0, 0, [])).1, (L.getD i (0, 0, [])).2.1, (L.getD i (0, 0, [])).2.2.take o ++ vs ++ (L.getD i (0, 0, [])).2.2.drop (o + vs.length))) S := by
  obtain ⟨hi, hl⟩ := of_decide_eq_true hi
  have e0 : L[i]? = some (L.getD i (0, 0, [])) := by rw [List.getD_eq_getElem?_getD, List.getElem?_eq_getElem hi]; rfl
  generalize L.getD i (0, 0, []) = x at e0 hl ⊢
  obtain ⟨g, t, cs⟩ := x
  have e : L[i]? = some (g, t, cs.take o ++ (cs.drop o).take vs.length ++ cs.drop (o + vs.length)) := by
    rw [e0, List.append_assoc, ← List.drop_drop, List.take_append_drop, List.take_append_drop]
  have := h.setLoc i _ _ _ vs e (by rw [List.length_take, List.length_drop]; simp only at hl; omega)
  rwa [List.length_take, Nat.min_eq_left (by simp only at hl; omega)] at this
theorem Locs.setLoc1 (h : Locs w0 W L S) (i : Nat) {g : Nat} {t : TypeId} (pre post : List Value) (old v : Value) (o : Nat) (ho : pre.length = o) (hi : L[i]? = some (g, t, pre ++ [old] ++ post)) : Locs w0 (W.setCell ⟨g, o, none⟩ v) (L.set i (g, t, pre ++ [v] ++ post)) S := by
  subst ho
  exact h.setLoc i pre [old] post [v] hi rfl
theorem Locs.there (h : Locs w0 W L S) (i : Nat) {g : Nat} {t : TypeId} {cs : List Value} {o n : Nat} (hi : L[i]? = some (g, t, cs)) (hn : o + n ≤ cs.length) : W.there g o n := (h.blk i hi).there (by simpa using hn)
theorem Locs.frozen (h : Locs w0 W L S) (i : Nat) {g : Nat} {t : TypeId} {cs : List Value} (hi : L[i]? = some (g, t, cs)) (o : Nat) : W.frozen? ⟨g, o, none⟩ = false := (h.blk i hi).frozen o
end
theorem yard_ones (bef aft : Int) (a : Option Addr) (n c : Nat) : (#[.int .i64 bef, .int .i64 aft, .slice a n c] : Array Value).all (·.oneCell') = true := by simp [Value.oneCell']
def standVals (tv : Value) (acc : Yd.Acc) : List Value := tv :: accCells acc
theorem stand_ones (a : Option Addr) (n c : Nat) (acc : Yd.Acc) : ((Value.slice a n c :: accCells acc).toArray).all (·.oneCell') = true := by
  obtain ⟨⟨_, _⟩, ⟨_, _⟩, ⟨_, _⟩, ⟨_, _⟩, ⟨_, _⟩, ⟨_, _⟩⟩ := acc
  simp [accCells, Value.oneCell']
/-- What a law leaves: true, and nothing of what was there has turned. -/
def LawDone (w : World) (e : Ending) (w' : World) : Prop := e = .returned (.bool true) ∧ Below w.heap.size w w'
theorem lawDone {w w' : World} (h : Below w.heap.size w w') : LawDone w (.returned (.bool true)) w' := ⟨rfl, h⟩
theorem mod_nat {x : Int} {n : Nat} (hx : 0 ≤ x) : ∃ K : Nat, K ≤ n ∧ x.tmod ((n : Int) + 1) = (K : Int) := by
  have h1 := Int.emod_nonneg x (show (n : Int) + 1 ≠ 0 by omega)
  have h2 := Int.emod_lt_of_pos x (show (0 : Int) < (n : Int) + 1 by omega)
  exact ⟨(x % ((n : Int) + 1)).toNat, by omega, by rw [Int.tmod_eq_emod_of_nonneg hx]; omega⟩
theorem slim_sizes {es ds : List (Deed Code)} (h : All2 Slim es ds) (hs : ∀ d ∈ ds, d.stack.size ≤ maxLen ∧ d.other.size ≤ maxLen) : ∀ d ∈ es, d.stack.size ≤ maxLen ∧ d.other.size ≤ maxLen := by
  induction h with
  | nil => intro d hd; cases hd
  | cons h1 _ ih =>
    intro d hd
    rcases List.mem_cons.1 hd with rfl | h2
    · rw [h1.stack, h1.other]; exact hs _ (by simp)
    · exact ih (fun d hd => hs d (by simp [hd])) d h2
end Go.Proofs.Ytbgojeppfhldjaa
