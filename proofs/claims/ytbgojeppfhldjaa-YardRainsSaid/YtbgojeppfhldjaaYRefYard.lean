/- Which yards the statements pass over. The document's check of a yard. -/
import Derived.Test.YtbgojeppfhldjaaYHeld
namespace Go.Proofs.Ytbgojeppfhldjaa
open Go Go.RowKit Go.Shelf Yd

def longB (d : Deed Code) : Bool := decide (100 < wrap64 ((d.stack.size : Int) + (d.other.size : Int)))
def greatB (ds : List (Deed Code)) : Bool := decide (12 < ds.length ∧ ds.length ≤ 40 ∨ 60 < ds.length) || ds.any longB

set_option maxRecDepth 100000 in
set_option maxHeartbeats 1000000 in
theorem great_calls (bef aft : Int) (v : Value) (ds : List (Deed Code)) (w : World) (h : Held w.heap.size w 8 deedCells v ds) :
    Calls Try.prog 15 #[.agg #[.int .i64 bef, .int .i64 aft, v]] w fun e w' => e = .returned (.bool (greatB ds)) ∧ Below w.heap.size w w' := by
  obtain ⟨a, c, rfl, hmax, hcs⟩ := h.slice
  have HCS := Lib.hid hcs
  obtain ⟨n, hn⟩ : ∃ n, n = ds.length := ⟨_, rfl⟩
  have HN := Lib.hid hn
  rw [← hn] at hmax ⊢
  have HK0 := Lib.hid (Blk.new w 43 #[.int .i64 bef, .int .i64 aft, .slice a n c])
  have HW0 := Lib.hid ((Below.refl w.heap.size w).alloc (Nat.le_refl _) (.cells #[.int .i64 bef, .int .i64 aft, .slice a n c] 43))
  have hz0 : (w.alloc (.cells #[.int .i64 bef, .int .i64 aft, .slice a n c] 43)).heap.size = w.heap.size + 1 := World.size_alloc _ _
  clear h hcs hn
  by_cases hbig : 12 < n ∧ n ≤ 40 ∨ 60 < n
  · have HG := Lib.hid (show greatB ds = true from by unfold greatB; rw [← HN.out]; simp [hbig])
    rw [HG.out]
    rcases Nat.lt_or_ge 60 n with h60 | h60
    · have d1 : decide ((12 : Int) < (n : Int)) = true := by simp; omega
      have d2 : decide ((n : Int) ≤ 40) = false := by simp; omega
      have d3 : decide ((60 : Int) < (n : Int)) = true := by simp; omega
      clear hbig h60
      go_enter Try.func15, Try.ntmps15
      go_wp2
      go_ret
      exact ⟨rfl, HW0.out⟩
    · have d1 : decide ((12 : Int) < (n : Int)) = true := by simp; omega
      have d2 : decide ((n : Int) ≤ 40) = true := by simp; omega
      clear hbig h60
      go_enter Try.func15, Try.ntmps15
      go_wp2
      go_ret
      exact ⟨rfl, HW0.out⟩
  · have HG := Lib.hid (show greatB ds = ds.any longB from by unfold greatB; rw [← HN.out]; simp [hbig])
    rw [HG.out]
    have hn60 : n ≤ 60 := by omega
    obtain ⟨g, hg⟩ : ∃ g, g = w.heap.size := ⟨_, rfl⟩
    go_enter Try.func15, Try.ntmps15
    by_cases h12 : 12 < n
    · have d1 : decide ((12 : Int) < (n : Int)) = true := by simp; omega
      have d2 : decide ((n : Int) ≤ 40) = false := by simp; omega
      have d3 : decide ((60 : Int) < (n : Int)) = false := by simp; omega
      clear hbig
      go_wp2
      go_loopw [3] (fun iv wr => ∃ (k : Nat), k ≤ n ∧ iv = .int .i64 k ∧ Hid (ds.any longB = (ds.drop k).any longB) ∧ Hid (Blk wr w.heap.size 43 #[.int .i64 bef, .int .i64 aft, .slice a n c]) ∧ Hid (Below w.heap.size w wr)) (fun iv _ => n - (intOf iv).toNat)
      case atStart => exact ⟨0, Nat.zero_le _, rfl, Lib.hid rfl, HK0, HW0⟩
      case round =>
        obtain ⟨k, hk, rfl, HA, HK, HB⟩ := hrel
        by_cases hlt : k < n
        · obtain ⟨b, off, rfl, hbl, ⟨hnc, hcm⟩, hcells⟩ := HCS.out (by rw [← HN.out]; omega)
          have hlt' : k < ds.length := by rw [← HN.out]; exact hlt
          have y2 := HK.out.at 2 _ rfl
          have q0 := cell_regrown y2
          have hand := HA.out
          rw [drop_get hlt', List.any_cons] at hand
          obtain ⟨⟨kind, dy, code, other, ⟨al, ah⟩, ⟨bl, bh⟩⟩, hd⟩ : ∃ d, d = ds[k]! := ⟨_, rfl⟩
          have hd := hd.symm
          rw [hd] at hand
          have q2 := cell_regrown (show wr.cell? ⟨b, off + k * 8 + 2, none⟩ = some (.string code) from (HB.out.cell (p := ⟨b, off + k * 8 + 2, none⟩) hbl).trans (hcells k hlt' 2 _ (by rw [hd]; rfl)))
          have q3 := cell_regrown (show wr.cell? ⟨b, off + k * 8 + 3, none⟩ = some (.string other) from (HB.out.cell (p := ⟨b, off + k * 8 + 3, none⟩) hbl).trans (hcells k hlt' 3 _ (by rw [hd]; rfl)))
          have hkI : (k : Int) < (n : Int) := by omega
          clear hcells hd
          go_upto_region 6 with (fail)
          refine wp_region_quiet_below (by kernel_rfl) (by kernel_rfl) ?_
          repeat (go_big_quiet_step (fail))
          refine wpQuiet_nil ?_
          intro v0 hw'
          have hb8 : Below wr.heap.size wr v0 := by obtain ⟨⟨dq, osq⟩, hw''⟩ := hw'; rw [hw'']; exact below_regrown wr dq osq
          have HK8 := Lib.hid (HK.out.below hb8)
          have HB8 := Lib.hid (HB.out.trans (hb8.mono HB.out.size))
          clear hw' q0 q2 q3 y2 hb8
          clear HA
          go_wp2
          · rename_i hL
            have HR := Lib.hid (show ds.any longB = true from by rw [hand, show longB ⟨kind, dy, code, other, ⟨al, ah⟩, ⟨bl, bh⟩⟩ = true from by unfold longB; simp only; exact decide_eq_true hL]; rfl)
            go_ret
            exact ⟨by rw [HR.out]; rfl, HB8.out⟩
          · rename_i hL
            have HR := Lib.hid (show ds.any longB = (ds.drop (k + 1)).any longB from by rw [hand, show longB ⟨kind, dy, code, other, ⟨al, ah⟩, ⟨bl, bh⟩⟩ = false from by unfold longB; simp only; exact decide_eq_false (by omega)]; rfl)
            go_roundw
            case rel => exact ⟨k + 1, by omega, by go_num, HR, HK8, HB8⟩
            case measure => simp [intOf]; omega
        · have hkn : k = n := by omega
          subst hkn
          have HR := Lib.hid (show ds.any longB = false from by rw [HA.out, HN.out, List.drop_length]; rfl)
          have q0 := HK.out.at 2 _ rfl
          go_wp2
          go_ret
          exact ⟨by rw [HR.out]; rfl, HB.out⟩
    · have d1 : decide ((12 : Int) < (n : Int)) = false := by simp; omega
      have d3 : decide ((60 : Int) < (n : Int)) = false := by simp; omega
      clear hbig
      go_wp2
      go_loopw [3] (fun iv wr => ∃ (k : Nat), k ≤ n ∧ iv = .int .i64 k ∧ Hid (ds.any longB = (ds.drop k).any longB) ∧ Hid (Blk wr w.heap.size 43 #[.int .i64 bef, .int .i64 aft, .slice a n c]) ∧ Hid (Below w.heap.size w wr)) (fun iv _ => n - (intOf iv).toNat)
      case atStart => exact ⟨0, Nat.zero_le _, rfl, Lib.hid rfl, HK0, HW0⟩
      case round =>
        obtain ⟨k, hk, rfl, HA, HK, HB⟩ := hrel
        by_cases hlt : k < n
        · obtain ⟨b, off, rfl, hbl, ⟨hnc, hcm⟩, hcells⟩ := HCS.out (by rw [← HN.out]; omega)
          have hlt' : k < ds.length := by rw [← HN.out]; exact hlt
          have y2 := HK.out.at 2 _ rfl
          have q0 := cell_regrown y2
          have hand := HA.out
          rw [drop_get hlt', List.any_cons] at hand
          obtain ⟨⟨kind, dy, code, other, ⟨al, ah⟩, ⟨bl, bh⟩⟩, hd⟩ : ∃ d, d = ds[k]! := ⟨_, rfl⟩
          have hd := hd.symm
          rw [hd] at hand
          have q2 := cell_regrown (show wr.cell? ⟨b, off + k * 8 + 2, none⟩ = some (.string code) from (HB.out.cell (p := ⟨b, off + k * 8 + 2, none⟩) hbl).trans (hcells k hlt' 2 _ (by rw [hd]; rfl)))
          have q3 := cell_regrown (show wr.cell? ⟨b, off + k * 8 + 3, none⟩ = some (.string other) from (HB.out.cell (p := ⟨b, off + k * 8 + 3, none⟩) hbl).trans (hcells k hlt' 3 _ (by rw [hd]; rfl)))
          have hkI : (k : Int) < (n : Int) := by omega
          clear hcells hd
          go_upto_region 6 with (fail)
          refine wp_region_quiet_below (by kernel_rfl) (by kernel_rfl) ?_
          repeat (go_big_quiet_step (fail))
          refine wpQuiet_nil ?_
          intro v0 hw'
          have hb8 : Below wr.heap.size wr v0 := by obtain ⟨⟨dq, osq⟩, hw''⟩ := hw'; rw [hw'']; exact below_regrown wr dq osq
          have HK8 := Lib.hid (HK.out.below hb8)
          have HB8 := Lib.hid (HB.out.trans (hb8.mono HB.out.size))
          clear hw' q0 q2 q3 y2 hb8
          clear HA
          go_wp2
          · rename_i hL
            have HR := Lib.hid (show ds.any longB = true from by rw [hand, show longB ⟨kind, dy, code, other, ⟨al, ah⟩, ⟨bl, bh⟩⟩ = true from by unfold longB; simp only; exact decide_eq_true hL]; rfl)
            go_ret
            exact ⟨by rw [HR.out]; rfl, HB8.out⟩
          · rename_i hL
            have HR := Lib.hid (show ds.any longB = (ds.drop (k + 1)).any longB from by rw [hand, show longB ⟨kind, dy, code, other, ⟨al, ah⟩, ⟨bl, bh⟩⟩ = false from by unfold longB; simp only; exact decide_eq_false (by omega)]; rfl)
            go_roundw
            case rel => exact ⟨k + 1, by omega, by go_num, HR, HK8, HB8⟩
            case measure => simp [intOf]; omega
        · have hkn : k = n := by omega
          subst hkn
          have HR := Lib.hid (show ds.any longB = false from by rw [HA.out, HN.out, List.drop_length]; rfl)
          have q0 := HK.out.at 2 _ rfl
          go_wp2
          go_ret
          exact ⟨by rw [HR.out]; rfl, HB.out⟩
end Go.Proofs.Ytbgojeppfhldjaa
namespace Go.Proofs.Ytbgojeppfhldjaa
open Go Go.RowKit Go.Shelf Yd

set_option maxRecDepth 100000 in
set_option maxHeartbeats 2000000 in
theorem refYard_calls (bef aft : Int) (v : Value) (ds : List (Deed Code)) (w : World) (h : Held w.heap.size w 8 deedCells v ds) :
    Calls Try.prog 16 #[.agg #[.int .i64 bef, .int .i64 aft, v]] w fun e w' => e = .returned (.int .i64 (errYard bef aft ds)) ∧ Below w.heap.size w w' := by
  obtain ⟨a, c, rfl, hmax, hcs⟩ := h.slice
  have HCS0 := Lib.hid hcs
  clear h hcs
  obtain ⟨n, hn⟩ : ∃ n, n = ds.length := ⟨_, rfl⟩
  rw [← hn] at hmax ⊢
  have HN := Lib.hid hn
  have HB0 := Lib.hid ((Below.refl w.heap.size w).alloc (Nat.le_refl _) (.cells #[.int .i64 bef, .int .i64 aft, .slice a n c] 43))
  have HK0 := Lib.hid (Blk.new w 43 #[.int .i64 bef, .int .i64 aft, .slice a n c])
  by_cases h1 : inB bef 0 400 = false
  · have HE := Lib.hid (show errYard bef aft ds = 1 from by unfold errYard; rw [if_pos (.inl h1)])
    clear hn
    go_enter Try.func16, Try.ntmps16
    go_wp2_with (go_at_call 30; refine (in_calls _ _ _ _).mono ?_; rintro e w' ⟨rfl, rfl⟩)
    go_ret
    exact ⟨by rw [HE.out]; rfl, HB0.out⟩
  have h1' : inB bef 0 400 = true := by simpa using h1
  by_cases h2 : inB aft 0 400 = false
  · have HE := Lib.hid (show errYard bef aft ds = 1 from by unfold errYard; rw [if_pos (.inr h2)])
    clear hn
    go_enter Try.func16, Try.ntmps16
    go_wp2_with (go_at_call 30; refine (in_calls _ _ _ _).mono ?_; rintro e w' ⟨rfl, rfl⟩)
    go_ret
    exact ⟨by rw [HE.out]; rfl, HB0.out⟩
  have h2' : inB aft 0 400 = true := by simpa using h2
  by_cases h3 : 40 < n
  · have HE := Lib.hid (show errYard bef aft ds = 2 from by unfold errYard; rw [if_neg (by simp [h1, h2]), if_pos (by omega)])
    have d3 : decide ((40 : Int) < (n : Int)) = true := by simp; omega
    clear hn
    go_enter Try.func16, Try.ntmps16
    go_wp2_with (go_at_call 30; refine (in_calls _ _ _ _).mono ?_; rintro e w' ⟨rfl, rfl⟩)
    go_ret
    exact ⟨by rw [HE.out]; rfl, HB0.out⟩
  have HE := Lib.hid (show errYard bef aft ds = errDeeds 0 ds from by unfold errYard; rw [if_neg (by simp [h1, h2]), if_neg (by omega)])
  have d3 : decide ((40 : Int) < (n : Int)) = false := by simp; omega
  have hn40 : n ≤ 40 := by omega
  clear hn h1 h2 h3 hmax
  go_enter Try.func16, Try.ntmps16
  go_wp2_with (go_at_call 30; refine (in_calls _ _ _ _).mono ?_; rintro e w' ⟨rfl, rfl⟩)
  clear h1' h2' d3
  go_loopw [3, 4] (fun dv iv wr => ∃ (k : Nat) (day : Int), k ≤ n ∧ iv = .int .i64 k ∧ dv = .int .i64 day ∧ Hid (errDeeds day (ds.drop k) = errDeeds 0 ds) ∧ Hid (Below w.heap.size w wr) ∧ Hid (Blk wr w.heap.size 43 #[.int .i64 bef, .int .i64 aft, .slice a n c])) (fun _ iv _ => n - (intOf iv).toNat)
  case atStart => exact ⟨0, 0, Nat.zero_le _, rfl, rfl, Lib.hid (by rw [List.drop_zero]), HB0, HK0⟩
  case round =>
    obtain ⟨k, day, hk, rfl, rfl, HD, HB, HK⟩ := hrel
    have y2 := HK.out.at 2 _ rfl
    have hzr : w.heap.size < wr.heap.size := HK.out.lt
    by_cases hlt0 : k < n
    · obtain ⟨b, off, rfl, hbl, ⟨hnc, hcm⟩, hcells⟩ := HCS0.out (by rw [← HN.out]; omega)
      have hlt : k < ds.length := by rw [← HN.out]; exact hlt0
      have HCS := Lib.hid hcells
      have HBL := Lib.hid hbl
      rw [← HN.out] at hnc
      have hdrop := drop_get hlt
      obtain ⟨⟨kind, dy, code, other, ⟨al, ah⟩, ⟨bl, bh⟩⟩, hd⟩ : ∃ d, d = ds[k]! := ⟨_, rfl⟩
      have hd := hd.symm
      rw [hd] at hdrop
      have c0 := (show wr.cell? ⟨b, off + k * 8, none⟩ = some (.int .i64 kind) from (HB.out.cell (p := ⟨b, off + k * 8 + 0, none⟩) HBL.out).trans (HCS.out k hlt 0 _ (by rw [hd]; rfl)))
      have c1 := (show wr.cell? ⟨b, off + k * 8 + 1, none⟩ = some (.int .i64 dy) from (HB.out.cell (p := ⟨b, off + k * 8 + 1, none⟩) HBL.out).trans (HCS.out k hlt 1 _ (by rw [hd]; rfl)))
      have c2 := (show wr.cell? ⟨b, off + k * 8 + 2, none⟩ = some (.string code) from (HB.out.cell (p := ⟨b, off + k * 8 + 2, none⟩) HBL.out).trans (HCS.out k hlt 2 _ (by rw [hd]; rfl)))
      have c3 := (show wr.cell? ⟨b, off + k * 8 + 3, none⟩ = some (.string other) from (HB.out.cell (p := ⟨b, off + k * 8 + 3, none⟩) HBL.out).trans (HCS.out k hlt 3 _ (by rw [hd]; rfl)))
      have c4 := (show wr.cell? ⟨b, off + k * 8 + 4, none⟩ = some (.int .i64 al) from (HB.out.cell (p := ⟨b, off + k * 8 + 4, none⟩) HBL.out).trans (HCS.out k hlt 4 _ (by rw [hd]; rfl)))
      have c5 := (show wr.cell? ⟨b, off + k * 8 + 5, none⟩ = some (.int .i64 ah) from (HB.out.cell (p := ⟨b, off + k * 8 + 5, none⟩) HBL.out).trans (HCS.out k hlt 5 _ (by rw [hd]; rfl)))
      have c6 := (show wr.cell? ⟨b, off + k * 8 + 6, none⟩ = some (.int .i64 bl) from (HB.out.cell (p := ⟨b, off + k * 8 + 6, none⟩) HBL.out).trans (HCS.out k hlt 6 _ (by rw [hd]; rfl)))
      have c7 := (show wr.cell? ⟨b, off + k * 8 + 7, none⟩ = some (.int .i64 bh) from (HB.out.cell (p := ⟨b, off + k * 8 + 7, none⟩) HBL.out).trans (HCS.out k hlt 7 _ (by rw [hd]; rfl)))
      obtain ⟨er, her⟩ : ∃ er, er = errDeed (⟨kind, dy, code, other, ⟨al, ah⟩, ⟨bl, bh⟩⟩ : Deed Code) day := ⟨_, rfl⟩
      have HER := Lib.hid her.symm
      have HDR := Lib.hid hdrop
      have hkI : (k : Int) < (n : Int) := by omega
      clear hcells hbl hdrop hd her hlt
      by_cases he : er = 0
      · subst he
        go_wp2_with (go_at_call 31; refine (refDeed_calls kind dy day code other al ah bl bh _).mono ?_; rintro e w2 ⟨rfl, hb2⟩; rw [HER.out]; have HB2 := Lib.hid (HB.out.trans (hb2.mono HB.out.size)); have HK2 := Lib.hid (HK.out.below hb2); have y2' := HK2.out.at 2 _ rfl; have e1 := (hb2.cell (p := ⟨b, off + k * 8 + 1, none⟩) (Nat.lt_of_lt_of_le HBL.out HB.out.size)).trans c1; clear hb2)
        go_roundw
        case rel => exact ⟨k + 1, dy, by omega, by go_num, rfl, Lib.hid (by have h := HD.out; rw [HDR.out, errDeeds_cons, if_pos HER.out] at h; exact h), HB2, HK2⟩
        case measure => simp [intOf]; omega
      · have ne1 : (er == 0) = false := by simpa using he
        have ne2 : (er != 0) = true := by simpa using he
        have HNE := Lib.hid he
        clear he
        go_wp2_with (go_at_call 31; refine (refDeed_calls kind dy day code other al ah bl bh _).mono ?_; rintro e w2 ⟨rfl, hb2⟩; rw [HER.out]; have HB2 := Lib.hid (HB.out.trans (hb2.mono HB.out.size)); clear hb2)
        go_ret
        refine ⟨ret_int ?_, HB2.out⟩
        have h := HD.out
        rw [HDR.out, errDeeds_cons] at h
        rw [if_neg (by rw [HER.out]; exact HNE.out), HER.out] at h
        rw [HE.out, ← h]
    · have hkn : k = n := by omega
      subst hkn
      go_wp2
      go_ret
      refine ⟨ret_int ?_, HB.out⟩
      have h := HD.out
      rw [List.drop_of_length_le (by rw [← HN.out]; omega)] at h
      rw [HE.out, ← h]
      rfl
end Go.Proofs.Ytbgojeppfhldjaa
