/- A form's bounds, where a deed has them. A deed without an error passes the program's check. A yard without an error passes the program's check. -/
import Derived.Test.YtbgojeppfhldjaaYRefYard
import Derived.Lib.QuietBelow
namespace Go.Proofs.Ytbgojeppfhldjaa
open Go Go.RowKit Go.Shelf Yd

set_option maxRecDepth 100000 in
set_option maxHeartbeats 2000000 in
theorem hasBounds_0 (kind kind2 dy : Int) (s : ByteArray) (bo : Bool) (fn : Fn) (code other : Code) (ma : Option Addr) (w : World) :
    Calls Try.prog 56 #[.agg #[.int .i64 kind, .string s, .bool bo, .slice ma 0 0, .func fn #[] #[]], .agg #[.int .i64 kind2, .int .i64 dy, .string code, .string other, .int .i64 0, .int .i64 0, .int .i64 0, .int .i64 0]] w fun e w' => e = .returned (.bool true) ∧ Below w.heap.size w w' := by
  have HB0 := Lib.hid (show Below w.heap.size w ((w.alloc (.cells #[.int .i64 kind, .string s, .bool bo, .slice ma 0 0, .func fn #[] #[]] 90)).alloc (.cells #[.int .i64 kind2, .int .i64 dy, .string code, .string other, .int .i64 0, .int .i64 0, .int .i64 0, .int .i64 0] 57)) from ((Below.refl w.heap.size w).alloc (Nat.le_refl _) _).alloc (by rw [World.size_alloc]; omega) _)
  have HK0 := Lib.hid ((Blk.new w 90 #[.int .i64 kind, .string s, .bool bo, .slice ma 0 0, .func fn #[] #[]]).alloc (.cells #[.int .i64 kind2, .int .i64 dy, .string code, .string other, .int .i64 0, .int .i64 0, .int .i64 0, .int .i64 0] 57))
  have i0 : ∀ w : World, (Instr.index 110 (.agg #[.int .i64 0, .int .i64 0, .int .i64 0, .int .i64 0]) (.int .i64 0)).run Try.prog w = .ok (.agg #[.int .i64 0, .int .i64 0]) w := fun _ => by kernel_rfl
  have i1 : ∀ w : World, (Instr.index 110 (.agg #[.int .i64 0, .int .i64 0, .int .i64 0, .int .i64 0]) (.int .i64 1)).run Try.prog w = .ok (.agg #[.int .i64 0, .int .i64 0]) w := fun _ => by kernel_rfl
  go_enter Try.func56, Try.ntmps56
  go_wp2
  go_loopw [12] (fun v wr => ∃ k : Nat, k ≤ 2 ∧ v = .int .i64 k ∧ Hid (Below w.heap.size w wr) ∧ Hid (Blk wr w.heap.size 90 #[.int .i64 kind, .string s, .bool bo, .slice ma 0 0, .func fn #[] #[]])) (fun v _ => 2 - (intOf v).toNat)
  case atStart => exact ⟨0, by omega, rfl, HB0, HK0⟩
  case round =>
    obtain ⟨k, hk, rfl, HB, HK⟩ := hrel
    have y3 := HK.out.at 3 (.slice ma 0 0) rfl
    have hzr : w.heap.size < wr.heap.size := HK.out.lt
    have hcase : k = 0 ∨ k = 1 ∨ k = 2 := by omega
    rcases hcase with rfl | rfl | rfl
    · go_wp2
      go_roundw
      case rel => exact ⟨1, by omega, rfl, Lib.hid (HB.out.alloc HB.out.size _), Lib.hid (HK.out.alloc _)⟩
      case measure => simp [intOf]
    · go_wp2
      go_roundw
      case rel => exact ⟨2, by omega, rfl, Lib.hid (HB.out.alloc HB.out.size _), Lib.hid (HK.out.alloc _)⟩
      case measure => simp [intOf]
    · go_wp2
      go_ret
      exact ⟨rfl, HB.out⟩

set_option maxRecDepth 100000 in
set_option maxHeartbeats 2000000 in
theorem hasBounds_1 (kind kind2 dy : Int) (s : ByteArray) (bo : Bool) (fn : Fn) (code other : Code) (al ah x : Int) (g : Nat) (w : World) (hg : Blk w g 3 #[.int .i64 x]) (hb : boundsB al ah 0 x = true) :
    Calls Try.prog 56 #[.agg #[.int .i64 kind, .string s, .bool bo, .slice (some ⟨g, 0, none⟩) 1 1, .func fn #[] #[]], .agg #[.int .i64 kind2, .int .i64 dy, .string code, .string other, .int .i64 al, .int .i64 ah, .int .i64 0, .int .i64 0]] w fun e w' => e = .returned (.bool true) ∧ Below w.heap.size w w' := by
  have HB0 := Lib.hid (show Below w.heap.size w ((w.alloc (.cells #[.int .i64 kind, .string s, .bool bo, .slice (some ⟨g, 0, none⟩) 1 1, .func fn #[] #[]] 90)).alloc (.cells #[.int .i64 kind2, .int .i64 dy, .string code, .string other, .int .i64 al, .int .i64 ah, .int .i64 0, .int .i64 0] 57)) from ((Below.refl w.heap.size w).alloc (Nat.le_refl _) _).alloc (by rw [World.size_alloc]; omega) _)
  have HK0 := Lib.hid ((Blk.new w 90 #[.int .i64 kind, .string s, .bool bo, .slice (some ⟨g, 0, none⟩) 1 1, .func fn #[] #[]]).alloc (.cells #[.int .i64 kind2, .int .i64 dy, .string code, .string other, .int .i64 al, .int .i64 ah, .int .i64 0, .int .i64 0] 57))
  have i0 : ∀ w : World, (Instr.index 110 (.agg #[.int .i64 al, .int .i64 ah, .int .i64 0, .int .i64 0]) (.int .i64 0)).run Try.prog w = .ok (.agg #[.int .i64 al, .int .i64 ah]) w := fun _ => by kernel_rfl
  have i1 : ∀ w : World, (Instr.index 110 (.agg #[.int .i64 al, .int .i64 ah, .int .i64 0, .int .i64 0]) (.int .i64 1)).run Try.prog w = .ok (.agg #[.int .i64 0, .int .i64 0]) w := fun _ => by kernel_rfl
  have HBA := Lib.hid hb; clear hb
  have HG := Lib.hid hg
  have HGL := Lib.hid hg.lt
  clear hg
  go_enter Try.func56, Try.ntmps56
  go_wp2
  go_loopw [12] (fun v wr => ∃ k : Nat, k ≤ 2 ∧ v = .int .i64 k ∧ Hid (Below w.heap.size w wr) ∧ Hid (Blk wr w.heap.size 90 #[.int .i64 kind, .string s, .bool bo, .slice (some ⟨g, 0, none⟩) 1 1, .func fn #[] #[]])) (fun v _ => 2 - (intOf v).toNat)
  case atStart => exact ⟨0, by omega, rfl, HB0, HK0⟩
  case round =>
    obtain ⟨k, hk, rfl, HB, HK⟩ := hrel
    have y3 := HK.out.at 3 (.slice (some ⟨g, 0, none⟩) 1 1) rfl
    have hzr : w.heap.size < wr.heap.size := HK.out.lt
    have hcase : k = 0 ∨ k = 1 ∨ k = 2 := by omega
    rcases hcase with rfl | rfl | rfl
    · have k6 := (Blk.new wr 23 #[.int .i64 al, .int .i64 ah]).at 0 (.int .i64 al) rfl
      have k7 := (Blk.new wr 23 #[.int .i64 al, .int .i64 ah]).at 1 (.int .i64 ah) rfl
      have HK3 := Lib.hid (HK.out.alloc (.cells #[.int .i64 al, .int .i64 ah] 23))
      have k3 := HK3.out.at 3 (.slice (some ⟨g, 0, none⟩) 1 1) rfl
      have kg := ((Below.blk HB.out HG.out HGL.out).alloc (.cells #[.int .i64 al, .int .i64 ah] 23)).at 0 (.int .i64 x) rfl
      have HB1 := Lib.hid (HB.out.alloc HB.out.size (.cells #[.int .i64 al, .int .i64 ah] 23))
      go_wp2
      generalize (wr.alloc (.cells #[.int .i64 al, .int .i64 ah] 23)) = wv at k6 k7 k3 kg HB1 HK3 ⊢
      have c6 := cell_regrown k6
      have c7 := cell_regrown k7
      have c3 := cell_regrown k3
      have cg := cell_regrown kg
      have cA : ∀ d os, Calls Try.prog 48 #[.agg #[.int .i64 al, .int .i64 ah], .int .i64 0, .int .i64 x] (Go.Sort.grow (redrawn wv d) os) fun e w'' => e = .returned (.bool true) ∧ ∃ p : Regrown, w'' = Go.Sort.grow (redrawn wv p.d) p.os := regrown_calls (fun w => by rw [← HBA.out]; exact (areBounds_calls al ah 0 x w).mono fun e w' he => ⟨he.1, by rw [he.2]; exact (Below.refl _ _).alloc (Nat.le_refl _) _⟩)
      clear k6 k7 k3 kg
      refine wp_region_quiet_below (by kernel_rfl) (by kernel_rfl) ?_
      repeat (go_big_quiet_step (with_reducible exact cA _ _))
      refine wpQuiet_nil ?_
      intro w8 hw'
      have hb8 : Below wv.heap.size wv w8 := by obtain ⟨⟨dq, osq⟩, hw''⟩ := hw'; rw [hw'']; exact below_regrown wv dq osq
      have HB8 := Lib.hid (HB1.out.trans (hb8.mono HB1.out.size))
      have HK8 := Lib.hid (HK3.out.below hb8)
      clear hw' hb8 c6 c7 c3 cg cA
      go_wp2
      go_roundw
      case rel => exact ⟨1, by omega, rfl, HB8, HK8⟩
      case measure => simp [intOf]
    · go_wp2
      go_roundw
      case rel => exact ⟨2, by omega, rfl, Lib.hid (HB.out.alloc HB.out.size _), Lib.hid (HK.out.alloc _)⟩
      case measure => simp [intOf]
    · go_wp2
      go_ret
      exact ⟨rfl, HB.out⟩

set_option maxRecDepth 100000 in
set_option maxHeartbeats 2000000 in
theorem hasBounds_2 (kind kind2 dy : Int) (s : ByteArray) (bo : Bool) (fn : Fn) (code other : Code) (al ah bl bh x y : Int) (g : Nat) (w : World) (hg : Blk w g 3 #[.int .i64 x, .int .i64 y]) (hb : boundsB al ah 0 x = true) (hb2 : boundsB bl bh 0 y = true) :
    Calls Try.prog 56 #[.agg #[.int .i64 kind, .string s, .bool bo, .slice (some ⟨g, 0, none⟩) 2 2, .func fn #[] #[]], .agg #[.int .i64 kind2, .int .i64 dy, .string code, .string other, .int .i64 al, .int .i64 ah, .int .i64 bl, .int .i64 bh]] w fun e w' => e = .returned (.bool true) ∧ Below w.heap.size w w' := by
  have HB0 := Lib.hid (show Below w.heap.size w ((w.alloc (.cells #[.int .i64 kind, .string s, .bool bo, .slice (some ⟨g, 0, none⟩) 2 2, .func fn #[] #[]] 90)).alloc (.cells #[.int .i64 kind2, .int .i64 dy, .string code, .string other, .int .i64 al, .int .i64 ah, .int .i64 bl, .int .i64 bh] 57)) from ((Below.refl w.heap.size w).alloc (Nat.le_refl _) _).alloc (by rw [World.size_alloc]; omega) _)
  have HK0 := Lib.hid ((Blk.new w 90 #[.int .i64 kind, .string s, .bool bo, .slice (some ⟨g, 0, none⟩) 2 2, .func fn #[] #[]]).alloc (.cells #[.int .i64 kind2, .int .i64 dy, .string code, .string other, .int .i64 al, .int .i64 ah, .int .i64 bl, .int .i64 bh] 57))
  have i0 : ∀ w : World, (Instr.index 110 (.agg #[.int .i64 al, .int .i64 ah, .int .i64 bl, .int .i64 bh]) (.int .i64 0)).run Try.prog w = .ok (.agg #[.int .i64 al, .int .i64 ah]) w := fun _ => by kernel_rfl
  have i1 : ∀ w : World, (Instr.index 110 (.agg #[.int .i64 al, .int .i64 ah, .int .i64 bl, .int .i64 bh]) (.int .i64 1)).run Try.prog w = .ok (.agg #[.int .i64 bl, .int .i64 bh]) w := fun _ => by kernel_rfl
  have HBA := Lib.hid hb; clear hb
  have HBB := Lib.hid hb2; clear hb2
  have HG := Lib.hid hg
  have HGL := Lib.hid hg.lt
  clear hg
  go_enter Try.func56, Try.ntmps56
  go_wp2
  go_loopw [12] (fun v wr => ∃ k : Nat, k ≤ 2 ∧ v = .int .i64 k ∧ Hid (Below w.heap.size w wr) ∧ Hid (Blk wr w.heap.size 90 #[.int .i64 kind, .string s, .bool bo, .slice (some ⟨g, 0, none⟩) 2 2, .func fn #[] #[]])) (fun v _ => 2 - (intOf v).toNat)
  case atStart => exact ⟨0, by omega, rfl, HB0, HK0⟩
  case round =>
    obtain ⟨k, hk, rfl, HB, HK⟩ := hrel
    have y3 := HK.out.at 3 (.slice (some ⟨g, 0, none⟩) 2 2) rfl
    have hzr : w.heap.size < wr.heap.size := HK.out.lt
    have hcase : k = 0 ∨ k = 1 ∨ k = 2 := by omega
    rcases hcase with rfl | rfl | rfl
    · have k6 := (Blk.new wr 23 #[.int .i64 al, .int .i64 ah]).at 0 (.int .i64 al) rfl
      have k7 := (Blk.new wr 23 #[.int .i64 al, .int .i64 ah]).at 1 (.int .i64 ah) rfl
      have HK3 := Lib.hid (HK.out.alloc (.cells #[.int .i64 al, .int .i64 ah] 23))
      have k3 := HK3.out.at 3 (.slice (some ⟨g, 0, none⟩) 2 2) rfl
      have kg := ((Below.blk HB.out HG.out HGL.out).alloc (.cells #[.int .i64 al, .int .i64 ah] 23)).at 0 (.int .i64 x) rfl
      have HB1 := Lib.hid (HB.out.alloc HB.out.size (.cells #[.int .i64 al, .int .i64 ah] 23))
      go_wp2
      generalize (wr.alloc (.cells #[.int .i64 al, .int .i64 ah] 23)) = wv at k6 k7 k3 kg HB1 HK3 ⊢
      have c6 := cell_regrown k6
      have c7 := cell_regrown k7
      have c3 := cell_regrown k3
      have cg := cell_regrown kg
      have cA : ∀ d os, Calls Try.prog 48 #[.agg #[.int .i64 al, .int .i64 ah], .int .i64 0, .int .i64 x] (Go.Sort.grow (redrawn wv d) os) fun e w'' => e = .returned (.bool true) ∧ ∃ p : Regrown, w'' = Go.Sort.grow (redrawn wv p.d) p.os := regrown_calls (fun w => by rw [← HBA.out]; exact (areBounds_calls al ah 0 x w).mono fun e w' he => ⟨he.1, by rw [he.2]; exact (Below.refl _ _).alloc (Nat.le_refl _) _⟩)
      clear k6 k7 k3 kg
      refine wp_region_quiet_below (by kernel_rfl) (by kernel_rfl) ?_
      repeat (go_big_quiet_step (with_reducible exact cA _ _))
      refine wpQuiet_nil ?_
      intro w8 hw'
      have hb8 : Below wv.heap.size wv w8 := by obtain ⟨⟨dq, osq⟩, hw''⟩ := hw'; rw [hw'']; exact below_regrown wv dq osq
      have HB8 := Lib.hid (HB1.out.trans (hb8.mono HB1.out.size))
      have HK8 := Lib.hid (HK3.out.below hb8)
      clear hw' hb8 c6 c7 c3 cg cA
      go_wp2
      go_roundw
      case rel => exact ⟨1, by omega, rfl, HB8, HK8⟩
      case measure => simp [intOf]
    · have k6 := (Blk.new wr 23 #[.int .i64 bl, .int .i64 bh]).at 0 (.int .i64 bl) rfl
      have k7 := (Blk.new wr 23 #[.int .i64 bl, .int .i64 bh]).at 1 (.int .i64 bh) rfl
      have HK3 := Lib.hid (HK.out.alloc (.cells #[.int .i64 bl, .int .i64 bh] 23))
      have k3 := HK3.out.at 3 (.slice (some ⟨g, 0, none⟩) 2 2) rfl
      have kg := ((Below.blk HB.out HG.out HGL.out).alloc (.cells #[.int .i64 bl, .int .i64 bh] 23)).at 1 (.int .i64 y) rfl
      have HB1 := Lib.hid (HB.out.alloc HB.out.size (.cells #[.int .i64 bl, .int .i64 bh] 23))
      go_wp2
      generalize (wr.alloc (.cells #[.int .i64 bl, .int .i64 bh] 23)) = wv at k6 k7 k3 kg HB1 HK3 ⊢
      have c6 := cell_regrown k6
      have c7 := cell_regrown k7
      have c3 := cell_regrown k3
      have cg := cell_regrown kg
      have cA : ∀ d os, Calls Try.prog 48 #[.agg #[.int .i64 bl, .int .i64 bh], .int .i64 0, .int .i64 y] (Go.Sort.grow (redrawn wv d) os) fun e w'' => e = .returned (.bool true) ∧ ∃ p : Regrown, w'' = Go.Sort.grow (redrawn wv p.d) p.os := regrown_calls (fun w => by rw [← HBB.out]; exact (areBounds_calls bl bh 0 y w).mono fun e w' he => ⟨he.1, by rw [he.2]; exact (Below.refl _ _).alloc (Nat.le_refl _) _⟩)
      clear k6 k7 k3 kg
      refine wp_region_quiet_below (by kernel_rfl) (by kernel_rfl) ?_
      repeat (go_big_quiet_step (with_reducible exact cA _ _))
      refine wpQuiet_nil ?_
      intro w8 hw'
      have hb8 : Below wv.heap.size wv w8 := by obtain ⟨⟨dq, osq⟩, hw''⟩ := hw'; rw [hw'']; exact below_regrown wv dq osq
      have HB8 := Lib.hid (HB1.out.trans (hb8.mono HB1.out.size))
      have HK8 := Lib.hid (HK3.out.below hb8)
      clear hw' hb8 c6 c7 c3 cg cA
      go_wp2
      go_roundw
      case rel => exact ⟨2, by omega, rfl, HB8, HK8⟩
      case measure => simp [intOf]
    · go_wp2
      go_ret
      exact ⟨rfl, HB.out⟩

end Go.Proofs.Ytbgojeppfhldjaa
namespace Go.Proofs.Ytbgojeppfhldjaa
open Go Go.RowKit Go.Shelf Yd

theorem fOther_two {k : Nat} (hk : k < 8) : fOther (k + 1) = twoK ((k + 1 : Nat) : Int) := by
  match k, hk with
  | 0, _ | 1, _ | 2, _ | 3, _ | 4, _ | 5, _ | 6, _ | 7, _ => decide
theorem hasB_any {kind day ear al ah bl bh : Int} {code other : Code} (hok : DeedOk (⟨kind, day, code, other, ⟨al, ah⟩, ⟨bl, bh⟩⟩ : Deed Code) ear) (k : Nat) (hk : k < 8) (hkd : kind = ((k + 1 : Nat) : Int)) (s : ByteArray) (bo : Bool) (F : Fn) (ma : Option Addr) (w : World)
    (hm : ∀ g, ma = some ⟨g, 0, none⟩ → Blk w g 3 (intCells (fMost (k + 1))).toArray) (hma : fMost (k + 1) = [] ∨ ∃ g, ma = some ⟨g, 0, none⟩) :
    Calls Try.prog 56 #[.agg #[.int .i64 kind, .string s, .bool bo, .slice ma (fMost (k + 1)).length (fMost (k + 1)).length, .func F #[] #[]], .agg #[.int .i64 kind, .int .i64 day, .string code, .string other, .int .i64 al, .int .i64 ah, .int .i64 bl, .int .i64 bh]] w fun e w' => e = .returned (.bool true) ∧ Below w.heap.size w w' := by
  match k, hk with
  | 0, _ =>
    have e : kind = 1 := hkd
    subst e
    obtain ⟨g, rfl⟩ : ∃ g, ma = some ⟨g, 0, none⟩ := hma.resolve_left (by decide)
    exact hasBounds_2 _ _ _ _ _ _ _ _ al ah bl bh 100000000 100000000 g w (hm g rfl) (by have h := hok.a; simpa [rangedB, limA] using h) (by have h := hok.b; simpa [rangedB, limB] using h)
  | 1, _ =>
    have e : kind = 2 := hkd
    subst e
    obtain ⟨g, rfl⟩ : ∃ g, ma = some ⟨g, 0, none⟩ := hma.resolve_left (by decide)
    have hb := hok.b
    simp [rangedB, limB] at hb
    obtain ⟨rfl, rfl⟩ := hb
    exact hasBounds_1 _ _ _ _ _ _ _ _ al ah 1000 g w (hm g rfl) (by have h := hok.a; simpa [rangedB, limA] using h)
  | 2, _ =>
    have e : kind = 3 := hkd
    subst e
    obtain ⟨g, rfl⟩ : ∃ g, ma = some ⟨g, 0, none⟩ := hma.resolve_left (by decide)
    exact hasBounds_2 _ _ _ _ _ _ _ _ al ah bl bh 1000 3000 g w (hm g rfl) (by have h := hok.a; simpa [rangedB, limA] using h) (by have h := hok.b; simpa [rangedB, limB] using h)
  | 3, _ =>
    have e : kind = 4 := hkd
    subst e
    obtain ⟨g, rfl⟩ : ∃ g, ma = some ⟨g, 0, none⟩ := hma.resolve_left (by decide)
    have hb := hok.b
    simp [rangedB, limB] at hb
    obtain ⟨rfl, rfl⟩ := hb
    exact hasBounds_1 _ _ _ _ _ _ _ _ al ah 100000000 g w (hm g rfl) (by have h := hok.a; simpa [rangedB, limA] using h)
  | 4, _ =>
    have e : kind = 5 := hkd
    subst e
    obtain ⟨g, rfl⟩ : ∃ g, ma = some ⟨g, 0, none⟩ := hma.resolve_left (by decide)
    have hb := hok.b
    simp [rangedB, limB] at hb
    obtain ⟨rfl, rfl⟩ := hb
    exact hasBounds_1 _ _ _ _ _ _ _ _ al ah 1000 g w (hm g rfl) (by have h := hok.a; simpa [rangedB, limA] using h)
  | 5, _ =>
    have e : kind = 6 := hkd
    subst e
    have ha := hok.a
    have hb := hok.b
    simp [rangedB, limA] at ha
    simp [rangedB, limB] at hb
    obtain ⟨rfl, rfl⟩ := ha
    obtain ⟨rfl, rfl⟩ := hb
    exact hasBounds_0 _ _ _ _ _ _ _ _ ma w
  | 6, _ =>
    have e : kind = 7 := hkd
    subst e
    obtain ⟨g, rfl⟩ : ∃ g, ma = some ⟨g, 0, none⟩ := hma.resolve_left (by decide)
    have hb := hok.b
    simp [rangedB, limB] at hb
    obtain ⟨rfl, rfl⟩ := hb
    exact hasBounds_1 _ _ _ _ _ _ _ _ al ah 100000000 g w (hm g rfl) (by have h := hok.a; simpa [rangedB, limA] using h)
  | 7, _ =>
    have e : kind = 8 := hkd
    subst e
    have ha := hok.a
    have hb := hok.b
    simp [rangedB, limA] at ha
    simp [rangedB, limB] at hb
    obtain ⟨rfl, rfl⟩ := ha
    obtain ⟨rfl, rfl⟩ := hb
    exact hasBounds_0 _ _ _ _ _ _ _ _ ma w

set_option maxRecDepth 100000 in
set_option maxHeartbeats 2000000 in
theorem checkDeed_ok (kind day ear : Int) (code other : Code) (al ah bl bh : Int) (w : World) (hok : DeedOk (⟨kind, day, code, other, ⟨al, ah⟩, ⟨bl, bh⟩⟩ : Deed Code) ear) (hs1 : code.size ≤ 9223372036854775807) (hs2 : other.size ≤ 9223372036854775807) :
    Calls Try.prog 52 #[.agg #[.int .i64 kind, .int .i64 day, .string code, .string other, .int .i64 al, .int .i64 ah, .int .i64 bl, .int .i64 bh], .int .i64 ear] w fun e w' => e = .returned (.int .i64 0) ∧ Below w.heap.size w w' := by
  obtain ⟨k, hk, hkd⟩ : ∃ k : Nat, k < 8 ∧ kind = ((k + 1 : Nat) : Int) := by
    have h := hok.kind
    simp only at h
    exact ⟨(kind - 1).toNat, by omega, by omega⟩
  obtain ⟨s, hs⟩ : ∃ s : ByteArray, s = ⟨(fWord (k + 1)).toArray⟩ := ⟨_, rfl⟩
  obtain ⟨b, hb⟩ : ∃ b, b = fOther (k + 1) := ⟨_, rfl⟩
  obtain ⟨mn, hmn⟩ : ∃ n, n = (fMost (k + 1)).length := ⟨_, rfl⟩
  obtain ⟨F, hF⟩ : ∃ n, n = fDo (k + 1) := ⟨_, rfl⟩
  have hbt : b = twoK kind := by rw [hb, hkd]; exact fOther_two hk
  have HHB := Lib.hid (fun (ma : Option Addr) (w : World) (hm : ∀ g, ma = some ⟨g, 0, none⟩ → Blk w g 3 (intCells (fMost (k + 1))).toArray) (hma : fMost (k + 1) = [] ∨ ∃ g, ma = some ⟨g, 0, none⟩) => hasB_any hok k hk hkd s b (.func F) ma w hm hma)
  rw [← hmn] at HHB
  have HKD := Lib.hid hkd; have HSS := Lib.hid hs; have HBB := Lib.hid hb; have HMN := Lib.hid hmn; have HFF := Lib.hid hF; have HS1 := Lib.hid hs1; have HS2 := Lib.hid hs2
  have HB0 := Lib.hid ((Below.refl w.heap.size w).alloc (Nat.le_refl _) (.cells #[.int .i64 kind, .int .i64 day, .string code, .string other, .int .i64 al, .int .i64 ah, .int .i64 bl, .int .i64 bh] 57))
  have HK0 := Lib.hid (Blk.new w 57 #[.int .i64 kind, .int .i64 day, .string code, .string other, .int .i64 al, .int .i64 ah, .int .i64 bl, .int .i64 bh])
  have e1 : inB day 0 2000 = true := hok.dayIn
  have e2 : codeB code.data.toList = true := hok.stack
  have e3 : decide (day < ear) = false := by have h := hok.late; simp only at h; simp; omega
  clear hkd hs hb hmn hF hs1 hs2
  cases htw : twoK kind with
  | true =>
    have e4 : codeB other.data.toList = true := hok.other htw
    obtain rfl : b = true := hbt.trans htw
    clear hbt htw hok
    go_enter Try.func52, Try.ntmps52
    go_wp2_with (first
      | (go_at_call 40; refine (formOf_yes k hk kind HKD.out).mono ?_; rintro e w1 ⟨ma, rfl, hb1, hm1, hma⟩; rw [← HKD.out, ← HSS.out, ← HBB.out, ← HMN.out, ← HFF.out]; have HB1 := Lib.hid (HB0.out.trans (hb1.mono HB0.out.size)); have HK1 := Lib.hid (HK0.out.below hb1); have HM1 := Lib.hid hm1; have HMA := Lib.hid hma; have q0 := HK1.out.at 0 (.int .i64 kind) rfl; have q1 := HK1.out.at 1 (.int .i64 day) rfl; have q2 := HK1.out.at 2 (.string code) rfl; have q3 := HK1.out.at 3 (.string other) rfl; have q4 := HK1.out.at 4 (.int .i64 al) rfl; have q5 := HK1.out.at 5 (.int .i64 ah) rfl; have q6 := HK1.out.at 6 (.int .i64 bl) rfl; have q7 := HK1.out.at 7 (.int .i64 bh) rfl; have hz1 : w.heap.size < w1.heap.size := HK1.out.lt; clear hb1 hm1 hma)
      | (go_at_call 37; refine (within_calls _ _ _ _).mono ?_; rintro e w' ⟨rfl, rfl⟩)
      | (go_at_call 55; ((with_reducible refine (isCode_calls code _ HS1.out).mono ?_); rintro e w' ⟨rfl, rfl⟩))
      | (go_at_call 55; ((with_reducible refine (isCode_calls other _ HS2.out).mono ?_); rintro e w' ⟨rfl, rfl⟩))
      | (go_at_call 56; go_must (refine (HHB.out ma _ (fun g hg => (HM1.out g hg).alloc _) HMA.out).mono ?_); rintro e w2 ⟨rfl, hb2⟩; have HB2 := Lib.hid ((HB1.out.alloc HB1.out.size (.cells #[.int .i64 kind, .string s, .bool true, .slice ma mn mn, .func (.func F) #[] #[]] 90)).trans (hb2.mono (HB1.out.alloc HB1.out.size _).size)); clear hb2))
    go_ret
    exact ⟨rfl, HB2.out⟩

  | false =>
    have e4 : other.toList.isEmpty = true := by rw [← noOther_empty]; exact hok.none htw
    obtain rfl : b = false := hbt.trans htw
    clear hbt htw hok
    go_enter Try.func52, Try.ntmps52
    go_wp2_with (first
      | (go_at_call 40; refine (formOf_yes k hk kind HKD.out).mono ?_; rintro e w1 ⟨ma, rfl, hb1, hm1, hma⟩; rw [← HKD.out, ← HSS.out, ← HBB.out, ← HMN.out, ← HFF.out]; have HB1 := Lib.hid (HB0.out.trans (hb1.mono HB0.out.size)); have HK1 := Lib.hid (HK0.out.below hb1); have HM1 := Lib.hid hm1; have HMA := Lib.hid hma; have q0 := HK1.out.at 0 (.int .i64 kind) rfl; have q1 := HK1.out.at 1 (.int .i64 day) rfl; have q2 := HK1.out.at 2 (.string code) rfl; have q3 := HK1.out.at 3 (.string other) rfl; have q4 := HK1.out.at 4 (.int .i64 al) rfl; have q5 := HK1.out.at 5 (.int .i64 ah) rfl; have q6 := HK1.out.at 6 (.int .i64 bl) rfl; have q7 := HK1.out.at 7 (.int .i64 bh) rfl; have hz1 : w.heap.size < w1.heap.size := HK1.out.lt; clear hb1 hm1 hma)
      | (go_at_call 37; refine (within_calls _ _ _ _).mono ?_; rintro e w' ⟨rfl, rfl⟩)
      | (go_at_call 55; ((with_reducible refine (isCode_calls code _ HS1.out).mono ?_); rintro e w' ⟨rfl, rfl⟩))
      | (go_at_call 55; ((with_reducible refine (isCode_calls other _ HS2.out).mono ?_); rintro e w' ⟨rfl, rfl⟩))
      | (go_at_call 56; go_must (refine (HHB.out ma _ (fun g hg => (HM1.out g hg).alloc _) HMA.out).mono ?_); rintro e w2 ⟨rfl, hb2⟩; have HB2 := Lib.hid ((HB1.out.alloc HB1.out.size (.cells #[.int .i64 kind, .string s, .bool false, .slice ma mn mn, .func (.func F) #[] #[]] 90)).trans (hb2.mono (HB1.out.alloc HB1.out.size _).size)); clear hb2))
    go_ret
    exact ⟨rfl, HB2.out⟩

end Go.Proofs.Ytbgojeppfhldjaa
namespace Go.Proofs.Ytbgojeppfhldjaa
open Go Go.RowKit Go.Shelf Yd

theorem isRest_calls (n : Int) (w : World) : Calls Try.prog 51 #[.int .i64 n] w fun e w' => e = .returned (.bool (inB n 0 400)) ∧ w = w' := by
  go_enter Try.func51, Try.ntmps51
  go_wp2_with (go_at_call 37; refine (within_calls _ _ _ _).mono ?_; rintro e w' ⟨rfl, rfl⟩)
  go_ret
  exact ⟨rfl, rfl⟩

/-- What a yard without an error keeps. -/
theorem errYard_ok {bef aft : Int} {ds : List (Deed Code)} (h : errYard bef aft ds = 0) : inB bef 0 400 = true ∧ inB aft 0 400 = true ∧ ds.length ≤ 40 ∧ errDeeds 0 ds = 0 := by
  unfold errYard at h
  split at h; · cases h
  rename_i h1
  split at h; · cases h
  rename_i h2
  simp only [not_or, Bool.not_eq_false] at h1
  exact ⟨h1.1, h1.2, by omega, h⟩

set_option maxRecDepth 100000 in
set_option maxHeartbeats 2000000 in
theorem checkYard_ok (bef aft : Int) (v : Value) (ds : List (Deed Code)) (w : World) (h : Held w.heap.size w 8 deedCells v ds) (hok : errYard bef aft ds = 0) (hsz : ∀ d ∈ ds, d.stack.size ≤ 9223372036854775807 ∧ d.other.size ≤ 9223372036854775807) :
    Calls Try.prog 36 #[.agg #[.int .i64 bef, .int .i64 aft, v]] w fun e w' => e = .returned (.int .i64 0) ∧ Below w.heap.size w w' := by
  obtain ⟨a, c, rfl, hmax, hcs⟩ := h.slice
  obtain ⟨e1, e2, e3, e4⟩ := errYard_ok hok
  have HCS0 := Lib.hid hcs
  have HSZ := Lib.hid hsz
  have HE4 := Lib.hid e4
  clear h hcs hsz hok e4
  obtain ⟨n, hn⟩ : ∃ n, n = ds.length := ⟨_, rfl⟩
  rw [← hn] at hmax e3 ⊢
  have HN := Lib.hid hn
  have HB0 := Lib.hid ((Below.refl w.heap.size w).alloc (Nat.le_refl _) (.cells #[.int .i64 bef, .int .i64 aft, .slice a n c] 43))
  have d3 : decide ((40 : Int) < (n : Int)) = false := by simp; omega
  clear hn hmax
  go_enter Try.func36, Try.ntmps36
  go_wp2_with (go_at_call 51; refine (isRest_calls _ _).mono ?_; rintro e w' ⟨rfl, rfl⟩)
  clear e1 e2 d3
  go_loopw [3, 24] (fun dv iv wr => ∃ (k : Nat) (day : Int), k ≤ n ∧ iv = .int .i64 k ∧ dv = .int .i64 day ∧ Hid (errDeeds day (ds.drop k) = 0) ∧ Hid (Below w.heap.size w wr)) (fun _ iv _ => n - (intOf iv).toNat)
  case atStart => exact ⟨0, 0, Nat.zero_le _, rfl, rfl, Lib.hid (by rw [List.drop_zero]; exact HE4.out), HB0⟩
  case round =>
    obtain ⟨k, day, hk, rfl, rfl, HD, HB⟩ := hrel
    by_cases hlt0 : k < n
    · obtain ⟨b, off, rfl, hbl, ⟨hnc, hcm⟩, hcells⟩ := HCS0.out (by rw [← HN.out]; omega)
      have hlt : k < ds.length := by rw [← HN.out]; exact hlt0
      have HCS := Lib.hid hcells
      have HBL := Lib.hid hbl
      rw [← HN.out] at hnc
      have hdrop := drop_get hlt
      have hmem := get_in hlt
      obtain ⟨⟨kind, dy, code, other, ⟨al, ah⟩, ⟨bl, bh⟩⟩, hd⟩ : ∃ d, d = ds[k]! := ⟨_, rfl⟩
      have hd := hd.symm
      rw [hd] at hdrop hmem
      have c0 := (show wr.cell? ⟨b, off + k * 8, none⟩ = some (.int .i64 kind) from (HB.out.cell (p := ⟨b, off + k * 8 + 0, none⟩) HBL.out).trans (HCS.out k hlt 0 _ (by rw [hd]; rfl)))
      have c1 := (show wr.cell? ⟨b, off + k * 8 + 1, none⟩ = some (.int .i64 dy) from (HB.out.cell (p := ⟨b, off + k * 8 + 1, none⟩) HBL.out).trans (HCS.out k hlt 1 _ (by rw [hd]; rfl)))
      have c2 := (show wr.cell? ⟨b, off + k * 8 + 2, none⟩ = some (.string code) from (HB.out.cell (p := ⟨b, off + k * 8 + 2, none⟩) HBL.out).trans (HCS.out k hlt 2 _ (by rw [hd]; rfl)))
      have c3 := (show wr.cell? ⟨b, off + k * 8 + 3, none⟩ = some (.string other) from (HB.out.cell (p := ⟨b, off + k * 8 + 3, none⟩) HBL.out).trans (HCS.out k hlt 3 _ (by rw [hd]; rfl)))
      have c4 := (show wr.cell? ⟨b, off + k * 8 + 4, none⟩ = some (.int .i64 al) from (HB.out.cell (p := ⟨b, off + k * 8 + 4, none⟩) HBL.out).trans (HCS.out k hlt 4 _ (by rw [hd]; rfl)))
      have c5 := (show wr.cell? ⟨b, off + k * 8 + 5, none⟩ = some (.int .i64 ah) from (HB.out.cell (p := ⟨b, off + k * 8 + 5, none⟩) HBL.out).trans (HCS.out k hlt 5 _ (by rw [hd]; rfl)))
      have c6 := (show wr.cell? ⟨b, off + k * 8 + 6, none⟩ = some (.int .i64 bl) from (HB.out.cell (p := ⟨b, off + k * 8 + 6, none⟩) HBL.out).trans (HCS.out k hlt 6 _ (by rw [hd]; rfl)))
      have c7 := (show wr.cell? ⟨b, off + k * 8 + 7, none⟩ = some (.int .i64 bh) from (HB.out.cell (p := ⟨b, off + k * 8 + 7, none⟩) HBL.out).trans (HCS.out k hlt 7 _ (by rw [hd]; rfl)))
      have hED := HD.out
      rw [hdrop, errDeeds_cons] at hED
      have he0 : errDeed (⟨kind, dy, code, other, ⟨al, ah⟩, ⟨bl, bh⟩⟩ : Deed Code) day = 0 := by
        by_cases hh : errDeed (⟨kind, dy, code, other, ⟨al, ah⟩, ⟨bl, bh⟩⟩ : Deed Code) day = 0
        · exact hh
        · rw [if_neg hh] at hED; exact hED
      rw [if_pos he0] at hED
      have HOK := Lib.hid (deedOk_of he0)
      have HED := Lib.hid hED
      have HS := Lib.hid (HSZ.out _ hmem)
      have HK := Lib.hid (Blk.new wr 57 #[.int .i64 kind, .int .i64 dy, .string code, .string other, .int .i64 al, .int .i64 ah, .int .i64 bl, .int .i64 bh])
      have HB1 := Lib.hid (HB.out.alloc HB.out.size (.cells #[.int .i64 kind, .int .i64 dy, .string code, .string other, .int .i64 al, .int .i64 ah, .int .i64 bl, .int .i64 bh] 57))
      have hkI : (k : Int) < (n : Int) := by omega
      clear hcells hbl hdrop hd hlt hmem he0 hED
      go_wp2_with (go_at_call 52; refine (checkDeed_ok kind dy day code other al ah bl bh _ HOK.out HS.out.1 HS.out.2).mono ?_; rintro e w2 ⟨rfl, hb2⟩; have HB2 := Lib.hid (HB1.out.trans (hb2.mono HB1.out.size)); have q1 := (HK.out.below hb2).at 1 (.int .i64 dy) rfl; clear hb2)
      go_roundw
      case rel => exact ⟨k + 1, dy, by omega, by go_num, rfl, HED, HB2⟩
      case measure => simp [intOf]; omega
    · have hkn : k = n := by omega
      subst hkn
      go_wp2
      go_ret
      exact ⟨rfl, HB.out⟩

set_option maxRecDepth 100000 in
set_option maxHeartbeats 1000000 in
theorem checkFirst_ok (bef aft : Int) (v : Value) (ds : List (Deed Code)) (n : Int) (w : World) (h : Held w.heap.size w 8 deedCells v ds) (hok : errYard bef aft ds = 0) (hsz : ∀ d ∈ ds, d.stack.size ≤ 9223372036854775807 ∧ d.other.size ≤ 9223372036854775807) (hn : 0 ≤ n ∧ n ≤ ds.length) :
    Calls Try.prog 24 #[.agg #[.int .i64 bef, .int .i64 aft, v], .int .i64 n] w fun e w' => e = .returned (.int .i64 0) ∧ Below w.heap.size w w' := by
  obtain ⟨a, c, hv, _, _⟩ := h.slice
  have HH := Lib.hid h; have HOK := Lib.hid hok; have HSZ := Lib.hid hsz
  have e1 : inB n 0 (ds.length : Int) = true := by simp [inB, hn]
  clear hok hsz hn
  subst hv
  obtain ⟨m, hm⟩ : ∃ m, m = ds.length := ⟨_, rfl⟩
  rw [← hm] at e1 HH ⊢
  have HB0 := Lib.hid ((Below.refl w.heap.size w).alloc (Nat.le_refl _) (.cells #[.int .i64 bef, .int .i64 aft, .slice a m c] 43))
  have HK0 := Lib.hid (Blk.new w 43 #[.int .i64 bef, .int .i64 aft, .slice a m c])
  clear h hm
  go_enter Try.func24, Try.ntmps24
  go_wp2_with (first
    | (go_at_call 36; refine (checkYard_ok bef aft _ ds _ ((HH.out.below HB0.out).mono HB0.out.size) HOK.out HSZ.out).mono ?_; rintro e w2 ⟨rfl, hb2⟩; have HB2 := Lib.hid (HB0.out.trans (hb2.mono HB0.out.size)); have y2 := (HK0.out.below hb2).at 2 _ rfl; clear hb2)
    | (go_at_call 37; refine (within_calls _ _ _ _).mono ?_; rintro e w' ⟨rfl, rfl⟩))
  go_ret
  exact ⟨rfl, HB2.out⟩
end Go.Proofs.Ytbgojeppfhldjaa
