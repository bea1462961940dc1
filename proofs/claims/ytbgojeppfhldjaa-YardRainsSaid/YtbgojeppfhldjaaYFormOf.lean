/- The forms of the deeds. The form of a kind of deeds. -/
import Derived.Test.YtbgojeppfhldjaaYMergeFacts
import Derived.Great.BuildSlice
import Derived.Laws.EntriesVeiled
namespace Go.Proofs.Ytbgojeppfhldjaa
open Go Go.RowKit Go.Shelf Yd

def fWord : Nat → List UInt8
  | 1 => [112, 105, 108, 101] | 2 => [114, 101, 115, 116] | 3 => [98, 111, 105, 108] | 4 => [115, 99, 114, 97, 112, 101] | 5 => [115, 112, 108, 105, 116] | 6 => [109, 101, 114, 103, 101] | 7 => [119, 101, 105, 103, 104] | 8 => [115, 101, 108, 108] | _ => []
def fOther : Nat → Bool
  | 5 => true | 6 => true | _ => false
def fMost : Nat → List Int
  | 1 => [100000000, 100000000] | 2 => [1000] | 3 => [1000, 3000] | 4 => [100000000] | 5 => [1000] | 7 => [100000000] | _ => []
def fDo : Nat → Nat
  | 1 => 61 | 2 => 62 | 3 => 63 | 4 => 64 | 5 => 65 | 6 => 66 | 7 => 67 | 8 => 68 | _ => 0
/-- Where the greatest numbers lie: blocks in the order in which they were made. -/
def fAddr (H : Nat) : Nat → Option Addr
  | 1 => some ⟨H, 0, none⟩ | 2 => some ⟨H + 1, 0, none⟩ | 3 => some ⟨H + 1 + 1, 0, none⟩ | 4 => some ⟨H + 1 + 1 + 1, 0, none⟩ | 5 => some ⟨H + 1 + 1 + 1 + 1, 0, none⟩ | 7 => some ⟨H + 1 + 1 + 1 + 1 + 1, 0, none⟩ | _ => none
def formCells (H k : Nat) : List Value := [.int .i64 k, .string ⟨(fWord k).toArray⟩, .bool (fOther k), .slice (fAddr H k) (fMost k).length (fMost k).length, .func (.func (fDo k)) #[] #[]]
def allForms (H : Nat) : List Value := formCells H 1 ++ formCells H 2 ++ formCells H 3 ++ formCells H 4 ++ formCells H 5 ++ formCells H 6 ++ formCells H 7 ++ formCells H 8

/-- All forms, in memory of their own. -/
structure Forms (w w' : World) (H : Nat) : Prop where
  all : Blk w' (H + 1 + 1 + 1 + 1 + 1 + 1) 90 (allForms H).toArray
  most : ∀ k g, fAddr H k = some ⟨g, 0, none⟩ → Blk w' g 3 (intCells (fMost k)).toArray
  bel : Below w.heap.size w w'

set_option maxRecDepth 100000 in
set_option maxHeartbeats 2000000 in
theorem forms_calls (w : World) : Calls Try.prog 57 #[] w fun e w' => e = .returned (.slice (some ⟨w.heap.size + 1 + 1 + 1 + 1 + 1 + 1, 0, none⟩) 8 8) ∧ Forms w w' w.heap.size := by
  go_enter Try.func57, Try.ntmps57
  go_wp2
  go_ret
  have hz : ∀ (v : World) (o : Obj), (v.alloc o).heap.size = v.heap.size + 1 := fun v o => World.size_alloc v o
  have b0 := Blk.new w 3 #[.int .i64 100000000, .int .i64 100000000]
  have b1 := Blk.new' (w := (w.alloc (.cells #[.int .i64 100000000, .int .i64 100000000] 3))) (g := w.heap.size + 1) (by simp only [World.size_alloc]) 3 #[.int .i64 1000]
  have b2 := Blk.new' (w := ((w.alloc (.cells #[.int .i64 100000000, .int .i64 100000000] 3)).alloc (.cells #[.int .i64 1000] 3))) (g := w.heap.size + 1 + 1) (by simp only [World.size_alloc]) 3 #[.int .i64 1000, .int .i64 3000]
  have b3 := Blk.new' (w := (((w.alloc (.cells #[.int .i64 100000000, .int .i64 100000000] 3)).alloc (.cells #[.int .i64 1000] 3)).alloc (.cells #[.int .i64 1000, .int .i64 3000] 3))) (g := w.heap.size + 1 + 1 + 1) (by simp only [World.size_alloc]) 3 #[.int .i64 100000000]
  have b4 := Blk.new' (w := ((((w.alloc (.cells #[.int .i64 100000000, .int .i64 100000000] 3)).alloc (.cells #[.int .i64 1000] 3)).alloc (.cells #[.int .i64 1000, .int .i64 3000] 3)).alloc (.cells #[.int .i64 100000000] 3))) (g := w.heap.size + 1 + 1 + 1 + 1) (by simp only [World.size_alloc]) 3 #[.int .i64 1000]
  have b5 := Blk.new' (w := (((((w.alloc (.cells #[.int .i64 100000000, .int .i64 100000000] 3)).alloc (.cells #[.int .i64 1000] 3)).alloc (.cells #[.int .i64 1000, .int .i64 3000] 3)).alloc (.cells #[.int .i64 100000000] 3)).alloc (.cells #[.int .i64 1000] 3))) (g := w.heap.size + 1 + 1 + 1 + 1 + 1) (by simp only [World.size_alloc]) 3 #[.int .i64 100000000]
  have a0 := (((((b0.alloc (.cells #[.int .i64 1000] 3)).alloc (.cells #[.int .i64 1000, .int .i64 3000] 3)).alloc (.cells #[.int .i64 100000000] 3)).alloc (.cells #[.int .i64 1000] 3)).alloc (.cells #[.int .i64 100000000] 3)).alloc (.cells (allForms w.heap.size).toArray 90)
  have a1 := ((((b1.alloc (.cells #[.int .i64 1000, .int .i64 3000] 3)).alloc (.cells #[.int .i64 100000000] 3)).alloc (.cells #[.int .i64 1000] 3)).alloc (.cells #[.int .i64 100000000] 3)).alloc (.cells (allForms w.heap.size).toArray 90)
  have a2 := (((b2.alloc (.cells #[.int .i64 100000000] 3)).alloc (.cells #[.int .i64 1000] 3)).alloc (.cells #[.int .i64 100000000] 3)).alloc (.cells (allForms w.heap.size).toArray 90)
  have a3 := ((b3.alloc (.cells #[.int .i64 1000] 3)).alloc (.cells #[.int .i64 100000000] 3)).alloc (.cells (allForms w.heap.size).toArray 90)
  have a4 := (b4.alloc (.cells #[.int .i64 100000000] 3)).alloc (.cells (allForms w.heap.size).toArray 90)
  have a5 := b5.alloc (.cells (allForms w.heap.size).toArray 90)
  have al := Blk.new' (w := ((((((w.alloc (.cells #[.int .i64 100000000, .int .i64 100000000] 3)).alloc (.cells #[.int .i64 1000] 3)).alloc (.cells #[.int .i64 1000, .int .i64 3000] 3)).alloc (.cells #[.int .i64 100000000] 3)).alloc (.cells #[.int .i64 1000] 3)).alloc (.cells #[.int .i64 100000000] 3))) (g := w.heap.size + 1 + 1 + 1 + 1 + 1 + 1) (by simp only [World.size_alloc]) 90 (allForms w.heap.size).toArray
  refine ⟨rfl, al, fun k g hg => ?_, ?_⟩
  · unfold fAddr at hg
    split at hg
    · cases hg; exact a0
    · cases hg; exact a1
    · cases hg; exact a2
    · cases hg; exact a3
    · cases hg; exact a4
    · cases hg; exact a5
    · cases hg
  · refine Below.alloc (Below.alloc (Below.alloc (Below.alloc (Below.alloc (Below.alloc (Below.alloc (Below.refl _ _) ?_ _) ?_ _) ?_ _) ?_ _) ?_ _) ?_ _) ?_ _ <;> (try simp only [World.size_alloc]) <;> omega

set_option maxRecDepth 100000 in
set_option maxHeartbeats 1000000 in
/-- The question whether a form is of a kind. -/
theorem ofKind_calls (a : Int) (s : ByteArray) (b : Bool) (ma : Option Addr) (mn mc : Nat) (fn : Fn) (f1 f2 : Array Value) (kind : Int) (c : Nat) (w : World) (hc : w.cell? ⟨c, 0, none⟩ = some (.int .i64 kind)) (hl : c < w.heap.size) :
    Calls Try.prog 54 #[.agg #[.int .i64 a, .string s, .bool b, .slice ma mn mc, .func fn f1 f2], .pointer (some ⟨c, 0, none⟩)] w fun e w' => e = .returned (.bool (a == kind)) ∧ Below w.heap.size w w' := by
  go_enter Try.func54, Try.ntmps54
  go_wp2
  go_ret
  exact ⟨rfl, (Below.refl _ _).alloc (Nat.le_refl _) _⟩

/-- The cells of the k-th form. -/
theorem Forms.at {w w' : World} {H : Nat} (h : Forms w w' H) (k : Nat) (hk : k < 8) (o : Nat) (ho : o < 5) : w'.cell? ⟨H + 1 + 1 + 1 + 1 + 1 + 1, k * 5 + o, none⟩ = (formCells H (k + 1))[o]? := by
  rw [h.all.cell]
  match k, hk with
  | 0, _ | 1, _ | 2, _ | 3, _ | 4, _ | 5, _ | 6, _ | 7, _ => match o, ho with
    | 0, _ | 1, _ | 2, _ | 3, _ | 4, _ => rfl

theorem ret_int {k : IntKind} {a b : Int} (h : a = b) : Ending.returned (.int k a) = .returned (.int k b) := by rw [h]
/-- The place of a kind's form; -1: it has none. -/
def formIx (kind : Int) : Int := if 1 ≤ kind ∧ kind ≤ 8 then kind - 1 else -1

set_option maxRecDepth 100000 in
set_option maxHeartbeats 2000000 in
theorem indexForms_calls {w0 w : World} {H : Nat} (h : Forms w0 w H) (kind : Int) (c : Nat) (hc : w.cell? ⟨c, 0, none⟩ = some (.int .i64 kind)) (hl : c < w.heap.size) :
    Calls Try.prog 58 #[.slice (some ⟨H + 1 + 1 + 1 + 1 + 1 + 1, 0, none⟩) 8 8, .func (.func 54) #[] #[.pointer (some ⟨c, 0, none⟩)]] w fun e w' => e = .returned (.int .i64 (formIx kind)) ∧ Below w.heap.size w w' := by
  have hen : ∀ args w, (callFunc 54 args).run Try.prog w = .ok (.enter 54 args) w := enters_of Try.func54 (by kernel_rfl) rfl
  have HF := Lib.hid (show ∀ k, k < 8 → ∃ (s : ByteArray) (b : Bool) (ma : Option Addr) (mn : Nat) (fn : Fn), w.cell? ⟨H + 1 + 1 + 1 + 1 + 1 + 1, k * 5, none⟩ = some (.int .i64 ((k + 1 : Nat) : Int)) ∧ w.cell? ⟨H + 1 + 1 + 1 + 1 + 1 + 1, k * 5 + 1, none⟩ = some (.string s) ∧ w.cell? ⟨H + 1 + 1 + 1 + 1 + 1 + 1, k * 5 + 2, none⟩ = some (.bool b) ∧ w.cell? ⟨H + 1 + 1 + 1 + 1 + 1 + 1, k * 5 + 3, none⟩ = some (.slice ma mn mn) ∧ w.cell? ⟨H + 1 + 1 + 1 + 1 + 1 + 1, k * 5 + 4, none⟩ = some (.func fn #[] #[]) from fun k hk =>
    ⟨_, _, _, _, _, h.at k hk 0 (by omega), h.at k hk 1 (by omega), h.at k hk 2 (by omega), h.at k hk 3 (by omega), h.at k hk 4 (by omega)⟩)
  have HC := Lib.hid hc
  have HZ := Lib.hid h.all.lt
  clear h hc
  generalize H + 1 + 1 + 1 + 1 + 1 + 1 = G at HF HZ ⊢
  go_enter Try.func58, Try.ntmps58
  go_wp2
  go_loopw [8] (fun v wr => ∃ k : Nat, k ≤ 8 ∧ Hid (∀ j : Nat, 1 ≤ j → j ≤ k → (j : Int) ≠ kind) ∧ v = .int .i64 k ∧ Hid (Below w.heap.size w wr)) (fun v _ => 8 - (intOf v).toNat)
  case atStart => exact ⟨0, by omega, Lib.hid (fun j h1 h2 => by omega), rfl, Lib.hid (Below.refl _ _)⟩
  case round =>
    obtain ⟨k, hk, HJ, rfl, HB⟩ := hrel
    by_cases hlt : k < 8
    · obtain ⟨s, b, ma, mn, fn, e0, e1, e2, e3, e4⟩ := HF.out k hlt
      have c0 := (HB.out.cell HZ.out).trans e0
      have c1 := (HB.out.cell HZ.out).trans e1
      have c2 := (HB.out.cell HZ.out).trans e2
      have c3 := (HB.out.cell HZ.out).trans e3
      have c4 := (HB.out.cell HZ.out).trans e4
      have HCR := Lib.hid ((HB.out.cell hl).trans HC.out)
      have HLR := Lib.hid (Nat.lt_of_lt_of_le hl HB.out.size)
      clear e0 e1 e2 e3 e4
      obtain ⟨a, ha⟩ : ∃ a : Int, a = ((k + 1 : Nat) : Int) := ⟨_, rfl⟩
      rw [← ha] at c0
      have HA := Lib.hid ha
      clear ha
      have hkI : (k : Int) < 8 := by omega
      by_cases he : a = kind
      · have d1 : (a == kind) = true := by simpa using he
        have HE := Lib.hid he
        clear he
        go_wp2_with (go_at_call 54; refine (ofKind_calls a s b ma mn mn fn #[] #[] kind c _ HCR.out HLR.out).mono ?_; rintro e w' ⟨rfl, hb1⟩; have HB1 := Lib.hid hb1; clear hb1)
        go_ret
        refine ⟨ret_int ?_, HB.out.trans (HB1.out.mono HB.out.size)⟩
        have h1 := HA.out
        have h2 := HE.out
        unfold formIx
        rw [if_pos (by omega)]
        omega
      · have d1 : (a == kind) = false := by simpa using he
        have HE := Lib.hid he
        clear he
        go_wp2_with (go_at_call 54; refine (ofKind_calls a s b ma mn mn fn #[] #[] kind c _ HCR.out HLR.out).mono ?_; rintro e w' ⟨rfl, hb1⟩; have HB1 := Lib.hid hb1; clear hb1)
        go_roundw
        case rel =>
          refine ⟨k + 1, by omega, Lib.hid (fun j h1 h2 => ?_), by go_num, Lib.hid (HB.out.trans (HB1.out.mono HB.out.size))⟩
          rcases Nat.lt_or_ge j (k + 1) with h3 | h3
          · exact HJ.out j h1 (by omega)
          · have : j = k + 1 := by omega
            subst this
            rw [← HA.out]; exact HE.out
        case measure => simp [intOf]; omega
    · have h8 : k = 8 := by omega
      subst h8
      go_wp2
      go_ret
      refine ⟨ret_int ?_, HB.out⟩
      unfold formIx
      rw [if_neg ?_]
      rintro ⟨h1, h2⟩
      exact HJ.out kind.toNat (by omega) (by omega) (by omega)

/-- The form of a kind. -/
def FormDone (w : World) (k : Nat) (e : Ending) (w' : World) : Prop :=
  ∃ ma, e = .returned (.tuple #[.agg #[.int .i64 (k : Int), .string ⟨(fWord k).toArray⟩, .bool (fOther k), .slice ma (fMost k).length (fMost k).length, .func (.func (fDo k)) #[] #[]], .bool true]) ∧ Below w.heap.size w w' ∧
    (∀ g, ma = some ⟨g, 0, none⟩ → Blk w' g 3 (intCells (fMost k)).toArray) ∧ (fMost k = [] ∨ ∃ g, ma = some ⟨g, 0, none⟩)
theorem fAddr_of (H k : Nat) : fMost k = [] ∨ ∃ g, fAddr H k = some ⟨g, 0, none⟩ := by
  unfold fMost fAddr
  split <;> simp

set_option maxRecDepth 100000 in
set_option maxHeartbeats 2000000 in
theorem firstForm_yes {w : World} (k : Nat) (hk : k < 8) (c : Nat) (hc : w.cell? ⟨c, 0, none⟩ = some (.int .i64 ((k + 1 : Nat) : Int))) (hl : c < w.heap.size) :
    Calls Try.prog 53 #[.func (.func 54) #[] #[.pointer (some ⟨c, 0, none⟩)]] w (FormDone w (k + 1)) := by
  have HC := Lib.hid hc
  have HL := Lib.hid hl
  have HIX := Lib.hid (show formIx ((k + 1 : Nat) : Int) = (k : Int) from by unfold formIx; rw [if_pos (by omega)]; omega)
  obtain ⟨a, ha⟩ : ∃ a : Int, a = ((k + 1 : Nat) : Int) := ⟨_, rfl⟩
  obtain ⟨s, hs⟩ : ∃ s : ByteArray, s = ⟨(fWord (k + 1)).toArray⟩ := ⟨_, rfl⟩
  obtain ⟨b, hb⟩ : ∃ b, b = fOther (k + 1) := ⟨_, rfl⟩
  obtain ⟨mn, hmn⟩ : ∃ n, n = (fMost (k + 1)).length := ⟨_, rfl⟩
  obtain ⟨F, hF⟩ : ∃ n, n = fDo (k + 1) := ⟨_, rfl⟩
  have HA := Lib.hid ha; have HSS := Lib.hid hs; have HBB := Lib.hid hb; have HMN := Lib.hid hmn; have HFF := Lib.hid hF
  clear ha hs hb hmn hF hc hl
  have hk0 : (0 : Int) ≤ (k : Int) := by omega
  have hk8 : (k : Int) < 8 := by omega
  have hkn : ¬ ((k : Int) < 0) := by omega
  have hZ := Blk.new w 90 #[.int .i64 0, .string ⟨#[]⟩, .bool false, .slice none 0 0, .nilFunc]
  have HZ := Lib.hid hZ
  clear hZ
  go_enter Try.func53, Try.ntmps53
  go_wp2_with (first
    | (go_at_call 57; refine (forms_calls _).mono ?_; rintro e w1 ⟨rfl, hfm⟩; have HFM := Lib.hid (show Forms _ w1 (w.heap.size + 1) from by have h := hfm; rwa [World.size_alloc] at h); have HZ1 := Lib.hid (HZ.out.below hfm.bel); have HCC := Lib.hid ((hfm.bel.cell (p := ⟨c, 0, none⟩) (by rw [World.size_alloc]; exact Nat.lt_succ_of_lt HL.out)).trans (((Below.refl w.heap.size w).alloc (Nat.le_refl _) (.cells #[.int .i64 0, .string ⟨#[]⟩, .bool false, .slice none 0 0, .nilFunc] 90)).cell (p := ⟨c, 0, none⟩) HL.out |>.trans HC.out)); have HLL := Lib.hid (show c < w1.heap.size from Nat.lt_of_lt_of_le (Nat.lt_succ_of_lt HL.out) (by have := hfm.bel.size; rwa [World.size_alloc] at this)); clear hfm)
    | (go_at_call 58; refine (indexForms_calls HFM.out ((k + 1 : Nat) : Int) c HCC.out HLL.out).mono ?_; rintro e w2 ⟨rfl, hb2⟩; rw [HIX.out]; have HB2 := Lib.hid hb2; have HZ2 := Lib.hid (HZ1.out.below hb2); have hGl := HFM.out.all.lt
       have c0 := (show w2.cell? _ = some (.int .i64 a) from ((hb2.cell (p := ⟨_, k * 5, none⟩) hGl).trans (HFM.out.at k hk 0 (by omega))).trans (by rw [HA.out]; rfl))
       have c1 := (show w2.cell? _ = some (.string s) from ((hb2.cell (p := ⟨_, k * 5 + 1, none⟩) hGl).trans (HFM.out.at k hk 1 (by omega))).trans (by rw [HSS.out]; rfl))
       have c2 := (show w2.cell? _ = some (.bool b) from ((hb2.cell (p := ⟨_, k * 5 + 2, none⟩) hGl).trans (HFM.out.at k hk 2 (by omega))).trans (by rw [HBB.out]; rfl))
       have c3 := (show w2.cell? _ = some (.slice (fAddr _ (k + 1)) mn mn) from ((hb2.cell (p := ⟨_, k * 5 + 3, none⟩) hGl).trans (HFM.out.at k hk 3 (by omega))).trans (by rw [HMN.out]; rfl))
       have c4 := (show w2.cell? _ = some (.func (.func F) #[] #[]) from ((hb2.cell (p := ⟨_, k * 5 + 4, none⟩) hGl).trans (HFM.out.at k hk 4 (by omega))).trans (by rw [HFF.out]; rfl))
       have z0 := HZ2.out.at 0 _ rfl; have z1 := HZ2.out.at 1 _ rfl; have z2 := HZ2.out.at 2 _ rfl; have z3 := HZ2.out.at 3 _ rfl; have z4 := HZ2.out.at 4 _ rfl
       have y0 := HZ2.out.frozen 0; have y1 := HZ2.out.frozen 1; have y2 := HZ2.out.frozen 2; have y3 := HZ2.out.frozen 3; have y4 := HZ2.out.frozen 4
       clear hb2))
  have k5 := ((((HZ2.out.set_ 0 (.int .i64 a)).set_ 1 (.string s)).set_ 2 (.bool b)).set_ 3 (.slice (fAddr (w.heap.size + 1) (k + 1)) mn mn)).set_ 4 (.func (.func F) #[] #[])
  have bW : Below w.heap.size w w2 := ((((Below.refl w.heap.size w).alloc (Nat.le_refl _) (.cells #[.int .i64 0, .string ⟨#[]⟩, .bool false, .slice none 0 0, .nilFunc] 90)).trans (HFM.out.bel.mono (by rw [World.size_alloc]; omega))).trans (HB2.out.mono (by have := HFM.out.bel.size; rw [World.size_alloc] at this; omega)))
  have b5 : Below w.heap.size w (((((w2.setCell ⟨w.heap.size, 0, none⟩ (.int .i64 a)).setCell ⟨w.heap.size, 1, none⟩ (.string s)).setCell ⟨w.heap.size, 2, none⟩ (.bool b)).setCell ⟨w.heap.size, 3, none⟩ (.slice (fAddr (w.heap.size + 1) (k + 1)) mn mn)).setCell ⟨w.heap.size, 4, none⟩ (.func (.func F) #[] #[])) := ((((bW.setCell (p := ⟨w.heap.size, 0, none⟩) (Nat.le_refl _) _).setCell (p := ⟨w.heap.size, 1, none⟩) (Nat.le_refl _) _).setCell (p := ⟨w.heap.size, 2, none⟩) (Nat.le_refl _) _).setCell (p := ⟨w.heap.size, 3, none⟩) (Nat.le_refl _) _).setCell (p := ⟨w.heap.size, 4, none⟩) (Nat.le_refl _) _
  have hm5 : ∀ g, fAddr (w.heap.size + 1) (k + 1) = some ⟨g, 0, none⟩ → Blk (((((w2.setCell ⟨w.heap.size, 0, none⟩ (.int .i64 a)).setCell ⟨w.heap.size, 1, none⟩ (.string s)).setCell ⟨w.heap.size, 2, none⟩ (.bool b)).setCell ⟨w.heap.size, 3, none⟩ (.slice (fAddr (w.heap.size + 1) (k + 1)) mn mn)).setCell ⟨w.heap.size, 4, none⟩ (.func (.func F) #[] #[])) g 3 (intCells (fMost (k + 1))).toArray := fun g hg => by
    have hB := (HFM.out.most (k + 1) g hg).below HB2.out
    have hne : g ≠ w.heap.size := fun e => by
      have h2 := HZ2.out
      rw [← e] at h2
      have h3 := hB.symm.trans h2
      simp at h3
    exact ((((hB.far (p := ⟨w.heap.size, 0, none⟩) hne _).far (p := ⟨w.heap.size, 1, none⟩) hne _).far (p := ⟨w.heap.size, 2, none⟩) hne _).far (p := ⟨w.heap.size, 3, none⟩) hne _).far (p := ⟨w.heap.size, 4, none⟩) hne _
  generalize (((((w2.setCell ⟨w.heap.size, 0, none⟩ (.int .i64 a)).setCell ⟨w.heap.size, 1, none⟩ (.string s)).setCell ⟨w.heap.size, 2, none⟩ (.bool b)).setCell ⟨w.heap.size, 3, none⟩ (.slice (fAddr (w.heap.size + 1) (k + 1)) mn mn)).setCell ⟨w.heap.size, 4, none⟩ (.func (.func F) #[] #[])) = W5 at k5 b5 hm5 ⊢
  have r0 := k5.at 0 (.int .i64 a) rfl
  have r1 := k5.at 1 (.string s) rfl
  have r2 := k5.at 2 (.bool b) rfl
  have r3 := k5.at 3 (.slice (fAddr (w.heap.size + 1) (k + 1)) mn mn) rfl
  have r4 := k5.at 4 (.func (.func F) #[] #[]) rfl
  exact bodyPost_ret (v := .tuple #[.agg #[.int .i64 a, .string s, .bool b, .slice (fAddr (w.heap.size + 1) (k + 1)) mn mn, .func (.func F) #[] #[]], .bool true]) (by simp [results, Try.results53, go_sem, r0, r1, r2, r3, r4]) rfl
    ⟨fAddr (w.heap.size + 1) (k + 1), by rw [HA.out, HSS.out, HBB.out, HMN.out, HFF.out], b5, hm5, fAddr_of _ _⟩

set_option maxRecDepth 100000 in
set_option maxHeartbeats 2000000 in
theorem firstForm_no {w : World} (kind : Int) (hk : ¬ (1 ≤ kind ∧ kind ≤ 8)) (c : Nat) (hc : w.cell? ⟨c, 0, none⟩ = some (.int .i64 kind)) (hl : c < w.heap.size) :
    Calls Try.prog 53 #[.func (.func 54) #[] #[.pointer (some ⟨c, 0, none⟩)]] w fun e w' => e = .returned (.tuple #[.agg #[.int .i64 0, .string ⟨#[]⟩, .bool false, .slice none 0 0, .nilFunc], .bool false]) ∧ Below w.heap.size w w' := by
  have HC := Lib.hid hc
  have HL := Lib.hid hl
  have HIX := Lib.hid (show formIx kind = -1 from by unfold formIx; rw [if_neg hk])
  clear hc hl hk
  have hZ := Blk.new w 90 #[.int .i64 0, .string ⟨#[]⟩, .bool false, .slice none 0 0, .nilFunc]
  have HZ := Lib.hid hZ
  clear hZ
  go_enter Try.func53, Try.ntmps53
  go_wp2_with (first
    | (go_at_call 57; refine (forms_calls _).mono ?_; rintro e w1 ⟨rfl, hfm⟩; have HFM := Lib.hid (show Forms _ w1 (w.heap.size + 1) from by have h := hfm; rwa [World.size_alloc] at h); have HZ1 := Lib.hid (HZ.out.below hfm.bel); have HCC := Lib.hid ((hfm.bel.cell (p := ⟨c, 0, none⟩) (by rw [World.size_alloc]; exact Nat.lt_succ_of_lt HL.out)).trans (((Below.refl w.heap.size w).alloc (Nat.le_refl _) (.cells #[.int .i64 0, .string ⟨#[]⟩, .bool false, .slice none 0 0, .nilFunc] 90)).cell (p := ⟨c, 0, none⟩) HL.out |>.trans HC.out)); have HLL := Lib.hid (show c < w1.heap.size from Nat.lt_of_lt_of_le (Nat.lt_succ_of_lt HL.out) (by have := hfm.bel.size; rwa [World.size_alloc] at this)); clear hfm)
    | (go_at_call 58; refine (indexForms_calls HFM.out kind c HCC.out HLL.out).mono ?_; rintro e w2 ⟨rfl, hb2⟩; rw [HIX.out]; have HB2 := Lib.hid hb2; have HZ2 := Lib.hid (HZ1.out.below hb2)
       have z0 := HZ2.out.at 0 _ rfl; have z1 := HZ2.out.at 1 _ rfl; have z2 := HZ2.out.at 2 _ rfl; have z3 := HZ2.out.at 3 _ rfl; have z4 := HZ2.out.at 4 _ rfl
       have y0 := HZ2.out.frozen 0; have y1 := HZ2.out.frozen 1; have y2 := HZ2.out.frozen 2; have y3 := HZ2.out.frozen 3; have y4 := HZ2.out.frozen 4
       clear hb2))
  have k5 := ((((HZ2.out.set_ 0 (.int .i64 0)).set_ 1 (.string ⟨#[]⟩)).set_ 2 (.bool false)).set_ 3 (.slice none 0 0)).set_ 4 .nilFunc
  have bW : Below w.heap.size w w2 := ((((Below.refl w.heap.size w).alloc (Nat.le_refl _) (.cells #[.int .i64 0, .string ⟨#[]⟩, .bool false, .slice none 0 0, .nilFunc] 90)).trans (HFM.out.bel.mono (by rw [World.size_alloc]; omega))).trans (HB2.out.mono (by have := HFM.out.bel.size; rw [World.size_alloc] at this; omega)))
  have b5 : Below w.heap.size w (((((w2.setCell ⟨w.heap.size, 0, none⟩ (.int .i64 0)).setCell ⟨w.heap.size, 1, none⟩ (.string ⟨#[]⟩)).setCell ⟨w.heap.size, 2, none⟩ (.bool false)).setCell ⟨w.heap.size, 3, none⟩ (.slice none 0 0)).setCell ⟨w.heap.size, 4, none⟩ .nilFunc) := ((((bW.setCell (p := ⟨w.heap.size, 0, none⟩) (Nat.le_refl _) _).setCell (p := ⟨w.heap.size, 1, none⟩) (Nat.le_refl _) _).setCell (p := ⟨w.heap.size, 2, none⟩) (Nat.le_refl _) _).setCell (p := ⟨w.heap.size, 3, none⟩) (Nat.le_refl _) _).setCell (p := ⟨w.heap.size, 4, none⟩) (Nat.le_refl _) _
  generalize (((((w2.setCell ⟨w.heap.size, 0, none⟩ (.int .i64 0)).setCell ⟨w.heap.size, 1, none⟩ (.string ⟨#[]⟩)).setCell ⟨w.heap.size, 2, none⟩ (.bool false)).setCell ⟨w.heap.size, 3, none⟩ (.slice none 0 0)).setCell ⟨w.heap.size, 4, none⟩ .nilFunc) = W5 at k5 b5 ⊢
  have r0 := k5.at 0 (.int .i64 0) rfl
  have r1 := k5.at 1 (.string ⟨#[]⟩) rfl
  have r2 := k5.at 2 (.bool false) rfl
  have r3 := k5.at 3 (.slice none 0 0) rfl
  have r4 := k5.at 4 .nilFunc rfl
  exact bodyPost_ret (v := .tuple #[.agg #[.int .i64 0, .string ⟨#[]⟩, .bool false, .slice none 0 0, .nilFunc], .bool false]) (by simp [results, Try.results53, go_sem, r0, r1, r2, r3, r4]) rfl ⟨rfl, b5⟩
end Go.Proofs.Ytbgojeppfhldjaa
namespace Go.Proofs.Ytbgojeppfhldjaa
open Go Go.RowKit Go.Shelf Yd

set_option maxRecDepth 100000 in
set_option maxHeartbeats 2000000 in
theorem formOf_yes {w : World} (k : Nat) (hk : k < 8) (kind : Int) (hkd : kind = ((k + 1 : Nat) : Int)) :
    Calls Try.prog 40 #[.int .i64 kind] w (FormDone w (k + 1)) := by
  obtain ⟨a, ha⟩ : ∃ a : Int, a = ((k + 1 : Nat) : Int) := ⟨_, rfl⟩
  obtain ⟨s, hs⟩ : ∃ s : ByteArray, s = ⟨(fWord (k + 1)).toArray⟩ := ⟨_, rfl⟩
  obtain ⟨b, hb⟩ : ∃ b, b = fOther (k + 1) := ⟨_, rfl⟩
  obtain ⟨mn, hmn⟩ : ∃ n, n = (fMost (k + 1)).length := ⟨_, rfl⟩
  obtain ⟨F, hF⟩ : ∃ n, n = fDo (k + 1) := ⟨_, rfl⟩
  obtain rfl : kind = a := hkd.trans ha.symm
  have HA := Lib.hid ha; have HSS := Lib.hid hs; have HBB := Lib.hid hb; have HMN := Lib.hid hmn; have HFF := Lib.hid hF
  clear ha hs hb hmn hF hkd
  have HZ := Lib.hid (Blk.new' (w := w.alloc (.cells #[.int .i64 kind] 55)) (g := w.heap.size + 1) (World.size_alloc _ _) 90 #[.int .i64 0, .string ⟨#[]⟩, .bool false, .slice none 0 0, .nilFunc])
  have HC := Lib.hid (show ((w.alloc (.cells #[.int .i64 kind] 55)).alloc (.cells #[.int .i64 0, .string ⟨#[]⟩, .bool false, .slice none 0 0, .nilFunc] 90)).cell? ⟨w.heap.size, 0, none⟩ = some (.int .i64 kind) from ((Blk.new w 55 #[.int .i64 kind]).alloc (.cells #[.int .i64 0, .string ⟨#[]⟩, .bool false, .slice none 0 0, .nilFunc] 90)).at 0 _ rfl)
  have HL := Lib.hid (show w.heap.size < ((w.alloc (.cells #[.int .i64 kind] 55)).alloc (.cells #[.int .i64 0, .string ⟨#[]⟩, .bool false, .slice none 0 0, .nilFunc] 90)).heap.size by simp only [World.size_alloc]; omega)
  have HBW := Lib.hid (show Below w.heap.size w ((w.alloc (.cells #[.int .i64 kind] 55)).alloc (.cells #[.int .i64 0, .string ⟨#[]⟩, .bool false, .slice none 0 0, .nilFunc] 90)) from ((Below.refl w.heap.size w).alloc (Nat.le_refl _) _).alloc (by simp only [World.size_alloc]; omega) _)
  have hmf : ∀ (fn : Fn) (first cap : Array Value) (w : World), (Instr.makeFunc fn first cap).run Try.prog w = .ok (.func fn first cap) w := fun _ _ _ _ => rfl
  go_enter Try.func40, Try.ntmps40
  go_wp2_with (go_at_call 53; refine (firstForm_yes k hk w.heap.size (HC.out.trans (by rw [HA.out])) HL.out).mono ?_; rintro e w2 ⟨ma, rfl, hb2, hm2, hma⟩; rw [← HA.out, ← HSS.out, ← HBB.out, ← HMN.out, ← HFF.out]; have HZ2 := Lib.hid (HZ.out.below hb2); have bW := HBW.out.trans (hb2.mono HBW.out.size); have z0 := HZ2.out.at 0 _ rfl; have z1 := HZ2.out.at 1 _ rfl; have z2 := HZ2.out.at 2 _ rfl; have z3 := HZ2.out.at 3 _ rfl; have z4 := HZ2.out.at 4 _ rfl; have y0 := HZ2.out.frozen 0; have y1 := HZ2.out.frozen 1; have y2 := HZ2.out.frozen 2; have y3 := HZ2.out.frozen 3; have y4 := HZ2.out.frozen 4; have HB2 := Lib.hid hb2; clear hb2; have HM2 := Lib.hid hm2; have HMA := Lib.hid hma; clear hm2 hma)
  have k5 := ((((HZ2.out.set_ 0 (.int .i64 kind)).set_ 1 (.string s)).set_ 2 (.bool b)).set_ 3 (.slice ma mn mn)).set_ 4 (.func (.func F) #[] #[])
  have b5 : Below w.heap.size w (((((w2.setCell ⟨w.heap.size + 1, 0, none⟩ (.int .i64 kind)).setCell ⟨w.heap.size + 1, 1, none⟩ (.string s)).setCell ⟨w.heap.size + 1, 2, none⟩ (.bool b)).setCell ⟨w.heap.size + 1, 3, none⟩ (.slice ma mn mn)).setCell ⟨w.heap.size + 1, 4, none⟩ (.func (.func F) #[] #[])) := (((((bW.setCell (p := ⟨w.heap.size + 1, 0, none⟩) (Nat.le_succ _) _).setCell (p := ⟨w.heap.size + 1, 1, none⟩) (Nat.le_succ _) _).setCell (p := ⟨w.heap.size + 1, 2, none⟩) (Nat.le_succ _) _).setCell (p := ⟨w.heap.size + 1, 3, none⟩) (Nat.le_succ _) _).setCell (p := ⟨w.heap.size + 1, 4, none⟩) (Nat.le_succ _) _)
  have hm5 : ∀ g, ma = some ⟨g, 0, none⟩ → Blk (((((w2.setCell ⟨w.heap.size + 1, 0, none⟩ (.int .i64 kind)).setCell ⟨w.heap.size + 1, 1, none⟩ (.string s)).setCell ⟨w.heap.size + 1, 2, none⟩ (.bool b)).setCell ⟨w.heap.size + 1, 3, none⟩ (.slice ma mn mn)).setCell ⟨w.heap.size + 1, 4, none⟩ (.func (.func F) #[] #[])) g 3 (intCells (fMost (k + 1))).toArray := fun g hg => by
    have hB := HM2.out g hg
    have hne : g ≠ w.heap.size + 1 := fun e => by
      have h2 := HZ2.out
      rw [← e] at h2
      have h3 := hB.symm.trans h2
      simp at h3
    exact ((((hB.far (p := ⟨w.heap.size + 1, 0, none⟩) hne _).far (p := ⟨w.heap.size + 1, 1, none⟩) hne _).far (p := ⟨w.heap.size + 1, 2, none⟩) hne _).far (p := ⟨w.heap.size + 1, 3, none⟩) hne _).far (p := ⟨w.heap.size + 1, 4, none⟩) hne _
  generalize (((((w2.setCell ⟨w.heap.size + 1, 0, none⟩ (.int .i64 kind)).setCell ⟨w.heap.size + 1, 1, none⟩ (.string s)).setCell ⟨w.heap.size + 1, 2, none⟩ (.bool b)).setCell ⟨w.heap.size + 1, 3, none⟩ (.slice ma mn mn)).setCell ⟨w.heap.size + 1, 4, none⟩ (.func (.func F) #[] #[])) = W5 at k5 b5 hm5 ⊢
  have r0 := k5.at 0 (.int .i64 kind) rfl
  have r1 := k5.at 1 (.string s) rfl
  have r2 := k5.at 2 (.bool b) rfl
  have r3 := k5.at 3 (.slice ma mn mn) rfl
  have r4 := k5.at 4 (.func (.func F) #[] #[]) rfl
  exact bodyPost_ret (v := .tuple #[.agg #[.int .i64 kind, .string s, .bool b, .slice ma mn mn, .func (.func F) #[] #[]], .bool true]) (by simp [results, Try.results40, go_sem, r0, r1, r2, r3, r4]) rfl
    ⟨ma, by rw [HA.out, HSS.out, HBB.out, HMN.out, HFF.out], b5, hm5, HMA.out⟩

set_option maxRecDepth 100000 in
set_option maxHeartbeats 2000000 in
theorem formOf_no {w : World} (kind : Int) (hk : ¬ (1 ≤ kind ∧ kind ≤ 8)) :
    Calls Try.prog 40 #[.int .i64 kind] w fun e w' => e = .returned (.tuple #[.agg #[.int .i64 0, .string ⟨#[]⟩, .bool false, .slice none 0 0, .nilFunc], .bool false]) ∧ Below w.heap.size w w' := by
  have HZ := Lib.hid (Blk.new' (w := w.alloc (.cells #[.int .i64 kind] 55)) (g := w.heap.size + 1) (World.size_alloc _ _) 90 #[.int .i64 0, .string ⟨#[]⟩, .bool false, .slice none 0 0, .nilFunc])
  have HC := Lib.hid (show ((w.alloc (.cells #[.int .i64 kind] 55)).alloc (.cells #[.int .i64 0, .string ⟨#[]⟩, .bool false, .slice none 0 0, .nilFunc] 90)).cell? ⟨w.heap.size, 0, none⟩ = some (.int .i64 kind) from ((Blk.new w 55 #[.int .i64 kind]).alloc (.cells #[.int .i64 0, .string ⟨#[]⟩, .bool false, .slice none 0 0, .nilFunc] 90)).at 0 _ rfl)
  have HL := Lib.hid (show w.heap.size < ((w.alloc (.cells #[.int .i64 kind] 55)).alloc (.cells #[.int .i64 0, .string ⟨#[]⟩, .bool false, .slice none 0 0, .nilFunc] 90)).heap.size by simp only [World.size_alloc]; omega)
  have HBW := Lib.hid (show Below w.heap.size w ((w.alloc (.cells #[.int .i64 kind] 55)).alloc (.cells #[.int .i64 0, .string ⟨#[]⟩, .bool false, .slice none 0 0, .nilFunc] 90)) from ((Below.refl w.heap.size w).alloc (Nat.le_refl _) _).alloc (by simp only [World.size_alloc]; omega) _)
  have hmf : ∀ (fn : Fn) (first cap : Array Value) (w : World), (Instr.makeFunc fn first cap).run Try.prog w = .ok (.func fn first cap) w := fun _ _ _ _ => rfl
  go_enter Try.func40, Try.ntmps40
  go_wp2_with (go_at_call 53; refine (firstForm_no kind hk w.heap.size HC.out HL.out).mono ?_; rintro e w2 ⟨rfl, hb2⟩; have HZ2 := Lib.hid (HZ.out.below hb2); have bW := HBW.out.trans (hb2.mono HBW.out.size); have z0 := HZ2.out.at 0 _ rfl; have z1 := HZ2.out.at 1 _ rfl; have z2 := HZ2.out.at 2 _ rfl; have z3 := HZ2.out.at 3 _ rfl; have z4 := HZ2.out.at 4 _ rfl; have y0 := HZ2.out.frozen 0; have y1 := HZ2.out.frozen 1; have y2 := HZ2.out.frozen 2; have y3 := HZ2.out.frozen 3; have y4 := HZ2.out.frozen 4; have HB2 := Lib.hid hb2; clear hb2)
  have k5 := ((((HZ2.out.set_ 0 (.int .i64 0)).set_ 1 (.string ⟨#[]⟩)).set_ 2 (.bool false)).set_ 3 (.slice none 0 0)).set_ 4 .nilFunc
  have b5 : Below w.heap.size w (((((w2.setCell ⟨w.heap.size + 1, 0, none⟩ (.int .i64 0)).setCell ⟨w.heap.size + 1, 1, none⟩ (.string ⟨#[]⟩)).setCell ⟨w.heap.size + 1, 2, none⟩ (.bool false)).setCell ⟨w.heap.size + 1, 3, none⟩ (.slice none 0 0)).setCell ⟨w.heap.size + 1, 4, none⟩ (.nilFunc)) := (((((bW.setCell (p := ⟨w.heap.size + 1, 0, none⟩) (Nat.le_succ _) _).setCell (p := ⟨w.heap.size + 1, 1, none⟩) (Nat.le_succ _) _).setCell (p := ⟨w.heap.size + 1, 2, none⟩) (Nat.le_succ _) _).setCell (p := ⟨w.heap.size + 1, 3, none⟩) (Nat.le_succ _) _).setCell (p := ⟨w.heap.size + 1, 4, none⟩) (Nat.le_succ _) _)
  generalize (((((w2.setCell ⟨w.heap.size + 1, 0, none⟩ (.int .i64 0)).setCell ⟨w.heap.size + 1, 1, none⟩ (.string ⟨#[]⟩)).setCell ⟨w.heap.size + 1, 2, none⟩ (.bool false)).setCell ⟨w.heap.size + 1, 3, none⟩ (.slice none 0 0)).setCell ⟨w.heap.size + 1, 4, none⟩ (.nilFunc)) = W5 at k5 b5 ⊢
  have r0 := k5.at 0 (.int .i64 0) rfl
  have r1 := k5.at 1 (.string ⟨#[]⟩) rfl
  have r2 := k5.at 2 (.bool false) rfl
  have r3 := k5.at 3 (.slice none 0 0) rfl
  have r4 := k5.at 4 .nilFunc rfl
  exact bodyPost_ret (v := .tuple #[.agg #[.int .i64 0, .string ⟨#[]⟩, .bool false, .slice none 0 0, .nilFunc], .bool false]) (by simp [results, Try.results40, go_sem, r0, r1, r2, r3, r4]) rfl ⟨rfl, b5⟩
end Go.Proofs.Ytbgojeppfhldjaa
