/- What there really is, in memory; Real.find. -/
import Derived.Test.YtadhheahiamnoaaYRowed
namespace Go.Proofs.Ytadhheahiamnoaa
open Go Go.RowKit Go.Shelf Yd

instance : Inhabited (Yd.Pile Code) := ⟨⟨⟨#[]⟩, 0, 0⟩⟩
def pileCells (p : Yd.Pile Code) : List Value := [.string p.code, .int .i64 p.dry, .int .i64 p.water]
def findInt (l : List (Yd.Pile Code)) (c : Code) : Int := if Yd.find l c < l.length then (Yd.find l c : Int) else -1
theorem find_hit {l : List (Yd.Pile Code)} {c : Code} {k : Nat} (hk : k < l.length) (h : l[k]!.code = c) (hno : ∀ i, i < k → l[i]!.code ≠ c) : Yd.find l c = k := by
  unfold Yd.find
  rw [List.findIdx_eq hk]
  refine ⟨by rw [getElem!_pos l k hk] at h; simpa using h, fun j hj => ?_⟩
  have := hno j hj
  rw [getElem!_pos l j (by omega)] at this
  simpa using this
theorem find_miss {l : List (Yd.Pile Code)} {c : Code} (hno : ∀ i, i < l.length → l[i]!.code ≠ c) : ¬ Yd.find l c < l.length := by
  unfold Yd.find
  intro h
  have h1 := List.findIdx_getElem (w := h)
  have h2 := hno _ h
  rw [getElem!_pos l _ h] at h2
  simp at h1
  exact h2 h1

set_option maxRecDepth 100000 in
set_option maxHeartbeats 4000000 in
theorem find_calls (v : Value) (l : List (Yd.Pile Code)) (vap bro dus sdr swa soa pdr pwa : Int) (code : Code) (w : World) (h : Held w.heap.size w 3 pileCells v l) (hl : l.length ≤ 100) :
    Calls Try.prog 64 #[.agg #[v, .int .i64 vap, .int .i64 bro, .int .i64 dus, .int .i64 sdr, .int .i64 swa, .int .i64 soa, .int .i64 pdr, .int .i64 pwa], .string code] w fun e w' => e = .returned (.int .i64 (findInt l code)) ∧ Below w.heap.size w w' := by
  obtain ⟨a, c, rfl, _, hcs⟩ := h.slice
  have HCS := Lib.hid hcs
  obtain ⟨n, hn⟩ : ∃ n, n = l.length := ⟨_, rfl⟩
  have HN := Lib.hid hn
  rw [← hn] at hl ⊢
  clear h hcs hn
  have HL0 := Lib.hid (show Locs w (w.alloc (.cells #[.slice a n c, .int .i64 vap, .int .i64 bro, .int .i64 dus, .int .i64 sdr, .int .i64 swa, .int .i64 soa, .int .i64 pdr, .int .i64 pwa] 42)) [(w.heap.size, 42, [.slice a n c, .int .i64 vap, .int .i64 bro, .int .i64 dus, .int .i64 sdr, .int .i64 swa, .int .i64 soa, .int .i64 pdr, .int .i64 pwa])] [] from (Locs.start w).alloc 42 [.slice a n c, .int .i64 vap, .int .i64 bro, .int .i64 dus, .int .i64 sdr, .int .i64 swa, .int .i64 soa, .int .i64 pdr, .int .i64 pwa] rfl)
  go_enter Try.func64, Try.ntmps64
  go_wp2
  skip
  go_loopw [5] (fun iv wr => ∃ (k : Nat), k ≤ n ∧ iv = .int .i64 k ∧ Hid (∀ i, i < k → l[i]!.code ≠ code) ∧ Hid (Locs w wr [(w.heap.size, 42, [.slice a n c, .int .i64 vap, .int .i64 bro, .int .i64 dus, .int .i64 sdr, .int .i64 swa, .int .i64 soa, .int .i64 pdr, .int .i64 pwa])] [])) (fun iv _ => n - (intOf iv).toNat)
  case atStart => exact ⟨0, Nat.zero_le _, rfl, Lib.hid (fun i hi => by omega), HL0⟩
  case round =>
    clear HL0
    obtain ⟨k, hk, rfl, HNO, HL1⟩ := hrel
    have s0 := (show wr.cell? ⟨w.heap.size, 0, none⟩ = some (.slice a n c) from HL1.out.at 0 0 (v := .slice a n c) rfl rfl)
    by_cases hlt : k < n
    · obtain ⟨b, off, rfl, hb, _, hcells⟩ := HCS.out (by rw [← HN.out]; omega)
      have hkl : k < l.length := by rw [← HN.out]; exact hlt
      obtain ⟨x, hx⟩ : ∃ x, x = l[k]!.code := ⟨_, rfl⟩
      have c0 := (show wr.cell? ⟨b, off + k * 3, none⟩ = some (.string x) from (HL1.out.low.cell (p := ⟨b, off + k * 3 + 0, none⟩) hb).trans (hcells k hkl 0 _ (by rw [hx]; rfl)))
      have hkI : (k : Int) < (n : Int) := by omega
      clear hcells
      by_cases he : x = code
      · subst he
        have HF := Lib.hid (find_hit hkl hx.symm HNO.out)
        have HKL := Lib.hid hkl
        clear hx hkl
        go_wp2
        go_ret
        refine ⟨?_, HL1.out.low⟩
        unfold findInt
        rw [HF.out, if_pos HKL.out]
        rfl
      · have hcc : (ByteArray.toList x == ByteArray.toList code) = false := by rw [codes_beq]; simpa using he
        have HE := Lib.hid he; have HX := Lib.hid hx
        clear he hx
        go_wp2
        go_roundw
        case rel =>
          refine ⟨k + 1, by omega, by go_num, Lib.hid (fun i hi => ?_), HL1⟩
          rcases Nat.lt_or_ge i k with h1 | h1
          · exact HNO.out i h1
          · rw [show i = k by omega, ← HX.out]; exact HE.out
        case measure => simp [intOf]; omega
    · have hkn : n = k := by omega
      subst hkn
      go_wp2
      go_ret
      refine ⟨?_, HL1.out.low⟩
      unfold findInt
      rw [if_neg (find_miss (fun i hi => HNO.out i (by rw [HN.out]; exact hi)))]
      rfl
end Go.Proofs.Ytadhheahiamnoaa
