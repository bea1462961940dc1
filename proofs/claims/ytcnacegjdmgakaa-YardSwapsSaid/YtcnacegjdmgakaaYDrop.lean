/- The shelf: a thing is dropped. -/
import Derived.Test.YtcnacegjdmgakaaYDropFacts
namespace Go.Proofs.Ytcnacegjdmgakaa
open Go Go.RowKit Yd

/-- What a drop leaves. -/
def DropDone (w : World) (C : Nat → Prop) (B : Nat) (bef aft : Int) (l : List SRow) (c : Yd.Acc) (made : Int) (N m : Nat) (e : Ending) (w' : World) : Prop :=
  e = .returned (.tuple #[]) ∧ Beside C w w' ∧ ∃ kv' tv', Book w' C B bef aft l c made N kv' tv' m

/-- While the places are laid anew. -/
structure Laying (w4 wr : World) (m N : Nat) (l' : List SRow) (k r : Nat) : Prop where
  places : Places wr m (N + r) (ixAt l' k r)
  grown : w4.grownBy wr (some m)

set_option maxRecDepth 100000 in
set_option maxHeartbeats 2000000 in
theorem drop_calls {w : World} {C : Nat → Prop} {B : Nat} {bef aft : Int} {l : List SRow} {c : Yd.Acc} {made : Int} {N : Nat} {kv tv : Value} {m : Nat} (h : Book w C B bef aft l c made N kv tv m)
    (code : Code) (hs : code.size ≤ maxLen) {k : Nat} {p : SRow} (hk : ixOf l code = some k) (hp : l[k]? = some p) (hN : N + 10 ≤ 1000000) :
    Calls Try.prog 104 #[.pointer (some ⟨B, 2, none⟩), .string code] w (DropDone w C B bef aft (l.eraseIdx k) c made (N + 10) m) := by
  have hkl : k < l.length := (List.getElem?_eq_some_iff.1 hp).1
  have hpc : p.1.code = code := by
    obtain ⟨p', hp', e⟩ := ixOf_some hk
    rw [hp] at hp'; cases hp'; exact e
  have hfew := h.few
  obtain ⟨n, hn⟩ : ∃ n, l.length = n + 1 := ⟨l.length - 1, by omega⟩
  obtain ⟨gk, ck, hkv, hck⟩ : ∃ g cap, kv = .slice (some ⟨g, 0, none⟩) (n + 1) cap ∧ ¬ cap = k := by
    obtain ⟨g, cap, _, h1, _, h2, _⟩ := row_block h.keys (by omega)
    rw [hn] at h1 h2
    exact ⟨g, cap, h1, by omega⟩
  obtain ⟨gt, ct, htv⟩ : ∃ g cap, tv = .slice (some ⟨g, 0, none⟩) (n + 1) cap := by
    obtain ⟨g, cap, _, h1, _⟩ := row_block h.things (by omega)
    rw [hn] at h1
    exact ⟨g, cap, h1⟩
  subst hkv htv
  have k2 := h.blk.at 2 (.slice (some ⟨gk, 0, none⟩) (n + 1) ck) rfl
  have k3 := h.blk.at 3 (.slice (some ⟨gt, 0, none⟩) (n + 1) ct) rfl
  have k4 := h.blk.at 4 (.map (some m)) rfl
  have hlk := h.places.look1 hs (T := 87) Try.underlying87 hk
  have hK := h.keys
  have hT := h.things
  rw [hn] at hK hT
  have hk1 : k < n + 1 := by omega
  have hgB : B ≠ m := fun e => by subst e; exact h.places.noBlk h.blk
  have H := Lib.hid h
  have HK := Lib.hid hK
  have HT := Lib.hid hT
  have HP := Lib.hid hp
  have HN := Lib.hid hn
  have HS := Lib.hid hs
  have HPC := Lib.hid hpc
  have HNN := Lib.hid hN
  have hB := h.blk.lt
  have hk0 : (0 : Int) ≤ (k : Int) := by omega
  have hk2 : (k : Int) ≤ (n : Int) := by omega
  have hn8 : (n : Int) + 1 ≤ 8 := by omega
  clear h hp hpc hn hs hN hkl hfew hk hK hT
  go_enter Try.func104, Try.ntmps104
  go_wp2_with (first
    | (at_delete; refine wpList_places_drop rfl (.tmp 16) (.tmp 17) 87 rfl Try.underlying87 rfl H.out.places rfl HS.out ?_; intro w1 hp1 hg1; have HP1 := Lib.hid hp1; have HB1 := Lib.hid ((Beside.refl C w).grown hg1 (fun r e => (by cases e; exact .inl H.out.inM))); have HK1 := Lib.hid (row_grown HK.out hg1 (row_notMap HK.out H.out.places)); have HT1 := Lib.hid (row_grown HT.out hg1 (row_notMap HT.out H.out.places)); have HF1 := Lib.hid (fun p hp => row_grown (H.out.froms p hp) hg1 (row_notMap (H.out.froms p hp) H.out.places)); have HBK1 := Lib.hid (H.out.blk.grown hg1 (fun e => hgB (by cases e; rfl))); have k2 := HBK1.out.at 2 (.slice (some ⟨gk, 0, none⟩) (n + 1) ck) rfl; have hB1 := HBK1.out.lt; clear hp1 hg1)
    | (go_at_call 109; refine (del_str HK1.out hk1 (by omega) (ones_codes l)).mono ?_; rintro e w2 ⟨rfl, hk2', hg2⟩; have HK2 := Lib.hid hk2'; have HG2 := Lib.hid hg2; have HBK2 := Lib.hid (HBK1.out.grown hg2 (HBK1.out.notRow HK1.out (by decide))); have k2 := HBK2.out.at 2 (.slice (some ⟨gk, 0, none⟩) (n + 1) ck) rfl; have f2 := HBK2.out.frozen 2; have k3 := HBK2.out.at 3 (.slice (some ⟨gt, 0, none⟩) (n + 1) ct) rfl; have hB2 := HBK2.out.lt; have HT2 := Lib.hid (row_setCell (row_grown HT1.out hg2 (row_notRow HT1.out HK1.out (by decide))) HBK2.out (by decide) 2 (.slice (some ⟨gk, 0, none⟩) n ck)); clear hk2' hg2)
    | (go_at_call 110; refine (del_stk HT2.out hk1 (by omega) (ones_rows (fun p hp => row_slice (H.out.froms p hp)))).mono ?_; rintro e w3 ⟨rfl, ht3, hg3⟩; have HT3 := Lib.hid ht3; have HG3 := Lib.hid hg3; have HBK3 := Lib.hid ((show Blk (w2.setCell ⟨B, 2, none⟩ (.slice (some ⟨gk, 0, none⟩) n ck)) B 91 (bookCells bef aft (.slice (some ⟨gk, 0, none⟩) n ck) (.slice (some ⟨gt, 0, none⟩) (n + 1) ct) m c made).toArray from HBK2.out.set_ 2 _).grown hg3 ((show Blk (w2.setCell ⟨B, 2, none⟩ (.slice (some ⟨gk, 0, none⟩) n ck)) B 91 (bookCells bef aft (.slice (some ⟨gk, 0, none⟩) n ck) (.slice (some ⟨gt, 0, none⟩) (n + 1) ct) m c made).toArray from HBK2.out.set_ 2 _).notRow HT2.out (by decide))); have k3' := HBK3.out.at 3 (.slice (some ⟨gt, 0, none⟩) (n + 1) ct) rfl; have f3 := HBK3.out.frozen 3; have k2' := HBK3.out.at 2 (.slice (some ⟨gk, 0, none⟩) n ck) rfl; have hB3 := HBK3.out.lt; clear ht3 hg3))
  have HP2 := Lib.hid ((HP1.out.grown HG2.out (HP1.out.notRow HK1.out)).setCell HBK2.out 2 (.slice (some ⟨gk, 0, none⟩) n ck))
  have HF2 := Lib.hid (fun p hp => row_setCell (row_grown (HF1.out p hp) HG2.out (row_notRow (HF1.out p hp) HK1.out (by decide))) HBK2.out (by decide) 2 (.slice (some ⟨gk, 0, none⟩) n ck))
  have HK2' := Lib.hid (row_setCell HK2.out HBK2.out (by decide) 2 (.slice (some ⟨gk, 0, none⟩) n ck))
  have HB2 := Lib.hid ((HB1.out.grown HG2.out (fun r e => by cases e; exact .inl (H.out.inK _ rfl))).setCell (p := ⟨B, 2, none⟩) (.inl H.out.inB) (.slice (some ⟨gk, 0, none⟩) n ck))
  have HP3 := Lib.hid ((HP2.out.grown HG3.out (HP2.out.notRow HT2.out)).setCell HBK3.out 3 (.slice (some ⟨gt, 0, none⟩) n ct))
  have HF3 := Lib.hid (fun p hp => row_setCell (row_grown (HF2.out p hp) HG3.out (row_notRow (HF2.out p hp) HT2.out (by decide))) HBK3.out (by decide) 3 (.slice (some ⟨gt, 0, none⟩) n ct))
  have HK3 := Lib.hid (row_setCell (row_grown HK2'.out HG3.out (row_notRow HK2'.out HT2.out (by decide))) HBK3.out (by decide) 3 (.slice (some ⟨gt, 0, none⟩) n ct))
  have HT3' := Lib.hid (row_setCell HT3.out HBK3.out (by decide) 3 (.slice (some ⟨gt, 0, none⟩) n ct))
  have HB3 := Lib.hid ((HB2.out.grown HG3.out (fun r e => by cases e; exact .inl (H.out.inT _ rfl))).setCell (p := ⟨B, 3, none⟩) (.inl H.out.inB) (.slice (some ⟨gt, 0, none⟩) n ct))
  have HBK4 := Lib.hid (show Blk (w3.setCell ⟨B, 3, none⟩ (.slice (some ⟨gt, 0, none⟩) n ct)) B 91 (bookCells bef aft (.slice (some ⟨gk, 0, none⟩) n ck) (.slice (some ⟨gt, 0, none⟩) n ct) m c made).toArray from HBK3.out.set_ 3 _)
  have HNC := Lib.hid (H.out.codes)
  have HLE := Lib.hid (show (l.eraseIdx k).length = n by rw [List.length_eraseIdx, if_pos (by rw [HN.out]; exact hk1), HN.out]; omega)
  have HP4 := Lib.hid (HP3.out.ext (fun c' => show _ = ixAt (l.eraseIdx k) k 0 c' by rw [← HPC.out]; exact ixAt_start HNC.out HP.out c'))
  have HSZ := Lib.hid H.out.sizes
  rw [codes_erase] at HK3
  rw [rows_erase] at HT3'
  clear k2 k3 k4 hlk f2 k3' f3 k2' hB hB1 hB2 HP1 HP2 HP3 HF1 HF2 HK1 HK2 HK2' HT1 HT2 HT3 HB1 HB2 HBK1 HBK2 HBK3 HG2 HG3 HK HT
  generalize w3.setCell ⟨B, 3, none⟩ (.slice (some ⟨gt, 0, none⟩) n ct) = w4 at *
  go_loopw [47] (fun i wr => ∃ r : Nat, r ≤ n - k ∧ i = .int .i64 r ∧ Hid (Laying w4 wr m N (l.eraseIdx k) k r)) (fun i _ => n - k - (intOf i).toNat)
  case atStart => exact ⟨0, Nat.zero_le _, rfl, Lib.hid ⟨HP4.out, ⟨rfl, rfl, rfl, Nat.le_refl _, fun _ _ _ => rfl⟩⟩⟩
  case round =>
    obtain ⟨r, hr, rfl, HY⟩ := hrel
    have HBR := Lib.hid (HBK4.out.grown HY.out.grown (fun e => hgB (by cases e; rfl)))
    have HKR := Lib.hid (row_grown HK3.out HY.out.grown (row_notMap HK3.out HP4.out))
    by_cases hlt : r < n - k
    · have hqx : ∃ q, (l.eraseIdx k)[k + r]? = some q := ⟨_, List.getElem?_eq_getElem (by rw [HLE.out]; omega)⟩
      obtain ⟨q, hq⟩ := hqx
      have HQ := Lib.hid hq
      have k4 := HBR.out.at 4 (.map (some m)) rfl
      have cq : wr.cell? ⟨gk, k + r, none⟩ = some (.string q.1.code) := by
        rw [World.ownsRow.cellAt HKR.out (k + r) (by omega)]
        unfold codeCells
        rw [List.getElem?_map, HQ.out]
        rfl
      have HQS := Lib.hid (show q.1.code.size ≤ maxLen from HSZ.out q ((List.eraseIdx_sublist l k).subset (List.mem_of_getElem? HQ.out)))
      have hlt' : (r : Int) < ((n - k : Nat) : Int) := by omega
      have hr0 : (0 : Int) ≤ (r : Int) := by omega
      have hnk : ((n - k : Nat) : Int) ≤ 8 := by omega
      clear hq
      go_wp2_with ((at_mapUpdate; refine wpList_places_put rfl (.tmp 55) (.tmp 56) (.tmp 59) 87 rfl Try.underlying87 rfl HY.out.places rfl HQS.out (by have := HNN.out; unfold maxLen; omega) (k := k + r) rfl (by omega) ?_); intro w5 hp5 hg5; have HY5 := Lib.hid (show Laying w4 w5 m N (l.eraseIdx k) k (r + 1) from ⟨hp5.ext (fun c' => ixAt_step (HNC.out.sublist ((List.eraseIdx_sublist l k).map _)) HQ.out c'), World.grownBy.trans HY.out.grown hg5⟩); clear hp5 hg5)
      go_roundw
      case rel => exact ⟨r + 1, by omega, by go_num, HY5⟩
      case measure => simp [intOf]; omega
    · have hlt' : ¬ (r : Int) < ((n - k : Nat) : Int) := by omega
      go_wp2
      go_end0
      refine ⟨rfl, HB3.out.grown HY.out.grown (fun r' e => by cases e; exact .inl H.out.inM), .slice (some ⟨gk, 0, none⟩) n ck, .slice (some ⟨gt, 0, none⟩) n ct, ?_⟩
      have hsub := List.eraseIdx_sublist l k
      refine ⟨HBR.out, by rw [HLE.out]; exact HKR.out, by rw [HLE.out]; exact row_grown HT3'.out HY.out.grown (row_notMap HT3'.out HP4.out), (HY.out.places.mono (by omega)).ext (fun c' => ixAt_end _ _ _ (by rw [HLE.out]; omega) c'), H.out.inB, fun g hg => (by cases hg; exact H.out.inK _ rfl), fun g hg => (by cases hg; exact H.out.inT _ rfl), H.out.inM,
        fun q hq => row_grown (HF3.out q (hsub.subset hq)) HY.out.grown (row_notMap (HF3.out q (hsub.subset hq)) HP4.out), fun q hq => H.out.fromsLen q (hsub.subset hq), HNC.out.sublist (hsub.map _), fun q hq => HSZ.out q (hsub.subset hq), by rw [HLE.out]; omega, HNN.out⟩
end Go.Proofs.Ytcnacegjdmgakaa
