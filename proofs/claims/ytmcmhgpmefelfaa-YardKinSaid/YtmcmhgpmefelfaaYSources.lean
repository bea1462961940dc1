/- The program's Sources at a valid yard. -/
import Derived.Test.YtmcmhgpmefelfaaYKinA
namespace Go.Proofs.Ytmcmhgpmefelfaa
open Go Go.RowKit Go.Shelf Yd

/-- The codes of some piles. -/
def codesOf (ds : List (Deed Code)) (src : List Int) : List Code := src.map fun p => ds[p.toNat]!.stack
theorem codes_step {ds : List (Deed Code)} {src : List Int} {q : Nat} (h : q < src.length) : codesOf ds (src.take (q + 1)) = codesOf ds (src.take q) ++ [ds[(src[q]!).toNat]!.stack] := by
  unfold codesOf
  rw [show src.take (q + 1) = src.take q ++ [src[q]!] from by rw [getElem!_pos src q h, ← List.take_append_getElem h]]
  simp
/-- What Sources leaves. -/
def SourcesDone (w : World) (codes : List Code) (e : Ending) (w' : World) : Prop :=
  ∃ v, e = .returned (.tuple #[v, .int .i64 0]) ∧ Below w.heap.size w w' ∧ w'.ownsRow 0 9 1 v codes.length (strCells codes)
theorem row_zero {w : World} {base : Nat} {e : TypeId} {k n : Nat} {v : Value} {xs : List Value} (h : w.ownsRow base e k v n xs) : w.ownsRow 0 e k v n xs :=
  ⟨h.1, h.2.imp id fun ⟨g, cap, cur, h1, _, h3, h4, h5, h6, h7⟩ => ⟨g, cap, cur, h1, Nat.zero_le _, h3, h4, h5, h6, h7⟩⟩

set_option maxRecDepth 100000 in
set_option maxHeartbeats 8000000 in
theorem sources_calls (bef aft : Int) (v : Value) (ds : List (Deed Code)) (k0 : Nat) (w : World) (h : Held w.heap.size w 8 deedCells v ds) (hok : errYard bef aft ds = 0) (hsz : ∀ d ∈ ds, d.stack.size ≤ maxLen ∧ d.other.size ≤ maxLen) (hn : k0 ≤ ds.length) (h12 : k0 ≤ 12) (hf : (Yd.follow bef aft ds k0).2.2 = 0) (code : Code) (y : Stk Code) (hat : (Yd.follow bef aft ds k0).1.stacks[at_ (Yd.follow bef aft ds k0).1.stacks code]? = some y) :
    Calls Try.prog 26 #[.agg #[.int .i64 bef, .int .i64 aft, v], .int .i64 k0, .string code] w (SourcesDone w (codesOf ds y.src)) := by
  obtain ⟨a, c, hv, _, hcs⟩ := h.slice
  have HCS := Lib.hid hcs
  have HFO := Lib.hid (fun (W : World) (hW : Below w.heap.size w W) => stackAfter_calls bef aft v ds k0 W ((h.below hW).mono hW.size) hok hsz hn h12 hf code (List.getElem?_eq_some_iff.1 hat).1)
  have HAT := Lib.hid hat
  have HROOT := Lib.hid (rooted_at (bef := bef) (aft := aft) (i := k0) (t := (Yd.follow bef aft ds k0).1) (f := (Yd.follow bef aft ds k0).2.2) (Prod.ext rfl (Prod.ext (by have := (follow_count bef aft ds hn).2.1 hf; exact this) rfl)) (fun d hd => (errDeeds_all (errYard_ok hok).2.2.2 d hd).fine) y (List.mem_of_getElem? hat))
  subst hv
  obtain ⟨n, hnn⟩ : ∃ n, n = ds.length := ⟨_, rfl⟩
  have HN := Lib.hid hnn
  rw [← hnn] at HFO hn ⊢
  have hn40 : n ≤ 40 := by rw [hnn]; exact (errYard_ok hok).2.2.1
  clear h hok hsz hf hnn hat hcs
  have HL0 := Lib.hid (show Locs w (w.alloc (.cells #[.int .i64 bef, .int .i64 aft, .slice a n c] 24)) [(w.heap.size, 24, [.int .i64 bef, .int .i64 aft, .slice a n c])] [] from (Locs.start w).alloc 24 [.int .i64 bef, .int .i64 aft, .slice a n c] rfl)
  go_enter Try.func26, Try.ntmps26
  go_upto_region 2 with (first
    | (go_at_call 50; refine (HFO.out _ HL0.out.low).mono ?_; rintro e w1 ⟨s0, k, x, pv, hfo, hsm, hkn, hx, rfl, hb, hrow⟩; obtain rfl : x = y := (by have := HAT.out; rw [hfo] at this; simp only at this; rw [hx] at this; exact Option.some.inj this); obtain ⟨fa, fc, hfv, hfcs⟩ := ints_at hrow; subst hfv; have hlen := asc_len (hsm.stacks _ (List.mem_of_getElem? hx)).asc (hsm.stacks _ (List.mem_of_getElem? hx)).src; have HFC := Lib.hid hfcs; obtain ⟨code1, ⟨dl, dh⟩, ⟨wl, wh⟩, pil, boi, src⟩ := x; simp only at hlen HFC; obtain ⟨fn, hfn⟩ : ∃ m, m = src.length := ⟨_, rfl⟩; have hfn40 : fn ≤ 40 := (by rw [hfn]; omega); have HFN := Lib.hid hfn; rw [← hfn]; have HL1 := Lib.hid (HL0.out.below hb); have HOx := Lib.hid (show (#[.string code1, .int .i64 dl, .int .i64 dh, .int .i64 wl, .int .i64 wh, .int .i64 pil, .int .i64 boi, .slice fa fn fc] : Array Value).all (·.oneCell') = true from by simp [Value.oneCell']); clear hfo hsm hkn hx hb hrow hfcs hlen hfn)
    | ((with_reducible refine at_store 49 (.tmp 8) (.tmp 18) ?_); go_must (refine wpList_store_mid rfl 49 (.tmp 8) (.tmp 18) rfl w1.heap.size 0 #[.string code1, .int .i64 dl, .int .i64 dh, .int .i64 wl, .int .i64 wh, .int .i64 pil, .int .i64 boi, .slice fa fn fc] rfl rfl ((Blk.new w1 49 #[.string ⟨#[]⟩, .int .i64 0, .int .i64 0, .int .i64 0, .int .i64 0, .int .i64 0, .int .i64 0, .slice none 0 0]).there (o := 0) (n := 8) (Nat.le_of_ble_eq_true rfl)) size_stack (HOx.out) ?_)))
  clear HL0 HFO HAT
  generalize w.heap.size = gy at HL1 ⊢
  have HYO := Lib.hid (fun W (hb : Below w1.heap.size w1 W) => (HL1.out.blk 0 rfl).below hb)
  have HB1 := Lib.hid HL1.out.low
  have HL2 := Lib.hid (Locs.start w1)
  clear HL1
  have HL3 := Lib.hid (show Locs w1 ((w1.alloc (.cells #[.string ⟨#[]⟩, .int .i64 0, .int .i64 0, .int .i64 0, .int .i64 0, .int .i64 0, .int .i64 0, .slice none 0 0] 49)).setCells w1.heap.size 0 [.string code1, .int .i64 dl, .int .i64 dh, .int .i64 wl, .int .i64 wh, .int .i64 pil, .int .i64 boi, .slice fa fn fc]) [(w1.heap.size, 49, [.string code1, .int .i64 dl, .int .i64 dh, .int .i64 wl, .int .i64 wh, .int .i64 pil, .int .i64 boi, .slice fa fn fc])] [] from (HL2.out.alloc 49 [.string ⟨#[]⟩, .int .i64 0, .int .i64 0, .int .i64 0, .int .i64 0, .int .i64 0, .int .i64 0, .slice none 0 0] rfl).setLoc 0 [] [.string ⟨#[]⟩, .int .i64 0, .int .i64 0, .int .i64 0, .int .i64 0, .int .i64 0, .int .i64 0, .slice none 0 0] [] [.string code1, .int .i64 dl, .int .i64 dh, .int .i64 wl, .int .i64 wh, .int .i64 pil, .int .i64 boi, .slice fa fn fc] rfl rfl)
  clear HL2
  generalize ((w1.alloc (.cells #[.string ⟨#[]⟩, .int .i64 0, .int .i64 0, .int .i64 0, .int .i64 0, .int .i64 0, .int .i64 0, .slice none 0 0] 49)).setCells w1.heap.size 0 [.string code1, .int .i64 dl, .int .i64 dh, .int .i64 wl, .int .i64 wh, .int .i64 pil, .int .i64 boi, .slice fa fn fc]) = v1 at HL3 ⊢
  generalize w1.heap.size = gs at HL3 ⊢
  try simp only [Act.put]
  have s0 := (show v1.cell? ⟨gs, 7, none⟩ = some (.slice fa fn fc) from HL3.out.at 0 7 (v := .slice fa fn fc) rfl rfl)
  go_wp2
  clear s0
  have HR0 := Lib.hid (Rowed.nil w1 v1 ([(gs, 49, [.string code1, .int .i64 dl, .int .i64 dh, .int .i64 wl, .int .i64 wh, .int .i64 pil, .int .i64 boi, .slice fa fn fc])] : List (Nat × TypeId × List Value)) 9 1)
  go_loopw [10, 26] (fun cv iv wr => ∃ (q : Nat), q ≤ fn ∧ iv = .int .i64 q ∧ Hid (Rowed w1 wr ([(gs, 49, [.string code1, .int .i64 dl, .int .i64 dh, .int .i64 wl, .int .i64 wh, .int .i64 pil, .int .i64 boi, .slice fa fn fc])] : List (Nat × TypeId × List Value)) 9 1 (cv) (q) (strCells (codesOf ds (src.take q)))) ∧ Hid (Locs w1 wr [(gs, 49, [.string code1, .int .i64 dl, .int .i64 dh, .int .i64 wl, .int .i64 wh, .int .i64 pil, .int .i64 boi, .slice fa fn fc])] [])) (fun _ iv _ => fn - (intOf iv).toNat)
  case atStart => exact ⟨0, Nat.zero_le _, rfl, HR0, HL3⟩
  case round =>
    clear HL3 HR0
    obtain ⟨q, hq, rfl, HR, HL4⟩ := hrel
    obtain ⟨sa, sn, sc, rfl⟩ := row_slice HR.out.own
    by_cases hqt : q < fn
    · have hqI : (q : Int) < (fn : Int) := by omega
      have hqs : q < src.length := by rw [← HFN.out]; exact hqt
      obtain ⟨gf, rfl, hgf, hcf⟩ := HFC.out (by omega)
      have f0 := (HL4.out.low.cell (p := ⟨gf, q, none⟩) hgf).trans (hcf q hqs)
      obtain ⟨hj0, hj1, d', hd', _, _⟩ := HROOT.out.src src[q]! (get_in hqs)
      obtain ⟨jn, hjn⟩ : ∃ jn : Nat, src[q]! = (jn : Int) := ⟨src[q]!.toNat, by omega⟩
      have hst := codes_step (ds := ds) hqs
      rw [hjn] at f0 hj0 hj1 hd' hst
      rw [Int.toNat_natCast] at hj1 hd' hst
      have hjl : jn < ds.length := (List.getElem?_eq_some_iff.1 hd').1
      obtain ⟨b, off, rfl, hbl, _, hcells⟩ := HCS.out (by omega)
      obtain ⟨nm, hnm⟩ : ∃ nm, nm = ds[jn]!.stack := ⟨_, rfl⟩
      rw [← hnm] at hst
      have HST := Lib.hid hst
      have f1 := (show wr.cell? ⟨b, off + jn * 8 + 2, none⟩ = some (.string nm) from ((HB1.out.trans (HL4.out.low.mono HB1.out.size)).cell (p := ⟨b, off + jn * 8 + 2, none⟩) hbl).trans (hcells jn hjl 2 _ (by rw [hnm]; rfl)))
      have hjnI : (jn : Int) < (n : Int) := by rw [HN.out]; omega
      have f2 := (HYO.out wr HL4.out.low).at 2 (.slice (some ⟨b, off, none⟩) n c) rfl
      clear hcf hjn hd' hcells hst hnm
      obtain ⟨i1_, hi1, hi1a, hi1b, hi1c⟩ := info_parts info_string
      have HI1 := Lib.hid hi1; have HI1a := Lib.hid hi1a; have HI1b := Lib.hid hi1b; have HI1c := Lib.hid hi1c
      have HA1 := Lib.hid (show q + 1 ≤ maxLen ∧ (q + 1) * 16 ≤ 140737488355328 by unfold maxLen; omega)
      clear hi1 hi1a hi1b hi1c
      have HRa := Lib.hid (show Rowed w1 (wr.alloc (.cells #[.string nm] 9)) ([(gs, 49, [.string code1, .int .i64 dl, .int .i64 dh, .int .i64 wl, .int .i64 wh, .int .i64 pil, .int .i64 boi, .slice (some ⟨gf, 0, none⟩) fn fc]), (wr.heap.size, 9, [.string nm])] : List (Nat × TypeId × List Value)) 9 1 (.slice sa sn sc) (q) (strCells (codesOf ds (src.take q))) from HR.out.alloc 9 [.string nm] rfl)
      have HLa := Lib.hid (show Locs w1 (wr.alloc (.cells #[.string nm] 9)) [(gs, 49, [.string code1, .int .i64 dl, .int .i64 dh, .int .i64 wl, .int .i64 wh, .int .i64 pil, .int .i64 boi, .slice (some ⟨gf, 0, none⟩) fn fc]), (wr.heap.size, 9, [.string nm])] [] from HL4.out.alloc 9 [.string nm] rfl)
      clear HR HL4
      go_wp2_with (at_builtin; refine wpList_append_lies _ rfl (.tmp 30) (.tmp 37) 65 rfl w1.heap.size 9 i1_ (.string ⟨#[]⟩) 1 16 Try.underlying65 HI1.out HI1a.out HI1b.out HI1c.out rfl (by decide) (.slice sa sn sc) q (strCells (codesOf ds (src.take q))) rfl HRa.out.own ⟨wr.heap.size, 0, none⟩ 1 1 [.string nm] rfl rfl (World.news_of_block (heap_alloc_new wr _)) (by simp [Value.oneCell']) (by decide) HA1.out.1 HA1.out.2 HLa.out.low.size (wr.heap.size + 1) (World.size_alloc _ _) ?_; intro g cap w7 hown7 hg7 hat7 hlt7; have HL7 := Lib.hid (HLa.out.appended HRa.out hg7); have HR7 := Lib.hid (Rowed.appended HLa.out HRa.out hown7 (by rw [World.size_alloc]; exact hat7)); clear hown7 hg7 hat7 hlt7 f0 f1 f2)
      go_roundw
      case rel =>
        refine ⟨q + 1, by omega, by go_num, Lib.hid ?_, Lib.hid (HL7.out.fewer (List.sublist_append_left ([(gs, 49, [.string code1, .int .i64 dl, .int .i64 dh, .int .i64 wl, .int .i64 wh, .int .i64 pil, .int .i64 boi, .slice (some ⟨gf, 0, none⟩) fn fc])] : List (Nat × TypeId × List Value)) ([(wr.heap.size, 9, [.string nm])] : List (Nat × TypeId × List Value))) (List.Sublist.refl _))⟩
        rw [HST.out, show strCells (codesOf ds (src.take q) ++ [nm]) = strCells (codesOf ds (src.take q)) ++ [.string nm] from by simp [strCells]]
        exact HR7.out.fewer (List.sublist_append_left ([(gs, 49, [.string code1, .int .i64 dl, .int .i64 dh, .int .i64 wl, .int .i64 wh, .int .i64 pil, .int .i64 boi, .slice (some ⟨gf, 0, none⟩) fn fc])] : List (Nat × TypeId × List Value)) ([(wr.heap.size, 9, [.string nm])] : List (Nat × TypeId × List Value)))
      case measure => simp [intOf]; omega
    · have hqe : fn = q := by omega
      subst hqe
      go_wp2
      go_ret2
      refine ⟨_, rfl, HB1.out.trans (HL4.out.low.mono HB1.out.size), ?_⟩
      have h1 := row_zero HR.out.own
      rw [HFN.out, List.take_length] at h1
      have h2 : (codesOf ds src).length = src.length := by simp [codesOf]
      simp only
      rw [h2]
      exact h1
end Go.Proofs.Ytmcmhgpmefelfaa
