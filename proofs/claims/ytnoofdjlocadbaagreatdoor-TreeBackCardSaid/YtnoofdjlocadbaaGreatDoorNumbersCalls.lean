/- terms.Numbers: fields that all are numbers. -/
import Derived.Test.YtnoofdjlocadbaaGreatDoorNumberCalls
import Derived.Deep.AppendLies
import Derived.Laws.AppendOwn
namespace Go.Proofs.YtnoofdjlocadbaaGreatDoor
open Go Go.RowKit Go.Lib

theorem numbers_snoc (f : List UInt8) : ∀ l : List (List UInt8), numbersL (l ++ [f]) = (numbersL l).bind fun ns => (numberL f).map fun n => ns ++ [n]
  | [] => by simp only [List.nil_append, numbersL]; cases numberL f <;> rfl
  | g :: l => by
    simp only [List.cons_append, numbersL, numbers_snoc f l]
    cases numberL g with
    | none => rfl
    | some n =>
      cases numbersL l with
      | none => rfl
      | some ns => cases numberL f <;> rfl
theorem numbers_none {f : List UInt8} (h : numberL f = none) : ∀ l : List (List UInt8), f ∈ l → numbersL l = none
  | [], hm => by simp at hm
  | g :: l, hm => by
    rcases List.mem_cons.mp hm with rfl | hm
    · simp only [numbersL, h]; rfl
    · simp only [numbersL, numbers_none h l hm]
      cases numberL g <;> rfl
theorem numbers_step {fs : List (List UInt8)} {k : Nat} {f : List UInt8} {ns : List Int} {m : Int} (hf : fs[k]? = some f) (hn : numbersL (fs.take k) = some ns) (hm : numberL f = some m) : numbersL (fs.take (k + 1)) = some (ns ++ [m]) := by
  rw [List.take_add_one, hf]
  simp only [Option.toList_some, numbers_snoc, hn, hm, Option.bind_some, Option.map_some]

theorem numbers_measure (n k : Nat) (h : k < n) : n - (RowKit.intOf (Value.int .i64 ((k : Int) + 1))).toNat < n - (RowKit.intOf (Value.int .i64 (k : Int))).toNat := by
  show n - ((k : Int) + 1).toNat < n - ((k : Int)).toNat
  omega

theorem int_info : (Tryz.prog.info? 3).map (fun i => (i.zero, i.size, i.bytes)) = some (some (.int .i64 0), 1, 8) := by kernel_rfl
theorem int_parts : ∃ i, Tryz.prog.info? 3 = some i ∧ i.zero = some (.int .i64 0) ∧ i.size = 1 ∧ i.bytes = 8 := by
  have h := int_info
  cases hi : Tryz.prog.info? 3 with
  | none => rw [hi] at h; cases h
  | some i => rw [hi] at h; simp at h; exact ⟨i, rfl, h.1, h.2.1, h.2.2⟩

theorem one_at (w : World) (t : TypeId) (v : Value) : ∀ j u, ([v] : List Value)[j]? = some u → (w.alloc (.cells #[v] t)).cell? ((⟨w.heap.size, 0, none⟩ : Addr).add j) = some u := by
  intro j u h
  cases j with
  | succ j => simp at h
  | zero =>
    simp at h
    subst h
    have := World.alloc_heap_new w (.cells #[v] t)
    unfold World.cell?
    rw [show ((⟨w.heap.size, 0, none⟩ : Addr).add 0).block = w.heap.size from rfl, this]
    rfl

theorem row_below {w w' : World} {base size : Nat} {e : TypeId} {v : Value} {n : Nat} {xs : List Value} (h : w.ownsRow base e size v n xs) (hb : Below w.heap.size w w') : w'.ownsRow base e size v n xs := by
  refine ⟨h.1, ?_⟩
  rcases h.2 with h0 | ⟨g, cap, cur, h1, h2, h3, h4⟩
  · exact .inl h0
  · exact .inr ⟨g, cap, cur, h1, h2, (hb.block g (Array.getElem?_eq_some_iff.1 h3).1).trans h3, h4⟩

theorem below_grown {B : Nat} {a w w' : World} {base size : Nat} {e : TypeId} {v : Value} {n : Nat} {xs : List Value} (h : Below B a w) (hg : w.grownBy w' v.ownBlock) (ho : w.ownsRow base e size v n xs) (hB : B ≤ base := by exact Nat.le_refl _) (hs : B ≤ w.heap.size := by omega) : Below B a w' := by
  refine h.trans ⟨hg.os, hg.tape, hg.output, hg.size, fun k hk => hg.block k (by omega) (fun hr => ?_)⟩
  have := (ho.lt k hr.symm).1
  omega

set_option maxRecDepth 100000 in
set_option maxHeartbeats 2000000 in
theorem numbers_calls (fs : List (List UInt8)) (p off c : Nat) (hfl : ∀ f ∈ fs, f.length < 1000000000) (hn : fs.length < 1000000000) (w : World) (hL : Libs w)
    (hc : ∀ j f, fs[j]? = some f → w.cell? ⟨p, off + j, none⟩ = some (.string (str f))) :
    Calls Tryz.prog 108 #[.slice (some ⟨p, off, none⟩) fs.length c] w fun e w' => Below w.heap.size w w' ∧
      ((∃ ns v, numbersL fs = some ns ∧ ns.length = fs.length ∧ w'.ownsRow w.heap.size 3 1 v fs.length (ns.map (Value.int .i64)) ∧ e = .returned (.tuple #[v, .bool true])) ∨ (numbersL fs = none ∧ e = .returned (.tuple #[.slice none 0 0, .bool false]))) := by
  obtain ⟨i1, hi, hz, h1, h8⟩ := int_parts
  have HI := Lib.hid hi; have HZ := Lib.hid hz; have H1 := Lib.hid h1; have H8 := Lib.hid h8
  have HL := Lib.hid hL; have HC := Lib.hid hc; have HF := Lib.hid hfl
  clear hi hz h1 h8 hL hc hfl
  generalize hfn : fs.length = n at hn ⊢
  have HN := Lib.hid hfn
  clear hfn
  go_enter Tryz.func108, Tryz.ntmps108
  go_wp2_with fail
  go_loopw [2, 10] (fun v i wr => ∃ (k : Nat) (ns : List Int), k ≤ n ∧ i = .int .i64 k ∧ Hid (numbersL (fs.take k) = some ns) ∧ Hid (ns.length = k) ∧ Hid (wr.ownsRow w.heap.size 3 1 v k (ns.map (Value.int .i64))) ∧ Hid (Below w.heap.size w wr)) (fun _ i _ => n - (RowKit.intOf i).toNat)
  case atStart => exact ⟨0, [], Nat.zero_le _, rfl, Lib.hid rfl, Lib.hid rfl, Lib.hid (World.ownsRow_nil _ _ _ _), Lib.hid (Below.refl _ _)⟩
  case round =>
    obtain ⟨k, ns, hk, rfl, HNS, HLN, HO, HB⟩ := hrel
    by_cases hlt : k < n
    · obtain ⟨f, hf⟩ : ∃ f, fs[k]? = some f := ⟨fs[k]'(by rw [HN.out]; exact hlt), List.getElem?_eq_getElem _⟩
      have HFK := Lib.hid hf
      have hfm := List.mem_of_getElem? hf
      clear hf
      have ck : wr.cell? ⟨p, off + k, none⟩ = some (.string (str f)) := by
        have := HC.out k f HFK.out
        exact (HB.out.cell (block_lt_of_cell this)).trans this
      have hkl : (k : Int) < (n : Int) := by omega
      have HNum := Lib.hid (number_calls f (HF.out f hfm) wr (HL.out.below HB.out))
      cases hm : numberL f with
      | none =>
        rw [hm] at HNum
        have HM := Lib.hid hm
        clear hm
        go_wp2_with (go_at_call 129; refine HNum.out.mono ?_; rintro e w1 ⟨hb1, rfl⟩)
        go_ret2
        exact ⟨HB.out.trans (hb1.mono HB.out.size), .inr ⟨numbers_none HM.out fs hfm, rfl⟩⟩
      | some m =>
        rw [hm] at HNum
        have HM := Lib.hid hm
        clear hm
        have hlk := HLN.out
        have hnk : (ns.map (Value.int .i64)).length = k := by rw [List.length_map, hlk]
        have HNK := Lib.hid hnk
        clear hnk hlk
        go_wp2_with (first
          | (go_at_call 129; refine HNum.out.mono ?_; rintro e w1 ⟨hb1, rfl⟩; have HO1 := Lib.hid (row_below HO.out hb1); have HB1 := Lib.hid (HB.out.trans (hb1.mono HB.out.size)); clear hb1)
          | (at_builtin; refine wpList_append_own _ rfl (.tmp 21) (.tmp 23) 43 rfl w.heap.size 3 i1 (.int .i64 0) 1 8 Tryz.underlying43 HI.out HZ.out H1.out H8.out rfl (by decide) _ k (ns.map (Value.int .i64)) rfl (HO1.out.alloc _) ⟨_, 0, none⟩ 1 1 [.int .i64 m] rfl rfl (one_at _ 3 (.int .i64 m)) (by intro u hu; simp at hu; subst hu; rfl) (by unfold maxLen; omega) (by omega) (by rw [World.size_alloc]; have := HB1.out.size; omega) ?_; intro v' w2 hown hgrow hnil; have HO2 := Lib.hid hown; have HB2 := Lib.hid (below_grown (HB1.out.alloc HB1.out.size (.cells #[.int .i64 m] 3)) hgrow (HO1.out.alloc _) (Nat.le_refl _) (by rw [World.size_alloc]; have := HB1.out.size; omega)); clear hown hgrow hnil))
        exact ⟨⟨k + 1, ns ++ [m], hlt, congrArg (Value.int .i64) (Int.natCast_add k 1).symm, Lib.hid (numbers_step HFK.out HNS.out HM.out), Lib.hid (by rw [List.length_append, HLN.out]; rfl), Lib.hid (by rw [List.map_append]; exact HO2.out), HB2⟩, numbers_measure n k hlt⟩
    · obtain rfl : k = n := by omega
      go_wp2_with fail
      go_ret2
      refine ⟨HB.out, .inl ⟨ns, _, ?_, by rw [HLN.out], HO.out, rfl⟩⟩
      have := HNS.out
      rwa [List.take_of_length_le (by rw [HN.out]; exact Nat.le_refl _)] at this
end Go.Proofs.YtnoofdjlocadbaaGreatDoor
