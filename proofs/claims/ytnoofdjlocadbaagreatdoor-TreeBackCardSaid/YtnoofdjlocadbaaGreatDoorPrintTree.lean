/- strings.Builder's writers in this program, where the kit's contracts do not lay. terms.Line: a word and numbers, printed as a line. printTree: a tree as lines. -/
import Derived.Test.YtnoofdjlocadbaaGreatDoorLines
import Derived.Shelf.Strings.BuilderK
import Derived.Test.YtnoofdjlocadbaaGreatDoorNumbersCalls
import Derived.Test.YtnoofdjlocadbaaGreatDoorText
import Derived.Lib.ItoaLen
import Derived.Lib.AppendIntMem
import Derived.Test.YtnoofdjlocadbaaGreatDoorTextTree
import Derived.Test.YtnoofdjlocadbaaGreatDoorMemT
namespace Go.Proofs.YtnoofdjlocadbaaGreatDoor
open Go Go.RowKit Go.Lib Go.Shelf

abbrev TB : TypeId := 59
abbrev TU : TypeId := 5
theorem ptr_builder : Tryz.prog.underlying 56 = some (.pointer TB) := by kernel_rfl
theorem unsafe_pointer : Tryz.prog.underlying 144 = some .unsafePointer := by kernel_rfl
theorem no_escape : Tryz.prog.funcs[81]? = some Tryz.f81 := by kernel_rfl
theorem bytes_slice : Tryz.prog.underlying 57 = some (.slice TU) := by kernel_rfl
theorem byte_info : (Tryz.prog.info? TU).map (fun i => (i.zero, i.size, i.bytes)) = some (some (.int .u8 0), 1, 1) := by kernel_rfl
theorem builder_lies : liesAt Tryz.prog Tryz.prog.depth TB (2 / Tryz.prog.cellsOf TB) 0 TB 1 = true := by kernel_rfl
theorem string_under : Tryz.prog.underlying 9 = some .string := by kernel_rfl

set_option maxRecDepth 100000 in
set_option maxHeartbeats 1000000 in
theorem check_used (b : Nat) (w : World) (h0 : w.cell? ⟨b, 0, none⟩ = some (.pointer (some ⟨b, 0, none⟩))) :
    Calls Tryz.prog 43 #[.pointer (some ⟨b, 0, none⟩)] w fun e w' => e = .returned (.tuple #[]) ∧ w' = w := by
  obtain ⟨j, hj, hjs⟩ := Option.map_eq_some_iff.1 (show (Tryz.prog.info? TB).map (·.size) = some 2 by kernel_rfl)
  go_enter Tryz.func43, Tryz.ntmps43
  go_wp2
  rw [run_neq_ptr_same w _ ptr_builder hj]
  go_wp2
  go_end0
  exact ⟨rfl, rfl⟩

set_option maxRecDepth 100000 in
set_option maxHeartbeats 1000000 in
theorem check_fresh (b : Nat) (w : World) (h0 : w.cell? ⟨b, 0, none⟩ = some (.pointer none)) (hsh : w.shape? b = some (TB, 2)) (hfz : w.frozen? ⟨b, 0, none⟩ = false) :
    Calls Tryz.prog 43 #[.pointer (some ⟨b, 0, none⟩)] w fun e w' => e = .returned (.tuple #[]) ∧ w' = w.setCell ⟨b, 0, none⟩ (.pointer (some ⟨b, 0, none⟩)) := by
  obtain ⟨j, hj, hjs⟩ := Option.map_eq_some_iff.1 (show (Tryz.prog.info? TB).map (·.size) = some 2 by kernel_rfl)
  go_enter Tryz.func43, Tryz.ntmps43
  go_wp2
  rw [run_to_unsafe w ⟨b, 0, none⟩ ptr_builder unsafe_pointer hj (by rw [hjs]; decide) hsh (Nat.zero_lt_succ 1)]
  simp only [Result.andThen]
  rw [Oper.upon_value]
  go_wp2
  rw [run_callFunc_extern no_escape (by kernel_rfl) (by kernel_rfl) (by kernel_rfl) (e := Extern.AbiNoEscape.same) (by kernel_rfl), run_noEscape]
  simp only [Result.andThen]
  rw [Oper.upon_value]
  go_wp2
  rw [run_from_unsafe w ⟨b, 0, none⟩ unsafe_pointer ptr_builder hj hsh builder_lies]
  simp only [Result.andThen]
  rw [Oper.upon_value]
  go_wp2
  go_end0
  exact ⟨rfl, rfl⟩

/-- Behind the check the builder knows its place. -/
theorem check_calls (B b : Nat) (bs : List Value) (w : World) (h : IsBuilder TB TU B b bs w) :
    Calls Tryz.prog 43 #[.pointer (some ⟨b, 0, none⟩)] w fun e w' => e = .returned (.tuple #[]) ∧ BuilderAt TB TU B b (.pointer (some ⟨b, 0, none⟩)) bs w' ∧ Below B w w' := by
  rcases h with h | h
  · refine (check_fresh b w h.cell0 h.shape h.frozen0).mono ?_
    rintro e w' ⟨rfl, rfl⟩
    exact ⟨rfl, h.used _, (Below.refl B w).setCell (p := ⟨b, 0, none⟩) h.1 _⟩
  · refine (check_used b w h.cell0).mono ?_
    rintro e w' ⟨rfl, rfl⟩
    exact ⟨rfl, h, Below.refl B _⟩

theorem slice_form {w : World} {B : Nat} {e : TypeId} {k n : Nat} {v : Value} {xs : List Value} (h : w.ownsRow B e k v n xs) : ∃ a m c, v = .slice a m c := by
  rcases h.2 with ⟨h1, _⟩ | ⟨g, cap, cur, h1, _⟩
  · exact ⟨_, _, _, h1⟩
  · exact ⟨_, _, _, h1⟩

set_option maxRecDepth 100000 in
set_option maxHeartbeats 2000000 in
/-- A string is written behind what the builder holds. -/
theorem writeString_calls (B b : Nat) (bs : List Value) (s : ByteArray) (w : World) (h : IsBuilder TB TU B b bs w) (hl : bs.length + s.size ≤ 140737488355328) (hw : B ≤ w.heap.size) :
    Calls Tryz.prog 19 #[.pointer (some ⟨b, 0, none⟩), .string s] w fun e w' => e = .returned (.tuple #[.int .i64 s.size, .nilIface]) ∧ IsBuilder TB TU B b (bs ++ strCells s) w' ∧ Below B w w' := by
  obtain ⟨i0, hi, hz0, hz1, hz2⟩ := info_parts byte_info
  have HC := Lib.hid (check_calls B b bs w h)
  go_enter Tryz.func19, Tryz.ntmps19
  go_upto_region 2 with (go_at_call 43; refine HC.out.mono ?_; rintro e w1 ⟨rfl, h1, hb1⟩)
  obtain ⟨hB, v, hbk, hown, hne⟩ := h1
  have hlt : b < w1.heap.size := block_lt_of_cell (a := ⟨b, 1, none⟩) (v := v) (by rw [cell_of_heap hbk]; rfl)
  have c1 : w1.cell? ⟨b, 1, none⟩ = some v := by rw [cell_of_heap hbk]; rfl
  go_wp2_with (at_builtin; refine wpList_append_own_string _ rfl _ _ 57 9 rfl B TU i0 bytes_slice string_under hi hz0 hz1 hz2 _ _ _ rfl hown s rfl ?c3 ?c4 ?c5 ?_)
  case c3 => unfold maxLen; omega
  case c4 => omega
  case c5 => have := hb1.size; omega
  intro v' w2 hown' hgrow _
  have hb2 : w2.heap[b]? = some (.cells #[.pointer (some ⟨b, 0, none⟩), v] TB (0, 0)) := (hgrow.block b hlt (fun e => hne e.symm)).trans hbk
  have hfz : w2.frozen? ⟨b, 1, none⟩ = false := frozen_of_heap hb2 1
  have d1 : w2.cell? ⟨b, 1, none⟩ = some v := by rw [cell_of_heap hb2]; rfl
  have hbel : Below B w w2 := hb1.grown hgrow (by have := hb1.size; omega) (fun k hk => (hown.lt k hk).1)
  have HP := Lib.hid (BuilderAt.put (T := TB) (e := TU) hB hb2 (bs' := bs ++ strCells s) (by simpa [strCells_length] using hown') (by decide))
  have HB := Lib.hid (hbel.setCell (p := ⟨b, 1, none⟩) hB v')
  obtain ⟨ao, n', cap, rfl⟩ := slice_form hown'
  clear hown' hgrow hbel hb2 hown hne hbk
  go_wp2
  go_ret2
  exact ⟨rfl, .inr HP.out, HB.out⟩

set_option maxRecDepth 100000 in
set_option maxHeartbeats 2000000 in
/-- A byte is written behind what the builder holds. -/
theorem writeByte_calls (B b : Nat) (bs : List Value) (c : Int) (w : World) (h : IsBuilder TB TU B b bs w) (hl : bs.length + 1 ≤ 140737488355328) (hw : B ≤ w.heap.size) :
    Calls Tryz.prog 44 #[.pointer (some ⟨b, 0, none⟩), .int .u8 c] w fun e w' => e = .returned .nilIface ∧ IsBuilder TB TU B b (bs ++ [.int .u8 c]) w' ∧ Below B w w' := by
  obtain ⟨i0, hi, hz0, hz1, hz2⟩ := info_parts byte_info
  have HC := Lib.hid (check_calls B b bs w h)
  go_enter Tryz.func44, Tryz.ntmps44
  go_upto_region 2 with (go_at_call 43; refine HC.out.mono ?_; rintro e w1 ⟨rfl, h1, hb1⟩)
  obtain ⟨hB, v, hbk, hown, hne⟩ := h1
  have hlt : b < w1.heap.size := block_lt_of_cell (a := ⟨b, 1, none⟩) (v := v) (by rw [cell_of_heap hbk]; rfl)
  have c1 : w1.cell? ⟨b, 1, none⟩ = some v := by rw [cell_of_heap hbk]; rfl
  go_wp2_with (at_builtin; refine wpList_append_own _ rfl _ _ 57 rfl B TU i0 (.int .u8 0) 1 1 bytes_slice hi hz0 hz1 hz2 rfl (by decide) _ _ _ rfl (hown.alloc _) ⟨w1.heap.size, 0, none⟩ 1 1 [.int .u8 c] rfl rfl ?c1 ?c2 ?c3 ?c4 ?c5 ?_)
  case c1 =>
    intro j u hj
    match j, hj with
    | 0, hj => simp at hj; subst hj; simp [Addr.add]
  case c2 => intro u hu; simp at hu; subst hu; rfl
  case c3 => unfold maxLen; omega
  case c4 => omega
  case c5 => have := hb1.size; simp; omega
  intro v' w2 hown' hgrow _
  have hb2 : w2.heap[b]? = some (.cells #[.pointer (some ⟨b, 0, none⟩), v] TB (0, 0)) := (hgrow.block b (by simp; omega) (fun e => hne e.symm)).trans ((alloc_old w1 _ b hlt).trans hbk)
  have hfz : w2.frozen? ⟨b, 1, none⟩ = false := frozen_of_heap hb2 1
  have d1 : w2.cell? ⟨b, 1, none⟩ = some v := by rw [cell_of_heap hb2]; rfl
  have hbel : Below B w w2 := (hb1.alloc (by have := hb1.size; omega) _).grown hgrow (by have := hb1.size; simp; omega) (fun k hk => (hown.lt k hk).1)
  have HP := Lib.hid (BuilderAt.put (T := TB) (e := TU) hB hb2 (bs' := bs ++ [.int .u8 c]) (by simpa using hown') (by decide))
  have HB := Lib.hid (hbel.setCell (p := ⟨b, 1, none⟩) hB v')
  obtain ⟨ao, n', cap, rfl⟩ := slice_form hown'
  clear hown' hgrow hbel hb2 hown hne hbk
  go_wp2
  go_ret
  exact ⟨rfl, .inr HP.out, HB.out⟩
end Go.Proofs.YtnoofdjlocadbaaGreatDoor
namespace Go.Proofs.YtnoofdjlocadbaaGreatDoor
open Go Go.RowKit Go.Lib Go.Shelf Go.Sort

theorem builder_below {B b : Nat} {bs : List Value} {w w' : World} (h : IsBuilder TB TU B b bs w) (hb : Below w.heap.size w w') : IsBuilder TB TU B b bs w' := by
  have key : ∀ p, BuilderAt TB TU B b p bs w → BuilderAt TB TU B b p bs w' := fun p hp => by
    obtain ⟨h1, v, h2, h3, h4⟩ := hp
    exact ⟨h1, v, (hb.block b (Array.getElem?_eq_some_iff.1 h2).1).trans h2, row_below h3 hb, h4⟩
  rcases h with h | h
  · exact .inl (key _ h)
  · exact .inr (key _ h)
theorem builder_new (w : World) : IsBuilder TB TU w.heap.size w.heap.size [] (w.alloc (.cells #[.pointer none, .slice none 0 0] TB)) :=
  .inl ⟨Nat.le_refl _, .slice none 0 0, World.alloc_heap_new w _, World.ownsRow_nil _ _ _ _, fun h => by cases h⟩
theorem cells_app (a b : List UInt8) : byteCells (a ++ b) = byteCells a ++ byteCells b := by simp [byteCells]
theorem cells_str (l : List UInt8) : strCells (str l) = byteCells l := by simp [strCells, byteCells, str]
theorem size_str (l : List UInt8) : (str l).size = l.length := by simp [str, ByteArray.size]

def I64 (n : Int) : Prop := -9223372036854775808 ≤ n ∧ n ≤ 9223372036854775807
theorem row_next {head : List UInt8} {ns : List Int} {k : Nat} {m : Int} (h : ns[k]? = some m) : rowL head (ns.take (k + 1)) = (rowL head (ns.take k) ++ [59]) ++ itoa m := by
  unfold rowL
  rw [List.take_add_one, h]
  simp
theorem row_len (head : List UInt8) : ∀ (ns : List Int), (∀ n ∈ ns, I64 n) → (rowL head ns).length ≤ head.length + 22 * ns.length
  | [], _ => by simp [rowL]
  | n :: ns, h => by
    have h1 := row_len head ns fun m hm => h m (List.mem_cons_of_mem _ hm)
    have h2 := itoa_length_le n (h n (by simp)).1 (h n (by simp)).2
    unfold rowL at h1 ⊢
    simp only [List.flatMap_cons, List.length_append, List.length_cons] at h1 ⊢
    omega

set_option maxRecDepth 100000 in
set_option maxHeartbeats 2000000 in
theorem line_calls (head : List UInt8) (ns : List Int) (p off c : Nat) (hN : ∀ n ∈ ns, I64 n) (hh : head.length ≤ 1000000000) (hn : ns.length ≤ 1000000) (w : World) (hL : Libs w)
    (hc : ∀ j n, ns[j]? = some n → w.cell? ⟨p, off + j, none⟩ = some (.int .i64 n)) :
    Calls Tryz.prog 20 #[.string (str head), .slice (some ⟨p, off, none⟩) ns.length c] w fun e w' => e = .returned (.string (str (lineL head ns))) ∧ Below w.heap.size w w' := by
  have HL := Lib.hid hL; have HC := Lib.hid hc; have HF := Lib.hid hN
  have HLEN := Lib.hid (fun k => row_len head (ns.take k) (fun n hn => hN n (List.take_subset _ _ hn)))
  clear hL hc hN
  generalize hfn : ns.length = n at hn ⊢
  have HNS := Lib.hid hfn
  clear hfn
  have HB0 := Lib.hid ((Below.refl w.heap.size w).alloc (Nat.le_refl _) (.cells #[.pointer none, .slice none 0 0] TB))
  have HW0 := Lib.hid (writeString_calls w.heap.size w.heap.size [] (str head) _ (builder_new w) (by rw [size_str]; simp; omega) (by rw [World.size_alloc]; omega))
  go_enter Tryz.func20, Tryz.ntmps20
  go_wp2_with (go_at_call 19; refine HW0.out.mono ?_; rintro e w0 ⟨rfl, hb0, hl0⟩; have HBU0 := Lib.hid hb0; have HB1 := Lib.hid (HB0.out.trans hl0); clear hb0 hl0)
  go_loopw [12] (fun i wr => ∃ k : Nat, k ≤ n ∧ i = .int .i64 k ∧ Hid (IsBuilder TB TU w.heap.size w.heap.size (byteCells (rowL head (ns.take k))) wr) ∧ Hid (Below w.heap.size w wr)) (fun i _ => n - (RowKit.intOf i).toNat)
  case atStart => exact ⟨0, Nat.zero_le _, rfl, Lib.hid (by have := HBU0.out; rw [cells_str] at this; simpa [rowL] using this), HB1⟩
  case round =>
    clear HBU0 HB1 HB0 HW0
    obtain ⟨k, hk, rfl, HBU, HB⟩ := hrel
    have HLK : Hid ((rowL head (ns.take k)).length ≤ 1000000000 + 22 * 1000000) := Lib.hid (by have h1 := HLEN.out k; have h2 : (ns.take k).length ≤ k := (by rw [List.length_take]; exact Nat.min_le_left _ _); omega)
    by_cases hlt : k < n
    · obtain ⟨m, hm⟩ : ∃ m, ns[k]? = some m := ⟨ns[k]'(by rw [HNS.out]; exact hlt), List.getElem?_eq_getElem _⟩
      have HM := Lib.hid hm
      have HI := Lib.hid (HF.out m (List.mem_of_getElem? hm))
      clear hm
      have ck : wr.cell? ⟨p, off + k, none⟩ = some (.int .i64 m) := by
        have := HC.out k m HM.out
        exact (HB.out.cell (block_lt_of_cell this)).trans this
      have hkl : (k : Int) < (n : Int) := by omega
      have HWB := Lib.hid (writeByte_calls w.heap.size w.heap.size _ 59 wr HBU.out (by rw [byteCells_length]; have := HLK.out; omega) HB.out.size)
      go_wp2_with (first
        | (go_at_call 44; refine HWB.out.mono ?_; rintro e w1 ⟨rfl, hb1, hl1⟩; have HBU1 := Lib.hid (show IsBuilder TB TU w.heap.size w.heap.size (byteCells (rowL head (ns.take k) ++ [59])) w1 from by rw [cells_app]; exact hb1); have HB1 := Lib.hid (HB.out.trans hl1); clear hb1 hl1; have HIT := Lib.hid (Tryz.strconv_Itoa m HI.out.1 HI.out.2 w1 (HL.out.below HB1.out).tab))
        | (go_at_call 45; go_must (refine HIT.out.mono ?_; rintro e w2 ⟨rfl, d2, os2, rfl⟩; have hg2 := below_grow w1.heap.size w1 (Nat.le_refl _) d2 os2; have HBU2 := Lib.hid (builder_below HBU1.out hg2); have HB2 := Lib.hid (HB1.out.trans (hg2.mono HB1.out.size)); clear hg2; generalize grow (w1.drewN d2) os2 = w2 at HBU2 HB2 ⊢; have HWS := Lib.hid (writeString_calls w.heap.size w.heap.size _ (str (itoa m)) w2 HBU2.out (by rw [byteCells_length, size_str, List.length_append]; have h1 := HLK.out; have h2 := itoa_length_le m HI.out.1 HI.out.2; simp only [List.length_cons, List.length_nil]; omega) HB2.out.size)))
        | (go_at_call 19; refine HWS.out.mono ?_; rintro e w3 ⟨rfl, hb3, hl3⟩; have HBU3 := Lib.hid (show IsBuilder TB TU w.heap.size w.heap.size (byteCells (rowL head (ns.take (k + 1)))) w3 from by rw [row_next HM.out, cells_app, ← cells_str (itoa m)]; exact hb3); have HB3 := Lib.hid (HB2.out.trans hl3); clear hb3 hl3))
      exact ⟨⟨k + 1, hlt, congrArg (Value.int .i64) (Int.natCast_add k 1).symm, HBU3, HB3⟩, numbers_measure n k hlt⟩
    · obtain rfl : k = n := by omega
      have HWB := Lib.hid (writeByte_calls w.heap.size w.heap.size _ 10 wr HBU.out (by rw [byteCells_length]; have := HLK.out; omega) HB.out.size)
      go_wp2_with (first
        | (go_at_call 44; refine HWB.out.mono ?_; rintro e w1 ⟨rfl, hb1, hl1⟩; have HBU1 := Lib.hid (show IsBuilder TB TU w.heap.size w.heap.size (byteCells (rowL head (ns.take k) ++ [10])) w1 from by rw [cells_app]; exact hb1); have HB1 := Lib.hid (HB.out.trans hl1); clear hb1 hl1; have HST := Lib.hid (Tryz.Builder_String_any w.heap.size w.heap.size _ w1 HBU1.out HB1.out.size))
        | (go_at_call 23; refine HST.out.mono ?_; rintro e w2 ⟨rfl, hl2⟩; have HB2 := Lib.hid (HB1.out.trans hl2); clear hl2))
      go_ret
      refine ⟨?_, HB2.out⟩
      rw [List.take_of_length_le (by rw [HNS.out]; exact Nat.le_refl _)]
      rfl
end Go.Proofs.YtnoofdjlocadbaaGreatDoor
namespace Go.Proofs.YtnoofdjlocadbaaGreatDoor
open Go Go.RowKit Go.Lib Go.Shelf Go.Sort

theorem held_open {α : Type} [Inhabited α] {B : Nat} {w : World} {k : Nat} {enc : α → List Value} {v : Value} {xs : List α} (h : Held B w k enc v xs) :
    ∃ a c, v = .slice a xs.length c ∧ (∀ j, j < xs.length → ∃ b off, a = some ⟨b, off, none⟩ ∧ b < B ∧ ∀ j, j < xs.length → ∀ i u, (enc xs[j]!)[i]? = some u → w.cell? ⟨b, off + j * k + i, none⟩ = some u) := by
  rcases h with ⟨⟨a, c, rfl⟩, rfl⟩ | ⟨b, off, c, rfl, hb, _, hc⟩
  · exact ⟨a, c, rfl, fun j hj => by cases hj⟩
  · exact ⟨_, c, rfl, fun j _ => ⟨b, off, rfl, hb, hc⟩⟩
theorem fresh_ints (W : World) (ns : List Int) (cs : Array Value) (h : cs = (ns.map (Value.int .i64)).toArray) (ty : TypeId) : ∀ j n, ns[j]? = some n → (W.alloc (.cells cs ty)).cell? ⟨W.heap.size, 0 + j, none⟩ = some (.int .i64 n) := by
  intro j n hj
  rw [cell_of_heap (World.alloc_heap_new W _), Nat.zero_add, h]
  simp [hj]
theorem str_app (a b : List UInt8) : str a ++ str b = str (a ++ b) := by
  apply ByteArray.ext
  simp [str, ByteArray.data_append]

structure TreeSmall (t : Tree) : Prop where
  nums : ∀ n ∈ t.plain.nums, I64 n
  strips : ∀ s ∈ t.strips, I64 s.1 ∧ I64 s.2
  wounds : ∀ n ∈ t.wounds, I64 n
  code : t.code.size ≤ 1000
  many : t.strips.length ≤ 10 ∧ t.wounds.length ≤ 10

def stripLine (s : Int × Int) : List UInt8 := lineL wStrip [s.1, s.2]
def woundLine (n : Int) : List UInt8 := lineL wWound [n]
def treeText (t : Tree) : List UInt8 := lineL (wTree ++ 59 :: t.code.data.toList) t.plain.nums ++ t.strips.flatMap stripLine ++ t.wounds.flatMap woundLine

theorem strip_acc {T : List UInt8} {xs : List (Int × Int)} {k : Nat} (h : k < xs.length) : (T ++ (xs.take k).flatMap stripLine) ++ stripLine xs[k]! = T ++ (xs.take (k + 1)).flatMap stripLine := by
  rw [List.take_add_one, List.getElem?_eq_getElem h, getElem!_pos xs k h, List.flatMap_append]
  simp only [Option.toList_some, List.flatMap_cons, List.flatMap_nil, List.append_nil, List.append_assoc]
theorem wound_acc {T : List UInt8} {xs : List Int} {k : Nat} (h : k < xs.length) : (T ++ (xs.take k).flatMap woundLine) ++ woundLine xs[k]! = T ++ (xs.take (k + 1)).flatMap woundLine := by
  rw [List.take_add_one, List.getElem?_eq_getElem h, getElem!_pos xs k h, List.flatMap_append]
  simp only [Option.toList_some, List.flatMap_cons, List.flatMap_nil, List.append_nil, List.append_assoc]
theorem line_len (head : List UInt8) (ns : List Int) (h : ∀ n ∈ ns, I64 n) : (lineL head ns).length ≤ head.length + 22 * ns.length + 1 := by
  have := row_len head ns h
  unfold lineL
  simp only [List.length_append, List.length_cons, List.length_nil]
  omega
theorem strips_len : ∀ (xs : List (Int × Int)), (∀ s ∈ xs, I64 s.1 ∧ I64 s.2) → (xs.flatMap stripLine).length ≤ 50 * xs.length
  | [], _ => by simp
  | s :: r, h => by
    have h1 := strips_len r fun m hm => h m (List.mem_cons_of_mem _ hm)
    have h2 := line_len wStrip [s.1, s.2] (fun n hn => by rcases List.mem_cons.1 hn with rfl | hn; exact (h s (by simp)).1; rw [List.mem_singleton.1 hn]; exact (h s (by simp)).2)
    have h3 : wStrip.length = 5 := rfl
    simp only [List.flatMap_cons, List.length_append, List.length_cons, stripLine, List.length_nil] at h1 h2 ⊢
    omega
theorem wounds_len : ∀ (xs : List Int), (∀ n ∈ xs, I64 n) → (xs.flatMap woundLine).length ≤ 50 * xs.length
  | [], _ => by simp
  | s :: r, h => by
    have h1 := wounds_len r fun m hm => h m (List.mem_cons_of_mem _ hm)
    have h2 := line_len wWound [s] (fun n hn => by rw [List.mem_singleton.1 hn]; exact h s (by simp))
    have h3 : wWound.length = 5 := rfl
    simp only [List.flatMap_cons, List.length_append, List.length_cons, woundLine, List.length_nil] at h1 h2 ⊢
    omega
theorem take_sub {α : Type} {P : α → Prop} {xs : List α} (h : ∀ x ∈ xs, P x) (k : Nat) : ∀ x ∈ xs.take k, P x := fun x hx => h x (List.take_subset _ _ hx)

set_option maxRecDepth 100000 in
set_option maxHeartbeats 4000000 in
theorem printTree_calls (t : Tree) (w : World) (h : TreeHeld w.heap.size w t) (hs : TreeSmall t) (hL : Libs w) :
    Calls Tryz.prog 21 #[.agg t.cells.toArray] w fun e w' => e = .returned (.string (str (treeText t))) ∧ Below w.heap.size w w' := by
  obtain ⟨code, bmin, bmax, taped, gmin, gmax, wmin, wmax, sv, wv, dead, strips, wounds⟩ := t
  obtain ⟨hst, hwo, _⟩ := h
  obtain ⟨hn, hs1, hw1, hc1, hm1, hm2⟩ := hs
  dsimp only at hst hwo hs1 hw1 hc1 hm1 hm2
  obtain ⟨sa, sc, rfl, hsa⟩ := held_open hst
  obtain ⟨wa, wc, rfl, hwa⟩ := held_open hwo
  simp only [Tree.cells]
  simp only [Tree.plain, PTree.nums] at hn
  generalize htt : treeText _ = tt
  have HTT := Lib.hid htt
  clear htt
  have hcode := str_of code
  have HL := Lib.hid hL; have HN := Lib.hid hn; have HS := Lib.hid hs1; have HW := Lib.hid hw1; have HSA := Lib.hid hsa; have HWA := Lib.hid hwa; have HC := Lib.hid hc1; have HST := Lib.hid hst; have HWO := Lib.hid hwo; have HM1 := Lib.hid hm1; have HM2 := Lib.hid hm2
  clear hL hn hs1 hw1 hsa hwa hc1 hst hwo hm1 hm2
  go_enter Tryz.func21, Tryz.ntmps21
  have hhead : (⟨#[116, 114, 101, 101, 59]⟩ : ByteArray) ++ code = str (wTree ++ 59 :: code.data.toList) := by
    rw [← hcode]
    exact str_app [116, 114, 101, 101, 59] _
  have hcs : ¬ 9223372036854775807 < 5 + code.size := by have := HC.out; omega
  have HHL := Lib.hid (show (wTree ++ 59 :: code.data.toList).length ≤ 1005 from by
    have h1 := HC.out
    have h2 : code.data.toList.length = code.size := by rw [Array.length_toList]; rfl
    have h3 : wTree.length = 4 := rfl
    simp only [List.length_append, List.length_cons]
    omega)
  have HA := Lib.hid ((Below.refl w.heap.size w).alloc (Nat.le_refl _) (.cells #[.string code, .int .i64 bmin, .int .i64 bmax, .int .i64 taped, .int .i64 gmin, .int .i64 gmax, .int .i64 wmin, .int .i64 wmax, .slice sa strips.length sc, .slice wa wounds.length wc, .int .i64 dead] 45))
  have HTB := Lib.hid (Bkt.new w 45 #[.string code, .int .i64 bmin, .int .i64 bmax, .int .i64 taped, .int .i64 gmin, .int .i64 gmax, .int .i64 wmin, .int .i64 wmax, .slice sa strips.length sc, .slice wa wounds.length wc, .int .i64 dead])
  have HLN := Lib.hid (show Calls Tryz.prog 20 _ _ _ from line_calls (wTree ++ 59 :: code.data.toList) [bmin, bmax, taped, gmin, gmax, wmin, wmax, dead] (w.heap.size + 1) 0 8 HN.out (by have := HHL.out; omega) (Nat.le_of_ble_eq_true rfl) ((w.alloc (.cells #[.string code, .int .i64 bmin, .int .i64 bmax, .int .i64 taped, .int .i64 gmin, .int .i64 gmax, .int .i64 wmin, .int .i64 wmax, .slice sa strips.length sc, .slice wa wounds.length wc, .int .i64 dead] 45)).alloc (.cells #[.int .i64 bmin, .int .i64 bmax, .int .i64 taped, .int .i64 gmin, .int .i64 gmax, .int .i64 wmin, .int .i64 wmax, .int .i64 dead] 3)) ((HL.out.below HA.out).below ((Below.refl _ _).alloc (Nat.le_refl _) _)) (by
    have := fresh_ints (w.alloc (.cells #[.string code, .int .i64 bmin, .int .i64 bmax, .int .i64 taped, .int .i64 gmin, .int .i64 gmax, .int .i64 wmin, .int .i64 wmax, .slice sa strips.length sc, .slice wa wounds.length wc, .int .i64 dead] 45)) [bmin, bmax, taped, gmin, gmax, wmin, wmax, dead] _ rfl 3
    rw [World.size_alloc] at this
    exact this))
  go_upto_region 2 with (go_at_call 20; go_must (refine HLN.out.mono ?_); rintro e w1 ⟨rfl, hb1⟩)
  have HB1 := Lib.hid ((HA.out.alloc (by rw [World.size_alloc]; omega) _).trans (hb1.mono (by rw [World.size_alloc, World.size_alloc]; omega)))
  have HT1 := Lib.hid ((HTB.out.alloc _).below hb1)
  clear hb1 HLN HA HTB hhead hcs
  have c8 : w1.cell? ⟨w.heap.size, 8, none⟩ = some (.slice sa strips.length sc) := HT1.out.at 8 _ rfl
  generalize hT0 : lineL (wTree ++ 59 :: code.data.toList) [bmin, bmax, taped, gmin, gmax, wmin, wmax, dead] = T0
  have HT0 := Lib.hid hT0
  have HT0L := Lib.hid (show T0.length ≤ 2000 from by
    have h1 := line_len (wTree ++ 59 :: code.data.toList) [bmin, bmax, taped, gmin, gmax, wmin, wmax, dead] HN.out
    rw [hT0] at h1
    have h2 := HHL.out
    simp only [List.length_cons, List.length_nil] at h1
    omega)
  clear hT0
  go_wp2_with fail
  go_loopw [3, 38] (fun tx i wr => ∃ k : Nat, k ≤ strips.length ∧ i = .int .i64 k ∧ tx = .string (str (T0 ++ (strips.take k).flatMap stripLine)) ∧ Hid (Below w1.heap.size w1 wr)) (fun _ i _ => strips.length - (RowKit.intOf i).toNat)
  case atStart => exact ⟨0, Nat.zero_le _, rfl, by simp, Lib.hid (Below.refl _ _)⟩
  case round =>
    obtain ⟨k, hk, rfl, rfl, HB⟩ := hrel
    have HLE := Lib.hid (show (T0 ++ (strips.take k).flatMap stripLine).length ≤ 2500 from by
      have h1 := strips_len (strips.take k) (take_sub HS.out k)
      have h2 : (strips.take k).length ≤ 10 := by rw [List.length_take]; have := HM1.out; omega
      have h3 := HT0L.out
      rw [List.length_append]; omega)
    by_cases hlt : k < strips.length
    · obtain ⟨b, off, rfl, hb, hc⟩ := HSA.out k hlt
      have hb0 := HB1.out.size
      have HBW := Lib.hid (HB1.out.trans (HB.out.mono HB1.out.size))
      have s0 : wr.cell? ⟨b, off + k * 2, none⟩ = some (.int .i64 strips[k]!.1) := (HBW.out.cell (p := ⟨b, off + k * 2, none⟩) hb).trans (hc k hlt 0 _ rfl)
      have s1 : wr.cell? ⟨b, off + k * 2 + 1, none⟩ = some (.int .i64 strips[k]!.2) := (HBW.out.cell (p := ⟨b, off + k * 2 + 1, none⟩) hb).trans (hc k hlt 1 _ rfl)
      clear hc
      have HX := Lib.hid (HS.out strips[k]! (by rw [getElem!_pos strips k hlt]; exact List.getElem_mem hlt))
      have HACC := Lib.hid (show (T0 ++ (strips.take k).flatMap stripLine) ++ lineL wStrip [strips[k]!.1, strips[k]!.2] = T0 ++ (strips.take (k + 1)).flatMap stripLine from strip_acc hlt)
      have hm10 := HM1.out
      generalize strips[k]! = x at s0 s1 HX HACC
      obtain ⟨y, ht⟩ := x
      dsimp only at s0 s1 HX HACC
      have hkl : (k : Int) < (strips.length : Int) := by omega
      have HLI := Lib.hid (line_calls wStrip [y, ht] (wr.heap.size + 1) 0 2 (fun n hn => by rcases List.mem_cons.1 hn with rfl | hn; exact HX.out.1; rw [List.mem_singleton.1 hn]; exact HX.out.2) (by decide) (Nat.le_of_ble_eq_true rfl) ((wr.alloc (.cells #[.int .i64 y, .int .i64 ht] 69)).alloc (.cells #[.int .i64 y, .int .i64 ht] 3)) (((HL.out.below HBW.out).below ((Below.refl _ _).alloc (Nat.le_refl _) _)).below ((Below.refl _ _).alloc (Nat.le_refl _) _)) (by
        have := fresh_ints (wr.alloc (.cells #[.int .i64 y, .int .i64 ht] 69)) [y, ht] _ rfl 3
        rw [World.size_alloc] at this
        exact this))
      have hz : ¬ 9223372036854775807 < (str (T0 ++ List.flatMap stripLine (List.take k strips))).size + (str (lineL wStrip [y, ht])).size := by
        rw [size_str, size_str]
        have h1 := HLE.out
        have h2 := line_len wStrip [y, ht] (fun n hn => by rcases List.mem_cons.1 hn with rfl | hn; exact HX.out.1; rw [List.mem_singleton.1 hn]; exact HX.out.2)
        have h3 : wStrip.length = 5 := rfl
        simp only [List.length_cons, List.length_nil] at h2
        omega
      go_wp2_with (go_at_call 20; refine HLI.out.mono ?_; rintro e w2 ⟨rfl, hb2⟩; have HB2 := Lib.hid (((HB.out.alloc HB.out.size _).alloc (by rw [World.size_alloc]; have := HB.out.size; omega) _).trans (hb2.mono (by rw [World.size_alloc, World.size_alloc]; have := HB.out.size; omega))); clear hb2)
      exact ⟨⟨k + 1, hlt, congrArg (Value.int .i64) (Int.natCast_add k 1).symm, by rw [str_app, HACC.out], HB2⟩, numbers_measure _ k hlt⟩
    · obtain rfl : k = strips.length := by omega
      rw [List.take_of_length_le (Nat.le_refl _)] at *
      have HW1 := Lib.hid (HB1.out.trans (HB.out.mono HB1.out.size))
      have HT2 := Lib.hid (HT1.out.below HB.out)
      have c9 : wr.cell? ⟨w.heap.size, 9, none⟩ = some (.slice wa wounds.length wc) := HT2.out.at 9 _ rfl
      generalize hU : T0 ++ List.flatMap stripLine strips = U at *
      have HU := Lib.hid hU
      clear hU
      have HUL := Lib.hid (show U.length ≤ 2500 from HLE.out)
      have HV1 := HW1
      clear HW1 HB HT1 HT2 HB1 HLE
      generalize wr = v1 at *
      go_wp2_with fail
      go_loopw [3, 54] (fun tx i wr => ∃ k : Nat, k ≤ wounds.length ∧ i = .int .i64 k ∧ tx = .string (str (U ++ (wounds.take k).flatMap woundLine)) ∧ Hid (Below v1.heap.size v1 wr)) (fun _ i _ => wounds.length - (RowKit.intOf i).toNat)
      case atStart => exact ⟨0, Nat.zero_le _, rfl, by simp, Lib.hid (Below.refl _ _)⟩
      case round =>
        obtain ⟨k, hk, rfl, rfl, HB⟩ := hrel
        have HLE := Lib.hid (show (U ++ (wounds.take k).flatMap woundLine).length ≤ 3000 from by
          have h1 := wounds_len (wounds.take k) (take_sub HW.out k)
          have h2 : (wounds.take k).length ≤ 10 := by rw [List.length_take]; have := HM2.out; omega
          have h3 := HUL.out
          rw [List.length_append]; omega)
        by_cases hlt : k < wounds.length
        · obtain ⟨b, off, rfl, hb, hc⟩ := HWA.out k hlt
          have hb0 := HV1.out.size
          have HBW := Lib.hid (HV1.out.trans (HB.out.mono HV1.out.size))
          have s0 : wr.cell? ⟨b, off + k, none⟩ = some (.int .i64 wounds[k]!) := (HBW.out.cell (p := ⟨b, off + k, none⟩) hb).trans (by have := hc k hlt 0 _ rfl; simpa using this)
          clear hc
          have HX := Lib.hid (HW.out wounds[k]! (by rw [getElem!_pos wounds k hlt]; exact List.getElem_mem hlt))
          have HACC := Lib.hid (show (U ++ (wounds.take k).flatMap woundLine) ++ lineL wWound [wounds[k]!] = U ++ (wounds.take (k + 1)).flatMap woundLine from wound_acc hlt)
          have hm10 := HM2.out
          generalize wounds[k]! = y at s0 HX HACC
          have hkl : (k : Int) < (wounds.length : Int) := by omega
          have HLI := Lib.hid (line_calls wWound [y] wr.heap.size 0 1 (fun n hn => by rw [List.mem_singleton.1 hn]; exact HX.out) (by decide) (Nat.le_of_ble_eq_true rfl) (wr.alloc (.cells #[.int .i64 y] 3)) ((HL.out.below HBW.out).below ((Below.refl _ _).alloc (Nat.le_refl _) _)) (fresh_ints wr [y] _ rfl 3))
          have hz : ¬ 9223372036854775807 < (str (U ++ List.flatMap woundLine (List.take k wounds))).size + (str (lineL wWound [y])).size := by
            rw [size_str, size_str]
            have h1 := HLE.out
            have h2 := line_len wWound [y] (fun n hn => by rw [List.mem_singleton.1 hn]; exact HX.out)
            have h3 : wWound.length = 5 := rfl
            simp only [List.length_cons, List.length_nil] at h2
            omega
          go_wp2_with (go_at_call 20; refine HLI.out.mono ?_; rintro e w2 ⟨rfl, hb2⟩; have HB2 := Lib.hid ((HB.out.alloc HB.out.size _).trans (hb2.mono (by rw [World.size_alloc]; have := HB.out.size; omega))); clear hb2)
          exact ⟨⟨k + 1, hlt, congrArg (Value.int .i64) (Int.natCast_add k 1).symm, by rw [str_app, HACC.out], HB2⟩, numbers_measure _ k hlt⟩
        · obtain rfl : k = wounds.length := by omega
          rw [List.take_of_length_le (Nat.le_refl _)] at *
          have HW2 := Lib.hid (HV1.out.trans (HB.out.mono HV1.out.size))
          go_wp2_with fail
          go_ret
          refine ⟨?_, HW2.out⟩
          rw [← HTT.out, ← HU.out, ← HT0.out]
          rfl
end Go.Proofs.YtnoofdjlocadbaaGreatDoor
