/- The reader's lines: the iterator of terms.Lines, line by line, whose rounds may panic. -/
import Derived.Test.YtnoofdjlocadbaaGreatDoorCuts
import Derived.Test.YtnoofdjlocadbaaGreatDoorPanicsSeq
import Derived.Test.YtnoofdjlocadbaaGreatDoorTextShelf
import Derived.Test.YtnoofdjlocadbaaGreatDoorRows
import Derived.Test.YtnoofdjlocadbaaGreatDoorLeaf
import Derived.TacticsIn
import Derived.TacticsInMore
import Derived.BigFrameIn
import Derived.BigGuardPartIn
import Derived.RangeFuncBox
import Derived.LoopTactic
import Derived.LoopIn
namespace Go.Proofs.YtnoofdjlocadbaaGreatDoor
open Go Go.RowKit Go.Lib

attribute [local go_sem] Oper.semAt_some

/-- A string out of its bytes. -/
def str (l : List UInt8) : ByteArray := ⟨l.toArray⟩
theorem str_data (l : List UInt8) : (str l).data.toList = l := by simp [str]
theorem str_of (s : ByteArray) : str s.data.toList = s := by simp [str]

theorem str_list (l : List UInt8) : (str l).toList = l := by
  have h := extract_toList (str l) 0 (str l).size
  rw [ByteArray.extract_zero_size, str_data] at h
  rw [h]
  simp [str, ByteArray.size]

theorem fields_split (l : List UInt8) : splitB (str [59]) 0 (countB (str l) (str [59])) (str l) = (fieldsL l).map str := by
  have h := splitB_data (str [59]) 0 (countB (str l) (str [59])) (str l)
  have hc : countB (str l) (str [59]) = l.count 59 := by
    show count (str l).data.toList (str [59]).data.toList = _
    rw [str_data, str_data, count_one]
  rw [str_data, str_data, hc, split_all 59 l.length l (Nat.le_refl _)] at h
  rw [hc]
  have h2 := congrArg (List.map str) h
  rw [List.map_map] at h2
  have h3 : (str ∘ fun x : ByteArray => x.data.toList) = id := by funext x; exact str_of x
  rw [h3, List.map_id] at h2
  exact h2

theorem fields_count (l : List UInt8) : countB (str l) (str [59]) + 1 = (fieldsL l).length := by
  have h := splitB_all (str [59]) (by decide) 0 (countB (str l) (str [59])) (str l) rfl
  rw [fields_split, List.length_map] at h
  exact h.symm

/-- What the k-th round is handed: the line's number, and its fields in a list that is younger than B0. -/
def HasLine (L : List (List UInt8)) (B0 k : Nat) (args : Array Value) (W : World) : Prop :=
  ∃ line p, L[k]? = some line ∧ B0 ≤ p ∧ args = #[.int .i64 ((k : Int) + 1), .slice (some ⟨p, 0, none⟩) (fieldsL line).length (fieldsL line).length] ∧
    (∀ j f, (fieldsL line)[j]? = some f → W.cell? ⟨p, j, none⟩ = some (.string (str f))) ∧ ∃ cs, W.heap[p]? = some (.cells cs 9 (0, 0))

/-- What a round leaves alone: the text's box, and the library's number. -/
def KeptBox (g : Nat) (W W' : World) : Prop := W.heap.size ≤ W'.heap.size ∧ W'.heap[g]? = W.heap[g]? ∧ W'.heap[1]? = W.heap[1]?

theorem cutAll_le (c : UInt8) : ∀ s : List UInt8, (cutAll c s).length ≤ s.length + 1
  | [] => by simp [cutAll]
  | b :: r => by
    have ih := cutAll_le c r
    unfold cutAll
    split
    · simp only [List.length_cons]; omega
    · split
      · rename_i h; rw [h] at ih; simp only [List.length_cons] at ih ⊢; omega
      · simp
theorem lines_le (t : List UInt8) : (linesL t).length ≤ t.length + 1 := by
  have := cutAll_le 10 t
  unfold linesL
  split
  · rw [List.length_dropLast]; omega
  · exact this

theorem lines_measure (N k : Nat) (h : k < N) : ((N : Int) + 1 - ((k : Int) + 1 + 1)).toNat < ((N : Int) + 1 - ((k : Int) + 1)).toNat := by omega

theorem lines_next (k : Nat) : (k : Int) + 1 + 1 = ((k + 1 : Nat) : Int) + 1 := by omega

theorem cut_calls (rest : List UInt8) (hr : rest.length < 1000000000) (m : Int) (w : World) (h1 : w.cell? ⟨1, 0, none⟩ = some (.int .i64 m)) :
    Calls Tryz.prog 88 #[.string (str rest), .string ⟨#[10]⟩] w fun e w' =>
      e = .returned (.tuple #[.string (str (cut rest [10]).1), .string (str (cut rest [10]).2.1), .bool (cut rest [10]).2.2]) ∧ Below w.heap.size w w' := by
  refine (Tryz.strings_Cut (str rest) (str [10]) m w (by show rest.toArray.size < _; simp; omega) h1).mono ?_
  rintro e w' ⟨rfl, n, rfl⟩
  rw [str_data, str_data]
  exact ⟨rfl, below_drewN (Below.refl _ w) n⟩

theorem split_calls (line : List UInt8) (hr : line.length < 1000000000) (m : Int) (w : World) (h1 : w.cell? ⟨1, 0, none⟩ = some (.int .i64 m)) :
    Calls Tryz.prog 89 #[.string (str line), .string ⟨#[59]⟩] w fun e w' =>
      ∃ p, e = .returned (.slice (some ⟨p, 0, none⟩) (fieldsL line).length (fieldsL line).length) ∧ w.heap.size ≤ p ∧ Below w.heap.size w w' ∧ (∀ j f, (fieldsL line)[j]? = some f → w'.cell? ⟨p, j, none⟩ = some (.string (str f))) ∧ ∃ cs, w'.heap[p]? = some (.cells cs 9 (0, 0)) := by
  refine (Tryz.strings_Split (str line) (str [59]) m w (by show line.toArray.size < _; simp; omega) h1 (by decide)).mono ?_
  rintro e w' ⟨rfl, rfl⟩
  rw [fields_count, fields_split]
  have h2 := World.alloc_heap_new w (Obj.cells (List.map Value.string ((fieldsL line).map str)).toArray 9)
  refine ⟨w.heap.size, rfl, Nat.le_refl _, (Below.refl _ w).alloc (Nat.le_refl _) _, fun j f hj => ?_, _, h2⟩
  unfold World.cell?
  rw [h2]
  simp [hj]

set_option maxRecDepth 100000 in
set_option maxHeartbeats 2000000 in
theorem lines_in (n : Nat) (hn : 1 ≤ n) (l g : Nat) (t : List UInt8) (ht : t.length < 1000000000) (m : Int) (B0 : Nat) (J : Nat → World → Prop) (Jp : List PanicEntry → World → Prop)
    (hJ : ∀ k A B, J k A → Below A.heap.size A B → J k B)
    (hY : ∀ k args W, k < (linesL t).length → J k W → HasLine (linesL t) B0 k args W → YieldAt Fence.wide (n - 1) Tryz.prog l args W fun e W' => (e = .returned (.bool true) ∧ J (k + 1) W' ∧ KeptBox g W W') ∨ ∃ ch, e = .panicked ch ∧ Jp ch W')
    (W : World) (hB : B0 ≤ W.heap.size) (hg : W.cell? ⟨g, 0, none⟩ = some (.string (str t))) (h1 : W.cell? ⟨1, 0, none⟩ = some (.int .i64 m)) (hJ0 : J 0 W) :
    CallsIn Fence.wide n Tryz.prog 87 #[.func (.yield l) #[] #[], .pointer (some ⟨g, 0, none⟩)] W fun e W' => ((∃ v, e = .returned v) ∧ J (linesL t).length W') ∨ ∃ ch, e = .panicked ch ∧ Jp ch W' := by
  refine callsIn_of_wp Tryz.func87 rfl trivial ?_ rfl
  simp only [Tryz.ntmps87, List.size_toArray, List.length_cons, List.length_nil, Nat.reduceAdd, Nat.reduceSub, Array.replicate_succ, Array.replicate_zero, List.push_toArray, List.append_toArray, List.nil_append, List.cons_append]
  gi_wp2
  gi_loopw [3, 4] (fun s i wr => ∃ (k : Nat) (rest : List UInt8), s = .string (str rest) ∧ i = .int .i64 ((k : Int) + 1) ∧ Left t k rest ∧ k ≤ (linesL t).length ∧ J k wr ∧ B0 ≤ wr.heap.size ∧ wr.cell? ⟨g, 0, none⟩ = some (.string (str t)) ∧ wr.cell? ⟨1, 0, none⟩ = some (.int .i64 m))
    (fun _ i _ => ((linesL t).length + 1 - RowKit.intOf i).toNat)
  case atStart => exact ⟨0, t, rfl, rfl, left_zero t, Nat.zero_le _, hJ0, hB, hg, h1⟩
  case round =>
    obtain ⟨k, rest, rfl, rfl, hl, hk, hJw, hBw, hgw, h1w⟩ := hrel
    by_cases hr : rest = []
    · have hkl := (left_end hl).mp hr
      obtain rfl : k = (linesL t).length := by omega
      have es : str rest = ⟨#[]⟩ := by rw [hr]; rfl
      rw [es]
      gi_wp2
      go_end0
      exact .inl ⟨⟨_, rfl⟩, hJw⟩
    · obtain ⟨hline, hnext⟩ := left_next hl hr
      have hlt : k < (linesL t).length := (List.getElem?_eq_some_iff.mp hline).1
      have hrl := hl.size
      have f1 : Fence.wide.fn 88 := trivial
      have f2 : Fence.wide.fn 89 := trivial
      have hne : (str rest).toList.isEmpty = false := by
        rw [str_list]
        cases rest with
        | nil => exact absurd rfl hr
        | cons a l => rfl
      have HC := cut_calls rest (by omega) m wr h1w
      have hll : (cut rest [10]).1.length < 1000000000 := by
        unfold cut; split
        · simp; omega
        · simp; omega
      generalize hc1 : (cut rest [10]).1 = line at *
      generalize hc2 : (cut rest [10]).2.1 = after at *
      generalize hc3 : (cut rest [10]).2.2 = fb at *
      gi_wp2_with (first
        | (gi_at_call 88; refine (callsIn_wide.2 HC).mono ?_; rintro e w1 ⟨rfl, hb1⟩; have h1' : w1.cell? ⟨1, 0, none⟩ = some (.int .i64 m) := (hb1.cell (block_lt_of_cell h1w)).trans h1w; have HS := split_calls line hll m w1 h1')
        | (gi_at_call 89; refine (callsIn_wide.2 HS).mono ?_; rintro e w2 ⟨p, rfl, hp, hb2, hf⟩; have hs1 := hb1.size; have hJ2 : J k w2 := hJ k w1 w2 (hJ k wr w1 hJw hb1) hb2; obtain ⟨fn, tmps, assign, body, hy, hR⟩ := hY k _ w2 hlt hJ2 ⟨line, p, hline, (by omega), rfl, hf⟩))
      refine hR.mono ?_
      have hs2 := hb2.size
      rintro e W3 (⟨rfl, hJ3, hk3⟩ | ⟨ch, rfl, hp3⟩)
      · have hgb := block_lt_of_cell hgw
        have h1b := block_lt_of_cell h1w
        have g2 : w2.cell? ⟨g, 0, none⟩ = some (.string (str t)) := (hb2.cell (p := ⟨g, 0, none⟩) (by show g < _; have : g < wr.heap.size := hgb; omega)).trans ((hb1.cell hgb).trans hgw)
        have o2 : w2.cell? ⟨1, 0, none⟩ = some (.int .i64 m) := (hb2.cell (p := ⟨1, 0, none⟩) (by show 1 < _; have : 1 < wr.heap.size := h1b; omega)).trans h1'
        have g3 : W3.cell? ⟨g, 0, none⟩ = some (.string (str t)) := (World.cell?_of_block (w := w2) (a := ⟨g, 0, none⟩) hk3.2.1).trans g2
        have o3 : W3.cell? ⟨1, 0, none⟩ = some (.int .i64 m) := (World.cell?_of_block (w := w2) (a := ⟨1, 0, none⟩) hk3.2.2).trans o2
        have b3 : B0 ≤ W3.heap.size := by have := hk3.1; omega
        have hkt : k < 1000000001 := by
          have : (linesL t).length ≤ t.length + 1 := lines_le t
          omega
        have hwr : wrap64 ((k : Int) + 1 + 1) = (k : Int) + 1 + 1 := by
          exact IntWalk.wrap64_in _ ⟨by omega, by omega⟩
        gi_wp2
        go_roundw
        case rel => exact ⟨k + 1, after, rfl, (by rw [hwr]; exact congrArg (Value.int .i64) (lines_next k)), hnext, hlt, hJ3, b3, g3, o3⟩
        case measure =>
          rw [hwr]
          show (((linesL t).length : Int) + 1 - ((k : Int) + 1 + 1)).toNat < (((linesL t).length : Int) + 1 - ((k : Int) + 1)).toNat
          exact lines_measure _ _ hlt
      · exact ⟨rfl, .inr ⟨ch, rfl, hp3⟩⟩
end Go.Proofs.YtnoofdjlocadbaaGreatDoor
