/- A line's function does what the plain step says. The map from words to the functions that read their lines. The closure that readForest defers, as a call of one that leaves in a fence. The reader's loop over the lines of a text. The program's Parse. -/
import Derived.Test.YtnoofdjlocadbaaGreatDoorReadTree
import Derived.Test.YtnoofdjlocadbaaGreatDoorPlainRead
import Derived.WideMake
import Derived.Test.YtnoofdjlocadbaaGreatDoorCatch
import Derived.RecoverIn
import Derived.Test.YtnoofdjlocadbaaGreatDoorLinesMay
import Derived.Test.YtnoofdjlocadbaaGreatDoorRound
import Derived.Test.YtnoofdjlocadbaaGreatDoorForest
namespace Go.Proofs.YtnoofdjlocadbaaGreatDoor
open Go Go.RowKit Go.Lib Go.Deep

/-- The function of a word. -/
def wordFn (w : List UInt8) : FuncId := if w = wLaw then 48 else if w = wTree then 49 else if w = wStrip then 50 else 51
/-- Not more than so many. -/
def Few (k : Nat) (ts : List Tree) : Prop := ts.length ≤ k ∧ ∀ t ∈ ts, t.strips.length ≤ k ∧ t.wounds.length ≤ k ∧ t.code.size < 1000000000
theorem Few.more {k : Nat} {ts : List Tree} (h : Few k ts) : Few (k + 1) ts := ⟨Nat.le_succ_of_le h.1, fun t ht => ⟨Nat.le_succ_of_le (h.2 t ht).1, Nat.le_succ_of_le (h.2 t ht).2.1, (h.2 t ht).2.2⟩⟩
theorem Few.snoc {k : Nat} {ts : List Tree} {t : Tree} (h : Few k ts) (h1 : t.strips.length ≤ k + 1 ∧ t.wounds.length ≤ k + 1 ∧ t.code.size < 1000000000) : Few (k + 1) (ts ++ [t]) := by
  refine ⟨by rw [List.length_append]; simp; exact h.1, fun x hx => ?_⟩
  rcases List.mem_append.1 hx with h2 | h2
  · exact h.more.2 x h2
  · rw [List.mem_singleton.1 h2]; exact h1
theorem Few.last {k : Nat} {ts : List Tree} {t t' : Tree} (h : Few k (ts ++ [t])) (h1 : t'.strips.length ≤ k + 1 ∧ t'.wounds.length ≤ k + 1 ∧ t'.code.size < 1000000000) : Few (k + 1) (ts ++ [t']) := by
  refine ⟨by have := h.1; simp at this ⊢; omega, fun x hx => ?_⟩
  rcases List.mem_append.1 hx with h2 | h2
  · exact h.more.2 x (by simp [h2])
  · rw [List.mem_singleton.1 h2]; exact h1

/-- What the line's function leaves. -/
def StepDone (w0 wb : World) (B : Nat) (law : Law) (ts : List Tree) (ln : Int) (last w : List UInt8) (r : List (List UInt8)) (k : Nat) (e : Ending) (w' : World) : Prop :=
  (∃ law' tv' ts', progStep ⟨last, law, ts.map Tree.plain⟩ (w :: r) = some ⟨w, law', ts'.map Tree.plain⟩ ∧ Few (k + 1) ts' ∧ e = .returned (.tuple #[]) ∧ Reading w0 w' B law' tv' ts' ln last ∧ Calm wb w') ∨
  (progStep ⟨last, law, ts.map Tree.plain⟩ (w :: r) = none ∧ e = .panicked (lineChain ln) ∧ Below wb.heap.size wb w')

theorem len_7 {ns : List Int} (h : ns.length = 7) : ∃ a b c d e f g, ns = [a, b, c, d, e, f, g] := by
  match ns, h with
  | [a, b, c, d, e, f, g], _ => exact ⟨a, b, c, d, e, f, g, rfl⟩
theorem len_8i {ns : List Int} (h : ns.length = 8) : ∃ a b c d e f g i, ns = [a, b, c, d, e, f, g, i] := by
  match ns, h with
  | [a, b, c, d, e, f, g, i], _ => exact ⟨a, b, c, d, e, f, g, i, rfl⟩
theorem lawOf_some {ns : List Int} {l : Law} (h : lawOf ns = some l) : ns.length = 7 := by
  unfold lawOf at h
  split at h
  · rfl
  · cases h
theorem treeOf_some {code : List UInt8} {ns : List Int} {t : PTree} (h : treeOf code ns = some t) : ns.length = 8 := by
  unfold treeOf at h
  split at h
  · rfl
  · cases h
theorem map_snoc (ts : List Tree) (t : Tree) : (ts ++ [t]).map Tree.plain = ts.map Tree.plain ++ [t.plain] := by simp

set_option maxHeartbeats 1000000 in
theorem step_calls (w0 : World) (B : Nat) (law : Law) (tv : Value) (ts : List Tree) (ln : Int) (last wd : List UInt8) (r : List (List UInt8)) (k p o c : Nat) (hfl : ∀ f ∈ r, f.length < 1000000000) (hn : r.length < 1000000000) (hcap : r.length ≤ c) (w : World) (hL : Libs w)
    (h : Reading w0 w B law tv ts ln last) (hf : Few k ts) (hk : k < 1000000000) (hne : last ∈ [wTree, wStrip, wWound] → ts ≠ [])
    (hc : ∀ j f, r[j]? = some f → w.cell? ⟨p, o + j, none⟩ = some (.string (str f))) (hp : ∃ cs, Bkt w p 9 cs) (hw : wd ∈ [wLaw, wTree, wStrip, wWound]) :
    Calls Tryz.prog (wordFn wd) #[.pointer (some ⟨B, 0, none⟩), .slice (some ⟨p, o, none⟩) r.length c] w (StepDone w0 w B law ts ln last wd r k) := by
  obtain ⟨n1, n2, n3, n4, n5, n6, n7, n8, n9, n10⟩ := words_ne
  have hlt : ts.length < 1000000000 := by have := hf.1; omega
  simp only [List.mem_cons, List.not_mem_nil, or_false] at hw
  rcases hw with rfl | rfl | rfl | rfl
  · show Calls Tryz.prog 48 _ _ _
    refine (readLaw_calls B ln last r p o c hfl hn w hL (law.cells ++ [tv, .int .i64 ln, .string (str last)]).toArray rfl h.blk rfl rfl hc).mono fun e w' hd => ?_
    unfold LawRead at hd
    unfold StepDone progStep
    dsimp only
    rw [if_pos rfl]
    rcases hd with ⟨a0, a1, a2, a3, a4, a5, a6, W, hl, hns, rfl, hb, rfl⟩ | ⟨hno, rfl, hb⟩
    · left
      refine ⟨⟨a0, a1, a2, a3, a4, a5, a6⟩, tv, ts, ?_, hf.more, rfl, (h.below hb).setLaw ⟨a0, a1, a2, a3, a4, a5, a6⟩, (Calm.of_below hb).setCells (h.below hb).blk (by decide) 0 _⟩
      rw [if_pos (by rw [hl]; simp), hns]
      rfl
    · right
      refine ⟨?_, rfl, hb⟩
      split
      · rename_i hl
        cases hq : numbersL r with
        | none => rfl
        | some ns =>
          rw [Option.bind_some]
          cases hlo : lawOf ns with
          | none => rfl
          | some l => exact absurd ⟨by simpa using hl, ns, hq, lawOf_some hlo⟩ hno
      · rfl
  · show Calls Tryz.prog 49 _ _ _
    refine (readTree_calls w0 B law tv ts ln last r p o c hfl hn hcap w hL h hlt hc hp).mono fun e w' hd => ?_
    unfold TreeRead at hd
    unfold StepDone progStep
    dsimp only
    rw [if_neg (Ne.symm n1), if_pos rfl]
    rcases hd with ⟨code, r', a0, a1, a2, a3, a4, a5, a6, a7, g, cap, hl, rfl, hns, rfl, hr, hss⟩ | ⟨hno, rfl, hb⟩
    · left
      refine ⟨law, _, _, ?_, hf.snoc ⟨Nat.zero_le _, Nat.zero_le _, ?_⟩, rfl, hr, hss⟩
      · rw [if_pos hl]
        dsimp only
        rw [hns, map_snoc]
        simp [treeOf, Tree.plain, str_data]
      · have := hfl code (by simp)
        show code.toArray.size < _
        simpa using this
    · right
      refine ⟨?_, rfl, hb⟩
      split
      · rename_i hl
        cases r with
        | nil => rfl
        | cons code r' =>
          dsimp only
          cases hq : numbersL r' with
          | none => rfl
          | some ns =>
            rw [Option.bind_some]
            cases ht : treeOf code ns with
            | none => rfl
            | some t => exact absurd ⟨hl, code, r', ns, rfl, hq, treeOf_some ht⟩ hno
      · rfl
  · show Calls Tryz.prog 50 _ _ _
    refine (readStrip_calls w0 B law tv ts ln last r p o c hfl hn w hL h hlt (fun t ht => by have := (hf.2 t ht).1; omega) (fun hm => hne (by simp only [List.mem_cons, List.not_mem_nil, or_false] at hm ⊢; rcases hm with hm | hm <;> simp [hm])) hc).mono fun e w' hd => ?_
    unfold StripRead at hd
    unfold StepDone progStep
    dsimp only
    rw [if_neg (Ne.symm n2), if_neg (Ne.symm n4), if_pos rfl]
    rcases hd with ⟨ts0, t, a, b, g, cap, rfl, hl, hns, rfl, hr, hss⟩ | ⟨hno, rfl, hb⟩
    · left
      refine ⟨law, _, _, ?_, hf.last ⟨?_, ?_, ?_⟩, rfl, hr, hss⟩
      · rw [if_pos hl, hns]
        dsimp only
        rw [atLast_snoc _ _ _ (map_snoc ts0 t)]
        simp [Tree.plain]
      · have := (hf.2 t (by simp)).1
        simp only [List.length_append, List.length_singleton]; omega
      · have := (hf.2 t (by simp)).2.1
        simp only; omega
      · exact (hf.2 t (by simp)).2.2
    · right
      refine ⟨?_, rfl, hb⟩
      split
      · rename_i hl
        split
        · rename_i a b hq
          exact absurd ⟨hl, [a, b], hq, rfl⟩ hno
        · rfl
      · rfl
  · show Calls Tryz.prog 51 _ _ _
    refine (readWound_calls w0 B law tv ts ln last r p o c hfl hn w hL h hlt (fun t ht => by have := (hf.2 t ht).2.1; omega) hne hc).mono fun e w' hd => ?_
    unfold WoundRead at hd
    unfold StepDone progStep
    dsimp only
    rw [if_neg (Ne.symm n3), if_neg (Ne.symm n5), if_neg (Ne.symm n6), if_pos rfl]
    rcases hd with ⟨ts0, t, a, g, cap, rfl, hl, hns, rfl, hr, hss⟩ | ⟨hno, rfl, hb⟩
    · left
      refine ⟨law, _, _, ?_, hf.last ⟨?_, ?_, ?_⟩, rfl, hr, hss⟩
      · rw [if_pos hl, hns]
        dsimp only
        rw [atLast_snoc _ _ _ (map_snoc ts0 t)]
        simp [Tree.plain]
      · have := (hf.2 t (by simp)).1
        simp only; omega
      · have := (hf.2 t (by simp)).2.1
        simp only [List.length_append, List.length_singleton]; omega
      · exact (hf.2 t (by simp)).2.2
    · right
      refine ⟨?_, rfl, hb⟩
      split
      · rename_i hl
        split
        · rename_i a hq
          exact absurd ⟨hl, [a], hq, rfl⟩ hno
        · rfl
      · rfl
end Go.Proofs.YtnoofdjlocadbaaGreatDoor
namespace Go.Proofs.YtnoofdjlocadbaaGreatDoor
open Go Go.RowKit Go.Lib

abbrev kindsType : TypeId := 103
theorem kinds_map : Tryz.prog.underlying kindsType = some (.map 9 100) := by kernel_rfl
theorem run_insert_new (w : World) (r clock : Nat) (es : Array MapEntry) (s : ByteArray) (val : Value) (hb : w.heap[r]? = some (.map es clock)) (hf : Instr.findNow .string (.string s) es.toList 0 = some none) :
    (Instr.mapUpdate kindsType (.map (some r)) (.string s) val).run Tryz.prog w = .ok () (w.putObj r (.map (es.push { key := .string s, val := val, born := clock }) (clock + 1))) := by
  have hc : (Instr.checkKey false 10000 9 (.string s)).run Tryz.prog w = .ok () w := MapKept.run_checkKey (k := .string s) Tryz.underlying9 (by simp [MapKept.IsKey]) false 9999
  simp [Instr.mapUpdate, run_underlying kinds_map, MapKept.run_getObj_map hb, hc, MapKept.run_findKey Tryz.underlying9 hf, MapKept.run_setObj_map _ hb, Result.andThen, World.putObj]
def wordVal (f : FuncId) : Value := .func (.func f) #[] #[]
/-- The map's entries. -/
def kindEntries : Array MapEntry := #[{ key := .string ⟨#[108, 97, 119]⟩, val := wordVal 48, born := 0 }, { key := .string ⟨#[116, 114, 101, 101]⟩, val := wordVal 49, born := 1 }, { key := .string ⟨#[115, 116, 114, 105, 112]⟩, val := wordVal 50, born := 2 }, { key := .string ⟨#[119, 111, 117, 110, 100]⟩, val := wordVal 51, born := 3 }]
def KindsAt (w : World) (r : Nat) : Prop := w.heap[r]? = some (.map kindEntries 4)
theorem str_beq (a b : List UInt8) : (str a == str b) = decide (a = b) := by
  show (a.toArray == b.toArray) = _
  simp only [List.beq_toArray]
  by_cases h : a = b <;> simp [h]
theorem run_kind (w : World) (r : Nat) (h : KindsAt w r) (wd : List UInt8) :
    (Instr.lookup kindsType (.map (some r)) (.string (str wd)) true).run Tryz.prog w = .ok (.tuple #[if wd ∈ [wLaw, wTree, wStrip, wWound] then wordVal (wordFn wd) else .nilFunc, .bool (decide (wd ∈ [wLaw, wTree, wStrip, wWound]))]) w := by
  have hc : ∀ e, (Instr.checkKey e 10000 9 (.string (str wd))).run Tryz.prog w = .ok () w := fun e => MapKept.run_checkKey (k := .string (str wd)) Tryz.underlying9 (by simp [MapKept.IsKey]) e 9999
  have hg := MapKept.run_getObj_map (P := Tryz.prog) h
  obtain ⟨n1, n2, n3, n4, n5, n6, _⟩ := words_ne
  have b1 : (str wd == ⟨#[108, 97, 119]⟩) = decide (wd = wLaw) := str_beq wd wLaw
  have b2 : (str wd == ⟨#[116, 114, 101, 101]⟩) = decide (wd = wTree) := str_beq wd wTree
  have b3 : (str wd == ⟨#[115, 116, 114, 105, 112]⟩) = decide (wd = wStrip) := str_beq wd wStrip
  have b4 : (str wd == ⟨#[119, 111, 117, 110, 100]⟩) = decide (wd = wWound) := str_beq wd wWound
  have key : ∀ o : Option (Nat × Value), Instr.findNow .string (.string (str wd)) kindEntries.toList 0 = some o →
      (Instr.lookup kindsType (.map (some r)) (.string (str wd)) true).run Tryz.prog w = .ok (.tuple #[match o with | some (_, v) => v | none => .nilFunc, .bool o.isSome]) w := fun o ho => by
    cases o with
    | none => simp [Instr.lookup, run_underlying kinds_map, hg, hc, MapKept.run_findKey Tryz.underlying9 ho, Result.andThen]
    | some x => simp [Instr.lookup, run_underlying kinds_map, hg, hc, MapKept.run_findKey Tryz.underlying9 ho, Result.andThen]
  by_cases h1 : wd = wLaw
  · have e1 : (str wd == ⟨#[108, 97, 119]⟩) = true := by rw [b1]; simp [h1]
    rw [key (some (0, wordVal 48)) (by simp [kindEntries, Instr.findNow, Instr.sameNow, e1])]
    simp [h1, wordFn]
  by_cases h2 : wd = wTree
  · have e1 : (str wd == ⟨#[108, 97, 119]⟩) = false := by rw [b1]; simp [h1]
    have e2 : (str wd == ⟨#[116, 114, 101, 101]⟩) = true := by rw [b2]; simp [h2]
    rw [key (some (1, wordVal 49)) (by simp [kindEntries, Instr.findNow, Instr.sameNow, e1, e2])]
    simp [h2, wordFn, Ne.symm n1]
  by_cases h3 : wd = wStrip
  · have e1 : (str wd == ⟨#[108, 97, 119]⟩) = false := by rw [b1]; simp [h1]
    have e2 : (str wd == ⟨#[116, 114, 101, 101]⟩) = false := by rw [b2]; simp [h2]
    have e3 : (str wd == ⟨#[115, 116, 114, 105, 112]⟩) = true := by rw [b3]; simp [h3]
    rw [key (some (2, wordVal 50)) (by simp [kindEntries, Instr.findNow, Instr.sameNow, e1, e2, e3])]
    simp [h3, wordFn, Ne.symm n2, Ne.symm n4]
  by_cases h4 : wd = wWound
  · have e1 : (str wd == ⟨#[108, 97, 119]⟩) = false := by rw [b1]; simp [h1]
    have e2 : (str wd == ⟨#[116, 114, 101, 101]⟩) = false := by rw [b2]; simp [h2]
    have e3 : (str wd == ⟨#[115, 116, 114, 105, 112]⟩) = false := by rw [b3]; simp [h3]
    have e4 : (str wd == ⟨#[119, 111, 117, 110, 100]⟩) = true := by rw [b4]; simp [h4]
    rw [key (some (3, wordVal 51)) (by simp [kindEntries, Instr.findNow, Instr.sameNow, e1, e2, e3, e4])]
    simp [h4, wordFn, Ne.symm n3, Ne.symm n5, Ne.symm n6]
  have e1 : (str wd == ⟨#[108, 97, 119]⟩) = false := by rw [b1]; simp [h1]
  have e2 : (str wd == ⟨#[116, 114, 101, 101]⟩) = false := by rw [b2]; simp [h2]
  have e3 : (str wd == ⟨#[115, 116, 114, 105, 112]⟩) = false := by rw [b3]; simp [h3]
  have e4 : (str wd == ⟨#[119, 111, 117, 110, 100]⟩) = false := by rw [b4]; simp [h4]
  rw [key none (by simp [kindEntries, Instr.findNow, Instr.sameNow, e1, e2, e3, e4])]
  simp [h1, h2, h3, h4]
theorem below_put (w : World) (r : Nat) (o : Obj) : Below r w (w.putObj r o) := ⟨rfl, rfl, rfl, by simp [World.putObj], fun k hk => World.putObj_heap_other (by omega)⟩
/-- The map is made. -/
theorem kinds_made (v : World) : ∃ V1 V2 V3 V4 : World, (Instr.mapUpdate kindsType (.map (some v.heap.size)) (.string ⟨#[108, 97, 119]⟩) (.func (.func 48) #[] #[])).run Tryz.prog (v.alloc (.map #[] 0)) = .ok () V1 ∧ (Instr.mapUpdate kindsType (.map (some v.heap.size)) (.string ⟨#[116, 114, 101, 101]⟩) (.func (.func 49) #[] #[])).run Tryz.prog V1 = .ok () V2 ∧ (Instr.mapUpdate kindsType (.map (some v.heap.size)) (.string ⟨#[115, 116, 114, 105, 112]⟩) (.func (.func 50) #[] #[])).run Tryz.prog V2 = .ok () V3 ∧ (Instr.mapUpdate kindsType (.map (some v.heap.size)) (.string ⟨#[119, 111, 117, 110, 100]⟩) (.func (.func 51) #[] #[])).run Tryz.prog V3 = .ok () V4 ∧ KindsAt V4 v.heap.size ∧ Below v.heap.size v V4 ∧ V4.heap.size = v.heap.size + 1 := by
  have k0 : (v.alloc (.map #[] 0)).heap[v.heap.size]? = some (.map #[] 0) := World.alloc_heap_new v _
  have l0 : v.heap.size < (v.alloc (.map #[] 0)).heap.size := by rw [World.size_alloc]; omega
  have b0 : Below v.heap.size v (v.alloc (.map #[] 0)) := (Below.refl _ v).alloc (Nat.le_refl _) _
  have h1 : (Instr.mapUpdate kindsType (.map (some v.heap.size)) (.string ⟨#[108, 97, 119]⟩) (.func (.func 48) #[] #[])).run Tryz.prog (v.alloc (.map #[] 0)) = .ok () ((v.alloc (.map #[] 0)).putObj v.heap.size (.map #[{ key := .string ⟨#[108, 97, 119]⟩, val := .func (.func 48) #[] #[], born := 0 }] 1)) := run_insert_new (v.alloc (.map #[] 0)) v.heap.size 0 #[] ⟨#[108, 97, 119]⟩ (.func (.func 48) #[] #[]) k0 rfl
  have k1 := World.putObj_heap_same (w := (v.alloc (.map #[] 0))) (o := (.map #[{ key := .string ⟨#[108, 97, 119]⟩, val := .func (.func 48) #[] #[], born := 0 }] 1)) l0
  have b1 := b0.trans (below_put (v.alloc (.map #[] 0)) v.heap.size (.map #[{ key := .string ⟨#[108, 97, 119]⟩, val := .func (.func 48) #[] #[], born := 0 }] 1))
  have z1 : ((v.alloc (.map #[] 0)).putObj v.heap.size (.map #[{ key := .string ⟨#[108, 97, 119]⟩, val := .func (.func 48) #[] #[], born := 0 }] 1)).heap.size = (v.alloc (.map #[] 0)).heap.size := by simp [World.putObj]
  generalize (v.alloc (.map #[] 0)).putObj v.heap.size (.map #[{ key := .string ⟨#[108, 97, 119]⟩, val := .func (.func 48) #[] #[], born := 0 }] 1) = V1 at h1 k1 b1 z1
  have l1 : v.heap.size < V1.heap.size := by rw [z1]; exact l0
  have h2 : (Instr.mapUpdate kindsType (.map (some v.heap.size)) (.string ⟨#[116, 114, 101, 101]⟩) (.func (.func 49) #[] #[])).run Tryz.prog V1 = .ok () (V1.putObj v.heap.size (.map #[{ key := .string ⟨#[108, 97, 119]⟩, val := .func (.func 48) #[] #[], born := 0 }, { key := .string ⟨#[116, 114, 101, 101]⟩, val := .func (.func 49) #[] #[], born := 1 }] 2)) := run_insert_new V1 v.heap.size 1 #[{ key := .string ⟨#[108, 97, 119]⟩, val := .func (.func 48) #[] #[], born := 0 }] ⟨#[116, 114, 101, 101]⟩ (.func (.func 49) #[] #[]) k1 rfl
  have k2 := World.putObj_heap_same (w := V1) (o := (.map #[{ key := .string ⟨#[108, 97, 119]⟩, val := .func (.func 48) #[] #[], born := 0 }, { key := .string ⟨#[116, 114, 101, 101]⟩, val := .func (.func 49) #[] #[], born := 1 }] 2)) l1
  have b2 := b1.trans (below_put V1 v.heap.size (.map #[{ key := .string ⟨#[108, 97, 119]⟩, val := .func (.func 48) #[] #[], born := 0 }, { key := .string ⟨#[116, 114, 101, 101]⟩, val := .func (.func 49) #[] #[], born := 1 }] 2))
  have z2 : (V1.putObj v.heap.size (.map #[{ key := .string ⟨#[108, 97, 119]⟩, val := .func (.func 48) #[] #[], born := 0 }, { key := .string ⟨#[116, 114, 101, 101]⟩, val := .func (.func 49) #[] #[], born := 1 }] 2)).heap.size = V1.heap.size := by simp [World.putObj]
  generalize V1.putObj v.heap.size (.map #[{ key := .string ⟨#[108, 97, 119]⟩, val := .func (.func 48) #[] #[], born := 0 }, { key := .string ⟨#[116, 114, 101, 101]⟩, val := .func (.func 49) #[] #[], born := 1 }] 2) = V2 at h2 k2 b2 z2
  have l2 : v.heap.size < V2.heap.size := by rw [z2]; exact l1
  have h3 : (Instr.mapUpdate kindsType (.map (some v.heap.size)) (.string ⟨#[115, 116, 114, 105, 112]⟩) (.func (.func 50) #[] #[])).run Tryz.prog V2 = .ok () (V2.putObj v.heap.size (.map #[{ key := .string ⟨#[108, 97, 119]⟩, val := .func (.func 48) #[] #[], born := 0 }, { key := .string ⟨#[116, 114, 101, 101]⟩, val := .func (.func 49) #[] #[], born := 1 }, { key := .string ⟨#[115, 116, 114, 105, 112]⟩, val := .func (.func 50) #[] #[], born := 2 }] 3)) := run_insert_new V2 v.heap.size 2 #[{ key := .string ⟨#[108, 97, 119]⟩, val := .func (.func 48) #[] #[], born := 0 }, { key := .string ⟨#[116, 114, 101, 101]⟩, val := .func (.func 49) #[] #[], born := 1 }] ⟨#[115, 116, 114, 105, 112]⟩ (.func (.func 50) #[] #[]) k2 rfl
  have k3 := World.putObj_heap_same (w := V2) (o := (.map #[{ key := .string ⟨#[108, 97, 119]⟩, val := .func (.func 48) #[] #[], born := 0 }, { key := .string ⟨#[116, 114, 101, 101]⟩, val := .func (.func 49) #[] #[], born := 1 }, { key := .string ⟨#[115, 116, 114, 105, 112]⟩, val := .func (.func 50) #[] #[], born := 2 }] 3)) l2
  have b3 := b2.trans (below_put V2 v.heap.size (.map #[{ key := .string ⟨#[108, 97, 119]⟩, val := .func (.func 48) #[] #[], born := 0 }, { key := .string ⟨#[116, 114, 101, 101]⟩, val := .func (.func 49) #[] #[], born := 1 }, { key := .string ⟨#[115, 116, 114, 105, 112]⟩, val := .func (.func 50) #[] #[], born := 2 }] 3))
  have z3 : (V2.putObj v.heap.size (.map #[{ key := .string ⟨#[108, 97, 119]⟩, val := .func (.func 48) #[] #[], born := 0 }, { key := .string ⟨#[116, 114, 101, 101]⟩, val := .func (.func 49) #[] #[], born := 1 }, { key := .string ⟨#[115, 116, 114, 105, 112]⟩, val := .func (.func 50) #[] #[], born := 2 }] 3)).heap.size = V2.heap.size := by simp [World.putObj]
  generalize V2.putObj v.heap.size (.map #[{ key := .string ⟨#[108, 97, 119]⟩, val := .func (.func 48) #[] #[], born := 0 }, { key := .string ⟨#[116, 114, 101, 101]⟩, val := .func (.func 49) #[] #[], born := 1 }, { key := .string ⟨#[115, 116, 114, 105, 112]⟩, val := .func (.func 50) #[] #[], born := 2 }] 3) = V3 at h3 k3 b3 z3
  have l3 : v.heap.size < V3.heap.size := by rw [z3]; exact l2
  have h4 : (Instr.mapUpdate kindsType (.map (some v.heap.size)) (.string ⟨#[119, 111, 117, 110, 100]⟩) (.func (.func 51) #[] #[])).run Tryz.prog V3 = .ok () (V3.putObj v.heap.size (.map #[{ key := .string ⟨#[108, 97, 119]⟩, val := .func (.func 48) #[] #[], born := 0 }, { key := .string ⟨#[116, 114, 101, 101]⟩, val := .func (.func 49) #[] #[], born := 1 }, { key := .string ⟨#[115, 116, 114, 105, 112]⟩, val := .func (.func 50) #[] #[], born := 2 }, { key := .string ⟨#[119, 111, 117, 110, 100]⟩, val := .func (.func 51) #[] #[], born := 3 }] 4)) := run_insert_new V3 v.heap.size 3 #[{ key := .string ⟨#[108, 97, 119]⟩, val := .func (.func 48) #[] #[], born := 0 }, { key := .string ⟨#[116, 114, 101, 101]⟩, val := .func (.func 49) #[] #[], born := 1 }, { key := .string ⟨#[115, 116, 114, 105, 112]⟩, val := .func (.func 50) #[] #[], born := 2 }] ⟨#[119, 111, 117, 110, 100]⟩ (.func (.func 51) #[] #[]) k3 rfl
  have k4 := World.putObj_heap_same (w := V3) (o := (.map #[{ key := .string ⟨#[108, 97, 119]⟩, val := .func (.func 48) #[] #[], born := 0 }, { key := .string ⟨#[116, 114, 101, 101]⟩, val := .func (.func 49) #[] #[], born := 1 }, { key := .string ⟨#[115, 116, 114, 105, 112]⟩, val := .func (.func 50) #[] #[], born := 2 }, { key := .string ⟨#[119, 111, 117, 110, 100]⟩, val := .func (.func 51) #[] #[], born := 3 }] 4)) l3
  have b4 := b3.trans (below_put V3 v.heap.size (.map #[{ key := .string ⟨#[108, 97, 119]⟩, val := .func (.func 48) #[] #[], born := 0 }, { key := .string ⟨#[116, 114, 101, 101]⟩, val := .func (.func 49) #[] #[], born := 1 }, { key := .string ⟨#[115, 116, 114, 105, 112]⟩, val := .func (.func 50) #[] #[], born := 2 }, { key := .string ⟨#[119, 111, 117, 110, 100]⟩, val := .func (.func 51) #[] #[], born := 3 }] 4))
  have z4 : (V3.putObj v.heap.size (.map #[{ key := .string ⟨#[108, 97, 119]⟩, val := .func (.func 48) #[] #[], born := 0 }, { key := .string ⟨#[116, 114, 101, 101]⟩, val := .func (.func 49) #[] #[], born := 1 }, { key := .string ⟨#[115, 116, 114, 105, 112]⟩, val := .func (.func 50) #[] #[], born := 2 }, { key := .string ⟨#[119, 111, 117, 110, 100]⟩, val := .func (.func 51) #[] #[], born := 3 }] 4)).heap.size = V3.heap.size := by simp [World.putObj]
  generalize V3.putObj v.heap.size (.map #[{ key := .string ⟨#[108, 97, 119]⟩, val := .func (.func 48) #[] #[], born := 0 }, { key := .string ⟨#[116, 114, 101, 101]⟩, val := .func (.func 49) #[] #[], born := 1 }, { key := .string ⟨#[115, 116, 114, 105, 112]⟩, val := .func (.func 50) #[] #[], born := 2 }, { key := .string ⟨#[119, 111, 117, 110, 100]⟩, val := .func (.func 51) #[] #[], born := 3 }] 4) = V4 at h4 k4 b4 z4
  have l4 : v.heap.size < V4.heap.size := by rw [z4]; exact l3
  exact ⟨V1, V2, V3, V4, h1, h2, h3, h4, k4, b4, by rw [z4, z3, z2, z1, World.size_alloc]⟩
end Go.Proofs.YtnoofdjlocadbaaGreatDoor
namespace Go.Proofs.YtnoofdjlocadbaaGreatDoor
open Go Go.RowKit

theorem wide_fn (f : FuncId) : Fence.wide.fn f = True := eq_true trivial

set_option maxRecDepth 100000 in
set_option maxHeartbeats 1000000 in
theorem catch_line_in (m : Nat) (p : Addr) (x : Int) (n : Int) (older : List PanicEntry) (w : World) (hc : w.cell? p = some (.int .i64 x)) (hz : w.frozen? p = false) :
    CallsDIn Fence.wide m Tryz.prog 47 #[.pointer (some p)] (.panicking ({ v := .iface 98 (.int .i64 n), recovered := false } :: older)) w fun e u' w' =>
      e = .returned (.tuple #[]) ∧ u' = .panicking ({ v := .iface 98 (.int .i64 n), recovered := true } :: older) ∧ w' = w.setCell p (.int .i64 n) := by
  refine callsDIn_of_wpSIn Tryz.func47 rfl trivial fun c₀ cs hu => ?_
  simp only [Tryz.ntmps47, List.size_toArray, List.length_cons, List.length_nil, Nat.reduceAdd, Nat.reduceSub, Array.replicate_succ, Array.replicate_zero, List.push_toArray, List.append_toArray, List.nil_append, List.cons_append]
  apply wpSIn_seq
  apply wpSIn_region
  simp [wide_fn, wpOpsSIn, go_sem, recoverD, hu, assert_line, Exit.thenS]
  apply wpSIn_seq
  apply wpSIn_region
  simp [wide_fn, wpOpsSIn, go_sem, Exit.thenS]
  refine wpSIn_cond (t := true) (by simp [Act.eval]) ?_
  simp only [if_true]
  apply wpSIn_region
  simp [wide_fn, wpOpsSIn, go_sem, hc, hz, bodyPostS, results, Tryz.results47]

set_option maxRecDepth 100000 in
set_option maxHeartbeats 1000000 in
theorem catch_idle_in (m : Nat) (p : Addr) (w : World) :
    CallsDIn Fence.wide m Tryz.prog 47 #[.pointer (some p)] .returning w fun e u' w' => e = .returned (.tuple #[]) ∧ u' = .returning ∧ w' = w := by
  refine callsDIn_of_wpSIn Tryz.func47 rfl trivial fun c₀ cs hu => ?_
  simp only [Tryz.ntmps47, List.size_toArray, List.length_cons, List.length_nil, Nat.reduceAdd, Nat.reduceSub, Array.replicate_succ, Array.replicate_zero, List.push_toArray, List.append_toArray, List.nil_append, List.cons_append]
  apply wpSIn_seq
  apply wpSIn_region
  simp [wide_fn, wpOpsSIn, go_sem, recoverD, hu, assert_none, Exit.thenS]
  apply wpSIn_seq
  apply wpSIn_region
  simp [wide_fn, wpOpsSIn, go_sem, Exit.thenS]
  refine wpSIn_cond (t := false) (by simp [Act.eval]) ?_
  simp only [Bool.false_eq_true, if_false]
  refine wpSIn_of_wpIn rfl (wpIn_skip ?_)
  cases c₀
  simp_all [bodyPostS, results, Tryz.results47]
end Go.Proofs.YtnoofdjlocadbaaGreatDoor
namespace Go.Proofs.YtnoofdjlocadbaaGreatDoor
open Go Go.RowKit Go.Lib Go.Deep

attribute [local go_sem] Oper.semAt_some

theorem reading_start (w : World) : Reading w (w.alloc (.cells #[.int .i64 0, .int .i64 0, .int .i64 0, .int .i64 0, .int .i64 0, .int .i64 0, .int .i64 0, .slice none 0 0, .int .i64 0, .string ⟨#[]⟩] 105)) w.heap.size PS.zero.law (.slice none 0 0) [] 0 [] := by
  have hb : Below w.heap.size w (w.alloc (.cells #[.int .i64 0, .int .i64 0, .int .i64 0, .int .i64 0, .int .i64 0, .int .i64 0, .int .i64 0, .slice none 0 0, .int .i64 0, .string ⟨#[]⟩] 105)) := (Below.refl _ w).alloc (Nat.le_refl _) _
  refine ⟨hb, fun r hr => ?_, ?_⟩
  · simp only [List.flatMap_nil, List.mem_cons, List.not_mem_nil, or_false] at hr
    rcases hr with rfl | rfl
    · exact row_one (cs := [.int .i64 0, .int .i64 0, .int .i64 0, .int .i64 0, .int .i64 0, .int .i64 0, .int .i64 0, .slice none 0 0, .int .i64 0, .string ⟨#[]⟩]) (Bkt.new w _ _) (Nat.le_refl _) rfl
    · exact World.ownsRow_nil _ _ _ _
  · simp only [List.flatMap_nil]
    exact List.pairwise_cons.2 ⟨fun a ha g hg hg2 => (by rw [List.mem_singleton.1 ha] at hg2; cases hg2), List.pairwise_singleton _ _⟩
theorem prog_inv : ∀ (L : List (List UInt8)) (s s' : PS), s.Inv → progFrom s L = some s' → s'.Inv
  | [], s, s', hi, h => by cases h; exact hi
  | l :: L, s, s', hi, h => by
    simp only [progFrom] at h
    cases hs : progStep s (fieldsL l) with
    | none => rw [hs] at h; cases h
    | some s1 => rw [hs, Option.bind_some] at h; exact prog_inv L s1 s' ((step_tree hi _).2 _ hs) h
theorem prog_inv0 {L : List (List UInt8)} {s : PS} (h : progFrom PS.zero L = some s) : s = PS.zero ∨ s.Inv := by
  cases L with
  | nil => cases h; exact .inl rfl
  | cons l L =>
    simp only [progFrom] at h
    cases hs : progStep PS.zero (fieldsL l) with
    | none => rw [hs] at h; cases h
    | some s1 => rw [hs, Option.bind_some] at h; exact .inr (prog_inv L s1 s ((step_law _).2 _ hs) h)
theorem prog_trees {L : List (List UInt8)} {last : List UInt8} {law : Law} {ts : List Tree} (h : progFrom PS.zero L = some ⟨last, law, ts.map Tree.plain⟩) : last ∈ [wTree, wStrip, wWound] → ts ≠ [] := by
  intro hm e
  subst e
  obtain ⟨n1, n2, n3, n4, n5, n6, n7, n8, n9, n10⟩ := words_ne
  rcases prog_inv0 h with h1 | ⟨h1, _⟩ | ⟨_, ts', t, h2, _⟩ | ⟨_, ts', t, h2, _⟩
  · injection h1 with h1 _ _
    rw [h1] at hm
    simp [Ne.symm n8, Ne.symm n9, Ne.symm n10] at hm
  · simp only at h1
    rw [h1] at hm
    simp [n1, n2, n3] at hm
  · simp at h2
  · simp at h2
theorem cut_each (c : UInt8) : ∀ (l : List UInt8), ∀ f ∈ cutAll c l, f.length ≤ l.length
  | [], f, hf => by simp [cutAll] at hf; subst hf; exact Nat.le_refl _
  | b :: r, f, hf => by
    unfold cutAll at hf
    split at hf
    · rcases List.mem_cons.1 hf with rfl | hf
      · exact Nat.zero_le _
      · exact Nat.le_succ_of_le (cut_each c r f hf)
    · split at hf
      · rename_i q qs hq
        rcases List.mem_cons.1 hf with rfl | hf
        · exact Nat.succ_le_succ (cut_each c r q (by rw [hq]; simp))
        · exact Nat.le_succ_of_le (cut_each c r f (by rw [hq]; simp [hf]))
      · rw [List.mem_singleton.1 hf]; simp
theorem rows_held {base : Nat} {W : World} {tv : Value} {ts : List Tree} (h : ∀ r ∈ treesOf tv ts :: ts.flatMap Tree.mrows, W.ownsRow base r.e r.k r.v r.n r.xs) (hl : ts.length ≤ 140737488355328) (hs : ∀ t ∈ ts, t.strips.length ≤ 140737488355328 ∧ t.wounds.length ≤ 140737488355328 ∧ t.code.size ≤ 9223372036854775807) : TreesHeld W.heap.size W tv ts := by
  have key : ∀ {α : Type} [Inhabited α] {enc : α → List Value} {k : Nat} {e : TypeId} {v : Value} {xs : List α} (hk : ∀ a, (enc a).length = k) (ho : W.ownsRow base e k v xs.length (flat enc xs)) (h47 : xs.length ≤ 140737488355328), Held W.heap.size W k enc v xs := by
    intro α _ enc k e v xs hk ho h47
    by_cases hne : v = .slice none 0 0
    · rcases ho.2 with ⟨_, h0⟩ | ⟨g, cap, cur, h1, _⟩
      · rw [hne]
        exact .inl ⟨⟨none, 0, rfl⟩, List.length_eq_zero_iff.1 h0⟩
      · rw [hne] at h1; cases h1
    · obtain ⟨_, _, _, _, _, _, hh, _⟩ := owned_held hk ho rfl h47 hne
      exact hh
  refine ⟨key tree_eleven (h (treesOf tv ts) (by simp)) hl, fun t ht => ⟨key strip_two (h (stripsOf t.sv t.strips) ?_) (hs t ht).1, key int_one (h (woundsOf t.wv t.wounds) ?_) (hs t ht).2.1, (hs t ht).2.2⟩⟩
  · simp only [List.mem_cons, List.mem_flatMap]; exact .inr ⟨t, ht, by simp [Tree.mrows]⟩
  · simp only [List.mem_cons, List.mem_flatMap]; exact .inr ⟨t, ht, by simp [Tree.mrows]⟩
/-- The trees lie in memory of the call's own, and so stay as they are, whatever is stored below it. -/
def OwnTrees (base : Nat) (W : World) (tv : Value) (ts : List Tree) : Prop := ∀ W' : World, W.heap.size ≤ W'.heap.size → (∀ g, base ≤ g → g < W.heap.size → W'.heap[g]? = W.heap[g]?) → TreesHeld W'.heap.size W' tv ts
theorem forest_size : (Tryz.prog.info? 27).map (·.size) = some 8 := by kernel_rfl
theorem inv_closure (q : Option Addr) (w : World) : (invoke (.fn (.func 47) #[.pointer q]) #[]).run Tryz.prog w = .ok (.enter 47 #[.pointer q]) w := by
  simp [invoke, go_sem]
theorem forest_results (gf : Nat) (tmps : Array Value) (n : Int) (cs : Array Value) (w : World) (h2 : tmps.getD 2 undef = .pointer (some ⟨gf, 0, none⟩)) (h3 : tmps.getD 3 undef = .pointer (some ⟨gf + 1, 0, none⟩)) (hg : Bkt w gf 27 cs) (hs : cs.size = 8) (hn : w.cell? ⟨gf + 1, 0, none⟩ = some (.int .i64 n)) :
    (results Tryz.f25 tmps).run Tryz.prog w = .ok (.tuple #[.agg cs, .int .i64 n]) w := by
  have hr := run_loadVar_row (P := Tryz.prog) w gf 27 27 cs (0, 0) _ hg Tryz.underlying27 rfl (by rw [hs]; exact forest_size)
  have h2' : tmps[2]?.getD undef = .pointer (some ⟨gf, 0, none⟩) := by simpa using h2
  have h3' : tmps[3]?.getD undef = .pointer (some ⟨gf + 1, 0, none⟩) := by simpa using h3
  have hr3 : (loadVar 3 ⟨gf + 1, 0, none⟩).run Tryz.prog w = .ok (.int .i64 n) w := by simp [go_sem, hn]
  simp [results, Tryz.results25, h2', h3', asAddr, hr, hr3, Result.andThen]
theorem calm_keeps (B : Nat) {W W' : World} (h : Calm W W') : KeepsFrom B W W' := ⟨h.1, fun k o _ hk ho => h.2 k o hk (fun ⟨_, _, _, e, _⟩ => by subst e; cases ho)⟩
theorem prog_other (s : PS) (r : List (List UInt8)) {wd : List UInt8} (h : wd ∉ [wLaw, wTree, wStrip, wWound]) : progStep s (wd :: r) = none := by
  simp only [List.mem_cons, List.not_mem_nil, or_false, not_or] at h
  unfold progStep
  dsimp only
  rw [if_neg h.1, if_neg h.2.1, if_neg h.2.2.1, if_neg h.2.2.2]
theorem lines_each (t line : List UInt8) (h : line ∈ linesL t) : line.length ≤ t.length := by
  unfold linesL at h
  split at h
  · exact cut_each 10 t line (List.dropLast_subset _ h)
  · exact cut_each 10 t line h
/-- What leaves a block by its end, or by a panic. -/
def endOr (Q : Exit → Act → World → Prop) : Exit → Act → World → Prop
  | .normal, a, w => Q .normal a w
  | .panic ch, a, w => Q (.panic ch) a w
  | _, _, _ => False
theorem wpFor_block {F : Fence} {n : Nat} {P : Program} {f : FuncId} {id : Nat} {c : Code} {Q : Exit → Act → World → Prop} {a : Act} {w : World} (hF : F.fn f) (h : wpFor F n P f c (endOr Q) a w) : wpFor F n P f (Code.block id c) Q a w := by
  intro b k cs hro hb hr
  have hFb : F.fn b.fn := hb ▸ hF
  have h0 : (lone (b.atR a (.code (.block id c) :: k)) cs w).fenced P F := fenced_calm hFb hr rfl
  obtain ⟨e, a₁, w₁, hq, harr⟩ := h b (.inBlock id :: k) cs hro hb hr
  cases e with
  | normal => exact ⟨.normal, a₁, w₁, hq, .head h0 stepR_block (StepsIn.trans harr (.one (fenced_calm hFb hr rfl) stepR_inBlock))⟩
  | panic ch => exact ⟨_, a₁, w₁, hq, .of_steps (.one h0 stepR_block) harr⟩
  | exit id' => exact hq.elim
  | goto l => exact hq.elim
  | ret => exact hq.elim
  | outgrown => exact hq.elim
/-- What readForest leaves. -/
def ForestRead (t : List UInt8) (w : World) (e : Ending) (w' : World) : Prop :=
  Below w.heap.size w w' ∧ ((∃ law tv ts last, progFrom PS.zero (linesL t) = some ⟨last, law, ts.map Tree.plain⟩ ∧ OwnTrees w.heap.size w' tv ts ∧ e = .returned (.tuple #[.agg (law.cells ++ [tv]).toArray, .int .i64 0])) ∨
    (∃ k s l, (linesL t)[k]? = some l ∧ progFrom PS.zero ((linesL t).take k) = some s ∧ progStep s (fieldsL l) = none ∧ e = .returned (.tuple #[.agg #[.int .i64 0, .int .i64 0, .int .i64 0, .int .i64 0, .int .i64 0, .int .i64 0, .int .i64 0, .slice none 0 0], .int .i64 ((k : Int) + 1)])))

set_option maxRecDepth 100000 in
set_option maxHeartbeats 4000000 in
theorem readForest_calls (t : List UInt8) (ht : t.length < 1000000) (w : World) (hL : Libs w) :
    Calls Tryz.prog 25 #[.string (str t)] w (ForestRead t w) := by
  refine (callsIn_wide (n := 5)).1 (callsIn_of_for Tryz.func25 rfl trivial ?_ rfl)
  simp only [Tryz.ntmps25, List.size_toArray, List.length_cons, List.length_nil, Nat.reduceAdd, Nat.reduceSub, Array.replicate_succ, Array.replicate_zero, List.push_toArray, List.append_toArray, List.nil_append, List.cons_append]
  have hmf : ∀ (fn : Fn) (first cap : Array Value) (w : World), (Instr.makeFunc fn first cap).run Tryz.prog w = .ok (.func fn first cap) w := fun _ _ _ _ => rfl
  have hmm := @run_makeMap Tryz.prog
  refine wpFor_seq trivial (wpFor_of trivial ?_)
  gi_wp2
  have HB2 := Lib.hid (((Below.refl w.heap.size w).alloc (Nat.le_refl _) (.cells #[.int .i64 0, .int .i64 0, .int .i64 0, .int .i64 0, .int .i64 0, .int .i64 0, .int .i64 0, .slice none 0 0] 27)).alloc (by rw [World.size_alloc]; omega) (.cells #[.int .i64 0] 3))
  have HGF := Lib.hid ((Bkt.new w 27 #[.int .i64 0, .int .i64 0, .int .i64 0, .int .i64 0, .int .i64 0, .int .i64 0, .int .i64 0, .slice none 0 0]).alloc (.cells #[.int .i64 0] 3))
  have HGW := Lib.hid (Bkt.new' (w := w.alloc (.cells #[.int .i64 0, .int .i64 0, .int .i64 0, .int .i64 0, .int .i64 0, .int .i64 0, .int .i64 0, .slice none 0 0] 27)) (World.size_alloc _ _) 3 #[.int .i64 0])
  generalize (w.alloc (.cells #[.int .i64 0, .int .i64 0, .int .i64 0, .int .i64 0, .int .i64 0, .int .i64 0, .int .i64 0, .slice none 0 0] 27)).alloc (.cells #[.int .i64 0] 3) = v2 at HB2 HGF HGW ⊢
  refine wpFor_seq trivial (wpFor_of trivial ?_)
  gi_wp2
  obtain ⟨V1, V2, V3, V4, r1, r2, r3, r4, hkinds, hbk, hsk⟩ := kinds_made v2
  have HKA := Lib.hid hkinds; have HBK := Lib.hid hbk; have HSK := Lib.hid hsk
  clear hkinds hbk hsk
  refine wpFor_seq trivial (wpFor_of trivial ?_)
  gi_wp2
  have HB5 := Lib.hid ((HB2.out.trans (HBK.out.mono HB2.out.size)).alloc (by rw [HSK.out]; have := HB2.out.size; omega) (.cells #[.map (some v2.heap.size)] kindsType))
  have HG5 := Lib.hid ((HGF.out.below HBK.out).alloc (.cells #[.map (some v2.heap.size)] kindsType))
  have HW5 := Lib.hid ((HGW.out.below HBK.out).alloc (.cells #[.map (some v2.heap.size)] kindsType))
  have HK5 := Lib.hid (show KindsAt (V4.alloc (.cells #[.map (some v2.heap.size)] kindsType)) v2.heap.size from (Below.heap_alloc V4 _ _ (by rw [HSK.out]; omega)).trans HKA.out)
  have HX5 := Lib.hid (Bkt.new V4 kindsType #[.map (some v2.heap.size)])
  have HS5 := Lib.hid (show v2.heap.size < (V4.alloc (.cells #[.map (some v2.heap.size)] kindsType)).heap.size from by rw [World.size_alloc, HSK.out]; omega)
  generalize V4.alloc (.cells #[.map (some v2.heap.size)] kindsType) = v5 at HB5 HG5 HW5 HK5 HX5 HS5 ⊢
  clear r1 r2 r3 r4 HKA HBK HSK HB2 HGF HGW
  generalize v2.heap.size = gm at HK5 HX5 HS5 ⊢
  generalize V4.heap.size = gk at HX5 ⊢
  generalize hgf : w.heap.size = gf at HG5 HW5 ⊢
  have HGE := Lib.hid hgf
  clear hgf
  refine wpFor_seq trivial (wpFor_of trivial ?_)
  gi_wp2
  have HR6 := Lib.hid (reading_start v5)
  generalize v5.alloc (.cells #[.int .i64 0, .int .i64 0, .int .i64 0, .int .i64 0, .int .i64 0, .int .i64 0, .int .i64 0, .slice none 0 0, .int .i64 0, .string ⟨#[]⟩] 105) = v6 at HR6 ⊢
  generalize hB : v5.heap.size = B at HR6 ⊢
  have HBE := Lib.hid hB
  clear hB
  refine wpFor_seq trivial ?_
  have f1 : Fence.wide.fn 52 := trivial
  refine wpFor_seq trivial (wpFor_of trivial ?_)
  gi_wp2_with (gi_at_call 52; refine (callsIn_wide.2 (lines_calls _ _)).mono ?_; rintro e w' ⟨rfl, rfl⟩)
  have HR7 := Lib.hid (HR6.out.below ((Below.refl _ v6).alloc (Nat.le_refl _) (.cells #[.string (str t)] 9)))
  have HT7 := Lib.hid (Bkt.new v6 9 #[.string (str t)])
  have HS7 := Lib.hid (show v6.heap.size < (v6.alloc (.cells #[.string (str t)] 9)).heap.size from by rw [World.size_alloc]; omega)
  generalize v6.alloc (.cells #[.string (str t)] 9) = v7 at HR7 HT7 HS7 ⊢
  clear HR6
  generalize v6.heap.size = g at HT7 HS7 ⊢
  refine wpFor_block trivial ?_
  have HL7 := Lib.hid (hL.below (HB5.out.trans (HR7.out.low.mono HB5.out.size)))
  obtain ⟨ml, hml⟩ := HL7.out.maxLen
  have hen := enters_of Tryz.func87 (by kernel_rfl) rfl
  have H15 := Lib.hid (show 1 < v5.heap.size from Nat.lt_of_lt_of_le (by obtain ⟨m1, hm1⟩ := hL.maxLen; exact block_lt_of_cell hm1) HB5.out.size)
  clear hmf hmm f1
  refine wpFor_rangeFunc_may (n := 5) trivial ⟨_, Tryz.func25⟩ rfl (by decide) (gf := 87) (lb := #[.pointer (some ⟨g, 0, none⟩)]) rfl trivial hen
    (lines_may 4 (by decide) g t (by omega) ml v7 (HT7.out.at 0 _ rfl) hml) kept_trans (fun W l o hl => kept_put W l o (by have := HS7.out; omega) (by have := block_lt_of_cell hml; simp only at this; omega)) (Below.refl _ _) (fun k args W h => has_args h) (fun k args => has_own _ _ _ k args)
    (fun k W => ∃ law tv ts last, progFrom PS.zero ((linesL t).take k) = some ⟨last, law, ts.map Tree.plain⟩ ∧ Few k ts ∧ Reading v5 W B law tv ts k last ∧ Bkt W g 9 #[.string (str t)])
    (fun ch W => ∃ k s l, (linesL t)[k]? = some l ∧ progFrom PS.zero ((linesL t).take k) = some s ∧ progStep s (fieldsL l) = none ∧ ch = lineChain ((k : Int) + 1) ∧ Below v5.heap.size v5 W) ?own ?zero (fun k args => { tmps := #[.string (str t), undef, .pointer (some ⟨gf, 0, none⟩), .pointer (some ⟨gf + 1, 0, none⟩), .pointer (some ⟨gk, 0, none⟩), .pointer (some ⟨B, 0, none⟩), args.getD 0 undef, args.getD 1 undef, undef, undef, .func (.func 47) #[] #[.pointer (some ⟨gf + 1, 0, none⟩)], .map (some gm), .map (some gm), .string (str t), .func (.func 87) #[] #[.pointer (some ⟨g, 0, none⟩)], args.getD 0 undef, args.getD 1 undef, undef, undef, undef, undef, undef, undef, undef, undef, undef, undef, undef, undef, undef, undef, undef, undef, undef, undef, undef, undef, undef, undef], defers := [] }) ?assign ?body ?done ?panic
  case own =>
    rintro k X Y row ⟨law, tv, ts, last, h1, h2, h3, h4⟩ hg hr
    have key : ∀ j t cs, Bkt X j t cs → row ≠ some j := fun j t cs hb e => by
      obtain ⟨_, o, ho, hoc⟩ := hr j e
      unfold Bkt at hb
      rw [hb] at ho
      cases ho
      cases hoc
    refine ⟨law, tv, ts, last, h1, h2, Rows.grown h3 hg (fun j e => Nat.le_trans HR7.out.low.size (hr j e).1) (fun r hr1 j hj => ?_), h4.grown hg (Ne.symm (key _ _ _ h4))⟩
    obtain ⟨cs, hb⟩ := row_type (h3.row r hr1) hj
    exact key _ _ _ hb
  case zero => exact ⟨PS.zero.law, .slice none 0 0, [], [], by rw [List.take_zero]; rfl, ⟨Nat.le_refl _, by simp⟩, HR7.out, HT7.out⟩
  case assign =>
    rintro l k args W K ⟨line, p, h1, h2, rfl, h4, h5⟩ hK
    generalize fieldsL line = fl at hK ⊢
    generalize fl.length = nf at hK ⊢
    gi_wp2
    exact hK
  case body =>
    rintro l k args W hk ⟨law, tv, ts, last, h1, h2, h3, h4⟩ ⟨line, p, hl, hp, rfl, hc, cs, hcs⟩
    have hcs : Bkt W p 9 cs := hcs
    obtain ⟨wd, r, hwr⟩ : ∃ wd r, fieldsL line = wd :: r := by
      cases hq : fieldsL line with
      | nil => exact absurd hq (cutAll_ne_nil 59 line)
      | cons wd r => exact ⟨wd, r, rfl⟩
    rw [hwr] at hc
    have HCS := Lib.hid (show ∀ j f, (wd :: r)[j]? = some f → cs[j]? = some (.string (str f)) from fun j f hj => (hcs.cell j).symm.trans (hc j f hj))
    have hsz := lines_le t
    have hfl : ∀ f ∈ wd :: r, f.length < 1000000000 := fun f hf => by
      have h5 := cut_each 59 line f (by show f ∈ fieldsL line; rw [hwr]; exact hf)
      have h6 := lines_each t line (List.mem_of_getElem? hl)
      omega
    have hnf : (wd :: r).length < 1000000000 := by
      have h5 := cutAll_le 59 line
      have h6 := lines_each t line (List.mem_of_getElem? hl)
      have h7 : (fieldsL line).length = (wd :: r).length := by rw [hwr]
      unfold fieldsL at h7
      omega
    rw [List.length_cons] at hnf
    have HFL := Lib.hid hfl
    have HPF := Lib.hid h1; have HFW := Lib.hid h2; have HR := Lib.hid h3; have HG := Lib.hid h4; have HL := Lib.hid hl; have HPB := Lib.hid hcs; have HWR := Lib.hid hwr
    have hc8 : W.cell? ⟨B, 8, none⟩ = some (.int .i64 k) := HR.out.line
    have hf8 : W.frozen? ⟨B, 8, none⟩ = false := HR.out.blk.frozen 8
    have hkk : k < 1000001 := by omega
    have HNE := Lib.hid (prog_trees HPF.out)
    simp only [hwr, List.length_cons]
    clear h1 h2 h3 h4 hl hc hcs hwr hfl hsz
    obtain ⟨nr, hnr⟩ : ∃ nr, nr = r.length := ⟨_, rfl⟩
    have HNR := Lib.hid hnr
    rw [← hnr] at hnf ⊢
    clear hnr
    gi_wp2
    clear hc8 hf8
    have HR1 := Lib.hid (HR.out.setLine ((k : Int) + 1))
    have HC1 := Lib.hid ((Calm.of_below (Below.refl W.heap.size W)).setCell HR.out.blk (by decide) 8 (.int .i64 ((k : Int) + 1)))
    generalize W.setCell ⟨B, 8, none⟩ (.int .i64 ((k : Int) + 1)) = W1 at HR1 HC1 ⊢
    have HP1 := Lib.hid (HC1.out.strings HPB.out)
    have HX1 := Lib.hid (HX5.out.below HR1.out.low)
    have HK1 := Lib.hid (show KindsAt W1 gm from (HR1.out.low.block gm HS5.out).trans HK5.out)
    have x0 : W1.drew.cell? ⟨gk, 0, none⟩ = some (.map (some gm)) := HX1.out.at 0 _ rfl
    have x1 : W1.drew.cell? ⟨p, 0, none⟩ = some (.string (str wd)) := HP1.out.at 0 _ (HCS.out 0 wd rfl)
    have hmix : Tryz.prog.follows .mixedOrders = true := by kernel_rfl
    have f2 : Fence.wide.fn 53 := trivial
    have f3 : Fence.wide.fn 48 := trivial
    have f4 : Fence.wide.fn 49 := trivial
    have f5 : Fence.wide.fn 50 := trivial
    have f6 : Fence.wide.fn 51 := trivial
    have x2 := run_kind W1.drew gm HK1.out wd
    have HL1 := Lib.hid (hL.below (HB5.out.trans (HR1.out.low.mono HB5.out.size)))
    by_cases hw : wd ∈ [wLaw, wTree, wStrip, wWound]
    · rw [if_pos hw, decide_eq_true hw] at x2
      have HW := Lib.hid hw
      have HSTEP := Lib.hid (fun (W2 : World) (hL2 : Libs W2) (hR2 : Reading v5 W2 B law tv ts ((k : Int) + 1) last) (hcc : Calm W W2) (o : Nat) (ho : r ≠ [] → o = 1) => step_calls v5 B law tv ts ((k : Int) + 1) last wd r k p o nr (fun f hf => HFL.out f (by simp [hf])) (by rw [← HNR.out]; omega) (by rw [← HNR.out]; exact Nat.le_refl _) W2 hL2 hR2 HFW.out (by omega) HNE.out
        (fun j f hj => by
          rw [ho (fun e => by rw [e] at hj; simp at hj), (hcc.strings HPB.out).cell]
          have := HCS.out (j + 1) f (by simpa using hj)
          rwa [Nat.add_comm] at this) ⟨cs, hcc.strings HPB.out⟩ HW.out)
      obtain ⟨o2, ho2, hval⟩ : ∃ o2, (r ≠ [] → o2 = 1) ∧ (if nr = 0 then some (⟨p, 0, none⟩ : Addr) else some ⟨p, 1, none⟩) = some ⟨p, o2, none⟩ := by
        by_cases h1 : nr = 0
        · exact ⟨0, fun h2 => absurd (List.length_eq_zero_iff.1 (HNR.out ▸ h1)) h2, by rw [if_pos h1]⟩
        · exact ⟨1, fun _ => rfl, by rw [if_neg h1]⟩
      have HO2 := Lib.hid ho2; have HAD := Lib.hid hval
      clear ho2 hval
      rw [← HNR.out] at HSTEP
      simp only [List.mem_cons, List.not_mem_nil, or_false] at hw
      rcases hw with rfl | rfl | rfl | rfl
      · rw [show wordVal (wordFn wLaw) = .func (.func 48) #[] #[] from rfl] at x2
        rw [show wordFn wLaw = 48 from rfl] at HSTEP
        refine region_tail_in l _ 9 hmix (by kernel_rfl) (no_defer (by rfl)) (fun ⟨_, _, h⟩ => h) ?_
        simp only [List.take_succ_cons, List.take_zero, List.drop_succ_cons, List.drop_zero]
        repeat still_step
        try refine wpStill_nil ?_
        go_wp2
        have HR2 := Lib.hid (show Reading v5 W1.drew B law tv ts ((k : Int) + 1) last from HR1.out.below ((Below.refl _ W1).drew))
        have HC2 := Lib.hid (show Calm W W1.drew from HC1.out)
        have HL2 := Lib.hid (HL1.out.below ((Below.refl W1.heap.size W1).drew))
        generalize W1.drew = W2 at HR2 HC2 HL2 x0 x1 x2 ⊢
        clear HR1 HC1 HX1 HK1 HP1 x0 x2 HL1
        gi_wp2_with (first
          | (gi_at_call 53; refine (CallsIn.inRound l (callsIn_wide.2 (need_true _ _))).mono ?_; rintro e w' ⟨rfl, rfl⟩)
          | (gi_at_call 48; rw [HAD.out]; refine (CallsIn.inRound l (callsIn_wide.2 (HSTEP.out _ HL2.out HR2.out HC2.out o2 HO2.out))).mono ?_; rintro e W3 hd; unfold StepDone at hd; rcases hd with ⟨law', tv', ts', hst, hfew, rfl, hR3, hC3⟩ | ⟨hst, rfl, hb3⟩; have hX3 : W3.cell? ⟨p, 0, none⟩ = some (.string (str wLaw)) := ((hC3.strings (HC2.out.strings HPB.out)).at 0 _ (HCS.out 0 wLaw rfl)); have hc9 : W3.cell? ⟨B, 9, none⟩ = some (.string (str last)) := hR3.word; have hf9 : W3.frozen? ⟨B, 9, none⟩ = false := hR3.blk.frozen 9))
        · have HC4 := (HC2.out.trans hC3).setCell hR3.blk (by decide) 9 (.string (str wLaw))
          have hR4 := hR3.setLast wLaw
          exact ⟨calm_keeps _ HC4, ⟨HC4.1, (HC4.strings HG.out).trans HG.out.symm, (hR4.low.block 1 H15.out).trans (HR.out.low.block 1 H15.out).symm⟩, law', tv', ts', wLaw, by rw [progFrom_take HL.out HPF.out, HWR.out]; exact hst, hfew, by rw [show ((k + 1 : Nat) : Int) = (k : Int) + 1 from by omega]; exact hR4, HC4.strings HG.out⟩
        · exact ⟨rfl, calm_keeps _ (HC2.out.trans (Calm.of_below hb3)), k, ⟨last, law, ts.map Tree.plain⟩, line, HL.out, HPF.out, by rw [HWR.out]; exact hst, rfl, HR2.out.low.trans (hb3.mono HR2.out.low.size)⟩
      · have hwf : wordFn wTree = 49 := by decide
        rw [show wordVal (wordFn wTree) = .func (.func 49) #[] #[] from by rw [hwf]; rfl] at x2
        rw [hwf] at HSTEP
        refine region_tail_in l _ 9 hmix (by kernel_rfl) (no_defer (by rfl)) (fun ⟨_, _, h⟩ => h) ?_
        simp only [List.take_succ_cons, List.take_zero, List.drop_succ_cons, List.drop_zero]
        repeat still_step
        try refine wpStill_nil ?_
        go_wp2
        have HR2 := Lib.hid (show Reading v5 W1.drew B law tv ts ((k : Int) + 1) last from HR1.out.below ((Below.refl _ W1).drew))
        have HC2 := Lib.hid (show Calm W W1.drew from HC1.out)
        have HL2 := Lib.hid (HL1.out.below ((Below.refl W1.heap.size W1).drew))
        generalize W1.drew = W2 at HR2 HC2 HL2 x0 x1 x2 ⊢
        clear HR1 HC1 HX1 HK1 HP1 x0 x2 HL1
        gi_wp2_with (first
          | (gi_at_call 53; refine (CallsIn.inRound l (callsIn_wide.2 (need_true _ _))).mono ?_; rintro e w' ⟨rfl, rfl⟩)
          | (gi_at_call 49; rw [HAD.out]; refine (CallsIn.inRound l (callsIn_wide.2 (HSTEP.out _ HL2.out HR2.out HC2.out o2 HO2.out))).mono ?_; rintro e W3 hd; unfold StepDone at hd; rcases hd with ⟨law', tv', ts', hst, hfew, rfl, hR3, hC3⟩ | ⟨hst, rfl, hb3⟩; have hX3 : W3.cell? ⟨p, 0, none⟩ = some (.string (str wTree)) := ((hC3.strings (HC2.out.strings HPB.out)).at 0 _ (HCS.out 0 wTree rfl)); have hc9 : W3.cell? ⟨B, 9, none⟩ = some (.string (str last)) := hR3.word; have hf9 : W3.frozen? ⟨B, 9, none⟩ = false := hR3.blk.frozen 9))
        · have HC4 := (HC2.out.trans hC3).setCell hR3.blk (by decide) 9 (.string (str wTree))
          have hR4 := hR3.setLast wTree
          exact ⟨calm_keeps _ HC4, ⟨HC4.1, (HC4.strings HG.out).trans HG.out.symm, (hR4.low.block 1 H15.out).trans (HR.out.low.block 1 H15.out).symm⟩, law', tv', ts', wTree, by rw [progFrom_take HL.out HPF.out, HWR.out]; exact hst, hfew, by rw [show ((k + 1 : Nat) : Int) = (k : Int) + 1 from by omega]; exact hR4, HC4.strings HG.out⟩
        · exact ⟨rfl, calm_keeps _ (HC2.out.trans (Calm.of_below hb3)), k, ⟨last, law, ts.map Tree.plain⟩, line, HL.out, HPF.out, by rw [HWR.out]; exact hst, rfl, HR2.out.low.trans (hb3.mono HR2.out.low.size)⟩
      · have hwf : wordFn wStrip = 50 := by decide
        rw [show wordVal (wordFn wStrip) = .func (.func 50) #[] #[] from by rw [hwf]; rfl] at x2
        rw [hwf] at HSTEP
        refine region_tail_in l _ 9 hmix (by kernel_rfl) (no_defer (by rfl)) (fun ⟨_, _, h⟩ => h) ?_
        simp only [List.take_succ_cons, List.take_zero, List.drop_succ_cons, List.drop_zero]
        repeat still_step
        try refine wpStill_nil ?_
        go_wp2
        have HR2 := Lib.hid (show Reading v5 W1.drew B law tv ts ((k : Int) + 1) last from HR1.out.below ((Below.refl _ W1).drew))
        have HC2 := Lib.hid (show Calm W W1.drew from HC1.out)
        have HL2 := Lib.hid (HL1.out.below ((Below.refl W1.heap.size W1).drew))
        generalize W1.drew = W2 at HR2 HC2 HL2 x0 x1 x2 ⊢
        clear HR1 HC1 HX1 HK1 HP1 x0 x2 HL1
        gi_wp2_with (first
          | (gi_at_call 53; refine (CallsIn.inRound l (callsIn_wide.2 (need_true _ _))).mono ?_; rintro e w' ⟨rfl, rfl⟩)
          | (gi_at_call 50; rw [HAD.out]; refine (CallsIn.inRound l (callsIn_wide.2 (HSTEP.out _ HL2.out HR2.out HC2.out o2 HO2.out))).mono ?_; rintro e W3 hd; unfold StepDone at hd; rcases hd with ⟨law', tv', ts', hst, hfew, rfl, hR3, hC3⟩ | ⟨hst, rfl, hb3⟩; have hX3 : W3.cell? ⟨p, 0, none⟩ = some (.string (str wStrip)) := ((hC3.strings (HC2.out.strings HPB.out)).at 0 _ (HCS.out 0 wStrip rfl)); have hc9 : W3.cell? ⟨B, 9, none⟩ = some (.string (str last)) := hR3.word; have hf9 : W3.frozen? ⟨B, 9, none⟩ = false := hR3.blk.frozen 9))
        · have HC4 := (HC2.out.trans hC3).setCell hR3.blk (by decide) 9 (.string (str wStrip))
          have hR4 := hR3.setLast wStrip
          exact ⟨calm_keeps _ HC4, ⟨HC4.1, (HC4.strings HG.out).trans HG.out.symm, (hR4.low.block 1 H15.out).trans (HR.out.low.block 1 H15.out).symm⟩, law', tv', ts', wStrip, by rw [progFrom_take HL.out HPF.out, HWR.out]; exact hst, hfew, by rw [show ((k + 1 : Nat) : Int) = (k : Int) + 1 from by omega]; exact hR4, HC4.strings HG.out⟩
        · exact ⟨rfl, calm_keeps _ (HC2.out.trans (Calm.of_below hb3)), k, ⟨last, law, ts.map Tree.plain⟩, line, HL.out, HPF.out, by rw [HWR.out]; exact hst, rfl, HR2.out.low.trans (hb3.mono HR2.out.low.size)⟩
      · have hwf : wordFn wWound = 51 := by decide
        rw [show wordVal (wordFn wWound) = .func (.func 51) #[] #[] from by rw [hwf]; rfl] at x2
        rw [hwf] at HSTEP
        refine region_tail_in l _ 9 hmix (by kernel_rfl) (no_defer (by rfl)) (fun ⟨_, _, h⟩ => h) ?_
        simp only [List.take_succ_cons, List.take_zero, List.drop_succ_cons, List.drop_zero]
        repeat still_step
        try refine wpStill_nil ?_
        go_wp2
        have HR2 := Lib.hid (show Reading v5 W1.drew B law tv ts ((k : Int) + 1) last from HR1.out.below ((Below.refl _ W1).drew))
        have HC2 := Lib.hid (show Calm W W1.drew from HC1.out)
        have HL2 := Lib.hid (HL1.out.below ((Below.refl W1.heap.size W1).drew))
        generalize W1.drew = W2 at HR2 HC2 HL2 x0 x1 x2 ⊢
        clear HR1 HC1 HX1 HK1 HP1 x0 x2 HL1
        gi_wp2_with (first
          | (gi_at_call 53; refine (CallsIn.inRound l (callsIn_wide.2 (need_true _ _))).mono ?_; rintro e w' ⟨rfl, rfl⟩)
          | (gi_at_call 51; rw [HAD.out]; refine (CallsIn.inRound l (callsIn_wide.2 (HSTEP.out _ HL2.out HR2.out HC2.out o2 HO2.out))).mono ?_; rintro e W3 hd; unfold StepDone at hd; rcases hd with ⟨law', tv', ts', hst, hfew, rfl, hR3, hC3⟩ | ⟨hst, rfl, hb3⟩; have hX3 : W3.cell? ⟨p, 0, none⟩ = some (.string (str wWound)) := ((hC3.strings (HC2.out.strings HPB.out)).at 0 _ (HCS.out 0 wWound rfl)); have hc9 : W3.cell? ⟨B, 9, none⟩ = some (.string (str last)) := hR3.word; have hf9 : W3.frozen? ⟨B, 9, none⟩ = false := hR3.blk.frozen 9))
        · have HC4 := (HC2.out.trans hC3).setCell hR3.blk (by decide) 9 (.string (str wWound))
          have hR4 := hR3.setLast wWound
          exact ⟨calm_keeps _ HC4, ⟨HC4.1, (HC4.strings HG.out).trans HG.out.symm, (hR4.low.block 1 H15.out).trans (HR.out.low.block 1 H15.out).symm⟩, law', tv', ts', wWound, by rw [progFrom_take HL.out HPF.out, HWR.out]; exact hst, hfew, by rw [show ((k + 1 : Nat) : Int) = (k : Int) + 1 from by omega]; exact hR4, HC4.strings HG.out⟩
        · exact ⟨rfl, calm_keeps _ (HC2.out.trans (Calm.of_below hb3)), k, ⟨last, law, ts.map Tree.plain⟩, line, HL.out, HPF.out, by rw [HWR.out]; exact hst, rfl, HR2.out.low.trans (hb3.mono HR2.out.low.size)⟩
    · rw [if_neg hw, decide_eq_false hw] at x2
      have HW := Lib.hid hw
      refine region_tail_in l _ 9 hmix (by kernel_rfl) (no_defer (by rfl)) (fun ⟨_, _, h⟩ => h) ?_
      simp only [List.take_succ_cons, List.take_zero, List.drop_succ_cons, List.drop_zero]
      repeat still_step
      try refine wpStill_nil ?_
      go_wp2
      have HR2 := Lib.hid (show Reading v5 W1.drew B law tv ts ((k : Int) + 1) last from HR1.out.below ((Below.refl _ W1).drew))
      have HC2 := Lib.hid (show Calm W W1.drew from HC1.out)
      have HL2 := Lib.hid (HL1.out.below ((Below.refl W1.heap.size W1).drew))
      generalize W1.drew = W2 at HR2 HC2 HL2 x0 x1 x2 ⊢
      clear HR1 HC1 HX1 HK1 HP1 x0 x2 HL1
      gi_wp2_with (gi_at_call 53; refine (CallsIn.inRound l (callsIn_wide.2 (need_false B ((k : Int) + 1) _ HR2.out.line))).mono ?_; rintro e w' ⟨rfl, rfl⟩)
      exact ⟨rfl, calm_keeps _ HC2.out, k, ⟨last, law, ts.map Tree.plain⟩, line, HL.out, HPF.out, by rw [HWR.out]; exact prog_other _ _ HW.out, rfl, HR2.out.low⟩
  case done =>
    rintro D W hD ⟨law, tv, ts, last, h1, h2, h3, h4⟩ hcoll
    rw [List.take_of_length_le (Nat.le_refl _)] at h1
    have HPF := Lib.hid h1; have HFW := Lib.hid h2; have HR := Lib.hid h3; have HCO := Lib.hid hcoll; have HD := Lib.hid hD
    have HGF := Lib.hid (HG5.out.below h3.low); have HGW := Lib.hid (HW5.out.below h3.low)
    clear h1 h2 h3 h4 hcoll hD
    have hb := HR.out.blk
    obtain ⟨age, rest, girth, fa0, fa1, fa2, heal⟩ := law
    have c0 : W.cell? ⟨B, 0, none⟩ = some (.int .i64 age) := hb.at 0 _ rfl
    have c1 : W.cell? ⟨B, 1, none⟩ = some (.int .i64 rest) := hb.at 1 _ rfl
    have c2 : W.cell? ⟨B, 2, none⟩ = some (.int .i64 girth) := hb.at 2 _ rfl
    have c3 : W.cell? ⟨B, 3, none⟩ = some (.int .i64 fa0) := hb.at 3 _ rfl
    have c4 : W.cell? ⟨B, 4, none⟩ = some (.int .i64 fa1) := hb.at 4 _ rfl
    have c5 : W.cell? ⟨B, 5, none⟩ = some (.int .i64 fa2) := hb.at 5 _ rfl
    have c6 : W.cell? ⟨B, 6, none⟩ = some (.int .i64 heal) := hb.at 6 _ rfl
    have c7 : W.cell? ⟨B, 7, none⟩ = some tv := hb.at 7 _ rfl
    clear hb
    obtain ⟨ta, tc, rfl⟩ := row_slice HR.out.trees
    refine wpFor_of trivial (wpIn_wide.2 ?_)
    have hth : W.there gf 0 8 := HGF.out.there (Nat.le_refl _)
    have hw0 := HGW.out.apart (g' := gf) (by omega) 0 [.int .i64 age, .int .i64 rest, .int .i64 girth, .int .i64 fa0, .int .i64 fa1, .int .i64 fa2, .int .i64 heal, .slice ta ts.length tc]
    have hw1 := hw0.at 0 (.int .i64 0) rfl
    have hw2 := hw0.frozen 0
    clear hw0
    go_wp2_with ((with_reducible refine at_storeT 27 (.tmp 2) (.tmp 38) ?_); go_must (refine wpList_store_mid rfl 27 (.tmp 2) (.tmp 38) rfl gf 0 #[.int .i64 age, .int .i64 rest, .int .i64 girth, .int .i64 fa0, .int .i64 fa1, .int .i64 fa2, .int .i64 heal, .slice ta ts.length tc] rfl rfl hth forest_size (by simp [Value.oneCell']) ?_))
    have HR9 := Lib.hid (HGF.out.stored [.int .i64 age, .int .i64 rest, .int .i64 girth, .int .i64 fa0, .int .i64 fa1, .int .i64 fa2, .int .i64 heal, .slice ta ts.length tc] rfl)
    have hdg : D ≠ gf + 1 ∧ D ≠ gf := by have h1 := Nat.lt_of_lt_of_le HW5.out.lt HR7.out.low.size; have h2 := HD.out; omega
    have hap := HGW.out.apart (g' := gf) (by omega) 0 [.int .i64 age, .int .i64 rest, .int .i64 girth, .int .i64 fa0, .int .i64 fa1, .int .i64 fa2, .int .i64 heal, .slice ta ts.length tc]
    have hbel : Below w.heap.size w (W.setCells gf 0 [.int .i64 age, .int .i64 rest, .int .i64 girth, .int .i64 fa0, .int .i64 fa1, .int .i64 fa2, .int .i64 heal, .slice ta ts.length tc]) := below_setCells (HB5.out.trans (HR.out.low.mono HB5.out.size)) (by rw [HGE.out]; exact Nat.le_refl _) _ _
    have hco2 : (W.setCells gf 0 [.int .i64 age, .int .i64 rest, .int .i64 girth, .int .i64 fa0, .int .i64 fa1, .int .i64 fa2, .int .i64 heal, .slice ta ts.length tc]).heap[D]? = some (.deferred (some [])) := (heap_setCells W gf hdg.2 _ _).trans HCO.out
    obtain ⟨W1, hW1⟩ : ∃ W1, W1 = W.setCells gf 0 [.int .i64 age, .int .i64 rest, .int .i64 girth, .int .i64 fa0, .int .i64 fa1, .int .i64 fa2, .int .i64 heal, .slice ta ts.length tc] := ⟨_, rfl⟩
    have HR9' := HR9.out
    rw [← hW1] at HR9' hap hbel hco2 ⊢
    have hsame1 : ∀ j, j ≠ gf → W1.heap[j]? = W.heap[j]? := fun j hj => by rw [hW1]; exact heap_setCells W gf hj _ _
    have hgf2 := HR9'.far (p := ⟨gf + 1, 0, none⟩) (by show gf ≠ gf + 1; omega) (.int .i64 0)
    have hgw2 := hap.set_ 0 (.int .i64 0)
    have hsame2 : ∀ j, j ≠ gf + 1 → (W1.setCell ⟨gf + 1, 0, none⟩ (.int .i64 0)).heap[j]? = W1.heap[j]? := fun j hj => Below.heap_setCell W1 ⟨gf + 1, 0, none⟩ _ j hj
    have hbel2 := hbel.setCell (p := ⟨gf + 1, 0, none⟩) (by rw [HGE.out]; show gf ≤ gf + 1; omega) (.int .i64 0)
    clear hW1
    generalize W1.setCell ⟨gf + 1, 0, none⟩ (.int .i64 0) = W2 at hgf2 hgw2 hsame2 hbel2 ⊢
    have hco3 : W2.heap[D]? = some (.deferred (some [])) := (hsame2 D hdg.1).trans hco2
    refine ⟨(fun h => by cases h), .inl ⟨D, _, rfl, run_takeDeferred hco3, ?_⟩⟩
    have hgf3 : Bkt (W2.putObj D (.deferred none)) gf 27 _ := (World.putObj_heap_other (by have := hdg.2; omega)).trans hgf2
    have hgw3 : Bkt (W2.putObj D (.deferred none)) (gf + 1) 3 _ := (World.putObj_heap_other (by have := hdg.1; omega)).trans hgw2
    have hbel3 : Below w.heap.size w (W2.putObj D (.deferred none)) := hbel2.trans ((below_put W2 D _).mono (by have h1 := HR7.out.low.size; have h2 := HB5.out.size; have h3 := HD.out; omega))
    have hrows : ∀ r ∈ treesOf (.slice ta ts.length tc) ts :: ts.flatMap Tree.mrows, (W2.putObj D (.deferred none)).ownsRow v5.heap.size r.e r.k r.v r.n r.xs := fun r hr => by
      have hm : r ∈ readerOf B ⟨age, rest, girth, fa0, fa1, fa2, heal⟩ (.slice ta ts.length tc) (linesL t).length last :: treesOf (.slice ta ts.length tc) ts :: ts.flatMap Tree.mrows := List.mem_cons_of_mem _ hr
      refine row_same (HR.out.row r hm) (fun j hj => ?_)
      have h1 : v5.heap.size ≤ j := HR.out.ge hm hj
      have h2 := HW5.out.lt
      have h3 : j ≠ D := fun e => by
        obtain ⟨cs, hb⟩ := row_type (HR.out.row r hm) hj
        have h4 := HCO.out
        unfold Bkt at hb
        rw [← e, hb] at h4
        cases h4
      exact (World.putObj_heap_other h3).trans ((hsame2 j (by omega)).trans (hsame1 j (by omega)))
    have hheld : OwnTrees w.heap.size (W2.putObj D (.deferred none)) (.slice ta ts.length tc) ts := fun W' _ hs' => rows_held (fun r hr => row_same (hrows r hr) (fun g hg => hs' g (by have := ((hrows r hr).lt g hg).1; have := HB5.out.size; omega) ((hrows r hr).lt g hg).2)) (by have := HFW.out.1; have := lines_le t; omega) (fun x hx => ⟨by have := (HFW.out.2 x hx).1; have := lines_le t; omega, by have := (HFW.out.2 x hx).2.1; have := lines_le t; omega, by have := (HFW.out.2 x hx).2.2; omega⟩)
    generalize W2.putObj D (.deferred none) = W3 at hgf3 hgw3 hbel3 hheld ⊢
    refine ⟨(fun h => by cases h), .inr ⟨fun _ => by decide, _, _, 47, #[.pointer (some ⟨gf + 1, 0, none⟩)], rfl, inv_closure _ _, fun _ _ => trivial, ?_⟩⟩
    refine (catch_idle_in 4 ⟨gf + 1, 0, none⟩ W3).mono ?_
    rintro e u' w' ⟨rfl, rfl, rfl⟩
    exact ⟨_, forest_results gf _ 0 _ _ rfl rfl hgf3 rfl (hgw3.at 0 _ rfl), hbel3, .inl ⟨_, _, ts, last, HPF.out, hheld, rfl⟩⟩
  case panic =>
    rintro D ch W hD ⟨k, s, l, h1, h2, h3, rfl, h4⟩ hcoll
    have hw := HW5.out.below h4
    have hgf := HG5.out.below h4
    have hgv : gf + 1 < v7.heap.size := Nat.lt_of_lt_of_le HW5.out.lt HR7.out.low.size
    refine ⟨(fun h => by cases h), .inl ⟨D, _, rfl, run_takeDeferred hcoll, ?_⟩⟩
    have hw' : Bkt (W.putObj D (.deferred none)) (gf + 1) 3 #[.int .i64 0] := (World.putObj_heap_other (by omega)).trans hw
    have hgf' : Bkt (W.putObj D (.deferred none)) gf 27 #[.int .i64 0, .int .i64 0, .int .i64 0, .int .i64 0, .int .i64 0, .int .i64 0, .int .i64 0, .slice none 0 0] := (World.putObj_heap_other (by omega)).trans hgf
    have hbel : Below v5.heap.size v5 (W.putObj D (.deferred none)) := h4.trans ((below_put W D _).mono (by have := HR7.out.low.size; omega))
    generalize W.putObj D (.deferred none) = W' at hw' hgf' hbel ⊢
    refine ⟨(fun h => by cases h), .inr ⟨fun _ => by decide, _, _, 47, #[.pointer (some ⟨gf + 1, 0, none⟩)], rfl, inv_closure _ _, fun _ _ => trivial, ?call⟩⟩
    case call =>
      refine (catch_line_in 4 ⟨gf + 1, 0, none⟩ 0 ((k : Int) + 1) [] W' (hw'.at 0 _ rfl) (hw'.frozen 0)).mono ?_
      rintro e u' w' ⟨rfl, rfl, rfl⟩
      show LeavesIn _ _ _ _ _ _ [] (settle _) _
      have hg2 := hgf'.far (p := ⟨gf + 1, 0, none⟩) (by show gf ≠ gf + 1; omega) (.int .i64 ((k : Int) + 1))
      have hw2 := hw'.set_ 0 (.int .i64 ((k : Int) + 1))
      refine ⟨_, forest_results gf _ _ _ _ rfl rfl hg2 rfl (hw2.at 0 _ rfl), ?_, .inr ⟨k, s, l, h1, h2, h3, rfl⟩⟩
      exact (HB5.out.trans (hbel.mono HB5.out.size)).setCell (p := ⟨gf + 1, 0, none⟩) (by rw [HGE.out]; show gf ≤ gf + 1; omega) _
end Go.Proofs.YtnoofdjlocadbaaGreatDoor
namespace Go.Proofs.YtnoofdjlocadbaaGreatDoor
open Go Go.RowKit Go.Lib Go.Deep

/-- An empty forest. -/
def zeroForest : Value := .agg #[.int .i64 0, .int .i64 0, .int .i64 0, .int .i64 0, .int .i64 0, .int .i64 0, .int .i64 0, .slice none 0 0]
/-- What Parse leaves. -/
def ParseDone (t : List UInt8) (w : World) (e : Ending) (w' : World) : Prop :=
  Below w.heap.size w w' ∧ (
    (60000 < t.length ∧ e = .returned (.tuple #[zeroForest, .int .i64 0, .int .i64 2])) ∨
    (t.length ≤ 60000 ∧ ∃ n : Nat, readText t = .inl n ∧ e = .returned (.tuple #[zeroForest, .int .i64 (n : Int), .int .i64 3])) ∨
    (t.length ≤ 60000 ∧ ∃ f : Forest, readText t = .inr f.plain ∧
      ((checkForest f = 0 ∧ OwnTrees w.heap.size w' f.tv f.trees ∧ e = .returned (.tuple #[.agg f.cells.toArray, .int .i64 0, .int .i64 0])) ∨
       (checkForest f ≠ 0 ∧ e = .returned (.tuple #[zeroForest, .int .i64 0, .int .i64 (checkForest f)])))))

theorem parse_results {gf : Nat} {cs : Array Value} {w : World} (hg : Bkt w gf 27 cs) (hs : cs.size = 8) (tmps : Array Value) (h2 : tmps.getD 2 undef = .pointer (some ⟨gf, 0, none⟩)) :
    (results Tryz.f9 tmps).run Tryz.prog w = .ok (.tuple #[.agg cs, tmps.getD 3 undef, tmps.getD 4 undef]) w := by
  have hr := run_loadVar_row (P := Tryz.prog) w gf 27 27 cs (0, 0) _ hg Tryz.underlying27 rfl (by rw [hs]; exact forest_size)
  have h2' : tmps[2]?.getD undef = .pointer (some ⟨gf, 0, none⟩) := by simpa using h2
  simp [results, Tryz.results9, h2', asAddr, hr, Result.andThen]

set_option maxRecDepth 100000 in
set_option maxHeartbeats 2000000 in
theorem parse_long (t : List UInt8) (ht : 60000 < t.length) (ht2 : t.length < 9000000000000000000) (w : World) :
    Calls Tryz.prog 9 #[.string (str t)] w (ParseDone t w) := by
  have hz : (str t).size = t.length := by simp [str, ByteArray.size]
  have hlt : (60000 : Int) < (t.length : Int) := by omega
  go_enter Tryz.func9, Tryz.ntmps9
  go_wp2
  (try simp only [Exit.inBlock, Exit.then])
  refine bodyPost_ret (parse_results (Bkt.new w 27 #[.int .i64 0, .int .i64 0, .int .i64 0, .int .i64 0, .int .i64 0, .int .i64 0, .int .i64 0, .slice none 0 0]) rfl _ rfl) rfl ?_
  exact ⟨(Below.refl _ w).alloc (Nat.le_refl _) _, .inl ⟨ht, rfl⟩⟩

theorem str_nil_beq (t : List UInt8) (b : Bool) (h : decide (t = []) = b) : (str t).toList.isEmpty = b := by rw [← h, str_list]; cases t <;> simp
theorem prog_nil {t : List UInt8} (h : t = []) : readText t = .inl 0 := by subst h; rfl
theorem lines_some {t : List UInt8} (h : t ≠ []) : linesL t ≠ [] := by rw [lines_cut t h]; simp
/-- What readForest leaves, in one form. -/
theorem read_form {t : List UInt8} {w w' : World} {e : Ending} (h : ForestRead t w e w') : ∃ age rest girth fa0 fa1 fa2 heal ta tn tc x, e = .returned (.tuple #[.agg #[.int .i64 age, .int .i64 rest, .int .i64 girth, .int .i64 fa0, .int .i64 fa1, .int .i64 fa2, .int .i64 heal, .slice ta tn tc], .int .i64 x]) ∧ Below w.heap.size w w' ∧
    ((x = 0 ∧ ∃ ts last, progFrom PS.zero (linesL t) = some ⟨last, ⟨age, rest, girth, fa0, fa1, fa2, heal⟩, ts.map Tree.plain⟩ ∧ OwnTrees w.heap.size w' (.slice ta tn tc) ts) ∨ (∃ k : Nat, x = (k : Int) + 1 ∧ readText t = .inl (k + 1))) := by
  obtain ⟨hb, ⟨⟨age, rest, girth, fa0, fa1, fa2, heal⟩, tv, ts, last, hp, ho, rfl⟩ | ⟨k, s, l, h1, h2, h3, rfl⟩⟩ := h
  · obtain ⟨ta, tn, tc, rfl⟩ := (ho w' (Nat.le_refl _) (fun _ _ _ => rfl)).1.slice
    exact ⟨age, rest, girth, fa0, fa1, fa2, heal, ta, tn, tc, 0, rfl, hb, .inl ⟨rfl, ts, last, hp, ho⟩⟩
  · exact ⟨0, 0, 0, 0, 0, 0, 0, none, 0, 0, _, rfl, hb, .inr ⟨k, rfl, prog_bad h1 h2 h3⟩⟩

set_option maxRecDepth 100000 in
set_option maxHeartbeats 4000000 in
theorem parse_short (t : List UInt8) (ht : t.length ≤ 60000) (w : World) (hL : Libs w) :
    Calls Tryz.prog 9 #[.string (str t)] w (ParseDone t w) := by
  have hz : (str t).size = t.length := by simp [str, ByteArray.size]
  have hlt : ¬ (60000 : Int) < (t.length : Int) := by omega
  have HZ := Lib.hid ((Below.refl _ w).alloc (Nat.le_refl _) (.cells #[.int .i64 0, .int .i64 0, .int .i64 0, .int .i64 0, .int .i64 0, .int .i64 0, .int .i64 0, .slice none 0 0] 27))
  have HR := Lib.hid (readForest_calls t (by omega) _ (hL.below HZ.out))
  have HT := Lib.hid ht
  have HG := Lib.hid (Bkt.new w 27 #[.int .i64 0, .int .i64 0, .int .i64 0, .int .i64 0, .int .i64 0, .int .i64 0, .int .i64 0, .slice none 0 0])
  clear ht hL
  go_enter Tryz.func9, Tryz.ntmps9
  go_upto_region 3 with (fail)
  go_upto_region 4 with (first | (go_at_call 25; refine HR.out.mono ?_; intro e w1 hfr; obtain ⟨age, rest, girth, fa0, fa1, fa2, heal, ta, tn, tc, x, rfl, hb1, hf1⟩ := read_form hfr; clear hfr; have HB1 := Lib.hid (HZ.out.trans (hb1.mono (by rw [World.size_alloc]; omega))); have HG1 := Lib.hid (HG.out.below hb1); have HF := Lib.hid hf1; clear hf1; have HONE := Lib.hid (show (#[.int .i64 age, .int .i64 rest, .int .i64 girth, .int .i64 fa0, .int .i64 fa1, .int .i64 fa2, .int .i64 heal, .slice ta tn tc] : Array Value).all (·.oneCell') = true from by simp [Value.oneCell'])) | ((with_reducible refine at_storeT 27 (.tmp 2) (.tmp 14) ?_); go_must (refine wpList_store_mid rfl 27 (.tmp 2) (.tmp 14) rfl w.heap.size 0 #[.int .i64 age, .int .i64 rest, .int .i64 girth, .int .i64 fa0, .int .i64 fa1, .int .i64 fa2, .int .i64 heal, .slice ta tn tc] rfl rfl (Bkt.there HG1.out (o := 0) (n := 8) (Nat.le_of_ble_eq_true rfl)) forest_size HONE.out ?_); change wpList _ _ _ _ _ (w1.setCells w.heap.size 0 [.int .i64 age, .int .i64 rest, .int .i64 girth, .int .i64 fa0, .int .i64 fa1, .int .i64 fa2, .int .i64 heal, .slice ta tn tc]); have HB2 := Lib.hid (below_setCells HB1.out (Nat.le_refl _) [.int .i64 age, .int .i64 rest, .int .i64 girth, .int .i64 fa0, .int .i64 fa1, .int .i64 fa2, .int .i64 heal, .slice ta tn tc] 0); have HG2 := Lib.hid (Bkt.stored (old := [.int .i64 0, .int .i64 0, .int .i64 0, .int .i64 0, .int .i64 0, .int .i64 0, .int .i64 0, .slice none 0 0]) HG1.out [.int .i64 age, .int .i64 rest, .int .i64 girth, .int .i64 fa0, .int .i64 fa1, .int .i64 fa2, .int .i64 heal, .slice ta tn tc] rfl); have HS2 := Lib.hid (show (w1.setCells w.heap.size 0 [.int .i64 age, .int .i64 rest, .int .i64 girth, .int .i64 fa0, .int .i64 fa1, .int .i64 fa2, .int .i64 heal, .slice ta tn tc]).heap.size = w1.heap.size from size_setCells _ _ _ _); have HK2 := Lib.hid (show ∀ g, w.heap.size + 1 ≤ g → (w1.setCells w.heap.size 0 [.int .i64 age, .int .i64 rest, .int .i64 girth, .int .i64 fa0, .int .i64 fa1, .int .i64 fa2, .int .i64 heal, .slice ta tn tc]).heap[g]? = w1.heap[g]? from fun g hg => heap_setCells w1 w.heap.size (by omega) _ 0); generalize w1.setCells w.heap.size 0 [.int .i64 age, .int .i64 rest, .int .i64 girth, .int .i64 fa0, .int .i64 fa1, .int .i64 fa2, .int .i64 heal, .slice ta tn tc] = w2 at HB2 HG2 HS2 HK2 ⊢))
  clear HR HZ HG
  have HZONE := HONE
  rcases HF.out with ⟨rfl, ts, last, hp, ho⟩ | ⟨k, rfl, hr⟩
  · by_cases ht0 : t = []
    · have hbq := str_nil_beq t true (by simp [ht0])
      have HR0 := Lib.hid (prog_nil ht0)
      clear hp ho HF ht0 hlt
      clear HONE
      have HONE := Lib.hid (show (#[.int .i64 0, .int .i64 0, .int .i64 0, .int .i64 0, .int .i64 0, .int .i64 0, .int .i64 0, .slice none 0 0] : Array Value).all (·.oneCell') = true from by simp [Value.oneCell'])
      go_wp2_with (((with_reducible refine at_storeT 27 (.tmp 2) (.tmp 22) ?_); go_must (refine wpList_store_mid rfl 27 (.tmp 2) (.tmp 22) rfl w.heap.size 0 #[.int .i64 0, .int .i64 0, .int .i64 0, .int .i64 0, .int .i64 0, .int .i64 0, .int .i64 0, .slice none 0 0] rfl rfl (Bkt.there HG2.out (o := 0) (n := 8) (Nat.le_of_ble_eq_true rfl)) forest_size HONE.out ?_); change wpList _ _ _ _ _ (w2.setCells w.heap.size 0 [.int .i64 0, .int .i64 0, .int .i64 0, .int .i64 0, .int .i64 0, .int .i64 0, .int .i64 0, .slice none 0 0]); have HB4 := Lib.hid (below_setCells HB2.out (Nat.le_refl _) [.int .i64 0, .int .i64 0, .int .i64 0, .int .i64 0, .int .i64 0, .int .i64 0, .int .i64 0, .slice none 0 0] 0); have HG4 := Lib.hid (Bkt.stored (old := [.int .i64 age, .int .i64 rest, .int .i64 girth, .int .i64 fa0, .int .i64 fa1, .int .i64 fa2, .int .i64 heal, .slice ta tn tc]) HG2.out [.int .i64 0, .int .i64 0, .int .i64 0, .int .i64 0, .int .i64 0, .int .i64 0, .int .i64 0, .slice none 0 0] rfl); generalize w2.setCells w.heap.size 0 [.int .i64 0, .int .i64 0, .int .i64 0, .int .i64 0, .int .i64 0, .int .i64 0, .int .i64 0, .slice none 0 0] = w4 at HB4 HG4 ⊢))
      (try simp only [Exit.inBlock, Exit.then])
      refine bodyPost_ret (parse_results HG4.out rfl _ rfl) rfl ?_
      exact ⟨HB4.out, .inr (.inl ⟨HT.out, 0, HR0.out, rfl⟩)⟩
    · have hbq := str_nil_beq t false (by simp [ht0])
      have HP := Lib.hid (prog_good (lines_some ht0) hp)
      have HOT := Lib.hid (show TreesHeld w2.heap.size w2 (.slice ta tn tc) ts from ho w2 (by rw [HS2.out]; exact Nat.le_refl _) (fun g hg _ => HK2.out g (by rw [World.size_alloc] at hg; exact hg)))
      have HOA := Lib.hid ho
      have HC := Lib.hid (checkForest_calls ⟨⟨age, rest, girth, fa0, fa1, fa2, heal⟩, .slice ta tn tc, ts⟩ w2 HOT.out)
      clear hp ho HF ht0 hlt
      have o0 : w2.cell? ⟨w.heap.size, 0, none⟩ = some (.int .i64 age) := HG2.out.at 0 _ rfl
      have o1 : w2.cell? ⟨w.heap.size, 1, none⟩ = some (.int .i64 rest) := HG2.out.at 1 _ rfl
      have o2 : w2.cell? ⟨w.heap.size, 2, none⟩ = some (.int .i64 girth) := HG2.out.at 2 _ rfl
      have o3 : w2.cell? ⟨w.heap.size, 3, none⟩ = some (.int .i64 fa0) := HG2.out.at 3 _ rfl
      have o4 : w2.cell? ⟨w.heap.size, 4, none⟩ = some (.int .i64 fa1) := HG2.out.at 4 _ rfl
      have o5 : w2.cell? ⟨w.heap.size, 5, none⟩ = some (.int .i64 fa2) := HG2.out.at 5 _ rfl
      have o6 : w2.cell? ⟨w.heap.size, 6, none⟩ = some (.int .i64 heal) := HG2.out.at 6 _ rfl
      have o7 : w2.cell? ⟨w.heap.size, 7, none⟩ = some (.slice ta tn tc) := HG2.out.at 7 _ rfl
      go_upto_region 7 with (go_at_call 18; refine HC.out.mono ?_; rintro e w3 ⟨rfl, hb3⟩; have HB3 := Lib.hid (HB2.out.trans (hb3.mono HB2.out.size)); have HG3 := Lib.hid (HG2.out.below hb3); have HT3 := Lib.hid (show TreesHeld w3.heap.size w3 (.slice ta tn tc) ts from (HOT.out.below hb3).mono hb3.size); have HK3 := Lib.hid (show ∀ g, g < w2.heap.size → w3.heap[g]? = w2.heap[g]? from fun g hg => hb3.block g hg); have HS3 := Lib.hid hb3.size; clear hb3)
      clear o0 o1 o2 o3 o4 o5 o6 o7
      have HFP := Lib.hid (show readText t = .inr (Forest.plain ⟨⟨age, rest, girth, fa0, fa1, fa2, heal⟩, .slice ta tn tc, ts⟩) from HP.out)
      generalize hce : checkForest ⟨⟨age, rest, girth, fa0, fa1, fa2, heal⟩, .slice ta tn tc, ts⟩ = ce at *
      have HCE := Lib.hid hce
      clear hce
      by_cases hz0 : ce = 0
      · subst hz0
        have o0 : w3.cell? ⟨w.heap.size, 0, none⟩ = some (.int .i64 age) := HG3.out.at 0 _ rfl
        have o1 : w3.cell? ⟨w.heap.size, 1, none⟩ = some (.int .i64 rest) := HG3.out.at 1 _ rfl
        have o2 : w3.cell? ⟨w.heap.size, 2, none⟩ = some (.int .i64 girth) := HG3.out.at 2 _ rfl
        have o3 : w3.cell? ⟨w.heap.size, 3, none⟩ = some (.int .i64 fa0) := HG3.out.at 3 _ rfl
        have o4 : w3.cell? ⟨w.heap.size, 4, none⟩ = some (.int .i64 fa1) := HG3.out.at 4 _ rfl
        have o5 : w3.cell? ⟨w.heap.size, 5, none⟩ = some (.int .i64 fa2) := HG3.out.at 5 _ rfl
        have o6 : w3.cell? ⟨w.heap.size, 6, none⟩ = some (.int .i64 heal) := HG3.out.at 6 _ rfl
        have o7 : w3.cell? ⟨w.heap.size, 7, none⟩ = some (.slice ta tn tc) := HG3.out.at 7 _ rfl
        go_wp2_with (((with_reducible refine at_storeT 27 (.tmp 2) (.tmp 30) ?_); go_must (refine wpList_store_mid rfl 27 (.tmp 2) (.tmp 30) rfl w.heap.size 0 #[.int .i64 age, .int .i64 rest, .int .i64 girth, .int .i64 fa0, .int .i64 fa1, .int .i64 fa2, .int .i64 heal, .slice ta tn tc] rfl rfl (Bkt.there HG3.out (o := 0) (n := 8) (Nat.le_of_ble_eq_true rfl)) forest_size HONE.out ?_); change wpList _ _ _ _ _ (w3.setCells w.heap.size 0 [.int .i64 age, .int .i64 rest, .int .i64 girth, .int .i64 fa0, .int .i64 fa1, .int .i64 fa2, .int .i64 heal, .slice ta tn tc]); have HB4 := Lib.hid (below_setCells HB3.out (Nat.le_refl _) [.int .i64 age, .int .i64 rest, .int .i64 girth, .int .i64 fa0, .int .i64 fa1, .int .i64 fa2, .int .i64 heal, .slice ta tn tc] 0); have HG4 := Lib.hid (Bkt.stored (old := [.int .i64 age, .int .i64 rest, .int .i64 girth, .int .i64 fa0, .int .i64 fa1, .int .i64 fa2, .int .i64 heal, .slice ta tn tc]) HG3.out [.int .i64 age, .int .i64 rest, .int .i64 girth, .int .i64 fa0, .int .i64 fa1, .int .i64 fa2, .int .i64 heal, .slice ta tn tc] rfl); have HS4 := Lib.hid (show (w3.setCells w.heap.size 0 [.int .i64 age, .int .i64 rest, .int .i64 girth, .int .i64 fa0, .int .i64 fa1, .int .i64 fa2, .int .i64 heal, .slice ta tn tc]).heap.size = w3.heap.size from size_setCells _ _ _ _); have HK4 := Lib.hid (show ∀ g, w.heap.size + 1 ≤ g → (w3.setCells w.heap.size 0 [.int .i64 age, .int .i64 rest, .int .i64 girth, .int .i64 fa0, .int .i64 fa1, .int .i64 fa2, .int .i64 heal, .slice ta tn tc]).heap[g]? = w3.heap[g]? from fun g hg => heap_setCells w3 w.heap.size (by omega) _ 0); generalize w3.setCells w.heap.size 0 [.int .i64 age, .int .i64 rest, .int .i64 girth, .int .i64 fa0, .int .i64 fa1, .int .i64 fa2, .int .i64 heal, .slice ta tn tc] = w4 at HB4 HG4 HS4 HK4 ⊢))
        (try simp only [Exit.inBlock, Exit.then])
        refine bodyPost_ret (parse_results HG4.out rfl _ rfl) rfl ?_
        refine ⟨HB4.out, .inr (.inr ⟨HT.out, ⟨⟨age, rest, girth, fa0, fa1, fa2, heal⟩, .slice ta tn tc, ts⟩, HFP.out, .inl ⟨HCE.out, ?_, rfl⟩⟩)⟩
        intro W' hW hs
        refine HOA.out W' (Nat.le_trans (by rw [HS4.out]; have := HS3.out; rw [HS2.out] at this; exact this) hW) (fun g hg hl => ?_)
        rw [World.size_alloc] at hg
        rw [hs g (by omega) (by rw [HS4.out]; have := HS3.out; rw [HS2.out] at this; omega), HK4.out g hg, HK3.out g (by rw [HS2.out]; exact hl), HK2.out g hg]
      · have hz1 : ¬ ce = 0 := hz0
        have HNZ := Lib.hid hz0
        clear HONE
        have HONE := Lib.hid (show (#[.int .i64 0, .int .i64 0, .int .i64 0, .int .i64 0, .int .i64 0, .int .i64 0, .int .i64 0, .slice none 0 0] : Array Value).all (·.oneCell') = true from by simp [Value.oneCell'])
        go_wp2_with (((with_reducible refine at_storeT 27 (.tmp 2) (.tmp 28) ?_); go_must (refine wpList_store_mid rfl 27 (.tmp 2) (.tmp 28) rfl w.heap.size 0 #[.int .i64 0, .int .i64 0, .int .i64 0, .int .i64 0, .int .i64 0, .int .i64 0, .int .i64 0, .slice none 0 0] rfl rfl (Bkt.there HG3.out (o := 0) (n := 8) (Nat.le_of_ble_eq_true rfl)) forest_size HONE.out ?_); change wpList _ _ _ _ _ (w3.setCells w.heap.size 0 [.int .i64 0, .int .i64 0, .int .i64 0, .int .i64 0, .int .i64 0, .int .i64 0, .int .i64 0, .slice none 0 0]); have HB4 := Lib.hid (below_setCells HB3.out (Nat.le_refl _) [.int .i64 0, .int .i64 0, .int .i64 0, .int .i64 0, .int .i64 0, .int .i64 0, .int .i64 0, .slice none 0 0] 0); have HG4 := Lib.hid (Bkt.stored (old := [.int .i64 age, .int .i64 rest, .int .i64 girth, .int .i64 fa0, .int .i64 fa1, .int .i64 fa2, .int .i64 heal, .slice ta tn tc]) HG3.out [.int .i64 0, .int .i64 0, .int .i64 0, .int .i64 0, .int .i64 0, .int .i64 0, .int .i64 0, .slice none 0 0] rfl); generalize w3.setCells w.heap.size 0 [.int .i64 0, .int .i64 0, .int .i64 0, .int .i64 0, .int .i64 0, .int .i64 0, .int .i64 0, .slice none 0 0] = w4 at HB4 HG4 ⊢))
        (try simp only [Exit.inBlock, Exit.then])
        refine bodyPost_ret (parse_results HG4.out rfl _ rfl) rfl ?_
        refine ⟨HB4.out, .inr (.inr ⟨HT.out, ⟨⟨age, rest, girth, fa0, fa1, fa2, heal⟩, .slice ta tn tc, ts⟩, HFP.out, .inr ⟨by rw [HCE.out]; exact HNZ.out, by rw [HCE.out]; rfl⟩⟩)⟩
  · have hkp : (0 : Int) < (k : Int) + 1 := by omega
    have HR0 := Lib.hid hr
    clear HF hr hlt
    clear HONE
    have HONE := Lib.hid (show (#[.int .i64 0, .int .i64 0, .int .i64 0, .int .i64 0, .int .i64 0, .int .i64 0, .int .i64 0, .slice none 0 0] : Array Value).all (·.oneCell') = true from by simp [Value.oneCell'])
    go_wp2_with (((with_reducible refine at_storeT 27 (.tmp 2) (.tmp 22) ?_); go_must (refine wpList_store_mid rfl 27 (.tmp 2) (.tmp 22) rfl w.heap.size 0 #[.int .i64 0, .int .i64 0, .int .i64 0, .int .i64 0, .int .i64 0, .int .i64 0, .int .i64 0, .slice none 0 0] rfl rfl (Bkt.there HG2.out (o := 0) (n := 8) (Nat.le_of_ble_eq_true rfl)) forest_size HONE.out ?_); change wpList _ _ _ _ _ (w2.setCells w.heap.size 0 [.int .i64 0, .int .i64 0, .int .i64 0, .int .i64 0, .int .i64 0, .int .i64 0, .int .i64 0, .slice none 0 0]); have HB4 := Lib.hid (below_setCells HB2.out (Nat.le_refl _) [.int .i64 0, .int .i64 0, .int .i64 0, .int .i64 0, .int .i64 0, .int .i64 0, .int .i64 0, .slice none 0 0] 0); have HG4 := Lib.hid (Bkt.stored (old := [.int .i64 age, .int .i64 rest, .int .i64 girth, .int .i64 fa0, .int .i64 fa1, .int .i64 fa2, .int .i64 heal, .slice ta tn tc]) HG2.out [.int .i64 0, .int .i64 0, .int .i64 0, .int .i64 0, .int .i64 0, .int .i64 0, .int .i64 0, .slice none 0 0] rfl); generalize w2.setCells w.heap.size 0 [.int .i64 0, .int .i64 0, .int .i64 0, .int .i64 0, .int .i64 0, .int .i64 0, .int .i64 0, .slice none 0 0] = w4 at HB4 HG4 ⊢))
    (try simp only [Exit.inBlock, Exit.then])
    refine bodyPost_ret (parse_results HG4.out rfl _ rfl) rfl ?_
    exact ⟨HB4.out, .inr (.inl ⟨HT.out, k + 1, HR0.out, by simp [zeroForest]⟩)⟩

theorem parse_calls (t : List UInt8) (ht : t.length < 9000000000000000000) (w : World) (hL : Libs w) : Calls Tryz.prog 9 #[.string (str t)] w (ParseDone t w) := by
  by_cases h : t.length ≤ 60000
  · exact parse_short t h w hL
  · exact parse_long t (by omega) ht w
end Go.Proofs.YtnoofdjlocadbaaGreatDoor
