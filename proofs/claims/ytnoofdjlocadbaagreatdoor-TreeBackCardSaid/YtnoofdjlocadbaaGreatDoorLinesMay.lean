/- terms.Lines: the iterator that it hands back, as a loop over it wants it. -/
import Derived.Test.YtnoofdjlocadbaaGreatDoorLines
namespace Go.Proofs.YtnoofdjlocadbaaGreatDoor
open Go Go.RowKit Go.Lib

theorem lines_may (n : Nat) (hn : 1 ≤ n) (g : Nat) (t : List UInt8) (ht : t.length < 1000000000) (m : Int) (w0 : World) (hg : w0.cell? ⟨g, 0, none⟩ = some (.string (str t))) (h1 : w0.cell? ⟨1, 0, none⟩ = some (.int .i64 m)) :
    SeqMay Fence.wide n Tryz.prog 87 #[.pointer (some ⟨g, 0, none⟩)] (HasLine (linesL t) w0.heap.size) (KeptBox g) (linesL t).length w0 := fun l J Jp W hW hJ hY hJ0 =>
  lines_in n hn l g t ht m w0.heap.size J Jp hJ hY W hW.size ((hW.cell (block_lt_of_cell hg)).trans hg) ((hW.cell (block_lt_of_cell h1)).trans h1) hJ0

theorem kept_trans {g : Nat} {A B C : World} (h : KeptBox g A B) (h' : KeptBox g B C) : KeptBox g A C := ⟨Nat.le_trans h.1 h'.1, h'.2.1.trans h.2.1, h'.2.2.trans h.2.2⟩
theorem kept_put {g : Nat} (W : World) (l : Nat) (o : Obj) (hg : g ≠ l) (h1 : 1 ≠ l) : KeptBox g W (W.putObj l o) := ⟨by simp, World.putObj_heap_other hg, World.putObj_heap_other h1⟩

theorem has_args {L : List (List UInt8)} {B0 k : Nat} {args : Array Value} {W : World} (h : HasLine L B0 k args W) : args.size = 2 := by
  obtain ⟨_, _, _, _, rfl, _⟩ := h; rfl
theorem has_own (L : List (List UInt8)) (B0 B k : Nat) (args : Array Value) : OwnFrom B (fun (_ : Unit) W => HasLine L B0 k args W) := by
  intro s X Y row h hg hr
  obtain ⟨line, p, h1, h2, h3, h4, cs, h5⟩ := h
  have hb := hg.block p (Array.getElem?_eq_some_iff.1 h5).1 (fun e => by
    obtain ⟨_, o, ho, hoc⟩ := hr p e.symm
    rw [h5] at ho
    cases ho
    cases hoc)
  exact ⟨line, p, h1, h2, h3, fun j f hj => (World.cell?_of_block (w := X) (a := ⟨p, j, none⟩) hb).trans (h4 j f hj), cs, hb.trans h5⟩

set_option maxRecDepth 100000 in
theorem lines_calls (s : ByteArray) (w : World) :
    Calls Tryz.prog 52 #[.string s] w fun e w' => e = .returned (.func (.func 87) #[] #[.pointer (some ⟨w.heap.size, 0, none⟩)]) ∧ w' = w.alloc (.cells #[.string s] 9) := by
  have hmf : ∀ (fn : Fn) (first cap : Array Value) (w : World), (Instr.makeFunc fn first cap).run Tryz.prog w = .ok (.func fn first cap) w := fun _ _ _ _ => rfl
  go_enter Tryz.func52, Tryz.ntmps52
  go_wp2
  go_ret
  exact ⟨rfl, rfl⟩
end Go.Proofs.YtnoofdjlocadbaaGreatDoor
