/- A region whose last operations come up one after the other behind all the others, which only read and whose callees leave what was there: one walk in the order of the text, then the last operations. -/
import Derived.Test.YtdpockkfmdkbhaaSplit
import Derived.Lib.QuietBelow
namespace Go.Proofs.Ytdpockkfmdkbhaa
open Go.RowKit Go.Shelf Go.Sort

theorem region_split_below {P : Program} {id : Nat} {Q : Exit → Act → World → Prop} {a : Act} {w : World} {l : List Oper} (n : Nat) (hm : P.follows .mixedOrders = true) (hB : splitB .any l.toArray n = true) (hL : Region.lexB .any (l.take n).toArray = true)
    (h : wpQuiet P (l.take n).toArray (fun w' => ∃ p : Regrown, w' = grow (redrawn w p.d) p.os) (fun a' => ∀ w', (∃ p : Regrown, w' = grow (redrawn w p.d) p.os) → wpList P l.toArray Q (l.drop n) a' w') (l.take n) a) : (Code.region id l.toArray true).wp P Q a w := by
  refine wp_region_any hm ?_
  have hB' := hB
  simp only [splitB, Bool.and_eq_true, decide_eq_true_eq, List.size_toArray] at hB'
  have hn : n < l.length := hB'.1.1.1.1
  have e : Array.replicate n false ++ Array.replicate (l.length - n) false = Array.replicate l.toArray.size false := by
    rw [List.size_toArray]
    conv => rhs; rw [show l.length = n + (l.length - n) by omega]
    exact Array.replicate_append_replicate
  have inv0 : HeadInv .any l.toArray n (Array.replicate n false ++ Array.replicate (l.length - n) false) := by
    rw [e]
    exact ⟨by simp, fun j oj _ hl => (by rw [getD_replicate_false] at hl; cases hl), fun t _ ht => getD_in (by simpa using ht) (getD_replicate_false _ _)⟩
  have hq : wpAny P .any (l.take n).toArray (tailPost P l.toArray Q (l.drop n)) n (Array.replicate n false) a w.drew := by
    simp only [Region.lexB, Bool.and_eq_true] at hL
    have hlen : (l.take n).length = n := by simp; omega
    have hx := wpAnyQ_lex (P := P) (C := fun w' => ∃ p : Regrown, w' = grow (redrawn w p.d) p.os) (md := .any) hL.1 (l.take n) 0 (Array.replicate n false) a (by simp) (by simpa [hlen] using hL.2) h
    rw [hlen] at hx
    exact wpAny_of_quiet (Q := fun a' => ∀ w', (∃ p : Regrown, w' = grow (redrawn w p.d) p.os) → wpList P l.toArray Q (l.drop n) a' w') (fun _ w' hw' h => h w' hw') _ _ _ _ ⟨⟨w.drawn + 1, #[]⟩, by rw [grow_empty]; rfl⟩ hx
  have := wpAny_split (P := P) (Q := Q) hB n (Array.replicate n false) a w.drew (by simp) inv0 hq
  rw [e, show n + (l.length - n) = l.toArray.size by simp; omega] at this
  exact this
end Go.Proofs.Ytdpockkfmdkbhaa
