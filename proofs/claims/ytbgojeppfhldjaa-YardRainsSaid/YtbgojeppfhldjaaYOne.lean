/- One deed entered: what the book says behind it. -/
import Derived.Test.YtbgojeppfhldjaaYEnter
import Derived.Test.YtbgojeppfhldjaaYDeedRest
import Derived.Test.YtbgojeppfhldjaaYDeedBoil
import Derived.Test.YtbgojeppfhldjaaYDeedScrape
import Derived.Test.YtbgojeppfhldjaaYDeedSell
import Derived.Test.YtbgojeppfhldjaaYDeedWeigh
import Derived.Test.YtbgojeppfhldjaaYDeedPile
import Derived.Test.YtbgojeppfhldjaaYDeedSplit
import Derived.Test.YtbgojeppfhldjaaYMergeNo
import Derived.Test.YtbgojeppfhldjaaYDeedMerge
namespace Go.Proofs.Ytbgojeppfhldjaa
open Go Go.RowKit Go.Shelf Yd

/-! ### Places -/
def stOf (l : List SRow) (c : Yd.Acc) : St Code := ⟨l.map (·.1), c⟩
theorem ix_at {l : List SRow} {c : Code} {k : Nat} (h : ixOf l c = some k) : at_ (l.map (·.1)) c = k ∧ k < (l.map (·.1)).length := by
  obtain ⟨h1, h2, h3⟩ := List.findIdx?_eq_some_iff_getElem.1 h
  refine ⟨?_, by simpa using h1⟩
  unfold at_
  rw [List.findIdx_map]
  rw [List.findIdx_eq h1]
  exact ⟨h2, fun j hj => by simpa using h3 j hj⟩
theorem ix_none {l : List SRow} {c : Code} (h : ixOf l c = none) : ¬ at_ (l.map (·.1)) c < (l.map (·.1)).length := fun hlt => by
  obtain ⟨x, hx, hc⟩ := at_lt hlt
  obtain ⟨p, hp, rfl⟩ := List.mem_map.1 (List.mem_of_getElem? hx)
  exact ixOf_none h p hp hc
theorem row_map {l : List SRow} {k : Nat} {p : SRow} (h : l[k]? = some p) : (l.map (·.1))[k]? = some p.1 := by rw [List.getElem?_map, h]; rfl

/-! ### What a deed leaves -/
theorem done_kept {w : World} {C : Nat → Prop} {B : Nat} {bef aft : Int} {l : List SRow} {c : Yd.Acc} {made : Int} {N : Nat} {kv tv : Value} {m : Nat} {k : Nat} {x : Stk Code} {v : Value} {e : Ending} {w' : World}
    (h : e = .returned (.tuple #[]) ∧ Beside C w w' ∧ Book w' C B bef aft (l.set k (x, v)) c made N kv tv m) : DeedDone w C B bef aft ((l.map (·.1)).set k x) c made N m e w' :=
  ⟨h.1, h.2.1, _, kv, tv, by simp [List.map_set], h.2.2.wide (fun _ hk => .inl hk)⟩
theorem done_dropped {w : World} {C : Nat → Prop} {B : Nat} {bef aft : Int} {l : List SRow} {c : Yd.Acc} {made : Int} {N : Nat} {m : Nat} {k : Nat} {e : Ending} {w' : World}
    (h : DropDone w C B bef aft (l.eraseIdx k) c made N m e w') : DeedDone w C B bef aft ((l.map (·.1)).eraseIdx k) c made N m e w' := by
  obtain ⟨h1, h2, kv', tv', h3⟩ := h
  exact ⟨h1, h2, _, kv', tv', map_erase _ _ _, h3.wide (fun _ hk => .inl hk)⟩

/-- A deed entered: the book behind it, or its fault. -/
def EnterDone (w : World) (C : Nat → Prop) (B : Nat) (bef aft : Int) (s : St Code) (d : Deed Code) (i : Nat) (N m : Nat) (e : Ending) (w' : World) : Prop :=
  (fault bef aft s d = 0 ∧ ∃ N', N' ≤ N + 20 ∧ Entered w C B bef aft (deed s d i).stacks (deed s d i).acc ((i : Int) + 1) N' m e w') ∨ (fault bef aft s d ≠ 0 ∧ e = .returned (.int .i64 (fault bef aft s d)) ∧ Below w.heap.size w w')

section
variable {w : World} {C : Nat → Prop} {B : Nat} {bef aft : Int} {l : List SRow} {c : Yd.Acc} {i : Nat} {N : Nat} {kv tv : Value} {m : Nat}
theorem enter_ok_of (h : Book w C B bef aft l c i N kv tv m) (hC : ∀ k, C k → k < w.heap.size) (hi : i ≤ 1000) (k : Nat) (hk : k < 8) (kind day : Int) (hkd : kind = ((k + 1 : Nat) : Int)) (code other : Code) (al ah bl bh : Int) (N' : Nat) (hN' : N' ≤ N + 20)
    (hen : ∀ args w, (callFunc (fDo (k + 1)) args).run Try.prog w = .ok (.enter (fDo (k + 1)) args) w) (hf : fault bef aft (stOf l c) ⟨kind, day, code, other, ⟨al, ah⟩, ⟨bl, bh⟩⟩ = 0)
    {ss : List (Stk Code)} {c' : Yd.Acc} (hd : deed (stOf l c) ⟨kind, day, code, other, ⟨al, ah⟩, ⟨bl, bh⟩⟩ i = ⟨ss, c'⟩)
    (hdo : ∀ W, Book W C B bef aft l c i N kv tv m → (∀ k, C k → k < W.heap.size) → Calls Try.prog (fDo (k + 1)) #[.pointer (some ⟨B, 0, none⟩), .agg #[.int .i64 kind, .int .i64 day, .string code, .string other, .int .i64 al, .int .i64 ah, .int .i64 bl, .int .i64 bh]] W (DeedDone W C B bef aft ss c' i N' m)) :
    Calls Try.prog 26 #[.pointer (some ⟨B, 0, none⟩), .agg #[.int .i64 kind, .int .i64 day, .string code, .string other, .int .i64 al, .int .i64 ah, .int .i64 bl, .int .i64 bh]] w (EnterDone w C B bef aft (stOf l c) ⟨kind, day, code, other, ⟨al, ah⟩, ⟨bl, bh⟩⟩ i N m) :=
  (enter_done h hC k hk kind day hkd code other al ah bl bh ⟨by omega, by omega⟩ hen hdo).mono fun e w' he => .inl ⟨hf, N', hN', by rw [hd]; exact he⟩
theorem enter_no_of (h : Book w C B bef aft l c i N kv tv m) (hC : ∀ k, C k → k < w.heap.size) (k : Nat) (hk : k < 8) (kind day : Int) (hkd : kind = ((k + 1 : Nat) : Int)) (code other : Code) (al ah bl bh : Int)
    (hen : ∀ args w, (callFunc (fDo (k + 1)) args).run Try.prog w = .ok (.enter (fDo (k + 1)) args) w) (f : Int) (hf : fault bef aft (stOf l c) ⟨kind, day, code, other, ⟨al, ah⟩, ⟨bl, bh⟩⟩ = f) (h0 : f ≠ 0)
    (hdo : ∀ W, Book W C B bef aft l c i N kv tv m → (∀ k, C k → k < W.heap.size) → Calls Try.prog (fDo (k + 1)) #[.pointer (some ⟨B, 0, none⟩), .agg #[.int .i64 kind, .int .i64 day, .string code, .string other, .int .i64 al, .int .i64 ah, .int .i64 bl, .int .i64 bh]] W fun e w' => e = .panicked (faulty f) ∧ Below W.heap.size W w') :
    Calls Try.prog 26 #[.pointer (some ⟨B, 0, none⟩), .agg #[.int .i64 kind, .int .i64 day, .string code, .string other, .int .i64 al, .int .i64 ah, .int .i64 bl, .int .i64 bh]] w (EnterDone w C B bef aft (stOf l c) ⟨kind, day, code, other, ⟨al, ah⟩, ⟨bl, bh⟩⟩ i N m) := by
  subst hf
  exact (enter_fault h hC k hk kind day hkd code other al ah bl bh _ hen hdo).mono fun e w' he => .inr ⟨h0, he.1, he.2⟩

/-- What the deeds' walks ask of a book's row. -/
structure RowFit (V : Int) (i : Nat) (x : Stk Code) : Prop where
  dry : x.dry.Up V
  water : x.water.Up V
  piled : 0 ≤ x.piled ∧ x.piled ≤ 2000
  boiled : -1 ≤ x.boiled ∧ x.boiled ≤ 2000
  asc : Asc x.src
  src : ∀ p ∈ x.src, 0 ≤ p ∧ p < (i : Int)

/-- A deed about a stack that is not there. -/
theorem fault_absent {bef aft : Int} {s : St Code} {d : Deed Code} (hk : d.kind ≠ 1) (h : ¬ at_ s.stacks d.stack < s.stacks.length) : fault bef aft s d = 1 := by
  unfold fault
  rw [if_pos (.inl (by simp [h, hk]))]

theorem fv_slice (h : Book w C B bef aft l c i N kv tv m) {k : Nat} {p : SRow} (hp : l[k]? = some p) : ∃ fa fn fc, p.2 = .slice fa fn fc := row_slice (h.froms p (List.mem_of_getElem? hp))

theorem rested_iff {aft day : Int} {x : Stk Code} (h : -1 ≤ x.boiled) : restedB aft x day = true ↔ ¬ (x.boiled < 0 ∨ day - x.boiled < aft) := by
  unfold restedB
  simp only [Bool.and_eq_true, Bool.not_eq_true', beq_eq_false_iff_ne, decide_eq_true_eq]
  omega
theorem done_of {w : World} {C : Nat → Prop} {B : Nat} {bef aft : Int} {ss ss' : List (Stk Code)} {c : Yd.Acc} {made : Int} {N m : Nat} {e : Ending} {w' : World} (h : DeedDone w C B bef aft ss c made N m e w') (hs : ss = ss') : DeedDone w C B bef aft ss' c made N m e w' := hs ▸ h

theorem fault_found {be af : Int} {s : St Code} {d : Deed Code} {k : Nat} {x : Stk Code} (h1 : d.kind ≠ 1) (ha : at_ s.stacks d.stack = k) (hl : k < s.stacks.length) (hx : s.stacks[k]? = some x) (h5 : d.kind ≠ 5) (h6 : d.kind ≠ 6) :
    fault be af s d = (if d.kind = 3 ∧ d.day - x.piled < be then 3 else if (d.kind = 4 ∨ d.kind = 8) ∧ (x.boiled < 0 ∨ d.day - x.boiled < af) then 3 else if d.kind = 4 ∧ x.dry.hi < d.a.lo then 4
      else if d.kind = 7 ∧ ((x.dry.weighed x.water d.a).hi < (x.dry.weighed x.water d.a).lo ∨ (x.water.weighed x.dry d.a).hi < (x.water.weighed x.dry d.a).lo) then 5 else 0) := by
  unfold fault
  rw [ha, if_neg (by simp [h1, h5, h6, hl]), if_neg (by simp [h1, h5]), hx]

set_option maxHeartbeats 1000000 in
theorem one_rest (h : Book w C B bef aft l c i N kv tv m) (hC : ∀ k, C k → k < w.heap.size) (hi : i ≤ 40) (V : Int) (hV : V ≤ 2000000000000000) (hs : SmallStV V i (stOf l c)) (_hN : N + 40 ≤ 1000000) (day : Int) (code other : Code) (al ah bl bh : Int) (fd : Fits (⟨2, day, code, other, ⟨al, ah⟩, ⟨bl, bh⟩⟩ : Deed Code)) (hsz : code.size ≤ maxLen) (_hso : other.size ≤ maxLen) :
    Calls Try.prog 26 #[.pointer (some ⟨B, 0, none⟩), .agg #[.int .i64 2, .int .i64 day, .string code, .string other, .int .i64 al, .int .i64 ah, .int .i64 bl, .int .i64 bh]] w (EnterDone w C B bef aft (stOf l c) ⟨2, day, code, other, ⟨al, ah⟩, ⟨bl, bh⟩⟩ i N m) := by
  have hen : ∀ args w, (callFunc (fDo (1 + 1)) args).run Try.prog w = .ok (.enter (fDo (1 + 1)) args) w := enters_of Try.func62 (by kernel_rfl) rfl
  cases hk : ixOf l code with
  | none => exact enter_no_of h hC 1 (by omega) 2 day rfl code other al ah bl bh hen 1 (fault_absent (by simp) (ix_none hk)) (by omega) fun W hW hCW => rest_no hW 2 day code other al ah bl bh hsz hCW hk
  | some k =>
    obtain ⟨p, hp, hpc⟩ := ixOf_some hk
    obtain ⟨⟨c0, ⟨dl, dh⟩, ⟨wl, wh⟩, pil, boi, src⟩, v⟩ := p
    obtain ⟨fa, fn, fc, hv⟩ := fv_slice h hp
    simp only at hpc hv
    subst hpc hv
    obtain ⟨ha, hl0⟩ := ix_at hk
    have hl : k < l.length := by simpa using hl0
    have hx := row_map hp
    have sx := hs.stacks _ (List.mem_of_getElem? hx)
    have e1 := sx.piled
    have e2 := sx.boiled
    simp only at e1 e2
    exact enter_ok_of h hC (by omega) 1 (by omega) 2 day rfl c0 other al ah bl bh (N) (by omega) hen (by rw [fault_found (k := k) (by simp) ha hl0 hx (by simp) (by simp), if_neg (by simp), if_neg (by simp), if_neg (by simp), if_neg (by simp)]) (by simp [deed, stOf, ha, hx, Stk.done, Acc.done, after]) fun W hW hCW => (rest_ok hW 2 day c0 other al ah bl bh hsz hCW dl dh wl wh pil boi src fa fn fc V hV hk hp sx.water (up_of fd.fine (.inl rfl)) hs.acc.vapour).mono fun e w' he => done_kept he

set_option maxHeartbeats 1000000 in
theorem one_boil (h : Book w C B bef aft l c i N kv tv m) (hC : ∀ k, C k → k < w.heap.size) (hi : i ≤ 40) (V : Int) (hV : V ≤ 2000000000000000) (hs : SmallStV V i (stOf l c)) (_hN : N + 40 ≤ 1000000) (day : Int) (code other : Code) (al ah bl bh : Int) (fd : Fits (⟨3, day, code, other, ⟨al, ah⟩, ⟨bl, bh⟩⟩ : Deed Code)) (hsz : code.size ≤ maxLen) (_hso : other.size ≤ maxLen) :
    Calls Try.prog 26 #[.pointer (some ⟨B, 0, none⟩), .agg #[.int .i64 3, .int .i64 day, .string code, .string other, .int .i64 al, .int .i64 ah, .int .i64 bl, .int .i64 bh]] w (EnterDone w C B bef aft (stOf l c) ⟨3, day, code, other, ⟨al, ah⟩, ⟨bl, bh⟩⟩ i N m) := by
  have hen : ∀ args w, (callFunc (fDo (2 + 1)) args).run Try.prog w = .ok (.enter (fDo (2 + 1)) args) w := enters_of Try.func63 (by kernel_rfl) rfl
  cases hk : ixOf l code with
  | none => exact enter_no_of h hC 2 (by omega) 3 day rfl code other al ah bl bh hen 1 (fault_absent (by simp) (ix_none hk)) (by omega) fun W hW hCW => boil_no hW 3 day code other al ah bl bh hsz hCW hk
  | some k =>
    obtain ⟨p, hp, hpc⟩ := ixOf_some hk
    obtain ⟨⟨c0, ⟨dl, dh⟩, ⟨wl, wh⟩, pil, boi, src⟩, v⟩ := p
    obtain ⟨fa, fn, fc, hv⟩ := fv_slice h hp
    simp only at hpc hv
    subst hpc hv
    obtain ⟨ha, hl0⟩ := ix_at hk
    have hl : k < l.length := by simpa using hl0
    have hx := row_map hp
    have sx := hs.stacks _ (List.mem_of_getElem? hx)
    have e1 := sx.piled
    have e2 := sx.boiled
    simp only at e1 e2
    by_cases hb : bef ≤ day - pil
    · exact enter_ok_of h hC (by omega) 2 (by omega) 3 day rfl c0 other al ah bl bh (N) (by omega) hen (by rw [fault_found (k := k) (by simp) ha hl0 hx (by simp) (by simp), if_neg (fun h => absurd h.2 (by simp only; omega)), if_neg (by simp), if_neg (by simp), if_neg (by simp)]) (by simp [deed, stOf, ha, hx, Stk.done, Acc.done, after]) fun W hW hCW => (boil_ok hW 3 day c0 other al ah bl bh hsz hCW dl dh wl wh pil boi src fa fn fc V hV hk hp fd.day e1 hb sx.dry sx.water (up_of fd.fine (.inr (.inl rfl))) ⟨fd.fine.b.1, fd.fine.b.2, fd.soak rfl⟩ hs.acc.broth hs.acc.soaked).mono fun e w' he => done_kept he
    · exact enter_no_of h hC 2 (by omega) 3 day rfl c0 other al ah bl bh hen 3 (by rw [fault_found (k := k) (by simp) ha hl0 hx (by simp) (by simp), if_pos ⟨rfl, by simp only; omega⟩]) (by omega) fun W hW hCW => boil_soon hW 3 day c0 other al ah bl bh hsz hCW dl dh wl wh pil boi src fa fn fc hk hp fd.day e1 hb

set_option maxHeartbeats 1000000 in
theorem one_scrape (h : Book w C B bef aft l c i N kv tv m) (hC : ∀ k, C k → k < w.heap.size) (hi : i ≤ 40) (V : Int) (hV : V ≤ 2000000000000000) (hs : SmallStV V i (stOf l c)) (_hN : N + 40 ≤ 1000000) (day : Int) (code other : Code) (al ah bl bh : Int) (fd : Fits (⟨4, day, code, other, ⟨al, ah⟩, ⟨bl, bh⟩⟩ : Deed Code)) (hsz : code.size ≤ maxLen) (_hso : other.size ≤ maxLen) :
    Calls Try.prog 26 #[.pointer (some ⟨B, 0, none⟩), .agg #[.int .i64 4, .int .i64 day, .string code, .string other, .int .i64 al, .int .i64 ah, .int .i64 bl, .int .i64 bh]] w (EnterDone w C B bef aft (stOf l c) ⟨4, day, code, other, ⟨al, ah⟩, ⟨bl, bh⟩⟩ i N m) := by
  have hen : ∀ args w, (callFunc (fDo (3 + 1)) args).run Try.prog w = .ok (.enter (fDo (3 + 1)) args) w := enters_of Try.func64 (by kernel_rfl) rfl
  cases hk : ixOf l code with
  | none => exact enter_no_of h hC 3 (by omega) 4 day rfl code other al ah bl bh hen 1 (fault_absent (by simp) (ix_none hk)) (by omega) fun W hW hCW => scrape_no hW 4 day code other al ah bl bh hsz hCW hk
  | some k =>
    obtain ⟨p, hp, hpc⟩ := ixOf_some hk
    obtain ⟨⟨c0, ⟨dl, dh⟩, ⟨wl, wh⟩, pil, boi, src⟩, v⟩ := p
    obtain ⟨fa, fn, fc, hv⟩ := fv_slice h hp
    simp only at hpc hv
    subst hpc hv
    obtain ⟨ha, hl0⟩ := ix_at hk
    have hl : k < l.length := by simpa using hl0
    have hx := row_map hp
    have sx := hs.stacks _ (List.mem_of_getElem? hx)
    have e1 := sx.piled
    have e2 := sx.boiled
    simp only at e1 e2
    by_cases hb : restedB aft (⟨c0, ⟨dl, dh⟩, ⟨wl, wh⟩, pil, boi, src⟩ : Stk Code) day = true
    · have hb' := (rested_iff e2.1).1 hb
      simp only at hb'
      by_cases hk4 : al ≤ dh
      · exact enter_ok_of h hC (by omega) 3 (by omega) 4 day rfl c0 other al ah bl bh (N) (by omega) hen (by rw [fault_found (k := k) (by simp) ha hl0 hx (by simp) (by simp), if_neg (by simp), if_neg (fun h => hb' h.2), if_neg (fun h => absurd h.2 (by simp only; omega)), if_neg (by simp)]) (by simp [deed, stOf, ha, hx, Stk.done, Acc.done, after]) fun W hW hCW => (scrape_ok hW 4 day c0 other al ah bl bh hsz hCW dl dh wl wh pil boi src fa fn fc V hV hk hp fd.day e2 hb hk4 sx.dry ⟨fd.fine.a.1, fd.fine.a.2, fd.a8⟩ hs.acc.dust).mono fun e w' he => done_kept he
      · exact enter_no_of h hC 3 (by omega) 4 day rfl c0 other al ah bl bh hen 4 (by rw [fault_found (k := k) (by simp) ha hl0 hx (by simp) (by simp), if_neg (by simp), if_neg (fun h => hb' h.2), if_pos ⟨rfl, by simp only; omega⟩]) (by omega) fun W hW hCW => scrape_bark hW 4 day c0 other al ah bl bh hsz hCW dl dh wl wh pil boi src fa fn fc hk hp fd.day e2 hb hk4
    · have hb' : (boi < 0 ∨ day - boi < aft) := Classical.not_not.1 fun hh => hb ((rested_iff e2.1).2 hh)
      have hb2 : restedB aft (⟨c0, ⟨dl, dh⟩, ⟨wl, wh⟩, pil, boi, src⟩ : Stk Code) day = false := by simpa using hb
      exact enter_no_of h hC 3 (by omega) 4 day rfl c0 other al ah bl bh hen 3 (by rw [fault_found (k := k) (by simp) ha hl0 hx (by simp) (by simp), if_neg (by simp), if_pos ⟨by simp, hb'⟩]) (by omega) fun W hW hCW => scrape_soon hW 4 day c0 other al ah bl bh hsz hCW dl dh wl wh pil boi src fa fn fc hk hp fd.day e2 hb2

set_option maxHeartbeats 1000000 in
theorem one_sell (h : Book w C B bef aft l c i N kv tv m) (hC : ∀ k, C k → k < w.heap.size) (hi : i ≤ 40) (V : Int) (hV : V ≤ 2000000000000000) (hs : SmallStV V i (stOf l c)) (_hN : N + 40 ≤ 1000000) (day : Int) (code other : Code) (al ah bl bh : Int) (fd : Fits (⟨8, day, code, other, ⟨al, ah⟩, ⟨bl, bh⟩⟩ : Deed Code)) (hsz : code.size ≤ maxLen) (_hso : other.size ≤ maxLen) :
    Calls Try.prog 26 #[.pointer (some ⟨B, 0, none⟩), .agg #[.int .i64 8, .int .i64 day, .string code, .string other, .int .i64 al, .int .i64 ah, .int .i64 bl, .int .i64 bh]] w (EnterDone w C B bef aft (stOf l c) ⟨8, day, code, other, ⟨al, ah⟩, ⟨bl, bh⟩⟩ i N m) := by
  have hen : ∀ args w, (callFunc (fDo (7 + 1)) args).run Try.prog w = .ok (.enter (fDo (7 + 1)) args) w := enters_of Try.func68 (by kernel_rfl) rfl
  cases hk : ixOf l code with
  | none => exact enter_no_of h hC 7 (by omega) 8 day rfl code other al ah bl bh hen 1 (fault_absent (by simp) (ix_none hk)) (by omega) fun W hW hCW => sell_no hW 8 day code other al ah bl bh hsz hCW hk
  | some k =>
    obtain ⟨p, hp, hpc⟩ := ixOf_some hk
    obtain ⟨⟨c0, ⟨dl, dh⟩, ⟨wl, wh⟩, pil, boi, src⟩, v⟩ := p
    obtain ⟨fa, fn, fc, hv⟩ := fv_slice h hp
    simp only at hpc hv
    subst hpc hv
    obtain ⟨ha, hl0⟩ := ix_at hk
    have hl : k < l.length := by simpa using hl0
    have hx := row_map hp
    have sx := hs.stacks _ (List.mem_of_getElem? hx)
    have e1 := sx.piled
    have e2 := sx.boiled
    simp only at e1 e2
    by_cases hb : restedB aft (⟨c0, ⟨dl, dh⟩, ⟨wl, wh⟩, pil, boi, src⟩ : Stk Code) day = true
    · have hb' := (rested_iff e2.1).1 hb
      simp only at hb'
      have hset : ((l.map (·.1)).set k (⟨c0, ⟨dl, dh⟩, ⟨wl, wh⟩, pil, boi, src⟩ : Stk Code)) = l.map (·.1) := List.ext_getElem? fun j => by
        by_cases e : k = j
        · subst e; rw [List.getElem?_set_self hl0]; exact hx.symm
        · rw [List.getElem?_set_ne e]
      exact enter_ok_of h hC (by omega) 7 (by omega) 8 day rfl c0 other al ah bl bh (N + 10) (by omega) hen (by rw [fault_found (k := k) (by simp) ha hl0 hx (by simp) (by simp), if_neg (by simp), if_neg (fun h => hb' h.2), if_neg (by simp), if_neg (by simp)]) (by simp [deed, stOf, ha, hx, Stk.done, Acc.done, after, hset]) fun W hW hCW => (sell_ok hW 8 day c0 other al ah bl bh hsz hCW dl dh wl wh pil boi src fa fn fc V hV hk hp fd.day e2 hb sx.dry sx.water hs.acc.soldDry hs.acc.soldWater (by omega)).mono fun e w' he => done_dropped he
    · have hb' : (boi < 0 ∨ day - boi < aft) := Classical.not_not.1 fun hh => hb ((rested_iff e2.1).2 hh)
      have hb2 : restedB aft (⟨c0, ⟨dl, dh⟩, ⟨wl, wh⟩, pil, boi, src⟩ : Stk Code) day = false := by simpa using hb
      exact enter_no_of h hC 7 (by omega) 8 day rfl c0 other al ah bl bh hen 3 (by rw [fault_found (k := k) (by simp) ha hl0 hx (by simp) (by simp), if_neg (by simp), if_pos ⟨by simp, hb'⟩]) (by omega) fun W hW hCW => sell_soon hW 8 day c0 other al ah bl bh hsz hCW dl dh wl wh pil boi src fa fn fc hk hp fd.day e2 hb2

set_option maxHeartbeats 1000000 in
theorem one_weigh (h : Book w C B bef aft l c i N kv tv m) (hC : ∀ k, C k → k < w.heap.size) (hi : i ≤ 40) (V : Int) (hV : V ≤ 2000000000000000) (hs : SmallStV V i (stOf l c)) (_hN : N + 40 ≤ 1000000) (day : Int) (code other : Code) (al ah bl bh : Int) (fd : Fits (⟨7, day, code, other, ⟨al, ah⟩, ⟨bl, bh⟩⟩ : Deed Code)) (hsz : code.size ≤ maxLen) (_hso : other.size ≤ maxLen) :
    Calls Try.prog 26 #[.pointer (some ⟨B, 0, none⟩), .agg #[.int .i64 7, .int .i64 day, .string code, .string other, .int .i64 al, .int .i64 ah, .int .i64 bl, .int .i64 bh]] w (EnterDone w C B bef aft (stOf l c) ⟨7, day, code, other, ⟨al, ah⟩, ⟨bl, bh⟩⟩ i N m) := by
  have hen : ∀ args w, (callFunc (fDo (6 + 1)) args).run Try.prog w = .ok (.enter (fDo (6 + 1)) args) w := enters_of Try.func67 (by kernel_rfl) rfl
  cases hk : ixOf l code with
  | none => exact enter_no_of h hC 6 (by omega) 7 day rfl code other al ah bl bh hen 1 (fault_absent (by simp) (ix_none hk)) (by omega) fun W hW hCW => weigh_no hW 7 day code other al ah bl bh hsz hCW hk
  | some k =>
    obtain ⟨p, hp, hpc⟩ := ixOf_some hk
    obtain ⟨⟨c0, ⟨dl, dh⟩, ⟨wl, wh⟩, pil, boi, src⟩, v⟩ := p
    obtain ⟨fa, fn, fc, hv⟩ := fv_slice h hp
    simp only at hpc hv
    subst hpc hv
    obtain ⟨ha, hl0⟩ := ix_at hk
    have hl : k < l.length := by simpa using hl0
    have hx := row_map hp
    have sx := hs.stacks _ (List.mem_of_getElem? hx)
    have e1 := sx.piled
    have e2 := sx.boiled
    simp only at e1 e2
    by_cases h1 : (Bd.weighed ⟨dl, dh⟩ ⟨wl, wh⟩ ⟨al, ah⟩).lo ≤ (Bd.weighed ⟨dl, dh⟩ ⟨wl, wh⟩ ⟨al, ah⟩).hi
    · by_cases h2 : (Bd.weighed ⟨wl, wh⟩ ⟨dl, dh⟩ ⟨al, ah⟩).lo ≤ (Bd.weighed ⟨wl, wh⟩ ⟨dl, dh⟩ ⟨al, ah⟩).hi
      · exact enter_ok_of h hC (by omega) 6 (by omega) 7 day rfl c0 other al ah bl bh (N) (by omega) hen (by rw [fault_found (k := k) (by simp) ha hl0 hx (by simp) (by simp), if_neg (by simp), if_neg (by simp), if_neg (by simp), if_neg (fun h => h.2.elim (fun g => absurd h1 (Int.not_le.2 g)) (fun g => absurd h2 (Int.not_le.2 g)))]) (by simp [deed, stOf, ha, hx, Stk.done, Acc.done, after]) fun W hW hCW => (weigh_ok hW 7 day c0 other al ah bl bh hsz hCW dl dh wl wh pil boi src fa fn fc V hV hk hp sx.dry sx.water ⟨fd.fine.a.1, fd.fine.a.2, fd.a8⟩ h1 h2).mono fun e w' he => done_kept he
      · exact enter_no_of h hC 6 (by omega) 7 day rfl c0 other al ah bl bh hen 5 (by rw [fault_found (k := k) (by simp) ha hl0 hx (by simp) (by simp), if_neg (by simp), if_neg (by simp), if_neg (by simp), if_pos ⟨rfl, .inr (Int.not_le.1 h2)⟩]) (by omega) fun W hW hCW => weigh_scale2 hW 7 day c0 other al ah bl bh hsz hCW dl dh wl wh pil boi src fa fn fc V hV hk hp sx.dry sx.water ⟨fd.fine.a.1, fd.fine.a.2, fd.a8⟩ h1 h2
    · exact enter_no_of h hC 6 (by omega) 7 day rfl c0 other al ah bl bh hen 5 (by rw [fault_found (k := k) (by simp) ha hl0 hx (by simp) (by simp), if_neg (by simp), if_neg (by simp), if_neg (by simp), if_pos ⟨rfl, .inl (Int.not_le.1 h1)⟩]) (by omega) fun W hW hCW => weigh_scale1 hW 7 day c0 other al ah bl bh hsz hCW dl dh wl wh pil boi src fa fn fc V hV hk hp sx.dry sx.water ⟨fd.fine.a.1, fd.fine.a.2, fd.a8⟩ h1

set_option maxHeartbeats 1000000 in
theorem one_pile (h : Book w C B bef aft l c i N kv tv m) (hC : ∀ k, C k → k < w.heap.size) (hi : i ≤ 40) (V : Int) (_hV : V ≤ 2000000000000000) (_hs : SmallStV V i (stOf l c)) (_hN : N + 40 ≤ 1000000) (day : Int) (code other : Code) (al ah bl bh : Int) (_fd : Fits (⟨1, day, code, other, ⟨al, ah⟩, ⟨bl, bh⟩⟩ : Deed Code)) (hsz : code.size ≤ maxLen) (_hso : other.size ≤ maxLen) :
    Calls Try.prog 26 #[.pointer (some ⟨B, 0, none⟩), .agg #[.int .i64 1, .int .i64 day, .string code, .string other, .int .i64 al, .int .i64 ah, .int .i64 bl, .int .i64 bh]] w (EnterDone w C B bef aft (stOf l c) ⟨1, day, code, other, ⟨al, ah⟩, ⟨bl, bh⟩⟩ i N m) := by
  have hen : ∀ args w, (callFunc (fDo (0 + 1)) args).run Try.prog w = .ok (.enter (fDo (0 + 1)) args) w := enters_of Try.func61 (by kernel_rfl) rfl
  skip
  cases hk : ixOf l code with
  | some k =>
    obtain ⟨p, hp, hpc⟩ := ixOf_some hk
    obtain ⟨ha, hl0⟩ := ix_at hk
    have hl : k < l.length := by simpa using hl0
    exact enter_no_of h hC 0 (by omega) 1 day rfl code other al ah bl bh hen 1 (by simp [fault, stOf, ha, hl]) (by omega) fun W hW hCW => pile_found hW 1 day code other al ah bl bh hsz hCW hk hp
  | none =>
    have hn := ix_none hk
    have hn' : ¬ at_ (l.map (·.1)) code < l.length := by simpa using hn
    by_cases h8 : l.length < 8
    · exact enter_ok_of h hC (by omega) 0 (by omega) 1 day rfl code other al ah bl bh (N + 1) (by omega) hen (by simp [fault, stOf, hn', h8]; try omega) (by simp [deed, stOf, piledUp]) fun W hW hCW => pile_ok hW 1 day code other al ah bl bh hsz hCW hk h8 (by omega)
    · exact enter_no_of h hC 0 (by omega) 1 day rfl code other al ah bl bh hen 2 (by simp [fault, stOf, hn']; try omega) (by omega) fun W hW hCW => pile_full hW 1 day code other al ah bl bh hsz hCW hk (by omega)

set_option maxHeartbeats 1000000 in
theorem one_split (h : Book w C B bef aft l c i N kv tv m) (hC : ∀ k, C k → k < w.heap.size) (hi : i ≤ 40) (V : Int) (hV : V ≤ 2000000000000000) (hs : SmallStV V i (stOf l c)) (_hN : N + 40 ≤ 1000000) (day : Int) (code other : Code) (al ah bl bh : Int) (fd : Fits (⟨5, day, code, other, ⟨al, ah⟩, ⟨bl, bh⟩⟩ : Deed Code)) (hsz : code.size ≤ maxLen) (_hso : other.size ≤ maxLen) :
    Calls Try.prog 26 #[.pointer (some ⟨B, 0, none⟩), .agg #[.int .i64 5, .int .i64 day, .string code, .string other, .int .i64 al, .int .i64 ah, .int .i64 bl, .int .i64 bh]] w (EnterDone w C B bef aft (stOf l c) ⟨5, day, code, other, ⟨al, ah⟩, ⟨bl, bh⟩⟩ i N m) := by
  have hen : ∀ args w, (callFunc (fDo (4 + 1)) args).run Try.prog w = .ok (.enter (fDo (4 + 1)) args) w := enters_of Try.func65 (by kernel_rfl) rfl
  cases hk : ixOf l code with
  | none => exact enter_no_of h hC 4 (by omega) 5 day rfl code other al ah bl bh hen 1 (fault_absent (by simp) (ix_none hk)) (by omega) fun W hW hCW => split_no hW 5 day code other al ah bl bh hsz hCW hk
  | some k =>
    obtain ⟨p, hp, hpc⟩ := ixOf_some hk
    obtain ⟨⟨c0, ⟨dl, dh⟩, ⟨wl, wh⟩, pil, boi, src⟩, v⟩ := p
    obtain ⟨fa, fn, fc, hv⟩ := fv_slice h hp
    simp only at hpc hv
    subst hpc hv
    obtain ⟨ha, hl0⟩ := ix_at hk
    have hl : k < l.length := by simpa using hl0
    have hx := row_map hp
    have sx := hs.stacks _ (List.mem_of_getElem? hx)
    have e1 := sx.piled
    have e2 := sx.boiled
    simp only at e1 e2
    cases ho : ixOf l other with
    | some k2 =>
      obtain ⟨p2, hp2, _⟩ := ixOf_some ho
      obtain ⟨ha2, hl2⟩ := ix_at ho
      have hl2' : k2 < l.length := by simpa using hl2
      exact enter_no_of h hC 4 (by omega) 5 day rfl c0 other al ah bl bh hen 1 (by simp [fault, stOf, ha, hl, ha2, hl2']) (by omega) fun W hW hCW => split_found hW 5 day c0 other al ah bl bh hsz hCW dl dh wl wh pil boi src fa fn fc hk hp _hso ho hp2
    | none =>
      have hn := ix_none ho
      have hn' : ¬ at_ (l.map (·.1)) other < l.length := by simpa using hn
      have hne : ¬ other = c0 := fun e => by subst e; rw [hk] at ho; cases ho
      by_cases h8 : l.length < 8
      · exact enter_ok_of h hC (by omega) 4 (by omega) 5 day rfl c0 other al ah bl bh (N + 1) (by omega) hen (by simp [fault, stOf, ha, hl, hn', hne, h8]; try omega) (by simp [deed, stOf, ha, hx, Stk.done, Stk.cut, Acc.done, after]) fun W hW hCW => split_ok hW 5 day c0 other al ah bl bh hsz hCW dl dh wl wh pil boi src fa fn fc V hV hk hp _hso ho h8 (by omega) (List.length_pos_iff.2 (sx.some)) sx.dry sx.water (up_of fd.fine (.inr (.inr rfl)))
      · exact enter_no_of h hC 4 (by omega) 5 day rfl c0 other al ah bl bh hen 2 (by simp [fault, stOf, ha, hl, hn', hne]; try omega) (by omega) fun W hW hCW => split_full hW 5 day c0 other al ah bl bh hsz hCW dl dh wl wh pil boi src fa fn fc hk hp _hso ho (by omega)

set_option maxHeartbeats 1000000 in
theorem one_merge (h : Book w C B bef aft l c i N kv tv m) (hC : ∀ k, C k → k < w.heap.size) (hi : i ≤ 40) (V : Int) (hV : V ≤ 2000000000000000) (hs : SmallStV V i (stOf l c)) (_hN : N + 40 ≤ 1000000) (day : Int) (code other : Code) (al ah bl bh : Int) (fd : Fits (⟨6, day, code, other, ⟨al, ah⟩, ⟨bl, bh⟩⟩ : Deed Code)) (hsz : code.size ≤ maxLen) (_hso : other.size ≤ maxLen) :
    Calls Try.prog 26 #[.pointer (some ⟨B, 0, none⟩), .agg #[.int .i64 6, .int .i64 day, .string code, .string other, .int .i64 al, .int .i64 ah, .int .i64 bl, .int .i64 bh]] w (EnterDone w C B bef aft (stOf l c) ⟨6, day, code, other, ⟨al, ah⟩, ⟨bl, bh⟩⟩ i N m) := by
  have hen : ∀ args w, (callFunc (fDo (5 + 1)) args).run Try.prog w = .ok (.enter (fDo (5 + 1)) args) w := enters_of Try.func66 (by kernel_rfl) rfl
  cases hk : ixOf l code with
  | none => exact enter_no_of h hC 5 (by omega) 6 day rfl code other al ah bl bh hen 1 (fault_absent (by simp) (ix_none hk)) (by omega) fun W hW hCW => merge_no hW 6 day code other al ah bl bh hsz hCW hk
  | some k =>
    obtain ⟨p, hp, hpc⟩ := ixOf_some hk
    obtain ⟨⟨c0, ⟨dl, dh⟩, ⟨wl, wh⟩, pil, boi, src⟩, v⟩ := p
    obtain ⟨fa, fn, fc, hv⟩ := fv_slice h hp
    simp only at hpc hv
    subst hpc hv
    obtain ⟨ha, hl0⟩ := ix_at hk
    have hl : k < l.length := by simpa using hl0
    have hx := row_map hp
    have sx := hs.stacks _ (List.mem_of_getElem? hx)
    have e1 := sx.piled
    have e2 := sx.boiled
    simp only at e1 e2
    by_cases hne : other = c0
    · subst hne
      exact enter_no_of h hC 5 (by omega) 6 day rfl other other al ah bl bh hen 1 (by simp [fault, stOf, ha, hl]) (by omega) fun W hW hCW => merge_same hW 6 day other al ah bl bh hsz hCW dl dh wl wh pil boi src fa fn fc hk hp
    · cases ho : ixOf l other with
      | none =>
        have hn := ix_none ho
        have hn' : ¬ at_ (l.map (·.1)) other < l.length := by simpa using hn
        exact enter_no_of h hC 5 (by omega) 6 day rfl c0 other al ah bl bh hen 1 (by simp [fault, stOf, ha, hl, hn', hne]) (by omega) fun W hW hCW => merge_none hW 6 day c0 other al ah bl bh hsz hCW dl dh wl wh pil boi src fa fn fc hk hp _hso ho
      | some k2 =>
        obtain ⟨p2, hp2, hpc2⟩ := ixOf_some ho
        obtain ⟨⟨c2, ⟨dl2, dh2⟩, ⟨wl2, wh2⟩, pil2, boi2, src2⟩, v2⟩ := p2
        obtain ⟨fa2, fn2, fc2, hv2⟩ := fv_slice h hp2
        simp only at hpc2 hv2
        subst hpc2 hv2
        obtain ⟨ha2, hl2⟩ := ix_at ho
        have hl2' : k2 < l.length := by simpa using hl2
        have hx2 := row_map hp2
        have sx2 := hs.stacks _ (List.mem_of_getElem? hx2)
        have hlen : (both src src2).length ≤ 1000 := by
          have : ((both src src2).length : Int) ≤ max 0 ((i : Int) - 0) := asc_len (asc_both _ _ sx.asc sx2.asc) (a := 0) (n := (i : Int)) (fun p hp => by
            rcases (mem_both _ _ _).mp hp with hp | hp
            · exact sx.src p hp
            · exact sx2.src p hp)
          omega
        exact enter_ok_of h hC (by omega) 5 (by omega) 6 day rfl c0 c2 al ah bl bh (N + 10) (by omega) hen (by simp [fault, stOf, ha, hl, ha2, hl2', hne]) (by simp [deed, stOf, ha, hx, ha2, hx2, Stk.done, Acc.done, after]) fun W hW hCW => merge_ok hW 6 day c0 c2 al ah bl bh hsz hCW dl dh wl wh pil boi src fa fn fc V hV hk hp dl2 dh2 wl2 wh2 pil2 boi2 src2 fa2 fn2 fc2 ho hp2 _hso hne (by omega) sx.dry sx.water sx2.dry sx2.water sx.boiled sx2.boiled sx.asc sx2.asc (List.length_pos_iff.2 sx.some) (List.length_pos_iff.2 sx2.some) hlen
end
end Go.Proofs.Ytbgojeppfhldjaa
